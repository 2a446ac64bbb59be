/- Package ring: put. -/
import Derived.Test.YtflmnhibjgehnaaRng2
namespace Go.Proofs.Ytflmnhibjgehnaa
open Go.RowKit
set_option linter.unusedVariables false

theorem elB : El Try.prog 22 5 (.int .u8 0) 1 1 := ⟨Try.underlying22, by kernel_rfl, rfl, by omega, by omega⟩
/-- A slice lies in another block. -/
def Apart (A : Option Addr) (n p : Nat) : Prop := 0 < n → ∀ b off, A = some ⟨b, off, none⟩ → b ≠ p
theorem Apart.mono {A : Option Addr} {n k p : Nat} (h : Apart A n p) (hk : k ≤ n) : Apart A k p := fun h0 => h (by omega)
theorem Rd.apt {w : World} {B n p : Nat} {A : Option Addr} {xs : List Value} (h : Rd w B 1 A n xs) (hp : B ≤ p) : Apart A n p := by
  intro h0 b off e
  obtain ⟨b', off', e', hb, _⟩ := h.2 (by omega)
  rw [e'] at e
  injection e with e
  injection e with e
  omega
theorem Apart.new {b off n p : Nat} (h : b ≠ p) : Apart (some ⟨b, off, none⟩) n p := by
  intro _ b' off' e
  injection e with e
  injection e with e
  omega
/-- A row stays where its own block stays. -/
theorem Rd.apart {w w' : World} {B n p : Nat} {A : Option Addr} {xs : List Value} (h : Rd w B 1 A n xs) (ha : Apart A n p) (hk : ∀ k, k ≠ p → w'.heap[k]? = w.heap[k]?) : Rd w' B 1 A n xs := by
  refine ⟨h.1, fun hn => ?_⟩
  obtain ⟨b, off, e, hb, hc⟩ := h.2 hn
  refine ⟨b, off, e, hb, fun j hj => ?_⟩
  rw [← hc j hj]
  unfold World.cell?
  rw [hk b (ha (by omega) b off e)]
theorem put_any (g p size first there from_ n c B : Nat) (A : Option Addr) (m l : List Nat) (w : World) (h : RI w g p size first there m) (hl : Rd w B 1 A n (ns .u8 l)) (hap : Apart A n p) (hn : n ≤ c) (hf : from_ + n ≤ size) :
    Calls Try.prog 45 #[.pointer (some ⟨g, 0, none⟩), .int .i64 (from_ : Int), .slice A n c] w fun e w' =>
      (∃ v, e = .returned v) ∧ Solo p w w' ∧ Mem w' p 5 .u8 (spl (spl m (rix size first from_) (l.take (min n (size - rix size first from_)))) 0 (l.drop (min n (size - rix size first from_)))) := by
  have hs := h.sz
  have hx := rix_lt (j := from_) h.fs (by omega)
  have hp := pieces_any g p size first there from_ n m w h (by omega)
  have HM := Lib.hid h.mem
  have HL := Lib.hid h.len
  have HR := Lib.hid hl
  have HN := Lib.hid hl.natLen
  have HAP := Lib.hid hap
  clear h hl hap
  generalize rix size first from_ = x at hx hp ⊢
  obtain ⟨k, hk⟩ : ∃ k, k = min n (size - x) := ⟨_, rfl⟩
  rw [← hk] at hp ⊢
  have hk1 : k ≤ n := by omega
  have hk2 : k ≤ size - x := by omega
  have HK := Lib.hid hk
  clear hk
  by_cases hck : c = k
  · go_enter Try.func45, Try.ntmps45
    go_wp2_with fail
    refine hp.mono ?_
    rintro e w1 ⟨rfl, q, rfl⟩
    clear hp
    go_wp2_with (refine cpy elB rfl (.tmp 18) (.tmp 19) rfl rfl HM.out ?_ rfl (HR.out.drewN q) ?_)
    · rw [HL.out]; omega
    intro w2 hm2 hs2
    have hr2 : Rd w2 B 1 A (n - k) (ns .u8 (l.drop k)) := by
      have := (Rd.apart (HR.out.drewN q) HAP.out hs2.2.2).dropN hk1 hn
      rw [if_pos hck] at this
      exact this
    have hf2 : 0 + (n - k) ≤ (spl m x (l.take k)).length := by
      rw [spl_len (by rw [HL.out, List.length_take, HN.out]; omega), HL.out]
      omega
    have HM2 := Lib.hid hm2
    have HS2 := Lib.hid hs2
    have HR2 := Lib.hid hr2
    clear hm2 hs2 hr2
    go_wp2_with (refine cpy elB rfl (.tmp 16) (.tmp 21) rfl rfl HM2.out ?_ rfl HR2.out ?_)
    · exact hf2
    intro w3 hm3 hs3
    go_wp2
    go_end0
    refine ⟨⟨_, rfl⟩, ((Solo.refl.drewN q).trans HS2.out).trans hs3, ?_⟩
    have e : (l.drop k).take (n - k) = l.drop k := List.take_of_length_le (by simp [HN.out])
    rw [e] at hm3
    exact hm3
  · go_enter Try.func45, Try.ntmps45
    go_wp2_with fail
    refine hp.mono ?_
    rintro e w1 ⟨rfl, q, rfl⟩
    clear hp
    go_wp2_with (refine cpy elB rfl (.tmp 18) (.tmp 19) rfl rfl HM.out ?_ rfl (HR.out.drewN q) ?_)
    · rw [HL.out]; omega
    intro w2 hm2 hs2
    have hr2 : Rd w2 B 1 (A.map (fun x => x.add k)) (n - k) (ns .u8 (l.drop k)) := by
      have := (Rd.apart (HR.out.drewN q) HAP.out hs2.2.2).dropN hk1 hn
      rw [if_neg hck] at this
      exact this
    have hf2 : 0 + (n - k) ≤ (spl m x (l.take k)).length := by
      rw [spl_len (by rw [HL.out, List.length_take, HN.out]; omega), HL.out]
      omega
    have HM2 := Lib.hid hm2
    have HS2 := Lib.hid hs2
    have HR2 := Lib.hid hr2
    clear hm2 hs2 hr2
    go_wp2_with (refine cpy elB rfl (.tmp 16) (.tmp 21) rfl rfl HM2.out ?_ rfl HR2.out ?_)
    · exact hf2
    intro w3 hm3 hs3
    go_wp2
    go_end0
    refine ⟨⟨_, rfl⟩, ((Solo.refl.drewN q).trans HS2.out).trans hs3, ?_⟩
    have e : (l.drop k).take (n - k) = l.drop k := List.take_of_length_le (by simp [HN.out])
    rw [e] at hm3
    exact hm3
end Go.Proofs.Ytflmnhibjgehnaa
