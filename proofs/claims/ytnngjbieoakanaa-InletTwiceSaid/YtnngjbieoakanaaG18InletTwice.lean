/- Contracts of package ring that only read. -/
import Derived.Test.YtnngjbieoakanaaG17InletTwice
import Derived.Test.YtnngjbieoakanaaRows
import Derived.OwnWalk
import Derived.BigQuiet
import Derived.Deep.QuietTactic
import Derived.RegionTactic
import Derived.ChangeAlike

namespace Go.Proofs.Ytnngjbieoakanaa
open Go.RowKit
set_option linter.unusedVariables false

/-- A ring in memory. -/
structure RI (w : World) (g p size first there : Nat) (m : List Nat) : Prop where
  blk : Blk w g 60 #[.slice (some ⟨p, 0, none⟩) size size, .int .i64 (first : Int), .int .i64 (there : Int)]
  mem : Mem w p 5 .u8 m
  len : m.length = size
  fs : first < size
  ts : there ≤ size
  sz : size ≤ 65536
  ne : g ≠ p
section
variable {w w' : World} {g p size first there : Nat} {m : List Nat}
theorem RI.c0 (h : RI w g p size first there m) : w.cell? ⟨g, 0, none⟩ = some (.slice (some ⟨p, 0, none⟩) size size) := by rw [h.blk.cell]; rfl
theorem RI.c1 (h : RI w g p size first there m) : w.cell? ⟨g, 1, none⟩ = some (.int .i64 (first : Int)) := by rw [h.blk.cell]; rfl
theorem RI.c2 (h : RI w g p size first there m) : w.cell? ⟨g, 2, none⟩ = some (.int .i64 (there : Int)) := by rw [h.blk.cell]; rfl
theorem RI.drewN (h : RI w g p size first there m) (n : Nat) : RI (w.drewN n) g p size first there m := ⟨h.blk, h.mem, h.len, h.fs, h.ts, h.sz, h.ne⟩
theorem RI.drew (h : RI w g p size first there m) : RI w.drew g p size first there m := ⟨h.blk, h.mem, h.len, h.fs, h.ts, h.sz, h.ne⟩
theorem RI.alloc (h : RI w g p size first there m) (o : Obj) : RI (w.alloc o) g p size first there m := ⟨h.blk.alloc o, h.mem.alloc o, h.len, h.fs, h.ts, h.sz, h.ne⟩
theorem RI.below {B : Nat} (h : RI w g p size first there m) (hb : Below B w w') (hg : g < B) (hp : p < B) : RI w' g p size first there m := ⟨h.blk.below hb hg, h.mem.below hb hp, h.len, h.fs, h.ts, h.sz, h.ne⟩
end
theorem size_any (g p size first there : Nat) (m : List Nat) (w : World) (h : RI w g p size first there m) :
    Calls Try.prog 27 #[.pointer (some ⟨g, 0, none⟩)] w fun e w' => e = .returned (.int .i64 (size : Int)) ∧ w' = w := by
  have c0 := h.c0
  have hs := h.sz
  clear h
  go_enter Try.func27, Try.ntmps27
  go_wp2_with fail
  go_ret
  exact ⟨rfl, rfl⟩
theorem len_any (g p size first there : Nat) (m : List Nat) (w : World) (h : RI w g p size first there m) :
    Calls Try.prog 24 #[.pointer (some ⟨g, 0, none⟩)] w fun e w' => e = .returned (.int .i64 (there : Int)) ∧ w' = w := by
  have c2 := h.c2
  clear h
  go_enter Try.func24, Try.ntmps24
  go_wp2_with fail
  go_ret
  exact ⟨rfl, rfl⟩
theorem free_any (g p size first there : Nat) (m : List Nat) (w : World) (h : RI w g p size first there m) :
    Calls Try.prog 56 #[.pointer (some ⟨g, 0, none⟩)] w fun e w' => e = .returned (.int .i64 ((size - there : Nat) : Int)) ∧ ∃ n, w' = w.drewN n := by
  have c2 := h.c2
  have hs := h.sz
  have ht := h.ts
  have HS := fun w' (hx : ∃ n, w' = World.drewN w n) => size_any g p size first there m w' (by obtain ⟨n, rfl⟩ := hx; exact h.drewN n)
  have HH := Lib.hid h
  clear h HS
  go_enter Try.func56, Try.ntmps56
  go_wp2_with fail
  go_quiet ((go_at_call 27; exact Calls.quiet_of_same (size_any g p size first there m _ (by exact HH.out.drewN _))))
  go_wp2
  go_ret
  exact ⟨ret_int (by omega), _, rfl⟩
end Go.Proofs.Ytnngjbieoakanaa

/- Package ring: at, pieces. -/
namespace Go.Proofs.Ytnngjbieoakanaa
open Go.RowKit
set_option linter.unusedVariables false

theorem at_any (g p size first there from_ : Nat) (m : List Nat) (w : World) (h : RI w g p size first there m) (hf : from_ ≤ size) :
    Calls Try.prog 49 #[.pointer (some ⟨g, 0, none⟩), .int .i64 (from_ : Int)] w fun e w' => e = .returned (.int .i64 ((rix size first from_ : Nat) : Int)) ∧ w' = w := by
  have c1 := h.c1
  have hs := h.sz
  have hfs := h.fs
  have HH := Lib.hid h
  clear h
  unfold rix
  by_cases h1 : first + from_ < size
  · rw [if_pos h1]
    go_enter Try.func49, Try.ntmps49
    go_wp2_with fail
    refine (size_any g p size first there m _ HH.out).mono ?_
    rintro e w1 ⟨rfl, rfl⟩
    go_wp2_with fail
    go_ret
    exact ⟨ret_int (by omega), rfl⟩
  · rw [if_neg h1]
    go_enter Try.func49, Try.ntmps49
    go_wp2_with fail
    refine (size_any g p size first there m _ HH.out).mono ?_
    rintro e w1 ⟨rfl, rfl⟩
    go_wp2_with fail
    refine (size_any g p size first there m _ HH.out).mono ?_
    rintro e w1 ⟨rfl, rfl⟩
    go_wp2_with fail
    go_ret
    exact ⟨ret_int (by omega), rfl⟩

theorem pieces_any (g p size first there from_ many : Nat) (m : List Nat) (w : World) (h : RI w g p size first there m) (hf : from_ + many ≤ size) :
    Calls Try.prog 48 #[.pointer (some ⟨g, 0, none⟩), .int .i64 (from_ : Int), .int .i64 (many : Int)] w fun e w' =>
      e = .returned (.tuple #[.slice (some ⟨p, rix size first from_, none⟩) (min many (size - rix size first from_)) (size - rix size first from_), .slice (some ⟨p, 0, none⟩) (many - min many (size - rix size first from_)) size]) ∧ ∃ n, w' = w.drewN n := by
  have c0 := h.c0
  have hs := h.sz
  have hfs := h.fs
  have hx := rix_lt (j := from_) hfs (by omega)
  have hat := at_any g p size first there from_ m w h (by omega)
  have HH := Lib.hid h
  clear h
  generalize rix size first from_ = x at hx hat ⊢
  by_cases hc : x + many ≤ size
  · have e1 : min many (size - x) = many := by omega
    rw [e1]
    clear e1
    go_enter Try.func48, Try.ntmps48
    go_wp2_with fail
    refine hat.mono ?_
    rintro e w1 ⟨rfl, rfl⟩
    go_wp2_with fail
    go_quiet ((go_at_call 27; exact Calls.quiet_of_same (size_any g p size first there m _ (by exact HH.out.drewN _))))
    rw [Nat.add_sub_cancel_left]
    go_wp2_with fail
    go_quiet (fail)
    go_wp2
    go_ret2
    refine ⟨?_, _, World.drewN_drewN _ _ _⟩
    rw [Nat.sub_self]
    rfl
  · have e1 : min many (size - x) = size - x := by omega
    rw [e1]
    clear e1
    go_enter Try.func48, Try.ntmps48
    go_wp2_with fail
    refine hat.mono ?_
    rintro e w1 ⟨rfl, rfl⟩
    go_wp2_with fail
    go_quiet ((go_at_call 27; exact Calls.quiet_of_same (size_any g p size first there m _ (by exact HH.out.drewN _))))
    go_wp2_with fail
    go_quiet (fail)
    go_wp2
    go_ret2
    refine ⟨?_, _, World.drewN_drewN _ _ _⟩
    rfl
end Go.Proofs.Ytnngjbieoakanaa

/- Package ring: put. -/
namespace Go.Proofs.Ytnngjbieoakanaa
open Go.RowKit
set_option linter.unusedVariables false

theorem elB : El Try.prog 24 5 (.int .u8 0) 1 1 := ⟨Try.underlying24, by kernel_rfl, rfl, by omega, by omega⟩
/-- A slice lies in another block. -/
def Apart (A : Option Addr) (n p : Nat) : Prop := 0 < n → ∀ b off, A = some ⟨b, off, none⟩ → b ≠ p
theorem Apart.mono {A : Option Addr} {n k p : Nat} (h : Apart A n p) (hk : k ≤ n) : Apart A k p := fun h0 => h (by omega)
theorem Rd.apt {w : World} {B n p : Nat} {A : Option Addr} {xs : List Value} (h : Rd w B 1 A n xs) (hp : B ≤ p) : Apart A n p := by
  intro h0 b off e
  obtain ⟨b', off', e', hb, _⟩ := h.2 (by omega)
  rw [e'] at e
  injection e with e
  injection e with e
  omega
theorem Apart.new {b off n p : Nat} (h : b ≠ p) : Apart (some ⟨b, off, none⟩) n p := by
  intro _ b' off' e
  injection e with e
  injection e with e
  omega
/-- A row stays where its own block stays. -/
theorem Rd.apart {w w' : World} {B n p : Nat} {A : Option Addr} {xs : List Value} (h : Rd w B 1 A n xs) (ha : Apart A n p) (hk : ∀ k, k ≠ p → w'.heap[k]? = w.heap[k]?) : Rd w' B 1 A n xs := by
  refine ⟨h.1, fun hn => ?_⟩
  obtain ⟨b, off, e, hb, hc⟩ := h.2 hn
  refine ⟨b, off, e, hb, fun j hj => ?_⟩
  rw [← hc j hj]
  unfold World.cell?
  rw [hk b (ha (by omega) b off e)]
theorem put_any (g p size first there from_ n c B : Nat) (A : Option Addr) (m l : List Nat) (w : World) (h : RI w g p size first there m) (hl : Rd w B 1 A n (ns .u8 l)) (hap : Apart A n p) (hn : n ≤ c) (hf : from_ + n ≤ size) :
    Calls Try.prog 45 #[.pointer (some ⟨g, 0, none⟩), .int .i64 (from_ : Int), .slice A n c] w fun e w' =>
      (∃ v, e = .returned v) ∧ Solo p w w' ∧ Mem w' p 5 .u8 (spl (spl m (rix size first from_) (l.take (min n (size - rix size first from_)))) 0 (l.drop (min n (size - rix size first from_)))) := by
  have hs := h.sz
  have hx := rix_lt (j := from_) h.fs (by omega)
  have hp := pieces_any g p size first there from_ n m w h (by omega)
  have HM := Lib.hid h.mem
  have HL := Lib.hid h.len
  have HR := Lib.hid hl
  have HN := Lib.hid hl.natLen
  have HAP := Lib.hid hap
  clear h hl hap
  generalize rix size first from_ = x at hx hp ⊢
  obtain ⟨k, hk⟩ : ∃ k, k = min n (size - x) := ⟨_, rfl⟩
  rw [← hk] at hp ⊢
  have hk1 : k ≤ n := by omega
  have hk2 : k ≤ size - x := by omega
  have HK := Lib.hid hk
  clear hk
  by_cases hck : c = k
  · go_enter Try.func45, Try.ntmps45
    go_wp2_with fail
    refine hp.mono ?_
    rintro e w1 ⟨rfl, q, rfl⟩
    clear hp
    go_wp2_with (refine cpy elB rfl (.tmp 18) (.tmp 19) rfl rfl HM.out ?_ rfl (HR.out.drewN q) ?_)
    · rw [HL.out]; omega
    intro w2 hm2 hs2
    have hr2 : Rd w2 B 1 A (n - k) (ns .u8 (l.drop k)) := by
      have := (Rd.apart (HR.out.drewN q) HAP.out hs2.2.2).dropN hk1 hn
      rw [if_pos hck] at this
      exact this
    have hf2 : 0 + (n - k) ≤ (spl m x (l.take k)).length := by
      rw [spl_len (by rw [HL.out, List.length_take, HN.out]; omega), HL.out]
      omega
    have HM2 := Lib.hid hm2
    have HS2 := Lib.hid hs2
    have HR2 := Lib.hid hr2
    clear hm2 hs2 hr2
    go_wp2_with (refine cpy elB rfl (.tmp 16) (.tmp 21) rfl rfl HM2.out ?_ rfl HR2.out ?_)
    · exact hf2
    intro w3 hm3 hs3
    go_wp2
    go_end0
    refine ⟨⟨_, rfl⟩, ((Solo.refl.drewN q).trans HS2.out).trans hs3, ?_⟩
    have e : (l.drop k).take (n - k) = l.drop k := List.take_of_length_le (by simp [HN.out])
    rw [e] at hm3
    exact hm3
  · go_enter Try.func45, Try.ntmps45
    go_wp2_with fail
    refine hp.mono ?_
    rintro e w1 ⟨rfl, q, rfl⟩
    clear hp
    go_wp2_with (refine cpy elB rfl (.tmp 18) (.tmp 19) rfl rfl HM.out ?_ rfl (HR.out.drewN q) ?_)
    · rw [HL.out]; omega
    intro w2 hm2 hs2
    have hr2 : Rd w2 B 1 (A.map (fun x => x.add k)) (n - k) (ns .u8 (l.drop k)) := by
      have := (Rd.apart (HR.out.drewN q) HAP.out hs2.2.2).dropN hk1 hn
      rw [if_neg hck] at this
      exact this
    have hf2 : 0 + (n - k) ≤ (spl m x (l.take k)).length := by
      rw [spl_len (by rw [HL.out, List.length_take, HN.out]; omega), HL.out]
      omega
    have HM2 := Lib.hid hm2
    have HS2 := Lib.hid hs2
    have HR2 := Lib.hid hr2
    clear hm2 hs2 hr2
    go_wp2_with (refine cpy elB rfl (.tmp 16) (.tmp 21) rfl rfl HM2.out ?_ rfl HR2.out ?_)
    · exact hf2
    intro w3 hm3 hs3
    go_wp2
    go_end0
    refine ⟨⟨_, rfl⟩, ((Solo.refl.drewN q).trans HS2.out).trans hs3, ?_⟩
    have e : (l.drop k).take (n - k) = l.drop k := List.take_of_length_le (by simp [HN.out])
    rw [e] at hm3
    exact hm3
end Go.Proofs.Ytnngjbieoakanaa
