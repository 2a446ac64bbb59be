/- Layer 34: too much to be asked, where no body is longer than 2^47: its sum is exact. -/
import Derived.Test.YtcgcglngjfijnaaCap2
namespace Go.Proofs.Ytcgcglngjfijnaa
open Go.RowKit
set_option linter.unusedVariables false
def CGPost2 (l : List Rcd) (e : Ending) : Prop := ∃ b, e = .returned (.bool b) ∧ (b = false → l.length ≤ 1100 ∧ ((∀ p ∈ l, p.2.2.2.length ≤ 140737488355328) → bsum l ≤ 20000))
set_option maxRecDepth 20000 in
set_option maxHeartbeats 2000000 in
theorem cgreat2_any (A : Option Addr) (n c : Nat) (l : List Rb) (w : World) (h : Rs w A n c l) :
    Calls Try.prog 44 #[.slice A n c] w fun e w' => CGPost2 (rsay l) e ∧ Below w.heap.size w w' := by
  have HO := Lib.hid h
  have HL := Lib.hid h.len
  clear h
  go_enter Try.func44, Try.ntmps44
  go_wp2_with fail
  go_loopw [3, 4] (fun sv iv wr => ∃ (k : Nat) (s : Int), k ≤ n ∧ k ≤ 1100 ∧ iv = .int .i64 k ∧ sv = .int .i64 s ∧ Hid ((∀ p ∈ rsay l, p.2.2.2.length ≤ 140737488355328) → s = (bsum ((rsay l).take k) : Int) ∧ s ≤ 20000) ∧ Hid (wr = w)) (fun _ iv _ => 1100 - (intOf iv).toNat)
  case atStart => exact ⟨0, 0, Nat.zero_le _, Nat.zero_le _, rfl, rfl, Lib.hid (fun _ => ⟨by simp [bsum], by omega⟩), Lib.hid rfl⟩
  case round =>
    obtain ⟨k, s, hk, hk2, rfl, rfl, hbs, hw⟩ := hrel
    have hw := hw.out
    subst hw
    by_cases hlt : k < n
    · have hlt' : (k : Int) < (n : Int) := by omega
      by_cases h11 : k < 1100
      · have h11' : (k : Int) < 1100 := by omega
        obtain ⟨b, off, t, sd, p, q, rfl, hbb, p0, p1, p2, p3, hp, hq, hql, hbds⟩ := HO.out.at_ hlt
        obtain ⟨qA, qn, qc, ql⟩ := q
        dsimp only at *
        obtain ⟨s2, hs2⟩ : ∃ s2, s2 = IntKind.i64.wrap (s + (qn : Int)) := ⟨_, rfl⟩
        have w2 : IntKind.i64.wrap (s + (qn : Int)) = s2 := hs2.symm
        have HB2 := Lib.hid (show (∀ p ∈ rsay l, p.2.2.2.length ≤ 140737488355328) → s2 = (bsum ((rsay l).take (k + 1)) : Int) from fun hh => by
          have h1 := hbs.out hh
          have h2 := rsay_at hp
          have h3 := hh _ (List.mem_of_getElem? h2)
          dsimp only at h3
          rw [nth_take (Lib.hid h2), bsum_snoc]
          dsimp only
          have := hql.out
          rw [hs2, h1.1, IntKind.wrap_i64]
          omega)
        clear hs2 hp hq hql hbds hbs
        by_cases h200 : 20000 < s2
        · go_wp2_with fail
          go_ret
          exact ⟨⟨true, rfl, fun h => by cases h⟩, Below.refl _ _⟩
        · go_wp2_with fail
          go_roundw
          case rel => exact ⟨k + 1, s2, by omega, by omega, by go_num, rfl, Lib.hid (fun hh => ⟨HB2.out hh, by omega⟩), Lib.hid (by first | trivial | rfl)⟩
          case measure => simp [intOf]; omega
      · have h11' : ¬ (k : Int) < 1100 := by omega
        by_cases hnn : 1100 < n
        · have hnn' : (1100 : Int) < (n : Int) := by omega
          go_wp2_with fail
          go_ret
          exact ⟨⟨true, by simp, fun h => by cases h⟩, Below.refl _ _⟩
        · omega
    · have hge : ¬ (k : Int) < (n : Int) := by omega
      have hnn : ¬ 1100 < n := by omega
      have hnn' : ¬ (1100 : Int) < (n : Int) := by omega
      have hall : (rsay l).take k = rsay l := List.take_of_length_le (by rw [rsay_len, HL.out]; omega)
      have HF := Lib.hid (show (rsay l).length ≤ 1100 ∧ ((∀ p ∈ rsay l, p.2.2.2.length ≤ 140737488355328) → bsum (rsay l) ≤ 20000) from ⟨by rw [rsay_len, HL.out]; omega, fun hh => by have h1 := hbs.out hh; rw [hall] at h1; omega⟩)
      clear hbs hall
      go_wp2_with fail
      go_ret
      exact ⟨⟨false, by simp, fun _ => HF.out⟩, Below.refl _ _⟩
end Go.Proofs.Ytcgcglngjfijnaa
