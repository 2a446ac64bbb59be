/- Package spans: List, Many. -/
import Derived.Test.YtiabafnfiedlcaaSpn4
import Derived.Test.YtiabafnfiedlcaaSpm2
namespace Go.Proofs.Ytiabafnfiedlcaa
open Go.RowKit
set_option linter.unusedVariables false
theorem list_any (g B most : Nat) (v : Value) (l : List Sp) (w : World) (h : SetI w g B most v l) :
    Calls Try.prog 21 #[.pointer (some ⟨g, 0, none⟩)] w fun e w' => ∃ v', e = .returned v' ∧ w'.ownsRow w.heap.size 49 2 v' l.length (cels l) ∧ Below w.heap.size w w' := by
  obtain ⟨A, c, rfl, hnc, hcm, hr⟩ := own_form h.own
  have hms := h.ms
  have hl := h.len
  have HC := Lib.hid (spnClone A l.length c w.heap.size (cels l) w hr (Nat.le_refl _) (cels_one l) (by omega))
  have c1 := h.c1
  clear h hr
  generalize l.length = n at *
  go_enter Try.func21, Try.ntmps21
  go_wp2_with fail
  refine HC.out.mono ?_
  rintro e w1 ⟨v', rfl, ho, hb⟩
  have HO := Lib.hid ho
  clear ho HC c1
  go_wp2_with fail
  go_ret
  exact ⟨_, rfl, HO.out, hb⟩
theorem wrap_u64_sub {x y : Nat} (h : x ≤ y) (hy : y < pmax) : IntKind.u64.wrap ((y : Int) - (x : Int)) = ((y - x : Nat) : Int) := by
  unfold pmax at hy
  rw [IntKind.wrap_u64]
  omega
theorem wrap_u64_lt {x : Nat} (hx : x < pmax) : IntKind.u64.wrap (x : Int) = (x : Int) := by
  unfold pmax at hx
  rw [IntKind.wrap_u64]
  omega
set_option maxRecDepth 20000 in
theorem many_any (g B most : Nat) (v : Value) (l : List Sp) (w : World) (h : SetI w g B most v l) :
    Calls Try.prog 28 #[.pointer (some ⟨g, 0, none⟩)] w fun e w' => e = .returned (.int .u64 (manyL l : Int)) ∧ Below w.heap.size w w' := by
  obtain ⟨A, c, rfl, hnc, hcm, hr⟩ := own_form h.own
  have hms := h.ms
  have hl := h.len
  have c1 := h.c1
  have HM := Lib.hid (many_lt h.rise h.bd (by decide))
  have HB := Lib.hid h.bd
  have HRI := Lib.hid h.rise
  have HR := Lib.hid hr
  clear h hr
  obtain ⟨n, hn⟩ : ∃ n, n = l.length := ⟨_, rfl⟩
  rw [← hn] at hnc hl c1 HR
  have HN := Lib.hid hn
  clear hn
  go_enter Try.func28, Try.ntmps28
  go_wp2_with fail
  clear c1
  go_loopw [3, 11] (fun sv iv wr => ∃ (k s : Nat), k ≤ n ∧ iv = .int .i64 k ∧ sv = .int .u64 (s : Int) ∧ Hid (manyL (l.take k) = s) ∧ Below w.heap.size w wr) (fun _ iv _ => n - (intOf iv).toNat)
  case atStart => exact ⟨0, 0, Nat.zero_le _, rfl, rfl, Lib.hid (by simp [manyL]), Below.refl _ _⟩
  case round =>
    obtain ⟨k, s, hk, rfl, rfl, hs, hb⟩ := hrel
    by_cases hlt : k < n
    · have hlt' : (k : Int) < (n : Int) := by omega
      obtain ⟨b, off, x, y, rfl, hbb, p0, p1, hp⟩ := (HR.out.below hb).pc hlt
      have hxy := HRI.out.pos _ (List.mem_of_getElem? hp.out)
      have hy := HB.out _ (List.mem_of_getElem? hp.out)
      have ht := many_take hp.out
      have hle := many_take_le l (k + 1)
      have hm := HM.out
      dsimp only at hxy hy ht
      rw [hs.out] at ht
      obtain ⟨d, hd⟩ : ∃ d, d = y - x := ⟨_, rfl⟩
      rw [← hd] at ht
      have w1 := wrap_u64_sub (Nat.le_of_lt hxy) hy
      rw [← hd] at w1
      have w2 := wrap_u64_lt (x := d) (by omega)
      have w3 := wrap_u64_lt (x := s + d) (by omega)
      have e3 : (s : Int) + (d : Int) = ((s + d : Nat) : Int) := by omega
      obtain ⟨s2, hs2⟩ : ∃ s2, s2 = s + d := ⟨_, rfl⟩
      rw [← hs2] at ht w3 e3
      have w4 : IntKind.u64.wrap ((s : Int) + (d : Int)) = (s2 : Int) := by rw [e3, w3]
      have HT := Lib.hid ht
      clear ht hle hm hy hxy hp hd hs2
      go_wp2_with fail
      go_roundw
      case rel => exact ⟨k + 1, s2, by omega, by go_num, rfl, HT, hb.alloc hb.size _⟩
      case measure => simp [intOf]; omega
    · have hge : ¬ (k : Int) < (n : Int) := by omega
      have hfin : manyL l = s := by
        rw [← hs.out, List.take_of_length_le]
        have := HN.out
        omega
      have HF := Lib.hid hfin
      clear hfin
      go_wp2_with fail
      go_ret
      exact ⟨ret_int (by rw [HF.out]), hb⟩
end Go.Proofs.Ytiabafnfiedlcaa
