/- Layer 2: the chapter's examples. -/
import Derived.Test.YtnnhndgeedlpgaaPk7
namespace Go.Proofs.Ytnnhndgeedlpgaa
open Go.RowKit
set_option linter.unusedVariables false

theorem cut123 : cut [1, 2, 3] [2] = some ([258], [3]) := by simp [cut, okS, ub]
theorem fbs123 : fbs [(2, 258), (1, 3)] = [1, 2, 3] := by simp [fbs, okS, be]
theorem str123 : (strN [1, 2, 3]).toList = [1, 2, 3] := by rw [strN_toList]; rfl
theorem str3 : (strN [3]).toList = [3] := by rw [strN_toList]; rfl

set_option maxRecDepth 20000 in
theorem alive02 (w : World) : Calls Try.prog 17 #[] w fun e w' => e = .returned (.bool true) ∧ Below w.heap.size w w' := by
  have H123 := str123
  have H3 := str3
  go_enter Try.func17, Try.ntmps17
  go_wp2_with fail
  have hb0 : Below w.heap.size w ((w.alloc (.cells #[Value.int IntKind.u8 1, Value.int IntKind.u8 2, Value.int IntKind.u8 3] 5)).alloc (.cells #[Value.int IntKind.i64 2] 3)) := ((Below.refl _ _).alloc (Nat.le_refl _) _).alloc (by simp) _
  have hB : Rd ((w.alloc (.cells #[Value.int IntKind.u8 1, Value.int IntKind.u8 2, Value.int IntKind.u8 3] 5)).alloc (.cells #[Value.int IntKind.i64 2] 3)) (w.heap.size + 1) 1 (some ⟨w.heap.size, 0, none⟩) 3 (ns .u8 [1, 2, 3]) := (Rd.lit [1, 2, 3] rfl (by simp) rfl rfl).alloc (by simp) _
  have hS : Rd ((w.alloc (.cells #[Value.int IntKind.u8 1, Value.int IntKind.u8 2, Value.int IntKind.u8 3] 5)).alloc (.cells #[Value.int IntKind.i64 2] 3)) (w.heap.size + 2) 1 (some ⟨w.heap.size + 1, 0, none⟩) 1 (zs .i64 [2]) := Rd.litz [2] (by simp) (by simp) rfl rfl
  refine (pget_any _ _ 3 1 3 1 [1, 2, 3] [2] _ (hB.mono (by simp)) (hS.mono (by simp)) (Nat.le_refl _) (by decide) (by omega) (by omega)).mono ?_
  clear hB hS
  rintro e w1 ⟨hb1, hc1⟩
  rcases hc1 with ⟨xs, rest, v, u, hcut, rfl, hv, hu, _⟩ | ⟨hcut, rfl⟩
  · rw [cut123] at hcut
    injection hcut with hcut
    injection hcut with h1 h2
    subst h1 h2
    have hbl1 := hb0.trans (hb1.mono hb0.size)
    clear hb0 hb1
    obtain ⟨A2, n2, c2, rfl, hc2, hn2, hr2⟩ := hv.out
    obtain ⟨A3, n3, c3, rfl, hc3, hn3, hr3⟩ := hu.out
    obtain rfl : n2 = 1 := hn2.out.symm
    obtain rfl : n3 = 1 := hn3.out.symm
    obtain ⟨bb, off, x, rfl, hbk, hcell, hx⟩ := hr2.out.nth (i := 0) (by omega)
    obtain rfl : x = 258 := by have := hx.out; simp at this; exact this.symm
    clear hv hu hn2 hn3
    have hcell : _ = some (Value.int IntKind.u64 258) := hcell
    go_wp2_with fail
    refine (pH_any 258 w1 (by omega) (by omega)).mono ?_
    rintro e w2 ⟨rfl, hb2⟩
    have hbl2 := hbl1.trans (hb2.mono hbl1.size)
    have hcell2 := (hb2.cell (p := ⟨bb, off, none⟩) hbk).trans hcell
    have hr3 := Lib.hid (hr3.out.into hb2)
    clear hcell hr2
    have hbk2 : bb < w2.heap.size := Nat.lt_of_lt_of_le hbk hb2.size
    clear hbk
    go_wp2_with fail
    refine (pB_any 3 w2 (by omega) (by omega)).mono ?_
    rintro e w3 ⟨rfl, hb3⟩
    have hbl3 := hbl2.trans (hb3.mono hbl2.size)
    have hcell3 := (hb3.cell (p := ⟨bb, off, none⟩) hbk2).trans hcell2
    have hr3 := Lib.hid (hr3.out.into hb3)
    have hbk3 : bb < w3.heap.size := Nat.lt_of_lt_of_le hbk2 hb3.size
    clear hcell2 hbk2
    go_wp2_with fail
    have hF : Rd (w3.alloc (.cells #[Value.int IntKind.i64 2, Value.int IntKind.u64 258, Value.int IntKind.i64 1, Value.int IntKind.u64 3] 26)) (w3.heap.size + 1) 2 (some ⟨w3.heap.size, 0, none⟩) 2 (fs [(2, 258), (1, 3)]) := Rd.made w3 _ _ rfl
    refine (pput_any none _ 0 2 0 2 [] [(2, 258), (1, 3)] _ (Rd.nil _ _ _ _) (hF.mono (by simp)) (by omega) (by decide)).mono ?_
    clear hF
    rintro e w4 ⟨v4, rfl, h4, hb4⟩
    rw [List.nil_append, fbs123] at h4
    have hb34 : Below w3.heap.size w3 w4 := ((Below.refl _ _).alloc (Nat.le_refl _) _).trans (hb4.mono (by simp))
    have hbl4 := hbl3.trans (hb34.mono hbl3.size)
    have hcell4 := (hb34.cell (p := ⟨bb, off, none⟩) hbk3).trans hcell3
    have hr3 := Lib.hid (hr3.out.into hb34)
    obtain ⟨A4, n4, c4, rfl, hc4, hn4, hr4⟩ := h4.out
    obtain rfl : n4 = 3 := hn4.out.symm
    clear hcell3 hb4 hb34 h4
    go_wp2_with (first | refine wpList_conv Try.underlying22 Try.underlying5 Try.underlying9 rfl _ rfl rfl hr4.out ?_ | refine wpList_conv Try.underlying22 Try.underlying5 Try.underlying9 rfl _ rfl rfl hr3.out ?_)
    go_ret
    exact ⟨rfl, hbl4⟩
  · rw [cut123] at hcut
    cases hcut
end Go.Proofs.Ytnnhndgeedlpgaa
