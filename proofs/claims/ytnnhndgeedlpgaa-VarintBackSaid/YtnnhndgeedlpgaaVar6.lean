/- Layer 43: the chapter's examples. -/
import Derived.Test.YtnnhndgeedlpgaaVar5
namespace Go.Proofs.Ytnnhndgeedlpgaa
open Go.RowKit
set_option linter.unusedVariables false

theorem vb300 : vb 300 = [172, 2] := by rw [vb_big (by omega), vb_small (by omega)]
theorem vget300 : vget [172, 2] = (300, 2) := by have := vget_vb (n := 300) (by omega) []; rw [vb300] at this; exact this
theorem str300 : (strN [172, 2]).toList = [172, 2] := by rw [strN_toList]; rfl

set_option maxRecDepth 20000 in
theorem refFold_any (n : Int) (w : World) (h1 : -9223372036854775808 ≤ n) (h2 : n < 9223372036854775808) :
    Calls Try.prog 33 #[.int .i64 n] w fun e w' => e = .returned (.int .u64 (fold n : Nat)) ∧ w = w' := by
  have H1 := Lib.hid h1; have H2 := Lib.hid h2
  clear h1 h2
  by_cases h : 0 ≤ n
  · go_enter Try.func33, Try.ntmps33
    go_wp2
    go_ret
    have := H1.out; have := H2.out
    exact ⟨ret_int (by simp only [IntKind.wrap_u64]; unfold fold; split <;> omega), rfl⟩
  · go_enter Try.func33, Try.ntmps33
    go_wp2
    go_ret
    have := H1.out; have := H2.out
    exact ⟨ret_int (by simp only [IntKind.wrap_u64, wrap64]; unfold fold; split <;> omega), rfl⟩

set_option maxRecDepth 20000 in
theorem alive43 (w : World) : Calls Try.prog 25 #[] w fun e w' => e = .returned (.bool true) ∧ Below w.heap.size w w' := by
  have H300 := str300
  go_enter Try.func25, Try.ntmps25
  go_wp2_with fail
  refine (get_any _ 2 2 [172, 2] _ (Rd.lit [172, 2] rfl (by simp) rfl rfl) (Nat.le_refl _) (by decide) (by omega)).mono ?_
  rintro e w1 ⟨rfl, rfl⟩
  rw [vget300]
  go_wp2_with fail
  refine (put_any none _ 0 1 0 1 [] [300] _ (Rd.nil _ _ _ _) (Rd.lit [300] (by simp) (by simp) rfl rfl) (by decide) (by omega)).mono ?_
  rintro e w2 ⟨v2, rfl, h2, hb2⟩
  rw [show [] ++ vbs [300] = [172, 2] by simp [vbs, vb300]] at h2
  obtain ⟨A2, c2, rfl, hc2⟩ := h2.form
  go_wp2_with (refine wpList_conv Try.underlying22 Try.underlying5 Try.underlying9 rfl _ rfl rfl h2.rd ?_)
  have hb0 : Below w.heap.size w w2 := ((((Below.refl w.heap.size w).alloc (Nat.le_refl _) _).alloc (by simp) _).trans (hb2.mono (by simp; omega)))
  clear h2 hb2 hc2
  refine (fold_any (-1) _ (by omega) (by omega)).mono ?_
  rintro e w3 ⟨rfl, rfl⟩
  go_wp2_with fail
  refine (unfold_any 1 _ (by omega)).mono ?_
  rintro e w4 ⟨rfl, rfl⟩
  go_wp2_with fail
  go_ret
  exact ⟨rfl, hb0⟩
end Go.Proofs.Ytnnhndgeedlpgaa
