/- Package num: the chapter's examples of Parse and Text. -/
import Derived.Test.YtefnojomjdeghaaDoorNum4
namespace Go.Proofs.YtefnojomjdeghaaDoor
open Go.RowKit
set_option linter.unusedVariables false
set_option maxRecDepth 20000 in
theorem text_7 (w : World) : Calls Tryd.prog 8 #[.int .i64 7] w fun e w' => e = .returned (.string ⟨#[55]⟩) ∧ w' = w := by
  have hi := Tryd.strconv_Itoa_small 7 (by omega) w
  have h7 : Lib.decDigits 7 = [55] := by decide +kernel
  rw [h7] at hi
  simp only [Int.cast_ofNat_Int] at hi
  go_enter Tryd.func8, Tryd.ntmps8
  go_wp2_with fail
  refine hi.mono ?_
  rintro e w1 ⟨rfl, rfl⟩
  go_wp2_with fail
  go_ret
  exact ⟨rfl, rfl⟩
set_option maxRecDepth 20000 in
theorem parse_07 (w : World) : Calls Tryd.prog 6 #[.string ⟨#[48, 55]⟩] w fun e w' => e = .returned (.tuple #[.int .i64 0, .int .i64 10]) ∧ w' = w := by
  go_enter Tryd.func6, Tryd.ntmps6
  go_wp2_with fail
  go_ret2
  exact ⟨rfl, rfl⟩
end Go.Proofs.YtefnojomjdeghaaDoor
