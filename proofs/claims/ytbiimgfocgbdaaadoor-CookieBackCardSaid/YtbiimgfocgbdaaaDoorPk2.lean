/- Contracts of package pack: fields that are handed back. -/
import Derived.Test.YtbiimgfocgbdaaaDoorPk
import Derived.Test.YtbiimgfocgbdaaaDoorBlkS
namespace Go.Proofs.YtbiimgfocgbdaaaDoor
open Go.RowKit
set_option linter.unusedVariables false
theorem pH_any (x : Int) (w : World) (h0 : 0 ≤ x) (h : x < 65536) : Calls Tryd.prog 14 #[.int .u16 x] w fun e w' => e = .returned (.agg #[.int .i64 2, .int .u64 x]) ∧ Below w.heap.size w w' := by
  go_enter Tryd.func14, Tryd.ntmps14
  go_wp2
  exact bodyPost_ret (v := .agg #[.int .i64 2, .int .u64 x]) (by simp [results, Tryd.results14, go_sem]) rfl ⟨rfl, (Below.refl _ _).alloc (Nat.le_refl _) _⟩
theorem pW_any (x : Int) (w : World) (h0 : 0 ≤ x) (h : x < 4294967296) : Calls Tryd.prog 13 #[.int .u32 x] w fun e w' => e = .returned (.agg #[.int .i64 4, .int .u64 x]) ∧ Below w.heap.size w w' := by
  go_enter Tryd.func13, Tryd.ntmps13
  go_wp2
  exact bodyPost_ret (v := .agg #[.int .i64 4, .int .u64 x]) (by simp [results, Tryd.results13, go_sem]) rfl ⟨rfl, (Below.refl _ _).alloc (Nat.le_refl _) _⟩
end Go.Proofs.YtbiimgfocgbdaaaDoor
