/- Contracts of package pack: Q, Flag. -/
import Derived.Test.YtcgcglngjfijnaaPk2
namespace Go.Proofs.Ytcgcglngjfijnaa
open Go.RowKit
set_option linter.unusedVariables false
theorem pQ_any (x : Int) (w : World) (h0 : 0 ≤ x) (h : x < 18446744073709551616) : Calls Try.prog 72 #[.int .u64 x] w fun e w' => e = .returned (.agg #[.int .i64 8, .int .u64 x]) ∧ Below w.heap.size w w' := by
  go_enter Try.func72, Try.ntmps72
  go_wp2
  exact bodyPost_ret (v := .agg #[.int .i64 8, .int .u64 x]) (by simp [results, Try.results72, go_sem]) rfl ⟨rfl, (Below.refl _ _).alloc (Nat.le_refl _) _⟩
end Go.Proofs.Ytcgcglngjfijnaa
