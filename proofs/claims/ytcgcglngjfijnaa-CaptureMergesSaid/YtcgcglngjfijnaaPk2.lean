/- Contracts of package pack: fields that are handed back. -/
import Derived.Test.YtcgcglngjfijnaaPk
import Derived.Test.YtcgcglngjfijnaaBlkS
namespace Go.Proofs.Ytcgcglngjfijnaa
open Go.RowKit
set_option linter.unusedVariables false
theorem pB_any (x : Int) (w : World) (h0 : 0 ≤ x) (h : x < 256) : Calls Try.prog 115 #[.int .u8 x] w fun e w' => e = .returned (.agg #[.int .i64 1, .int .u64 x]) ∧ Below w.heap.size w w' := by
  go_enter Try.func115, Try.ntmps115
  go_wp2
  exact bodyPost_ret (v := .agg #[.int .i64 1, .int .u64 x]) (by simp [results, Try.results115, go_sem]) rfl ⟨rfl, (Below.refl _ _).alloc (Nat.le_refl _) _⟩
theorem pH_any (x : Int) (w : World) (h0 : 0 ≤ x) (h : x < 65536) : Calls Try.prog 114 #[.int .u16 x] w fun e w' => e = .returned (.agg #[.int .i64 2, .int .u64 x]) ∧ Below w.heap.size w w' := by
  go_enter Try.func114, Try.ntmps114
  go_wp2
  exact bodyPost_ret (v := .agg #[.int .i64 2, .int .u64 x]) (by simp [results, Try.results114, go_sem]) rfl ⟨rfl, (Below.refl _ _).alloc (Nat.le_refl _) _⟩
theorem pW_any (x : Int) (w : World) (h0 : 0 ≤ x) (h : x < 4294967296) : Calls Try.prog 70 #[.int .u32 x] w fun e w' => e = .returned (.agg #[.int .i64 4, .int .u64 x]) ∧ Below w.heap.size w w' := by
  go_enter Try.func70, Try.ntmps70
  go_wp2
  exact bodyPost_ret (v := .agg #[.int .i64 4, .int .u64 x]) (by simp [results, Try.results70, go_sem]) rfl ⟨rfl, (Below.refl _ _).alloc (Nat.le_refl _) _⟩
end Go.Proofs.Ytcgcglngjfijnaa
