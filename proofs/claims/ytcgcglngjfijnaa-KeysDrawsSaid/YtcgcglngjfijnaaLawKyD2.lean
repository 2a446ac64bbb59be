/- Layer 9: KeysDraws, as its row asks it. -/
import Derived.Test.YtcgcglngjfijnaaLawKyD
import Derived.Test.YtcgcglngjfijnaaOpenK
import Derived.Test.YtcgcglngjfijnaaOpenP
namespace Go.Proofs.Ytcgcglngjfijnaa
open Go.RowKit Go.ChangeShapes Go.WideShapes Go.ChangeAt
set_option linter.unusedVariables false
theorem keysDraws_row (k0 k1 : Nat) (q : Nat × Int) (id : Int) (w : World) (h0 : k0 < 18446744073709551616) (h1 : k1 < 18446744073709551616) (hq : q.1 < 18446744073709551616 ∧ -9223372036854775808 ≤ q.2 ∧ q.2 < 9223372036854775808) (hi : (Lit.int .u8 id).wf = true) :
    Calls Try.prog 5 #[.agg #[.int .u64 (k0 : Nat), .int .u64 (k1 : Nat)], .agg #[.int .u64 (q.1 : Nat), .int .i64 q.2], .int .u8 id] w fun e w' => e = .returned (.bool true) ∧ Below w.heap.size w w' := by
  have h3 := bounds_u8 hi
  obtain ⟨id, rfl⟩ : ∃ n : Nat, id = n := ⟨id.toNat, by omega⟩
  exact keysDraws_walk k0 k1 q.1 q.2 id w h0 h1 hq.1 (by omega)
end Go.Proofs.Ytcgcglngjfijnaa
