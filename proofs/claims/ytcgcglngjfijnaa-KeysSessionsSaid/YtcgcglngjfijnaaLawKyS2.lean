/- Layer 9: KeysSessions, as its row asks it. -/
import Derived.Test.YtcgcglngjfijnaaLawKyS
import Derived.Test.YtcgcglngjfijnaaOpenK
namespace Go.Proofs.Ytcgcglngjfijnaa
open Go.RowKit Go.ChangeShapes Go.WideShapes Go.ChangeAt
set_option linter.unusedVariables false
theorem keysSessions_row (c s : Int) (q : Nat × Nat) (w : World) (hc : (Lit.int .u64 c).wf = true) (hs : (Lit.int .u64 s).wf = true) (hq : q.1 < 4294967296 ∧ q.2 < 4294967296) :
    Calls Try.prog 3 #[.int .u64 c, .int .u64 s, .agg #[.int .u32 (q.1 : Nat), .int .u32 (q.2 : Nat)]] w fun e w' => e = .returned (.bool true) ∧ Below w.heap.size w w' := by
  have h1 := bounds_u64 hc
  have h2 := bounds_u64 hs
  obtain ⟨c, rfl⟩ : ∃ n : Nat, c = n := ⟨c.toNat, by omega⟩
  obtain ⟨s, rfl⟩ : ∃ n : Nat, s = n := ⟨s.toNat, by omega⟩
  exact keysSessions_walk c s q.1 q.2 w (by omega) (by omega) hq.1 hq.2
end Go.Proofs.Ytcgcglngjfijnaa
