/- Layer 15: JudgeMoves, its arguments as they are opened. -/
import Derived.Test.YtllahldgkpbpoaaLawJm
import Derived.Test.YtllahldgkpbpoaaOpenJu
namespace Go.Proofs.Ytllahldgkpbpoaa
open Go.RowKit
set_option linter.unusedVariables false
theorem judgeMoves_any (n : Nm) (s : Sj) (q : Nat × Nat × Bool) (w : World) (hn : n.ok) (hs : s.ok) (hq : (q.1 < 4294967296) ∧ (q.2.1 < 4294967296) ∧ True) :
    Calls Try.prog 5 #[.agg n.cs, .agg s.cs, .agg #[.int .u32 (q.1 : Nat), .int .u32 (q.2.1 : Nat), .bool q.2.2]] w fun e w' => e = .returned (.bool true) ∧ Below w.heap.size w w' := judgeMoves_walk n s q.1 q.2.1 q.2.2 w hn hs
end Go.Proofs.Ytllahldgkpbpoaa
