/- Layer 19: the arguments as they are opened. -/
import Derived.Test.YtcfeojobkpbohaaLawScT
import Derived.Test.YtcfeojobkpbohaaOpenG
import Derived.Test.YtcfeojobkpbohaaOpenN
import Derived.OpenShut
import Derived.ChangeSame
namespace Go.Proofs.Ytcfeojobkpbohaa
open Go.RowKit Go.ChangeShapes Go.WideShapes Go.ChangeAt
set_option linter.unusedVariables false
set_option linter.unusedSimpArgs false
theorem schedTurns_any (A : Option Addr) (n c : Nat) (l : List Int) (last : Int) (w : World) (hr : Rd w w.heap.size 1 A n (zs .i64 l)) (hnc : n ≤ c) (hc : c ≤ maxLen) (hl : ∀ x ∈ l, -9223372036854775808 ≤ x ∧ x < 9223372036854775808) (ht : (Lit.int .i64 last).wf = true) :
    Calls Try.prog 6 #[.slice A n c, .int .i64 last] w fun e w' => e = .returned (.bool true) ∧ Below w.heap.size w w' := schedTurns_walk A n c l last w hr
end Go.Proofs.Ytcfeojobkpbohaa
