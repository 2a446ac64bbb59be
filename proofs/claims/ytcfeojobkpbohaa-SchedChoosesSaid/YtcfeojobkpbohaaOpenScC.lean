/- Layer 19: the arguments as they are opened. -/
import Derived.Test.YtcfeojobkpbohaaOpenSc
import Derived.Test.YtcfeojobkpbohaaLawScC
import Derived.Test.YtcfeojobkpbohaaOpenG
import Derived.Test.YtcfeojobkpbohaaOpenN
import Derived.ChangeSame
namespace Go.Proofs.Ytcfeojobkpbohaa
open Go.RowKit Go.ChangeShapes Go.WideShapes Go.ChangeAt
set_option linter.unusedVariables false
set_option linter.unusedSimpArgs false
theorem schedChooses_any (q : Int × Int × Int) (A : Option Addr) (n c : Nat) (l : List Pth) (w : World) (hq : (-9223372036854775808 ≤ q.1 ∧ q.1 < 9223372036854775808) ∧ (-9223372036854775808 ≤ q.2.1 ∧ q.2.1 < 9223372036854775808) ∧ (-9223372036854775808 ≤ q.2.2 ∧ q.2.2 < 9223372036854775808)) (hr : Rd w w.heap.size 7 A n (pths l)) (hnc : n ≤ c) (hc : c ≤ maxLen) (hl : ∀ p ∈ l, True) :
    Calls Try.prog 4 #[.agg #[.int .i64 q.1, .int .i64 q.2.1, .int .i64 q.2.2], .slice A n c] w fun e w' => e = .returned (.bool true) ∧ Below w.heap.size w w' := schedChooses_walk q.1 q.2.1 q.2.2 A n c l w hr
end Go.Proofs.Ytcfeojobkpbohaa
