/- Layer 29: WheelOnce, as it is called. -/
import Derived.Test.YtpeagibompohhaaLawWhO
import Derived.Test.YtpeagibompohhaaOpenWh
namespace Go.Proofs.Ytpeagibompohhaa
open Go.RowKit
set_option linter.unusedVariables false
theorem wheelOnce_any (A : Option Addr) (n c : Nat) (l : List Tr) (w : World) (hr : Rd w w.heap.size 3 A n (trs l)) (hnc : n ≤ c) (hmax : c ≤ maxLen) (hb : ∀ p ∈ l, okTr p) :
    Calls Try.prog 4 #[.slice A n c] w fun e w' => e = .returned (.bool true) ∧ Below w.heap.size w w' := wheelOnce_walk A n c l w hr hnc hmax
end Go.Proofs.Ytpeagibompohhaa
