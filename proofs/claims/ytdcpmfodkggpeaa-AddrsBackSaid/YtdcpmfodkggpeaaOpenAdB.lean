/- Layer 20: a law over what can be read. -/
import Derived.Test.YtdcpmfodkggpeaaOpenAd
import Derived.Test.YtdcpmfodkggpeaaLawAdB
namespace Go.Proofs.Ytdcpmfodkggpeaa
open Go.RowKit
set_option linter.unusedVariables false
theorem addrsBack_any (A : Option Addr) (n c : Nat) (l : List Op4) (q : Int × Int) (w : World) (hr : Rd w w.heap.size 4 A n (op4s l)) (hnc : n ≤ c) (hc : c ≤ maxLen) (hl : ∀ p ∈ l, (Lit.int .i64 p.a).wf = true) (hq : True) :
    Calls Try.prog 5 #[.slice A n c, .agg #[.int .i64 q.1, .int .i64 q.2]] w fun e w' => e = .returned (.bool true) ∧ Below w.heap.size w w' := addrsBack_walk A n c l q w hr hnc hc (fun _ _ => trivial) trivial
end Go.Proofs.Ytdcpmfodkggpeaa
