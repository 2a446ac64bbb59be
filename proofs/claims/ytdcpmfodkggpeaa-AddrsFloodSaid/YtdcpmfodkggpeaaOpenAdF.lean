/- Layer 20: a law over what can be read. -/
import Derived.Test.YtdcpmfodkggpeaaOpenAd
import Derived.Test.YtdcpmfodkggpeaaLawAdF
namespace Go.Proofs.Ytdcpmfodkggpeaa
open Go.RowKit
set_option linter.unusedVariables false
theorem addrsFlood_any (m0 : Int) (A : Option Addr) (n c : Nat) (l : List Op4) (w : World) (h1 : (Lit.int .i64 m0).wf = true) (hr : Rd w w.heap.size 4 A n (op4s l)) (hnc : n ≤ c) (hc : c ≤ maxLen) (hl : ∀ p ∈ l, (Lit.int .i64 p.a).wf = true) :
    Calls Try.prog 4 #[.int .i64 m0, .slice A n c] w fun e w' => e = .returned (.bool true) ∧ Below w.heap.size w w' := addrsFlood_walk m0 A n c l w h1 hr hnc hc (fun _ _ => trivial)
end Go.Proofs.Ytdcpmfodkggpeaa
