/- Layer 20: a law over what can be read. -/
import Derived.Test.YtdcpmfodkggpeaaOpenAd
import Derived.Test.YtdcpmfodkggpeaaLawAdP
namespace Go.Proofs.Ytdcpmfodkggpeaa
open Go.RowKit
set_option linter.unusedVariables false
theorem addrsPlay_any (m0 p0 : Int) (A : Option Addr) (n c : Nat) (l : List Op4) (w : World) (h1 : (Lit.int .i64 m0).wf = true) (h2 : (Lit.int .i64 p0).wf = true) (hr : Rd w w.heap.size 4 A n (op4s l)) (hnc : n ≤ c) (hc : c ≤ maxLen) (hl : ∀ p ∈ l, (Lit.int .i64 p.a).wf = true) :
    Calls Try.prog 3 #[.int .i64 m0, .int .i64 p0, .slice A n c] w fun e w' => e = .returned (.bool true) ∧ Below w.heap.size w w' := addrsPlay_walk m0 p0 A n c l w h1 h2 hr hnc hc hl
end Go.Proofs.Ytdcpmfodkggpeaa
