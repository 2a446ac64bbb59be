/- Layer 39: QuotaPlays, its argument opened. -/
import Derived.Test.YtonindjpbegdgaaLawQuP
import Derived.Test.YtonindjpbegdgaaOpenQu
namespace Go.Proofs.Ytonindjpbegdgaa
open Go.RowKit
set_option linter.unusedVariables false
set_option linter.unusedSimpArgs false
theorem quotaPlays_any (a b : Int) (A : Option Addr) (n c : Nat) (l : List Op4) (w : World) (ha : (Lit.int .i64 a).wf = true) (hb : (Lit.int .i64 b).wf = true) (hr : Rd w w.heap.size 4 A n (op4s l)) (hnc : n ≤ c) (hc : c ≤ maxLen) (hl : ∀ p ∈ l, p.ok) :
    Calls Try.prog 3 #[.int .i64 a, .int .i64 b, .slice A n c] w fun e w' => e = .returned (.bool true) ∧ Below w.heap.size w w' := quotaPlays_walk a b A n c l w ha hb hr hnc hc hl
end Go.Proofs.Ytonindjpbegdgaa
