/- Layer 16: FlightEnds, its arguments as they are opened. -/
import Derived.Test.YtbipcnboammpeaaLawFlE
import Derived.OpenShut
namespace Go.Proofs.Ytbipcnboammpeaa
open Go.RowKit Go.ChangeShapes Go.WideShapes Go.ChangeAt
set_option linter.unusedVariables false
set_option linter.unusedSimpArgs false
theorem flightEnds_any (A : Option Addr) (n c : Nat) (l : List Int) (t gone : Int) (w : World) (hr : Rd w w.heap.size 1 A n (zs .i64 l)) (hnc : n ≤ c) (hc : c ≤ maxLen) (hl : ∀ x ∈ l, -9223372036854775808 ≤ x ∧ x < 9223372036854775808) (ht : (Lit.int .u64 t).wf = true) (hg : (Lit.int .i64 gone).wf = true) :
    Calls Try.prog 4 #[.slice A n c, .int .u64 t, .int .i64 gone] w fun e w' => e = .returned (.bool true) ∧ Below w.heap.size w w' := by
  have hb : 0 ≤ t ∧ t < 18446744073709551616 := by have := bounds_u64 ht; omega
  obtain ⟨m, rfl⟩ : ∃ m : Nat, t = (m : Int) := ⟨t.toNat, by omega⟩
  exact flightEnds_walk A n c l m gone w hr hnc hc (by omega) hg
end Go.Proofs.Ytbipcnboammpeaa
