/- Layer 17: OutletDone, its arguments as they are opened. -/
import Derived.Test.YtmkjclgdiikjdaaLawOtD
import Derived.Test.YtmkjclgdiikjdaaOpen
namespace Go.Proofs.Ytmkjclgdiikjdaa
open Go.RowKit Go.ChangeShapes Go.WideShapes Go.ChangeAt
set_option linter.unusedVariables false
theorem outletDone_any (size : Int) (A : Option Addr) (n c : Nat) (l : List Nat) (to : Int) (w : World) (hs : (Lit.int .i64 size).wf = true) (hr : Rd w w.heap.size 1 A n (ns .u8 l)) (hnc : n ≤ c) (hc : c ≤ maxLen) (hl : ∀ x ∈ l, x < 256) (ht : (Lit.int .u64 to).wf = true) :
    Calls Try.prog 5 #[.int .i64 size, .slice A n c, .int .u64 to] w fun e w' => e = .returned (.bool true) ∧ Below w.heap.size w w' := by
  have hb : 0 ≤ to ∧ to < 18446744073709551616 := by have := bounds_u64 ht; omega
  obtain ⟨m, rfl⟩ : ∃ m : Nat, to = (m : Int) := ⟨to.toNat, by omega⟩
  exact outletDone_walk size A n c l m w (by omega) hr hl hnc
end Go.Proofs.Ytmkjclgdiikjdaa
