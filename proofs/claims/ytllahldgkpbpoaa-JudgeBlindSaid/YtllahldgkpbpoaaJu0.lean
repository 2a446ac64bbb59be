/- Package judge: its verdicts; the document's. -/
import Derived.Test.YtllahldgkpbpoaaJu1
namespace Go.Proofs.Ytllahldgkpbpoaa
open Go.RowKit
set_option linter.unusedVariables false
set_option linter.unusedSimpArgs false
theorem beqf {a b : Int} (h : (a == b) = false) : ¬ a = b := fun e => by subst e; simp at h
theorem beqt {a b : Int} (h : (a == b) = true) : a = b := by simpa using h
theorem fl_b {a k : Nat} {b : Bool} (h : ((a : Int) == ((k : Nat) : Int)) = b) : (a == k) = b := by rw [← fl_eq]; exact h
theorem fl_t {a k : Nat} (h : ((a : Int) == ((k : Nat) : Int)) = true) : a = k := by have := beqt h; omega
theorem fl_f {a k : Nat} (h : ((a : Int) == ((k : Nat) : Int)) = false) : ¬ a = k := by have := beqf h; omega
end Go.Proofs.Ytllahldgkpbpoaa
