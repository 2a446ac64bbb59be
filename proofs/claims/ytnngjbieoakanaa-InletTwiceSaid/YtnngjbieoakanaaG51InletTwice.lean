/- Layer 18: InletTwice, its arguments as they are opened. -/
import Derived.Test.YtnngjbieoakanaaG36InletTwice
import Derived.Test.YtnngjbieoakanaaG50InletTwice
import Derived.ChangeSame

namespace Go.Proofs.Ytnngjbieoakanaa
open Go.RowKit Go.ChangeShapes Go.WideShapes Go.ChangeAt
set_option linter.unusedVariables false
theorem open_inop1 {H : Type} {enc : TypeId × Value → H} {w : World} {held : Bool} {cs : Array Value} {d : DataW H} {ps : List MemPlace} (h : DataW.Trod enc Try.prog w 0 (fun _ => true) held 26 (.agg cs) d ps) : ∃ q : InOp, cs = #[.int .i64 q.k, .int .i64 q.nn, .int .u64 (q.at_ : Int), .bool q.far, .slice q.A q.m q.c] ∧ InOp.ok w q := by
  obtain ⟨q, h1, h2⟩ := open_agg opens_inop h
  refine ⟨q, ?_, h2⟩
  rw [← Array.toArray_toList (xs := cs), h1]
  rfl
theorem inletTwice_any (size : Int) (A : Option Addr) (n c : Nat) (l : List InOp) (q : InOp) (w : World) (hs : (Lit.int .i64 size).wf = true) (hr : Rd w w.heap.size 5 A n (incs l)) (hnc : n ≤ c) (hmax : c ≤ maxLen) (hok : ∀ q ∈ l, q.ok w) (hq : InOp.ok w q) :
    Calls Try.prog 3 #[.int .i64 size, .slice A n c, .agg #[.int .i64 q.k, .int .i64 q.nn, .int .u64 (q.at_ : Int), .bool q.far, .slice q.A q.m q.c]] w fun e w' => e = .returned (.bool true) ∧ Below w.heap.size w w' :=
  inletTwice_walk size A n c l q w (by have := bounds_i64 hs; omega) hr hok hq
end Go.Proofs.Ytnngjbieoakanaa
