/- SpansPlay's arguments. -/
import Derived.Test.YtiabafnfiedlcaaOpenO
import Derived.Test.YtiabafnfiedlcaaLawSpP
namespace Go.Proofs.Ytiabafnfiedlcaa
open Go.RowKit Go.ChangeShapes Go.WideShapes Go.ChangeAt
set_option linter.unusedVariables false
theorem open_op {H : Type} {enc : TypeId × Value → H} {w : World} {held : Bool} {cs : Array Value} {d : DataW H} {ps : List MemPlace}
    (h : DataW.Trod enc Try.prog w 0 (fun _ => true) held 25 (.agg cs) d ps) :
    ∃ q : Int × Nat × Nat, cs = #[.int .i64 q.1, .int .u64 (q.2.1 : Int), .int .u64 (q.2.2 : Int)] ∧ (-9223372036854775808 ≤ q.1 ∧ q.1 < 9223372036854775808) ∧ q.2.1 < pmax ∧ q.2.2 < pmax := by
  obtain ⟨p, h1, h2⟩ := open_agg opens_op h
  exact ⟨p, by rw [← Array.toArray_toList (xs := cs), h1], h2⟩
theorem spansPlay_any (many : Int) (A : Option Addr) (n c : Nat) (lo : List (Int × Nat × Nat)) (q : Int × Nat × Nat) (w : World) (hm : (Lit.int .i64 many).wf = true) (h : Rd w w.heap.size 3 A n (ocel lo)) (hnc : n ≤ c) (hmax : c ≤ maxLen)
    (hb : ∀ p ∈ lo, (-9223372036854775808 ≤ p.1 ∧ p.1 < 9223372036854775808) ∧ p.2.1 < pmax ∧ p.2.2 < pmax) (hq : (-9223372036854775808 ≤ q.1 ∧ q.1 < 9223372036854775808) ∧ q.2.1 < pmax ∧ q.2.2 < pmax) :
    Calls Try.prog 3 #[.int .i64 many, .slice A n c, .agg #[.int .i64 q.1, .int .u64 (q.2.1 : Int), .int .u64 (q.2.2 : Int)]] w fun e w' => e = .returned (.bool true) ∧ Below w.heap.size w w' := by
  have b1 := bounds_i64 hm
  exact spansPlay_walk many A n c lo q.1 q.2.1 q.2.2 w (by omega) h hnc hmax hb hq.2.1 hq.2.2
end Go.Proofs.Ytiabafnfiedlcaa
