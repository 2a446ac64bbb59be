/- Layer 9: KeysRoles, as its row asks it. -/
import Derived.Test.YtcgcglngjfijnaaLawKyR
import Derived.Test.YtcgcglngjfijnaaOpenK
namespace Go.Proofs.Ytcgcglngjfijnaa
open Go.RowKit Go.ChangeShapes Go.WideShapes Go.ChangeAt
set_option linter.unusedVariables false
theorem keysRoles_row (q : Nat × Nat × Nat × Nat × Nat × Nat × Nat × Nat × Nat) (r : Int) (w : World) (hq : True) (hr : (Lit.int .i64 r).wf = true) :
    Calls Try.prog 4 #[.agg #[.int .u64 (q.1 : Nat), .int .u64 (q.2.1 : Nat), .int .u64 (q.2.2.1 : Nat), .int .u64 (q.2.2.2.1 : Nat), .int .u64 (q.2.2.2.2.1 : Nat), .int .u64 (q.2.2.2.2.2.1 : Nat), .int .u64 (q.2.2.2.2.2.2.1 : Nat), .int .u64 (q.2.2.2.2.2.2.2.1 : Nat), .int .u32 (q.2.2.2.2.2.2.2.2 : Nat)], .int .i64 r] w fun e w' => e = .returned (.bool true) ∧ Below w.heap.size w w' :=
  keysRoles_walk _ _ _ _ _ _ _ _ _ r w
theorem open_keys0 {H : Type} {enc : TypeId × Value → H} {w : World} {held : Bool} {cs : Array Value} {d : DataW H} {ps : List MemPlace} (h : DataW.Trod enc Try.prog w 0 (fun _ => true) held 29 (.agg cs) d ps) : ∃ q : Nat × Nat × Nat × Nat × Nat × Nat × Nat × Nat × Nat, cs = #[.int .u64 (q.1 : Nat), .int .u64 (q.2.1 : Nat), .int .u64 (q.2.2.1 : Nat), .int .u64 (q.2.2.2.1 : Nat), .int .u64 (q.2.2.2.2.1 : Nat), .int .u64 (q.2.2.2.2.2.1 : Nat), .int .u64 (q.2.2.2.2.2.2.1 : Nat), .int .u64 (q.2.2.2.2.2.2.2.1 : Nat), .int .u32 (q.2.2.2.2.2.2.2.2 : Nat)] ∧ True := by
  obtain ⟨q, h, _⟩ := open_keys h
  exact ⟨q, h, trivial⟩
end Go.Proofs.Ytcgcglngjfijnaa
