/-
  No cell of these rows narrows 'for every input' (looked for: loops, veiled, ifaces, maps, wideKeys, modest, calm, conditions, laid).
  DERIVED. THE GIVEN ROWS OF THIS SEAT. 3 by the template 'for every input the law returns true; each argument reads behind the call as it read before'; 0 by the template 'total and deterministic' (their statements: YtllahldgkpbpoaaTotals.lean).
  GIVEN WITH THE SEED: the statements are not yours to turn. If you find one false, say at which input.
  Laid BY PROGRAM, IN A SANDBOX (cutbox-rows.mjs): the forced cells as the released guide's own fill.sh prints them over the translation c73037af5240d116… (all of the seat's roots in one cut). By AI agents, Wed Nov 11 2026. No macro, syntax, notation, axiom, sorry.
-/
import Derived.Test.YtllahldgkpbpoaaChecked
import GoSem.Claim
import GoSem.ClaimJoined
import GoSem.ClaimMapViews
import Derived.JoinedTies
import Derived.KernelRfl
namespace Go.Proofs.Ytllahldgkpbpoaa
/- THE CELL 'sum', in the pinned program and in every row, IS THE sha256 OF THE DUMP (.gsa) THAT YtllahldgkpbpoaaProg.lean LOADS. Nothing in Lean hashes anything: it is a label: what it is worth is what the hold of that sum in a sandbox is worth. -/
noncomputable def Try.pinned : Pinned := { name := "ytllahldgkpbpoaa", sum := "c73037af5240d116bb55c061dd087c485e876dcb874d9eb9d5048f88b0c8d4c7", checked := Try.checked }
namespace Rows
def none {H : Type} : Left H := { results := [], args := [] }

/-- 'broughamlaw15.JudgeDecides': WHATEVER THE INPUT: true; the input reads as it did. -/
def judgeDecidesSpec : ChangeSpec := { name := "judgeDecides", fn := fun _ => fun
  | [d1, d2, d3] => { results := [.lit (.bool true)], args := [d1, d2, d3] }
  | _ => none }
def judgeDecidesRow : OpenClaim := { program := "ytllahldgkpbpoaa", sum := "c73037af5240d116bb55c061dd087c485e876dcb874d9eb9d5048f88b0c8d4c7", func := "brougham/broughamlaw15.JudgeDecides", spec := "judgeDecides", apart := false }
def JudgeDecidesSaid : Prop := judgeDecidesRow.holds Try.pinned (OpenSpec.ofChange judgeDecidesSpec)

/-- ITS FALSE NEIGHBOUR: 'it returns false'. Refute it at one input. -/
def judgeDecidesWrong : ChangeSpec := { name := "judgeDecides", fn := fun _ => fun
  | [d1, d2, d3] => { results := [.lit (.bool false)], args := [d1, d2, d3] }
  | _ => none }
def JudgeDecidesWrongFalsely : Prop := judgeDecidesRow.holds Try.pinned (OpenSpec.ofChange judgeDecidesWrong)

/-- 'broughamlaw15.JudgeBlind': WHATEVER THE INPUT: true; the input reads as it did. -/
def judgeBlindSpec : ChangeSpec := { name := "judgeBlind", fn := fun _ => fun
  | [d1, d2] => { results := [.lit (.bool true)], args := [d1, d2] }
  | _ => none }
def judgeBlindRow : OpenClaim := { program := "ytllahldgkpbpoaa", sum := "c73037af5240d116bb55c061dd087c485e876dcb874d9eb9d5048f88b0c8d4c7", func := "brougham/broughamlaw15.JudgeBlind", spec := "judgeBlind", apart := false }
def JudgeBlindSaid : Prop := judgeBlindRow.holds Try.pinned (OpenSpec.ofChange judgeBlindSpec)

/-- ITS FALSE NEIGHBOUR: 'it returns false'. Refute it at one input. -/
def judgeBlindWrong : ChangeSpec := { name := "judgeBlind", fn := fun _ => fun
  | [d1, d2] => { results := [.lit (.bool false)], args := [d1, d2] }
  | _ => none }
def JudgeBlindWrongFalsely : Prop := judgeBlindRow.holds Try.pinned (OpenSpec.ofChange judgeBlindWrong)

/-- 'broughamlaw15.JudgeMoves': WHATEVER THE INPUT: true; the input reads as it did. -/
def judgeMovesSpec : ChangeSpec := { name := "judgeMoves", fn := fun _ => fun
  | [d1, d2, d3] => { results := [.lit (.bool true)], args := [d1, d2, d3] }
  | _ => none }
def judgeMovesRow : OpenClaim := { program := "ytllahldgkpbpoaa", sum := "c73037af5240d116bb55c061dd087c485e876dcb874d9eb9d5048f88b0c8d4c7", func := "brougham/broughamlaw15.JudgeMoves", spec := "judgeMoves", apart := false }
def JudgeMovesSaid : Prop := judgeMovesRow.holds Try.pinned (OpenSpec.ofChange judgeMovesSpec)

/-- ITS FALSE NEIGHBOUR: 'it returns false'. Refute it at one input. -/
def judgeMovesWrong : ChangeSpec := { name := "judgeMoves", fn := fun _ => fun
  | [d1, d2, d3] => { results := [.lit (.bool false)], args := [d1, d2, d3] }
  | _ => none }
def JudgeMovesWrongFalsely : Prop := judgeMovesRow.holds Try.pinned (OpenSpec.ofChange judgeMovesWrong)

/- THE SECOND FORM. 'bulk': how many values and letters a reading holds, each counted each time it is reached (what is shared counts as often as it is met; a slice's spare places count too). A statement '..UptoSaid' is the law's where the arguments, and the package variables that the reading takes, are together of bulk at most 1048576: NARROWER than '..Said'. Prove '..Said' where nothing that the law and all that it calls make is longer than what came in: it says more and counts as full. Else prove '..UptoSaid'. A law counts once. -/
mutual
def uptoBulk {H : Type} : DataW H → Nat
  | .lit (.string bytes) => bytes.length + 1
  | .lit _ => 1
  | .nil => 1
  | .ptr d => uptoBulk d + 1
  | .slice elems spare => uptoBulkAll elems + uptoBulkAll spare + 1
  | .agg parts => uptoBulkAll parts + 1
  | .iface _ d => uptoBulk d + 1
  | .map entries => uptoBulkEntries entries + 1
  | .held _ => 1
def uptoBulkAll {H : Type} : List (DataW H) → Nat
  | [] => 0
  | d :: r => uptoBulk d + uptoBulkAll r
def uptoBulkEntries {H : Type} : List (Lit × DataW H) → Nat
  | [] => 0
  | x :: r => uptoBulkEntry x + uptoBulkEntries r
def uptoBulkEntry {H : Type} : Lit × DataW H → Nat
  | (.string bytes, d) => bytes.length + uptoBulk d + 1
  | (_, d) => uptoBulk d + 1
 end
def uptoSmall : (H : Type) → List (DataW H) → Bool := fun _ ds => decide (uptoBulkAll ds ≤ 1048576)
def OpenSpec.upto (s : _root_.Go.ChangeSpec) : _root_.Go.OpenSpec := { _root_.Go.OpenSpec.ofChange s with cond := some uptoSmall }

/-- 'broughamlaw15.JudgeDecides', WHERE WHAT IT READS IS OF BULK AT MOST 1048576: true; the input reads as it did. -/
def judgeDecidesUptoRow : OpenClaim := { program := "ytllahldgkpbpoaa", sum := "c73037af5240d116bb55c061dd087c485e876dcb874d9eb9d5048f88b0c8d4c7", func := "brougham/broughamlaw15.JudgeDecides", spec := "judgeDecides", apart := false, narrowed := true }
def JudgeDecidesUptoSaid : Prop := judgeDecidesUptoRow.holds Try.pinned (OpenSpec.upto judgeDecidesSpec)

/-- 'broughamlaw15.JudgeBlind', WHERE WHAT IT READS IS OF BULK AT MOST 1048576: true; the input reads as it did. -/
def judgeBlindUptoRow : OpenClaim := { program := "ytllahldgkpbpoaa", sum := "c73037af5240d116bb55c061dd087c485e876dcb874d9eb9d5048f88b0c8d4c7", func := "brougham/broughamlaw15.JudgeBlind", spec := "judgeBlind", apart := false, narrowed := true }
def JudgeBlindUptoSaid : Prop := judgeBlindUptoRow.holds Try.pinned (OpenSpec.upto judgeBlindSpec)

/-- 'broughamlaw15.JudgeMoves', WHERE WHAT IT READS IS OF BULK AT MOST 1048576: true; the input reads as it did. -/
def judgeMovesUptoRow : OpenClaim := { program := "ytllahldgkpbpoaa", sum := "c73037af5240d116bb55c061dd087c485e876dcb874d9eb9d5048f88b0c8d4c7", func := "brougham/broughamlaw15.JudgeMoves", spec := "judgeMoves", apart := false, narrowed := true }
def JudgeMovesUptoSaid : Prop := judgeMovesUptoRow.holds Try.pinned (OpenSpec.upto judgeMovesSpec)

end Rows
end Go.Proofs.Ytllahldgkpbpoaa
