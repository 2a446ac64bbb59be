/-
  No cell of these rows narrows 'for every input' (looked for: loops, veiled, ifaces, maps, wideKeys, modest, calm, conditions, laid).
  DERIVED. THE GIVEN ROWS OF THIS SEAT. 3 by the template 'for every input the law returns true; each argument reads behind the call as it read before'; 0 by the template 'total and deterministic' (their statements: YtpjfheojlcahgaaTotals.lean).
  GIVEN WITH THE SEED: the statements are not yours to turn. If you find one false, say at which input.
  Laid BY PROGRAM, IN A SANDBOX (cutbox-rows.mjs): the forced cells as the released guide's own fill.sh prints them over the translation 7d7de4f0b1db5116… (all of the seat's roots in one cut). By AI agents, Wed Nov 11 2026. No macro, syntax, notation, axiom, sorry.
-/
import Derived.Test.YtpjfheojlcahgaaChecked
import GoSem.Claim
import GoSem.ClaimJoined
import GoSem.ClaimMapViews
import Derived.JoinedTies
import Derived.KernelRfl
namespace Go.Proofs.Ytpjfheojlcahgaa
/- THE CELL 'sum', in the pinned program and in every row, IS THE sha256 OF THE DUMP (.gsa) THAT YtpjfheojlcahgaaProg.lean LOADS. Nothing in Lean hashes anything: it is a label: what it is worth is what the hold of that sum in a sandbox is worth. -/
noncomputable def Try.pinned : Pinned := { name := "ytpjfheojlcahgaa", sum := "7d7de4f0b1db5116958b6cb40301e68ce3d357237784ba58671522253f9902e5", checked := Try.checked }
namespace Rows
def none {H : Type} : Left H := { results := [], args := [] }

/-- 'broughamlaw13.CwndAlpha': WHATEVER THE INPUT: true; the input reads as it did. -/
def cwndAlphaSpec : ChangeSpec := { name := "cwndAlpha", fn := fun _ => fun
  | [d] => { results := [.lit (.bool true)], args := [d] }
  | _ => none }
def cwndAlphaRow : OpenClaim := { program := "ytpjfheojlcahgaa", sum := "7d7de4f0b1db5116958b6cb40301e68ce3d357237784ba58671522253f9902e5", func := "brougham/broughamlaw13.CwndAlpha", spec := "cwndAlpha", apart := false }
def CwndAlphaSaid : Prop := cwndAlphaRow.holds Try.pinned (OpenSpec.ofChange cwndAlphaSpec)

/-- ITS FALSE NEIGHBOUR: 'it returns false'. Refute it at one input. -/
def cwndAlphaWrong : ChangeSpec := { name := "cwndAlpha", fn := fun _ => fun
  | [d] => { results := [.lit (.bool false)], args := [d] }
  | _ => none }
def CwndAlphaWrongFalsely : Prop := cwndAlphaRow.holds Try.pinned (OpenSpec.ofChange cwndAlphaWrong)

/-- 'broughamlaw13.CwndPlays': WHATEVER THE INPUT: true; the input reads as it did. -/
def cwndPlaysSpec : ChangeSpec := { name := "cwndPlays", fn := fun _ => fun
  | [d1, d2] => { results := [.lit (.bool true)], args := [d1, d2] }
  | _ => none }
def cwndPlaysRow : OpenClaim := { program := "ytpjfheojlcahgaa", sum := "7d7de4f0b1db5116958b6cb40301e68ce3d357237784ba58671522253f9902e5", func := "brougham/broughamlaw13.CwndPlays", spec := "cwndPlays", apart := false }
def CwndPlaysSaid : Prop := cwndPlaysRow.holds Try.pinned (OpenSpec.ofChange cwndPlaysSpec)

/-- ITS FALSE NEIGHBOUR: 'it returns false'. Refute it at one input. -/
def cwndPlaysWrong : ChangeSpec := { name := "cwndPlays", fn := fun _ => fun
  | [d1, d2] => { results := [.lit (.bool false)], args := [d1, d2] }
  | _ => none }
def CwndPlaysWrongFalsely : Prop := cwndPlaysRow.holds Try.pinned (OpenSpec.ofChange cwndPlaysWrong)

/-- 'broughamlaw13.CwndSlow': WHATEVER THE INPUT: true; the input reads as it did. -/
def cwndSlowSpec : ChangeSpec := { name := "cwndSlow", fn := fun _ => fun
  | [d1, d2, d3] => { results := [.lit (.bool true)], args := [d1, d2, d3] }
  | _ => none }
def cwndSlowRow : OpenClaim := { program := "ytpjfheojlcahgaa", sum := "7d7de4f0b1db5116958b6cb40301e68ce3d357237784ba58671522253f9902e5", func := "brougham/broughamlaw13.CwndSlow", spec := "cwndSlow", apart := false }
def CwndSlowSaid : Prop := cwndSlowRow.holds Try.pinned (OpenSpec.ofChange cwndSlowSpec)

/-- ITS FALSE NEIGHBOUR: 'it returns false'. Refute it at one input. -/
def cwndSlowWrong : ChangeSpec := { name := "cwndSlow", fn := fun _ => fun
  | [d1, d2, d3] => { results := [.lit (.bool false)], args := [d1, d2, d3] }
  | _ => none }
def CwndSlowWrongFalsely : Prop := cwndSlowRow.holds Try.pinned (OpenSpec.ofChange cwndSlowWrong)

/- THE SECOND FORM. 'bulk': how many values and letters a reading holds, each counted each time it is reached (what is shared counts as often as it is met; a slice's spare places count too). A statement '..UptoSaid' is the law's where the arguments, and the package variables that the reading takes, are together of bulk at most 1048576: NARROWER than '..Said'. Prove '..Said' where nothing that the law and all that it calls make is longer than what came in: it says more and counts as full. Else prove '..UptoSaid'. A law counts once. -/
mutual
def uptoBulk {H : Type} : DataW H → Nat
  | .lit (.string bytes) => bytes.length + 1
  | .lit _ => 1
  | .nil => 1
  | .ptr d => uptoBulk d + 1
  | .slice elems spare => uptoBulkAll elems + uptoBulkAll spare + 1
  | .agg parts => uptoBulkAll parts + 1
  | .iface _ d => uptoBulk d + 1
  | .map entries => uptoBulkEntries entries + 1
  | .held _ => 1
def uptoBulkAll {H : Type} : List (DataW H) → Nat
  | [] => 0
  | d :: r => uptoBulk d + uptoBulkAll r
def uptoBulkEntries {H : Type} : List (Lit × DataW H) → Nat
  | [] => 0
  | x :: r => uptoBulkEntry x + uptoBulkEntries r
def uptoBulkEntry {H : Type} : Lit × DataW H → Nat
  | (.string bytes, d) => bytes.length + uptoBulk d + 1
  | (_, d) => uptoBulk d + 1
 end
def uptoSmall : (H : Type) → List (DataW H) → Bool := fun _ ds => decide (uptoBulkAll ds ≤ 1048576)
def OpenSpec.upto (s : _root_.Go.ChangeSpec) : _root_.Go.OpenSpec := { _root_.Go.OpenSpec.ofChange s with cond := some uptoSmall }

/-- 'broughamlaw13.CwndAlpha', WHERE WHAT IT READS IS OF BULK AT MOST 1048576: true; the input reads as it did. -/
def cwndAlphaUptoRow : OpenClaim := { program := "ytpjfheojlcahgaa", sum := "7d7de4f0b1db5116958b6cb40301e68ce3d357237784ba58671522253f9902e5", func := "brougham/broughamlaw13.CwndAlpha", spec := "cwndAlpha", apart := false, narrowed := true }
def CwndAlphaUptoSaid : Prop := cwndAlphaUptoRow.holds Try.pinned (OpenSpec.upto cwndAlphaSpec)

/-- 'broughamlaw13.CwndPlays', WHERE WHAT IT READS IS OF BULK AT MOST 1048576: true; the input reads as it did. -/
def cwndPlaysUptoRow : OpenClaim := { program := "ytpjfheojlcahgaa", sum := "7d7de4f0b1db5116958b6cb40301e68ce3d357237784ba58671522253f9902e5", func := "brougham/broughamlaw13.CwndPlays", spec := "cwndPlays", apart := false, narrowed := true }
def CwndPlaysUptoSaid : Prop := cwndPlaysUptoRow.holds Try.pinned (OpenSpec.upto cwndPlaysSpec)

/-- 'broughamlaw13.CwndSlow', WHERE WHAT IT READS IS OF BULK AT MOST 1048576: true; the input reads as it did. -/
def cwndSlowUptoRow : OpenClaim := { program := "ytpjfheojlcahgaa", sum := "7d7de4f0b1db5116958b6cb40301e68ce3d357237784ba58671522253f9902e5", func := "brougham/broughamlaw13.CwndSlow", spec := "cwndSlow", apart := false, narrowed := true }
def CwndSlowUptoSaid : Prop := cwndSlowUptoRow.holds Try.pinned (OpenSpec.upto cwndSlowSpec)

end Rows
end Go.Proofs.Ytpjfheojlcahgaa
