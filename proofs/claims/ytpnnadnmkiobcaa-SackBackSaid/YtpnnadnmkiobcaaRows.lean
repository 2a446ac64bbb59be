/-
  No cell of these rows narrows 'for every input' (looked for: loops, veiled, ifaces, maps, wideKeys, modest, calm, conditions, laid).
  DERIVED. THE GIVEN ROWS OF THIS SEAT. 2 by the template 'for every input the law returns true; each argument reads behind the call as it read before'; 0 by the template 'total and deterministic' (their statements: YtpnnadnmkiobcaaTotals.lean).
  GIVEN WITH THE SEED: the statements are not yours to turn. If you find one false, say at which input.
  Laid BY PROGRAM, IN A SANDBOX (cutbox-rows.mjs): the forced cells as the released guide's own fill.sh prints them over the translation 78933756bf59b563… (all of the seat's roots in one cut). By AI agents, Wed Nov 11 2026. No macro, syntax, notation, axiom, sorry.
-/
import Derived.Test.YtpnnadnmkiobcaaChecked
import GoSem.Claim
import GoSem.ClaimJoined
import GoSem.ClaimMapViews
import Derived.JoinedTies
import Derived.KernelRfl
namespace Go.Proofs.Ytpnnadnmkiobcaa
/- THE CELL 'sum', in the pinned program and in every row, IS THE sha256 OF THE DUMP (.gsa) THAT YtpnnadnmkiobcaaProg.lean LOADS. Nothing in Lean hashes anything: it is a label: what it is worth is what the hold of that sum in a sandbox is worth. -/
noncomputable def Try.pinned : Pinned := { name := "ytpnnadnmkiobcaa", sum := "78933756bf59b5635f80d432b07f4bbdd158ee64c32b7488c5cf8693d6488e4f", checked := Try.checked }
namespace Rows
def none {H : Type} : Left H := { results := [], args := [] }

/-- 'broughamlaw31.SackSays': WHATEVER THE INPUT: true; the input reads as it did. -/
def sackSaysSpec : ChangeSpec := { name := "sackSays", fn := fun _ => fun
  | [d1, d2, d3] => { results := [.lit (.bool true)], args := [d1, d2, d3] }
  | _ => none }
def sackSaysRow : OpenClaim := { program := "ytpnnadnmkiobcaa", sum := "78933756bf59b5635f80d432b07f4bbdd158ee64c32b7488c5cf8693d6488e4f", func := "brougham/broughamlaw31.SackSays", spec := "sackSays", inPlace := ["slices.overlaps[brougham/sack.Block]"], unfollowed := true, recurses := true, apart := false }
def SackSaysSaid : Prop := sackSaysRow.holds Try.pinned (OpenSpec.ofChange sackSaysSpec)

/-- ITS FALSE NEIGHBOUR: 'it returns false'. Refute it at one input. -/
def sackSaysWrong : ChangeSpec := { name := "sackSays", fn := fun _ => fun
  | [d1, d2, d3] => { results := [.lit (.bool false)], args := [d1, d2, d3] }
  | _ => none }
def SackSaysWrongFalsely : Prop := sackSaysRow.holds Try.pinned (OpenSpec.ofChange sackSaysWrong)

/-- 'broughamlaw31.SackBack': WHATEVER THE INPUT: true; the input reads as it did. -/
def sackBackSpec : ChangeSpec := { name := "sackBack", fn := fun _ => fun
  | [d1, d2, d3] => { results := [.lit (.bool true)], args := [d1, d2, d3] }
  | _ => none }
def sackBackRow : OpenClaim := { program := "ytpnnadnmkiobcaa", sum := "78933756bf59b5635f80d432b07f4bbdd158ee64c32b7488c5cf8693d6488e4f", func := "brougham/broughamlaw31.SackBack", spec := "sackBack", inPlace := ["slices.overlaps[brougham/sack.Block]"], unfollowed := true, recurses := true, apart := false }
def SackBackSaid : Prop := sackBackRow.holds Try.pinned (OpenSpec.ofChange sackBackSpec)

/-- ITS FALSE NEIGHBOUR: 'it returns false'. Refute it at one input. -/
def sackBackWrong : ChangeSpec := { name := "sackBack", fn := fun _ => fun
  | [d1, d2, d3] => { results := [.lit (.bool false)], args := [d1, d2, d3] }
  | _ => none }
def SackBackWrongFalsely : Prop := sackBackRow.holds Try.pinned (OpenSpec.ofChange sackBackWrong)

/- THE SECOND FORM. 'bulk': how many values and letters a reading holds, each counted each time it is reached (what is shared counts as often as it is met; a slice's spare places count too). A statement '..UptoSaid' is the law's where the arguments, and the package variables that the reading takes, are together of bulk at most 1048576: NARROWER than '..Said'. Prove '..Said' where nothing that the law and all that it calls make is longer than what came in: it says more and counts as full. Else prove '..UptoSaid'. A law counts once. -/
mutual
def uptoBulk {H : Type} : DataW H → Nat
  | .lit (.string bytes) => bytes.length + 1
  | .lit _ => 1
  | .nil => 1
  | .ptr d => uptoBulk d + 1
  | .slice elems spare => uptoBulkAll elems + uptoBulkAll spare + 1
  | .agg parts => uptoBulkAll parts + 1
  | .iface _ d => uptoBulk d + 1
  | .map entries => uptoBulkEntries entries + 1
  | .held _ => 1
def uptoBulkAll {H : Type} : List (DataW H) → Nat
  | [] => 0
  | d :: r => uptoBulk d + uptoBulkAll r
def uptoBulkEntries {H : Type} : List (Lit × DataW H) → Nat
  | [] => 0
  | x :: r => uptoBulkEntry x + uptoBulkEntries r
def uptoBulkEntry {H : Type} : Lit × DataW H → Nat
  | (.string bytes, d) => bytes.length + uptoBulk d + 1
  | (_, d) => uptoBulk d + 1
 end
def uptoSmall : (H : Type) → List (DataW H) → Bool := fun _ ds => decide (uptoBulkAll ds ≤ 1048576)
def OpenSpec.upto (s : _root_.Go.ChangeSpec) : _root_.Go.OpenSpec := { _root_.Go.OpenSpec.ofChange s with cond := some uptoSmall }

/-- 'broughamlaw31.SackSays', WHERE WHAT IT READS IS OF BULK AT MOST 1048576: true; the input reads as it did. -/
def sackSaysUptoRow : OpenClaim := { program := "ytpnnadnmkiobcaa", sum := "78933756bf59b5635f80d432b07f4bbdd158ee64c32b7488c5cf8693d6488e4f", func := "brougham/broughamlaw31.SackSays", spec := "sackSays", inPlace := ["slices.overlaps[brougham/sack.Block]"], unfollowed := true, recurses := true, apart := false, narrowed := true }
def SackSaysUptoSaid : Prop := sackSaysUptoRow.holds Try.pinned (OpenSpec.upto sackSaysSpec)

/-- 'broughamlaw31.SackBack', WHERE WHAT IT READS IS OF BULK AT MOST 1048576: true; the input reads as it did. -/
def sackBackUptoRow : OpenClaim := { program := "ytpnnadnmkiobcaa", sum := "78933756bf59b5635f80d432b07f4bbdd158ee64c32b7488c5cf8693d6488e4f", func := "brougham/broughamlaw31.SackBack", spec := "sackBack", inPlace := ["slices.overlaps[brougham/sack.Block]"], unfollowed := true, recurses := true, apart := false, narrowed := true }
def SackBackUptoSaid : Prop := sackBackUptoRow.holds Try.pinned (OpenSpec.upto sackBackSpec)

end Rows
end Go.Proofs.Ytpnnadnmkiobcaa
