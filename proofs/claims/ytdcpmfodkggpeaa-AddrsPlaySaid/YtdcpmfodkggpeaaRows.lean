/-
  No cell of these rows narrows 'for every input' (looked for: loops, veiled, ifaces, maps, wideKeys, modest, calm, conditions, laid).
  DERIVED. THE GIVEN ROWS OF THIS SEAT. 3 by the template 'for every input the law returns true; each argument reads behind the call as it read before'; 0 by the template 'total and deterministic' (their statements: YtdcpmfodkggpeaaTotals.lean).
  GIVEN WITH THE SEED: the statements are not yours to turn. If you find one false, say at which input.
  Laid BY PROGRAM, IN A SANDBOX (cutbox-rows.mjs): the forced cells as the released guide's own fill.sh prints them over the translation b6a140b06043fb56… (all of the seat's roots in one cut). By AI agents, Wed Nov 11 2026. No macro, syntax, notation, axiom, sorry.
-/
import Derived.Test.YtdcpmfodkggpeaaChecked
import GoSem.Claim
import GoSem.ClaimJoined
import GoSem.ClaimMapViews
import Derived.JoinedTies
import Derived.KernelRfl
namespace Go.Proofs.Ytdcpmfodkggpeaa
/- THE CELL 'sum', in the pinned program and in every row, IS THE sha256 OF THE DUMP (.gsa) THAT YtdcpmfodkggpeaaProg.lean LOADS. Nothing in Lean hashes anything: it is a label: what it is worth is what the hold of that sum in a sandbox is worth. -/
noncomputable def Try.pinned : Pinned := { name := "ytdcpmfodkggpeaa", sum := "b6a140b06043fb560204cff20d0b7dd389535f06587878af3ad3af1404cf0f14", checked := Try.checked }
namespace Rows
def none {H : Type} : Left H := { results := [], args := [] }

/-- 'broughamlaw20.AddrsPlay': WHATEVER THE INPUT: true; the input reads as it did. -/
def addrsPlaySpec : ChangeSpec := { name := "addrsPlay", fn := fun _ => fun
  | [d1, d2, d3] => { results := [.lit (.bool true)], args := [d1, d2, d3] }
  | _ => none }
def addrsPlayRow : OpenClaim := { program := "ytdcpmfodkggpeaa", sum := "b6a140b06043fb560204cff20d0b7dd389535f06587878af3ad3af1404cf0f14", func := "brougham/broughamlaw20.AddrsPlay", spec := "addrsPlay", unfollowed := true, recurses := true, apart := false }
def AddrsPlaySaid : Prop := addrsPlayRow.holds Try.pinned (OpenSpec.ofChange addrsPlaySpec)

/-- ITS FALSE NEIGHBOUR: 'it returns false'. Refute it at one input. -/
def addrsPlayWrong : ChangeSpec := { name := "addrsPlay", fn := fun _ => fun
  | [d1, d2, d3] => { results := [.lit (.bool false)], args := [d1, d2, d3] }
  | _ => none }
def AddrsPlayWrongFalsely : Prop := addrsPlayRow.holds Try.pinned (OpenSpec.ofChange addrsPlayWrong)

/-- 'broughamlaw20.AddrsFlood': WHATEVER THE INPUT: true; the input reads as it did. -/
def addrsFloodSpec : ChangeSpec := { name := "addrsFlood", fn := fun _ => fun
  | [d1, d2] => { results := [.lit (.bool true)], args := [d1, d2] }
  | _ => none }
def addrsFloodRow : OpenClaim := { program := "ytdcpmfodkggpeaa", sum := "b6a140b06043fb560204cff20d0b7dd389535f06587878af3ad3af1404cf0f14", func := "brougham/broughamlaw20.AddrsFlood", spec := "addrsFlood", unfollowed := true, recurses := true, apart := false }
def AddrsFloodSaid : Prop := addrsFloodRow.holds Try.pinned (OpenSpec.ofChange addrsFloodSpec)

/-- ITS FALSE NEIGHBOUR: 'it returns false'. Refute it at one input. -/
def addrsFloodWrong : ChangeSpec := { name := "addrsFlood", fn := fun _ => fun
  | [d1, d2] => { results := [.lit (.bool false)], args := [d1, d2] }
  | _ => none }
def AddrsFloodWrongFalsely : Prop := addrsFloodRow.holds Try.pinned (OpenSpec.ofChange addrsFloodWrong)

/-- 'broughamlaw20.AddrsBack': WHATEVER THE INPUT: true; the input reads as it did. -/
def addrsBackSpec : ChangeSpec := { name := "addrsBack", fn := fun _ => fun
  | [d1, d2] => { results := [.lit (.bool true)], args := [d1, d2] }
  | _ => none }
def addrsBackRow : OpenClaim := { program := "ytdcpmfodkggpeaa", sum := "b6a140b06043fb560204cff20d0b7dd389535f06587878af3ad3af1404cf0f14", func := "brougham/broughamlaw20.AddrsBack", spec := "addrsBack", unfollowed := true, recurses := true, apart := false }
def AddrsBackSaid : Prop := addrsBackRow.holds Try.pinned (OpenSpec.ofChange addrsBackSpec)

/-- ITS FALSE NEIGHBOUR: 'it returns false'. Refute it at one input. -/
def addrsBackWrong : ChangeSpec := { name := "addrsBack", fn := fun _ => fun
  | [d1, d2] => { results := [.lit (.bool false)], args := [d1, d2] }
  | _ => none }
def AddrsBackWrongFalsely : Prop := addrsBackRow.holds Try.pinned (OpenSpec.ofChange addrsBackWrong)

/- THE SECOND FORM. 'bulk': how many values and letters a reading holds, each counted each time it is reached (what is shared counts as often as it is met; a slice's spare places count too). A statement '..UptoSaid' is the law's where the arguments, and the package variables that the reading takes, are together of bulk at most 1048576: NARROWER than '..Said'. Prove '..Said' where nothing that the law and all that it calls make is longer than what came in: it says more and counts as full. Else prove '..UptoSaid'. A law counts once. -/
mutual
def uptoBulk {H : Type} : DataW H → Nat
  | .lit (.string bytes) => bytes.length + 1
  | .lit _ => 1
  | .nil => 1
  | .ptr d => uptoBulk d + 1
  | .slice elems spare => uptoBulkAll elems + uptoBulkAll spare + 1
  | .agg parts => uptoBulkAll parts + 1
  | .iface _ d => uptoBulk d + 1
  | .map entries => uptoBulkEntries entries + 1
  | .held _ => 1
def uptoBulkAll {H : Type} : List (DataW H) → Nat
  | [] => 0
  | d :: r => uptoBulk d + uptoBulkAll r
def uptoBulkEntries {H : Type} : List (Lit × DataW H) → Nat
  | [] => 0
  | x :: r => uptoBulkEntry x + uptoBulkEntries r
def uptoBulkEntry {H : Type} : Lit × DataW H → Nat
  | (.string bytes, d) => bytes.length + uptoBulk d + 1
  | (_, d) => uptoBulk d + 1
 end
def uptoSmall : (H : Type) → List (DataW H) → Bool := fun _ ds => decide (uptoBulkAll ds ≤ 1048576)
def OpenSpec.upto (s : _root_.Go.ChangeSpec) : _root_.Go.OpenSpec := { _root_.Go.OpenSpec.ofChange s with cond := some uptoSmall }

/-- 'broughamlaw20.AddrsPlay', WHERE WHAT IT READS IS OF BULK AT MOST 1048576: true; the input reads as it did. -/
def addrsPlayUptoRow : OpenClaim := { program := "ytdcpmfodkggpeaa", sum := "b6a140b06043fb560204cff20d0b7dd389535f06587878af3ad3af1404cf0f14", func := "brougham/broughamlaw20.AddrsPlay", spec := "addrsPlay", unfollowed := true, recurses := true, apart := false, narrowed := true }
def AddrsPlayUptoSaid : Prop := addrsPlayUptoRow.holds Try.pinned (OpenSpec.upto addrsPlaySpec)

/-- 'broughamlaw20.AddrsFlood', WHERE WHAT IT READS IS OF BULK AT MOST 1048576: true; the input reads as it did. -/
def addrsFloodUptoRow : OpenClaim := { program := "ytdcpmfodkggpeaa", sum := "b6a140b06043fb560204cff20d0b7dd389535f06587878af3ad3af1404cf0f14", func := "brougham/broughamlaw20.AddrsFlood", spec := "addrsFlood", unfollowed := true, recurses := true, apart := false, narrowed := true }
def AddrsFloodUptoSaid : Prop := addrsFloodUptoRow.holds Try.pinned (OpenSpec.upto addrsFloodSpec)

/-- 'broughamlaw20.AddrsBack', WHERE WHAT IT READS IS OF BULK AT MOST 1048576: true; the input reads as it did. -/
def addrsBackUptoRow : OpenClaim := { program := "ytdcpmfodkggpeaa", sum := "b6a140b06043fb560204cff20d0b7dd389535f06587878af3ad3af1404cf0f14", func := "brougham/broughamlaw20.AddrsBack", spec := "addrsBack", unfollowed := true, recurses := true, apart := false, narrowed := true }
def AddrsBackUptoSaid : Prop := addrsBackUptoRow.holds Try.pinned (OpenSpec.upto addrsBackSpec)

end Rows
end Go.Proofs.Ytdcpmfodkggpeaa
