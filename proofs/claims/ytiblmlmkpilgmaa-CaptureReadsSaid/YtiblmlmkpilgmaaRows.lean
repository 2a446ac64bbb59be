/-
  No cell of these rows narrows 'for every input' (looked for: loops, veiled, ifaces, maps, wideKeys, modest, calm, conditions, laid).
  DERIVED. THE GIVEN ROWS OF THIS SEAT. 11 by the template 'for every input the law returns true; each argument reads behind the call as it read before'; 0 by the template 'total and deterministic' (their statements: YtiblmlmkpilgmaaTotals.lean).
  GIVEN WITH THE SEED: the statements are not yours to turn. If you find one false, say at which input.
  Laid BY PROGRAM, IN A SANDBOX (cutbox-rows.mjs): the forced cells as the released guide's own fill.sh prints them over the translation b3722c4539cbbb89… (all of the seat's roots in one cut). By AI agents, Wed Nov 11 2026. No macro, syntax, notation, axiom, sorry.
-/
import Derived.Test.YtiblmlmkpilgmaaChecked
import GoSem.Claim
import GoSem.ClaimJoined
import GoSem.ClaimMapViews
import Derived.JoinedTies
import Derived.KernelRfl
namespace Go.Proofs.Ytiblmlmkpilgmaa
/- THE CELL 'sum', in the pinned program and in every row, IS THE sha256 OF THE DUMP (.gsa) THAT YtiblmlmkpilgmaaProg.lean LOADS. Nothing in Lean hashes anything: it is a label: what it is worth is what the hold of that sum in a sandbox is worth. -/
noncomputable def Try.pinned : Pinned := { name := "ytiblmlmkpilgmaa", sum := "b3722c4539cbbb89ee0c0b2d0a4888905d8c700875125f7d7e63b06c93d4f634", checked := Try.checked }
namespace Rows
def none {H : Type} : Left H := { results := [], args := [] }

/-- 'broughamlaw08.OptWrites': WHATEVER THE INPUT: true; the input reads as it did. -/
def optWritesSpec : ChangeSpec := { name := "optWrites", fn := fun _ => fun
  | [d] => { results := [.lit (.bool true)], args := [d] }
  | _ => none }
def optWritesRow : OpenClaim := { program := "ytiblmlmkpilgmaa", sum := "b3722c4539cbbb89ee0c0b2d0a4888905d8c700875125f7d7e63b06c93d4f634", func := "brougham/broughamlaw08.OptWrites", spec := "optWrites", recurses := true, apart := false }
def OptWritesSaid : Prop := optWritesRow.holds Try.pinned (OpenSpec.ofChange optWritesSpec)

/-- ITS FALSE NEIGHBOUR: 'it returns false'. Refute it at one input. -/
def optWritesWrong : ChangeSpec := { name := "optWrites", fn := fun _ => fun
  | [d] => { results := [.lit (.bool false)], args := [d] }
  | _ => none }
def OptWritesWrongFalsely : Prop := optWritesRow.holds Try.pinned (OpenSpec.ofChange optWritesWrong)

/-- 'broughamlaw08.OptReads': WHATEVER THE INPUT: true; the input reads as it did. -/
def optReadsSpec : ChangeSpec := { name := "optReads", fn := fun _ => fun
  | [d] => { results := [.lit (.bool true)], args := [d] }
  | _ => none }
def optReadsRow : OpenClaim := { program := "ytiblmlmkpilgmaa", sum := "b3722c4539cbbb89ee0c0b2d0a4888905d8c700875125f7d7e63b06c93d4f634", func := "brougham/broughamlaw08.OptReads", spec := "optReads", apart := false }
def OptReadsSaid : Prop := optReadsRow.holds Try.pinned (OpenSpec.ofChange optReadsSpec)

/-- ITS FALSE NEIGHBOUR: 'it returns false'. Refute it at one input. -/
def optReadsWrong : ChangeSpec := { name := "optReads", fn := fun _ => fun
  | [d] => { results := [.lit (.bool false)], args := [d] }
  | _ => none }
def OptReadsWrongFalsely : Prop := optReadsRow.holds Try.pinned (OpenSpec.ofChange optReadsWrong)

/-- 'broughamlaw08.OptBack': WHATEVER THE INPUT: true; the input reads as it did. -/
def optBackSpec : ChangeSpec := { name := "optBack", fn := fun _ => fun
  | [d1, d2] => { results := [.lit (.bool true)], args := [d1, d2] }
  | _ => none }
def optBackRow : OpenClaim := { program := "ytiblmlmkpilgmaa", sum := "b3722c4539cbbb89ee0c0b2d0a4888905d8c700875125f7d7e63b06c93d4f634", func := "brougham/broughamlaw08.OptBack", spec := "optBack", apart := false }
def OptBackSaid : Prop := optBackRow.holds Try.pinned (OpenSpec.ofChange optBackSpec)

/-- ITS FALSE NEIGHBOUR: 'it returns false'. Refute it at one input. -/
def optBackWrong : ChangeSpec := { name := "optBack", fn := fun _ => fun
  | [d1, d2] => { results := [.lit (.bool false)], args := [d1, d2] }
  | _ => none }
def OptBackWrongFalsely : Prop := optBackRow.holds Try.pinned (OpenSpec.ofChange optBackWrong)

/-- 'broughamlaw08.OptOne': WHATEVER THE INPUT: true; the input reads as it did. -/
def optOneSpec : ChangeSpec := { name := "optOne", fn := fun _ => fun
  | [d1, d2] => { results := [.lit (.bool true)], args := [d1, d2] }
  | _ => none }
def optOneRow : OpenClaim := { program := "ytiblmlmkpilgmaa", sum := "b3722c4539cbbb89ee0c0b2d0a4888905d8c700875125f7d7e63b06c93d4f634", func := "brougham/broughamlaw08.OptOne", spec := "optOne", apart := false }
def OptOneSaid : Prop := optOneRow.holds Try.pinned (OpenSpec.ofChange optOneSpec)

/-- ITS FALSE NEIGHBOUR: 'it returns false'. Refute it at one input. -/
def optOneWrong : ChangeSpec := { name := "optOne", fn := fun _ => fun
  | [d1, d2] => { results := [.lit (.bool false)], args := [d1, d2] }
  | _ => none }
def OptOneWrongFalsely : Prop := optOneRow.holds Try.pinned (OpenSpec.ofChange optOneWrong)

/-- 'broughamlaw31.SackSays': WHATEVER THE INPUT: true; the input reads as it did. -/
def sackSaysSpec : ChangeSpec := { name := "sackSays", fn := fun _ => fun
  | [d1, d2, d3] => { results := [.lit (.bool true)], args := [d1, d2, d3] }
  | _ => none }
def sackSaysRow : OpenClaim := { program := "ytiblmlmkpilgmaa", sum := "b3722c4539cbbb89ee0c0b2d0a4888905d8c700875125f7d7e63b06c93d4f634", func := "brougham/broughamlaw31.SackSays", spec := "sackSays", inPlace := ["slices.overlaps[brougham/sack.Block]"], unfollowed := true, recurses := true, apart := false }
def SackSaysSaid : Prop := sackSaysRow.holds Try.pinned (OpenSpec.ofChange sackSaysSpec)

/-- ITS FALSE NEIGHBOUR: 'it returns false'. Refute it at one input. -/
def sackSaysWrong : ChangeSpec := { name := "sackSays", fn := fun _ => fun
  | [d1, d2, d3] => { results := [.lit (.bool false)], args := [d1, d2, d3] }
  | _ => none }
def SackSaysWrongFalsely : Prop := sackSaysRow.holds Try.pinned (OpenSpec.ofChange sackSaysWrong)

/-- 'broughamlaw31.SackBack': WHATEVER THE INPUT: true; the input reads as it did. -/
def sackBackSpec : ChangeSpec := { name := "sackBack", fn := fun _ => fun
  | [d1, d2, d3] => { results := [.lit (.bool true)], args := [d1, d2, d3] }
  | _ => none }
def sackBackRow : OpenClaim := { program := "ytiblmlmkpilgmaa", sum := "b3722c4539cbbb89ee0c0b2d0a4888905d8c700875125f7d7e63b06c93d4f634", func := "brougham/broughamlaw31.SackBack", spec := "sackBack", inPlace := ["slices.overlaps[brougham/sack.Block]"], unfollowed := true, recurses := true, apart := false }
def SackBackSaid : Prop := sackBackRow.holds Try.pinned (OpenSpec.ofChange sackBackSpec)

/-- ITS FALSE NEIGHBOUR: 'it returns false'. Refute it at one input. -/
def sackBackWrong : ChangeSpec := { name := "sackBack", fn := fun _ => fun
  | [d1, d2, d3] => { results := [.lit (.bool false)], args := [d1, d2, d3] }
  | _ => none }
def SackBackWrongFalsely : Prop := sackBackRow.holds Try.pinned (OpenSpec.ofChange sackBackWrong)

/-- 'broughamlaw31.SackPlays': WHATEVER THE INPUT: true; the input reads as it did. -/
def sackPlaysSpec : ChangeSpec := { name := "sackPlays", fn := fun _ => fun
  | [d1, d2, d3] => { results := [.lit (.bool true)], args := [d1, d2, d3] }
  | _ => none }
def sackPlaysRow : OpenClaim := { program := "ytiblmlmkpilgmaa", sum := "b3722c4539cbbb89ee0c0b2d0a4888905d8c700875125f7d7e63b06c93d4f634", func := "brougham/broughamlaw31.SackPlays", spec := "sackPlays", inPlace := ["slices.overlaps[brougham/sack.Block]"], recurses := true, apart := false }
def SackPlaysSaid : Prop := sackPlaysRow.holds Try.pinned (OpenSpec.ofChange sackPlaysSpec)

/-- ITS FALSE NEIGHBOUR: 'it returns false'. Refute it at one input. -/
def sackPlaysWrong : ChangeSpec := { name := "sackPlays", fn := fun _ => fun
  | [d1, d2, d3] => { results := [.lit (.bool false)], args := [d1, d2, d3] }
  | _ => none }
def SackPlaysWrongFalsely : Prop := sackPlaysRow.holds Try.pinned (OpenSpec.ofChange sackPlaysWrong)

/-- 'broughamlaw34.CaptureWrites': WHATEVER THE INPUT: true; the input reads as it did. -/
def captureWritesSpec : ChangeSpec := { name := "captureWrites", fn := fun _ => fun
  | [d1, d2] => { results := [.lit (.bool true)], args := [d1, d2] }
  | _ => none }
def captureWritesRow : OpenClaim := { program := "ytiblmlmkpilgmaa", sum := "b3722c4539cbbb89ee0c0b2d0a4888905d8c700875125f7d7e63b06c93d4f634", func := "brougham/broughamlaw34.CaptureWrites", spec := "captureWrites", recurses := true, apart := false }
def CaptureWritesSaid : Prop := captureWritesRow.holds Try.pinned (OpenSpec.ofChange captureWritesSpec)

/-- ITS FALSE NEIGHBOUR: 'it returns false'. Refute it at one input. -/
def captureWritesWrong : ChangeSpec := { name := "captureWrites", fn := fun _ => fun
  | [d1, d2] => { results := [.lit (.bool false)], args := [d1, d2] }
  | _ => none }
def CaptureWritesWrongFalsely : Prop := captureWritesRow.holds Try.pinned (OpenSpec.ofChange captureWritesWrong)

/-- 'broughamlaw34.CaptureReads': WHATEVER THE INPUT: true; the input reads as it did. -/
def captureReadsSpec : ChangeSpec := { name := "captureReads", fn := fun _ => fun
  | [d] => { results := [.lit (.bool true)], args := [d] }
  | _ => none }
def captureReadsRow : OpenClaim := { program := "ytiblmlmkpilgmaa", sum := "b3722c4539cbbb89ee0c0b2d0a4888905d8c700875125f7d7e63b06c93d4f634", func := "brougham/broughamlaw34.CaptureReads", spec := "captureReads", recurses := true, apart := false }
def CaptureReadsSaid : Prop := captureReadsRow.holds Try.pinned (OpenSpec.ofChange captureReadsSpec)

/-- ITS FALSE NEIGHBOUR: 'it returns false'. Refute it at one input. -/
def captureReadsWrong : ChangeSpec := { name := "captureReads", fn := fun _ => fun
  | [d] => { results := [.lit (.bool false)], args := [d] }
  | _ => none }
def CaptureReadsWrongFalsely : Prop := captureReadsRow.holds Try.pinned (OpenSpec.ofChange captureReadsWrong)

/-- 'broughamlaw34.CaptureBack': WHATEVER THE INPUT: true; the input reads as it did. -/
def captureBackSpec : ChangeSpec := { name := "captureBack", fn := fun _ => fun
  | [d1, d2] => { results := [.lit (.bool true)], args := [d1, d2] }
  | _ => none }
def captureBackRow : OpenClaim := { program := "ytiblmlmkpilgmaa", sum := "b3722c4539cbbb89ee0c0b2d0a4888905d8c700875125f7d7e63b06c93d4f634", func := "brougham/broughamlaw34.CaptureBack", spec := "captureBack", apart := false }
def CaptureBackSaid : Prop := captureBackRow.holds Try.pinned (OpenSpec.ofChange captureBackSpec)

/-- ITS FALSE NEIGHBOUR: 'it returns false'. Refute it at one input. -/
def captureBackWrong : ChangeSpec := { name := "captureBack", fn := fun _ => fun
  | [d1, d2] => { results := [.lit (.bool false)], args := [d1, d2] }
  | _ => none }
def CaptureBackWrongFalsely : Prop := captureBackRow.holds Try.pinned (OpenSpec.ofChange captureBackWrong)

/-- 'broughamlaw34.CaptureMerges': WHATEVER THE INPUT: true; the input reads as it did. -/
def captureMergesSpec : ChangeSpec := { name := "captureMerges", fn := fun _ => fun
  | [d1, d2, d3] => { results := [.lit (.bool true)], args := [d1, d2, d3] }
  | _ => none }
def captureMergesRow : OpenClaim := { program := "ytiblmlmkpilgmaa", sum := "b3722c4539cbbb89ee0c0b2d0a4888905d8c700875125f7d7e63b06c93d4f634", func := "brougham/broughamlaw34.CaptureMerges", spec := "captureMerges", apart := false }
def CaptureMergesSaid : Prop := captureMergesRow.holds Try.pinned (OpenSpec.ofChange captureMergesSpec)

/-- ITS FALSE NEIGHBOUR: 'it returns false'. Refute it at one input. -/
def captureMergesWrong : ChangeSpec := { name := "captureMerges", fn := fun _ => fun
  | [d1, d2, d3] => { results := [.lit (.bool false)], args := [d1, d2, d3] }
  | _ => none }
def CaptureMergesWrongFalsely : Prop := captureMergesRow.holds Try.pinned (OpenSpec.ofChange captureMergesWrong)

/- THE SECOND FORM. 'bulk': how many values and letters a reading holds, each counted each time it is reached (what is shared counts as often as it is met; a slice's spare places count too). A statement '..UptoSaid' is the law's where the arguments, and the package variables that the reading takes, are together of bulk at most 1048576: NARROWER than '..Said'. Prove '..Said' where nothing that the law and all that it calls make is longer than what came in: it says more and counts as full. Else prove '..UptoSaid'. A law counts once. -/
mutual
def uptoBulk {H : Type} : DataW H → Nat
  | .lit (.string bytes) => bytes.length + 1
  | .lit _ => 1
  | .nil => 1
  | .ptr d => uptoBulk d + 1
  | .slice elems spare => uptoBulkAll elems + uptoBulkAll spare + 1
  | .agg parts => uptoBulkAll parts + 1
  | .iface _ d => uptoBulk d + 1
  | .map entries => uptoBulkEntries entries + 1
  | .held _ => 1
def uptoBulkAll {H : Type} : List (DataW H) → Nat
  | [] => 0
  | d :: r => uptoBulk d + uptoBulkAll r
def uptoBulkEntries {H : Type} : List (Lit × DataW H) → Nat
  | [] => 0
  | x :: r => uptoBulkEntry x + uptoBulkEntries r
def uptoBulkEntry {H : Type} : Lit × DataW H → Nat
  | (.string bytes, d) => bytes.length + uptoBulk d + 1
  | (_, d) => uptoBulk d + 1
 end
def uptoSmall : (H : Type) → List (DataW H) → Bool := fun _ ds => decide (uptoBulkAll ds ≤ 1048576)
def OpenSpec.upto (s : _root_.Go.ChangeSpec) : _root_.Go.OpenSpec := { _root_.Go.OpenSpec.ofChange s with cond := some uptoSmall }

/-- 'broughamlaw08.OptWrites', WHERE WHAT IT READS IS OF BULK AT MOST 1048576: true; the input reads as it did. -/
def optWritesUptoRow : OpenClaim := { program := "ytiblmlmkpilgmaa", sum := "b3722c4539cbbb89ee0c0b2d0a4888905d8c700875125f7d7e63b06c93d4f634", func := "brougham/broughamlaw08.OptWrites", spec := "optWrites", recurses := true, apart := false, narrowed := true }
def OptWritesUptoSaid : Prop := optWritesUptoRow.holds Try.pinned (OpenSpec.upto optWritesSpec)

/-- 'broughamlaw08.OptReads', WHERE WHAT IT READS IS OF BULK AT MOST 1048576: true; the input reads as it did. -/
def optReadsUptoRow : OpenClaim := { program := "ytiblmlmkpilgmaa", sum := "b3722c4539cbbb89ee0c0b2d0a4888905d8c700875125f7d7e63b06c93d4f634", func := "brougham/broughamlaw08.OptReads", spec := "optReads", apart := false, narrowed := true }
def OptReadsUptoSaid : Prop := optReadsUptoRow.holds Try.pinned (OpenSpec.upto optReadsSpec)

/-- 'broughamlaw08.OptBack', WHERE WHAT IT READS IS OF BULK AT MOST 1048576: true; the input reads as it did. -/
def optBackUptoRow : OpenClaim := { program := "ytiblmlmkpilgmaa", sum := "b3722c4539cbbb89ee0c0b2d0a4888905d8c700875125f7d7e63b06c93d4f634", func := "brougham/broughamlaw08.OptBack", spec := "optBack", apart := false, narrowed := true }
def OptBackUptoSaid : Prop := optBackUptoRow.holds Try.pinned (OpenSpec.upto optBackSpec)

/-- 'broughamlaw08.OptOne', WHERE WHAT IT READS IS OF BULK AT MOST 1048576: true; the input reads as it did. -/
def optOneUptoRow : OpenClaim := { program := "ytiblmlmkpilgmaa", sum := "b3722c4539cbbb89ee0c0b2d0a4888905d8c700875125f7d7e63b06c93d4f634", func := "brougham/broughamlaw08.OptOne", spec := "optOne", apart := false, narrowed := true }
def OptOneUptoSaid : Prop := optOneUptoRow.holds Try.pinned (OpenSpec.upto optOneSpec)

/-- 'broughamlaw31.SackSays', WHERE WHAT IT READS IS OF BULK AT MOST 1048576: true; the input reads as it did. -/
def sackSaysUptoRow : OpenClaim := { program := "ytiblmlmkpilgmaa", sum := "b3722c4539cbbb89ee0c0b2d0a4888905d8c700875125f7d7e63b06c93d4f634", func := "brougham/broughamlaw31.SackSays", spec := "sackSays", inPlace := ["slices.overlaps[brougham/sack.Block]"], unfollowed := true, recurses := true, apart := false, narrowed := true }
def SackSaysUptoSaid : Prop := sackSaysUptoRow.holds Try.pinned (OpenSpec.upto sackSaysSpec)

/-- 'broughamlaw31.SackBack', WHERE WHAT IT READS IS OF BULK AT MOST 1048576: true; the input reads as it did. -/
def sackBackUptoRow : OpenClaim := { program := "ytiblmlmkpilgmaa", sum := "b3722c4539cbbb89ee0c0b2d0a4888905d8c700875125f7d7e63b06c93d4f634", func := "brougham/broughamlaw31.SackBack", spec := "sackBack", inPlace := ["slices.overlaps[brougham/sack.Block]"], unfollowed := true, recurses := true, apart := false, narrowed := true }
def SackBackUptoSaid : Prop := sackBackUptoRow.holds Try.pinned (OpenSpec.upto sackBackSpec)

/-- 'broughamlaw31.SackPlays', WHERE WHAT IT READS IS OF BULK AT MOST 1048576: true; the input reads as it did. -/
def sackPlaysUptoRow : OpenClaim := { program := "ytiblmlmkpilgmaa", sum := "b3722c4539cbbb89ee0c0b2d0a4888905d8c700875125f7d7e63b06c93d4f634", func := "brougham/broughamlaw31.SackPlays", spec := "sackPlays", inPlace := ["slices.overlaps[brougham/sack.Block]"], recurses := true, apart := false, narrowed := true }
def SackPlaysUptoSaid : Prop := sackPlaysUptoRow.holds Try.pinned (OpenSpec.upto sackPlaysSpec)

/-- 'broughamlaw34.CaptureWrites', WHERE WHAT IT READS IS OF BULK AT MOST 1048576: true; the input reads as it did. -/
def captureWritesUptoRow : OpenClaim := { program := "ytiblmlmkpilgmaa", sum := "b3722c4539cbbb89ee0c0b2d0a4888905d8c700875125f7d7e63b06c93d4f634", func := "brougham/broughamlaw34.CaptureWrites", spec := "captureWrites", recurses := true, apart := false, narrowed := true }
def CaptureWritesUptoSaid : Prop := captureWritesUptoRow.holds Try.pinned (OpenSpec.upto captureWritesSpec)

/-- 'broughamlaw34.CaptureReads', WHERE WHAT IT READS IS OF BULK AT MOST 1048576: true; the input reads as it did. -/
def captureReadsUptoRow : OpenClaim := { program := "ytiblmlmkpilgmaa", sum := "b3722c4539cbbb89ee0c0b2d0a4888905d8c700875125f7d7e63b06c93d4f634", func := "brougham/broughamlaw34.CaptureReads", spec := "captureReads", recurses := true, apart := false, narrowed := true }
def CaptureReadsUptoSaid : Prop := captureReadsUptoRow.holds Try.pinned (OpenSpec.upto captureReadsSpec)

/-- 'broughamlaw34.CaptureBack', WHERE WHAT IT READS IS OF BULK AT MOST 1048576: true; the input reads as it did. -/
def captureBackUptoRow : OpenClaim := { program := "ytiblmlmkpilgmaa", sum := "b3722c4539cbbb89ee0c0b2d0a4888905d8c700875125f7d7e63b06c93d4f634", func := "brougham/broughamlaw34.CaptureBack", spec := "captureBack", apart := false, narrowed := true }
def CaptureBackUptoSaid : Prop := captureBackUptoRow.holds Try.pinned (OpenSpec.upto captureBackSpec)

/-- 'broughamlaw34.CaptureMerges', WHERE WHAT IT READS IS OF BULK AT MOST 1048576: true; the input reads as it did. -/
def captureMergesUptoRow : OpenClaim := { program := "ytiblmlmkpilgmaa", sum := "b3722c4539cbbb89ee0c0b2d0a4888905d8c700875125f7d7e63b06c93d4f634", func := "brougham/broughamlaw34.CaptureMerges", spec := "captureMerges", apart := false, narrowed := true }
def CaptureMergesUptoSaid : Prop := captureMergesUptoRow.holds Try.pinned (OpenSpec.upto captureMergesSpec)

end Rows
end Go.Proofs.Ytiblmlmkpilgmaa
