/-
  No cell of these rows narrows 'for every input' (looked for: loops, veiled, ifaces, maps, wideKeys, modest, calm, conditions, laid).
  DERIVED. THE GIVEN ROWS OF THIS SEAT. 4 by the template 'for every input the law returns true; each argument reads behind the call as it read before'; 0 by the template 'total and deterministic' (their statements: YtcfeojobkpbohaaTotals.lean).
  GIVEN WITH THE SEED: the statements are not yours to turn. If you find one false, say at which input.
  Laid BY PROGRAM, IN A SANDBOX (cutbox-rows.mjs): the forced cells as the released guide's own fill.sh prints them over the translation 07cdc51720734c72… (all of the seat's roots in one cut). By AI agents, Wed Nov 11 2026. No macro, syntax, notation, axiom, sorry.
-/
import Derived.Test.YtcfeojobkpbohaaChecked
import GoSem.Claim
import GoSem.ClaimJoined
import GoSem.ClaimMapViews
import Derived.JoinedTies
import Derived.KernelRfl
namespace Go.Proofs.Ytcfeojobkpbohaa
/- THE CELL 'sum', in the pinned program and in every row, IS THE sha256 OF THE DUMP (.gsa) THAT YtcfeojobkpbohaaProg.lean LOADS. Nothing in Lean hashes anything: it is a label: what it is worth is what the hold of that sum in a sandbox is worth. -/
noncomputable def Try.pinned : Pinned := { name := "ytcfeojobkpbohaa", sum := "07cdc51720734c722f8b0d7712ff356749a3eecc6a2ea651e31b63584ab69afd", checked := Try.checked }
namespace Rows
def none {H : Type} : Left H := { results := [], args := [] }

/-- 'broughamlaw19.SchedOrders': WHATEVER THE INPUT: true; the input reads as it did. -/
def schedOrdersSpec : ChangeSpec := { name := "schedOrders", fn := fun _ => fun
  | [d1, d2] => { results := [.lit (.bool true)], args := [d1, d2] }
  | _ => none }
def schedOrdersRow : OpenClaim := { program := "ytcfeojobkpbohaa", sum := "07cdc51720734c722f8b0d7712ff356749a3eecc6a2ea651e31b63584ab69afd", func := "brougham/broughamlaw19.SchedOrders", spec := "schedOrders", unfollowed := true, recurses := true, apart := false }
def SchedOrdersSaid : Prop := schedOrdersRow.holds Try.pinned (OpenSpec.ofChange schedOrdersSpec)

/-- ITS FALSE NEIGHBOUR: 'it returns false'. Refute it at one input. -/
def schedOrdersWrong : ChangeSpec := { name := "schedOrders", fn := fun _ => fun
  | [d1, d2] => { results := [.lit (.bool false)], args := [d1, d2] }
  | _ => none }
def SchedOrdersWrongFalsely : Prop := schedOrdersRow.holds Try.pinned (OpenSpec.ofChange schedOrdersWrong)

/-- 'broughamlaw19.SchedChooses': WHATEVER THE INPUT: true; the input reads as it did. -/
def schedChoosesSpec : ChangeSpec := { name := "schedChooses", fn := fun _ => fun
  | [d1, d2] => { results := [.lit (.bool true)], args := [d1, d2] }
  | _ => none }
def schedChoosesRow : OpenClaim := { program := "ytcfeojobkpbohaa", sum := "07cdc51720734c722f8b0d7712ff356749a3eecc6a2ea651e31b63584ab69afd", func := "brougham/broughamlaw19.SchedChooses", spec := "schedChooses", unfollowed := true, recurses := true, apart := false }
def SchedChoosesSaid : Prop := schedChoosesRow.holds Try.pinned (OpenSpec.ofChange schedChoosesSpec)

/-- ITS FALSE NEIGHBOUR: 'it returns false'. Refute it at one input. -/
def schedChoosesWrong : ChangeSpec := { name := "schedChooses", fn := fun _ => fun
  | [d1, d2] => { results := [.lit (.bool false)], args := [d1, d2] }
  | _ => none }
def SchedChoosesWrongFalsely : Prop := schedChoosesRow.holds Try.pinned (OpenSpec.ofChange schedChoosesWrong)

/-- 'broughamlaw19.SchedFits': WHATEVER THE INPUT: true; the input reads as it did. -/
def schedFitsSpec : ChangeSpec := { name := "schedFits", fn := fun _ => fun
  | [d1, d2] => { results := [.lit (.bool true)], args := [d1, d2] }
  | _ => none }
def schedFitsRow : OpenClaim := { program := "ytcfeojobkpbohaa", sum := "07cdc51720734c722f8b0d7712ff356749a3eecc6a2ea651e31b63584ab69afd", func := "brougham/broughamlaw19.SchedFits", spec := "schedFits", unfollowed := true, recurses := true, apart := false }
def SchedFitsSaid : Prop := schedFitsRow.holds Try.pinned (OpenSpec.ofChange schedFitsSpec)

/-- ITS FALSE NEIGHBOUR: 'it returns false'. Refute it at one input. -/
def schedFitsWrong : ChangeSpec := { name := "schedFits", fn := fun _ => fun
  | [d1, d2] => { results := [.lit (.bool false)], args := [d1, d2] }
  | _ => none }
def SchedFitsWrongFalsely : Prop := schedFitsRow.holds Try.pinned (OpenSpec.ofChange schedFitsWrong)

/-- 'broughamlaw19.SchedTurns': WHATEVER THE INPUT: true; the input reads as it did. -/
def schedTurnsSpec : ChangeSpec := { name := "schedTurns", fn := fun _ => fun
  | [d1, d2] => { results := [.lit (.bool true)], args := [d1, d2] }
  | _ => none }
def schedTurnsRow : OpenClaim := { program := "ytcfeojobkpbohaa", sum := "07cdc51720734c722f8b0d7712ff356749a3eecc6a2ea651e31b63584ab69afd", func := "brougham/broughamlaw19.SchedTurns", spec := "schedTurns", unfollowed := true, recurses := true, apart := false }
def SchedTurnsSaid : Prop := schedTurnsRow.holds Try.pinned (OpenSpec.ofChange schedTurnsSpec)

/-- ITS FALSE NEIGHBOUR: 'it returns false'. Refute it at one input. -/
def schedTurnsWrong : ChangeSpec := { name := "schedTurns", fn := fun _ => fun
  | [d1, d2] => { results := [.lit (.bool false)], args := [d1, d2] }
  | _ => none }
def SchedTurnsWrongFalsely : Prop := schedTurnsRow.holds Try.pinned (OpenSpec.ofChange schedTurnsWrong)

/- THE SECOND FORM. 'bulk': how many values and letters a reading holds, each counted each time it is reached (what is shared counts as often as it is met; a slice's spare places count too). A statement '..UptoSaid' is the law's where the arguments, and the package variables that the reading takes, are together of bulk at most 1048576: NARROWER than '..Said'. Prove '..Said' where nothing that the law and all that it calls make is longer than what came in: it says more and counts as full. Else prove '..UptoSaid'. A law counts once. -/
mutual
def uptoBulk {H : Type} : DataW H → Nat
  | .lit (.string bytes) => bytes.length + 1
  | .lit _ => 1
  | .nil => 1
  | .ptr d => uptoBulk d + 1
  | .slice elems spare => uptoBulkAll elems + uptoBulkAll spare + 1
  | .agg parts => uptoBulkAll parts + 1
  | .iface _ d => uptoBulk d + 1
  | .map entries => uptoBulkEntries entries + 1
  | .held _ => 1
def uptoBulkAll {H : Type} : List (DataW H) → Nat
  | [] => 0
  | d :: r => uptoBulk d + uptoBulkAll r
def uptoBulkEntries {H : Type} : List (Lit × DataW H) → Nat
  | [] => 0
  | x :: r => uptoBulkEntry x + uptoBulkEntries r
def uptoBulkEntry {H : Type} : Lit × DataW H → Nat
  | (.string bytes, d) => bytes.length + uptoBulk d + 1
  | (_, d) => uptoBulk d + 1
 end
def uptoSmall : (H : Type) → List (DataW H) → Bool := fun _ ds => decide (uptoBulkAll ds ≤ 1048576)
def OpenSpec.upto (s : _root_.Go.ChangeSpec) : _root_.Go.OpenSpec := { _root_.Go.OpenSpec.ofChange s with cond := some uptoSmall }

/-- 'broughamlaw19.SchedOrders', WHERE WHAT IT READS IS OF BULK AT MOST 1048576: true; the input reads as it did. -/
def schedOrdersUptoRow : OpenClaim := { program := "ytcfeojobkpbohaa", sum := "07cdc51720734c722f8b0d7712ff356749a3eecc6a2ea651e31b63584ab69afd", func := "brougham/broughamlaw19.SchedOrders", spec := "schedOrders", unfollowed := true, recurses := true, apart := false, narrowed := true }
def SchedOrdersUptoSaid : Prop := schedOrdersUptoRow.holds Try.pinned (OpenSpec.upto schedOrdersSpec)

/-- 'broughamlaw19.SchedChooses', WHERE WHAT IT READS IS OF BULK AT MOST 1048576: true; the input reads as it did. -/
def schedChoosesUptoRow : OpenClaim := { program := "ytcfeojobkpbohaa", sum := "07cdc51720734c722f8b0d7712ff356749a3eecc6a2ea651e31b63584ab69afd", func := "brougham/broughamlaw19.SchedChooses", spec := "schedChooses", unfollowed := true, recurses := true, apart := false, narrowed := true }
def SchedChoosesUptoSaid : Prop := schedChoosesUptoRow.holds Try.pinned (OpenSpec.upto schedChoosesSpec)

/-- 'broughamlaw19.SchedFits', WHERE WHAT IT READS IS OF BULK AT MOST 1048576: true; the input reads as it did. -/
def schedFitsUptoRow : OpenClaim := { program := "ytcfeojobkpbohaa", sum := "07cdc51720734c722f8b0d7712ff356749a3eecc6a2ea651e31b63584ab69afd", func := "brougham/broughamlaw19.SchedFits", spec := "schedFits", unfollowed := true, recurses := true, apart := false, narrowed := true }
def SchedFitsUptoSaid : Prop := schedFitsUptoRow.holds Try.pinned (OpenSpec.upto schedFitsSpec)

/-- 'broughamlaw19.SchedTurns', WHERE WHAT IT READS IS OF BULK AT MOST 1048576: true; the input reads as it did. -/
def schedTurnsUptoRow : OpenClaim := { program := "ytcfeojobkpbohaa", sum := "07cdc51720734c722f8b0d7712ff356749a3eecc6a2ea651e31b63584ab69afd", func := "brougham/broughamlaw19.SchedTurns", spec := "schedTurns", unfollowed := true, recurses := true, apart := false, narrowed := true }
def SchedTurnsUptoSaid : Prop := schedTurnsUptoRow.holds Try.pinned (OpenSpec.upto schedTurnsSpec)

end Rows
end Go.Proofs.Ytcfeojobkpbohaa
