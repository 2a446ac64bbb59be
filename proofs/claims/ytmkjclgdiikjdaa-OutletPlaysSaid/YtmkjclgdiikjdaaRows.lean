/-
  No cell of these rows narrows 'for every input' (looked for: loops, veiled, ifaces, maps, wideKeys, modest, calm, conditions, laid).
  DERIVED. THE GIVEN ROWS OF THIS SEAT. 3 by the template 'for every input the law returns true; each argument reads behind the call as it read before'; 0 by the template 'total and deterministic' (their statements: YtmkjclgdiikjdaaTotals.lean).
  GIVEN WITH THE SEED: the statements are not yours to turn. If you find one false, say at which input.
  Laid BY PROGRAM, IN A SANDBOX (cutbox-rows.mjs): the forced cells as the released guide's own fill.sh prints them over the translation e12112f35265b8f6… (all of the seat's roots in one cut). By AI agents, Wed Nov 11 2026. No macro, syntax, notation, axiom, sorry.
-/
import Derived.Test.YtmkjclgdiikjdaaChecked
import GoSem.Claim
import GoSem.ClaimJoined
import GoSem.ClaimMapViews
import Derived.JoinedTies
import Derived.KernelRfl
namespace Go.Proofs.Ytmkjclgdiikjdaa
/- THE CELL 'sum', in the pinned program and in every row, IS THE sha256 OF THE DUMP (.gsa) THAT YtmkjclgdiikjdaaProg.lean LOADS. Nothing in Lean hashes anything: it is a label: what it is worth is what the hold of that sum in a sandbox is worth. -/
noncomputable def Try.pinned : Pinned := { name := "ytmkjclgdiikjdaa", sum := "e12112f35265b8f6607b4ab8d29138b4084721e9013d9164acf2836a6e7999e7", checked := Try.checked }
namespace Rows
def none {H : Type} : Left H := { results := [], args := [] }

/-- 'broughamlaw17.OutletPlays': WHATEVER THE INPUT: true; the input reads as it did. -/
def outletPlaysSpec : ChangeSpec := { name := "outletPlays", fn := fun _ => fun
  | [d1, d2, d3] => { results := [.lit (.bool true)], args := [d1, d2, d3] }
  | _ => none }
def outletPlaysRow : OpenClaim := { program := "ytmkjclgdiikjdaa", sum := "e12112f35265b8f6607b4ab8d29138b4084721e9013d9164acf2836a6e7999e7", func := "brougham/broughamlaw17.OutletPlays", spec := "outletPlays", apart := false }
def OutletPlaysSaid : Prop := outletPlaysRow.holds Try.pinned (OpenSpec.ofChange outletPlaysSpec)

/-- ITS FALSE NEIGHBOUR: 'it returns false'. Refute it at one input. -/
def outletPlaysWrong : ChangeSpec := { name := "outletPlays", fn := fun _ => fun
  | [d1, d2, d3] => { results := [.lit (.bool false)], args := [d1, d2, d3] }
  | _ => none }
def OutletPlaysWrongFalsely : Prop := outletPlaysRow.holds Try.pinned (OpenSpec.ofChange outletPlaysWrong)

/-- 'broughamlaw17.OutletOrder': WHATEVER THE INPUT: true; the input reads as it did. -/
def outletOrderSpec : ChangeSpec := { name := "outletOrder", fn := fun _ => fun
  | [d1, d2, d3] => { results := [.lit (.bool true)], args := [d1, d2, d3] }
  | _ => none }
def outletOrderRow : OpenClaim := { program := "ytmkjclgdiikjdaa", sum := "e12112f35265b8f6607b4ab8d29138b4084721e9013d9164acf2836a6e7999e7", func := "brougham/broughamlaw17.OutletOrder", spec := "outletOrder", apart := false }
def OutletOrderSaid : Prop := outletOrderRow.holds Try.pinned (OpenSpec.ofChange outletOrderSpec)

/-- ITS FALSE NEIGHBOUR: 'it returns false'. Refute it at one input. -/
def outletOrderWrong : ChangeSpec := { name := "outletOrder", fn := fun _ => fun
  | [d1, d2, d3] => { results := [.lit (.bool false)], args := [d1, d2, d3] }
  | _ => none }
def OutletOrderWrongFalsely : Prop := outletOrderRow.holds Try.pinned (OpenSpec.ofChange outletOrderWrong)

/-- 'broughamlaw17.OutletDone': WHATEVER THE INPUT: true; the input reads as it did. -/
def outletDoneSpec : ChangeSpec := { name := "outletDone", fn := fun _ => fun
  | [d1, d2, d3] => { results := [.lit (.bool true)], args := [d1, d2, d3] }
  | _ => none }
def outletDoneRow : OpenClaim := { program := "ytmkjclgdiikjdaa", sum := "e12112f35265b8f6607b4ab8d29138b4084721e9013d9164acf2836a6e7999e7", func := "brougham/broughamlaw17.OutletDone", spec := "outletDone", apart := false }
def OutletDoneSaid : Prop := outletDoneRow.holds Try.pinned (OpenSpec.ofChange outletDoneSpec)

/-- ITS FALSE NEIGHBOUR: 'it returns false'. Refute it at one input. -/
def outletDoneWrong : ChangeSpec := { name := "outletDone", fn := fun _ => fun
  | [d1, d2, d3] => { results := [.lit (.bool false)], args := [d1, d2, d3] }
  | _ => none }
def OutletDoneWrongFalsely : Prop := outletDoneRow.holds Try.pinned (OpenSpec.ofChange outletDoneWrong)

/- THE SECOND FORM. 'bulk': how many values and letters a reading holds, each counted each time it is reached (what is shared counts as often as it is met; a slice's spare places count too). A statement '..UptoSaid' is the law's where the arguments, and the package variables that the reading takes, are together of bulk at most 1048576: NARROWER than '..Said'. Prove '..Said' where nothing that the law and all that it calls make is longer than what came in: it says more and counts as full. Else prove '..UptoSaid'. A law counts once. -/
mutual
def uptoBulk {H : Type} : DataW H → Nat
  | .lit (.string bytes) => bytes.length + 1
  | .lit _ => 1
  | .nil => 1
  | .ptr d => uptoBulk d + 1
  | .slice elems spare => uptoBulkAll elems + uptoBulkAll spare + 1
  | .agg parts => uptoBulkAll parts + 1
  | .iface _ d => uptoBulk d + 1
  | .map entries => uptoBulkEntries entries + 1
  | .held _ => 1
def uptoBulkAll {H : Type} : List (DataW H) → Nat
  | [] => 0
  | d :: r => uptoBulk d + uptoBulkAll r
def uptoBulkEntries {H : Type} : List (Lit × DataW H) → Nat
  | [] => 0
  | x :: r => uptoBulkEntry x + uptoBulkEntries r
def uptoBulkEntry {H : Type} : Lit × DataW H → Nat
  | (.string bytes, d) => bytes.length + uptoBulk d + 1
  | (_, d) => uptoBulk d + 1
 end
def uptoSmall : (H : Type) → List (DataW H) → Bool := fun _ ds => decide (uptoBulkAll ds ≤ 1048576)
def OpenSpec.upto (s : _root_.Go.ChangeSpec) : _root_.Go.OpenSpec := { _root_.Go.OpenSpec.ofChange s with cond := some uptoSmall }

/-- 'broughamlaw17.OutletPlays', WHERE WHAT IT READS IS OF BULK AT MOST 1048576: true; the input reads as it did. -/
def outletPlaysUptoRow : OpenClaim := { program := "ytmkjclgdiikjdaa", sum := "e12112f35265b8f6607b4ab8d29138b4084721e9013d9164acf2836a6e7999e7", func := "brougham/broughamlaw17.OutletPlays", spec := "outletPlays", apart := false, narrowed := true }
def OutletPlaysUptoSaid : Prop := outletPlaysUptoRow.holds Try.pinned (OpenSpec.upto outletPlaysSpec)

/-- 'broughamlaw17.OutletOrder', WHERE WHAT IT READS IS OF BULK AT MOST 1048576: true; the input reads as it did. -/
def outletOrderUptoRow : OpenClaim := { program := "ytmkjclgdiikjdaa", sum := "e12112f35265b8f6607b4ab8d29138b4084721e9013d9164acf2836a6e7999e7", func := "brougham/broughamlaw17.OutletOrder", spec := "outletOrder", apart := false, narrowed := true }
def OutletOrderUptoSaid : Prop := outletOrderUptoRow.holds Try.pinned (OpenSpec.upto outletOrderSpec)

/-- 'broughamlaw17.OutletDone', WHERE WHAT IT READS IS OF BULK AT MOST 1048576: true; the input reads as it did. -/
def outletDoneUptoRow : OpenClaim := { program := "ytmkjclgdiikjdaa", sum := "e12112f35265b8f6607b4ab8d29138b4084721e9013d9164acf2836a6e7999e7", func := "brougham/broughamlaw17.OutletDone", spec := "outletDone", apart := false, narrowed := true }
def OutletDoneUptoSaid : Prop := outletDoneUptoRow.holds Try.pinned (OpenSpec.upto outletDoneSpec)

end Rows
end Go.Proofs.Ytmkjclgdiikjdaa
