/- Layer 29: a row of calls as an argument. -/
import Derived.Test.YtpeagibompohhaaWhO
import Derived.Test.YtpeagibompohhaaOpenG
import Derived.ChangeSame
namespace Go.Proofs.Ytpeagibompohhaa
open Go.RowKit Go.ChangeShapes Go.WideShapes Go.ChangeAt
set_option linter.unusedVariables false
section
variable {H : Type} {enc : TypeId × Value → H} {w : World} {held : Bool}
def okTr (p : Tr) : Prop := (-9223372036854775808 ≤ p.1 ∧ p.1 < 9223372036854775808) ∧ (-9223372036854775808 ≤ p.2.1 ∧ p.2.1 < 9223372036854775808) ∧ (-9223372036854775808 ≤ p.2.2 ∧ p.2.2 < 9223372036854775808)
theorem opens_tr : Opens enc Try.prog w held 30 trc okTr := by
  have h := opens_struct3 (enc := enc) (w := w) (held := held) Try.underlying30 (by kernel_rfl) rfl (by kernel_rfl) (opens_i64 Try.underlying3) rfl (by kernel_rfl) (opens_i64 Try.underlying3) rfl (by kernel_rfl) (opens_i64 Try.underlying3)
  intro fuel cs x hx
  obtain ⟨p, hp, h1, h2, h3⟩ := h fuel cs x hx
  exact ⟨p, hp, h1, h2, h3⟩
theorem open_trs {A : Option Addr} {len cap : Nat} {d : DataW H} {ps : List MemPlace} (ht : Try.prog.underlying 22 = some (.slice 30))
    (h : DataW.Trod enc Try.prog w 0 (fun _ => true) held 22 (.slice A len cap) d ps) :
    ∃ l : List Tr, Rd w w.heap.size 3 A len (trs l) ∧ len ≤ cap ∧ cap ≤ maxLen ∧ ∀ p ∈ l, okTr p := by
  obtain ⟨l, h1, h2, h3, _, h5⟩ := open_slices ht (by rw [show Try.prog.cellsOf 30 = 3 by kernel_rfl]; omega) opens_tr h
  rw [show Try.prog.cellsOf 30 = 3 by kernel_rfl] at h1
  exact ⟨l, h1, h2, h3, h5⟩
end
end Go.Proofs.Ytpeagibompohhaa
