/- Options as an argument. -/
import Derived.Test.YtiabafnfiedlcaaOpenSg
namespace Go.Proofs.Ytiabafnfiedlcaa
open Go.RowKit Go.ChangeShapes Go.WideShapes Go.ChangeAt
set_option linter.unusedVariables false
theorem open_opts {H : Type} {enc : TypeId × Value → H} {w : World} {held : Bool} {A : Option Addr} {len cap : Nat} {d : DataW H} {ps : List MemPlace} (ht : Try.prog.underlying 53 = some (.slice 74))
    (h : DataW.Trod enc Try.prog w 0 (fun _ => true) held 53 (.slice A len cap) d ps) :
    ∃ l : List Ob, Rd w w.heap.size 2 A len (ocs l) ∧ len ≤ cap ∧ cap ≤ maxLen ∧ ∀ p ∈ l, p.1 < 256 ∧ Body.ok w p.2 := by
  obtain ⟨l, h1, h2, h3, _, h5⟩ := open_slices ht (by rw [show Try.prog.cellsOf 74 = 2 by kernel_rfl]; omega) opens_option h
  rw [show Try.prog.cellsOf 74 = 2 by kernel_rfl] at h1
  exact ⟨l, h1, h2, h3, h5⟩
end Go.Proofs.Ytiabafnfiedlcaa
