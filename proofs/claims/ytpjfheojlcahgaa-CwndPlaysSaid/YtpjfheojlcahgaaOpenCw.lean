/- Layer 13: rows of paths as arguments. -/
import Derived.Test.YtpjfheojlcahgaaLawCwA
import Derived.Test.YtpjfheojlcahgaaOpenG
import Derived.ChangeSame
namespace Go.Proofs.Ytpjfheojlcahgaa
open Go.RowKit Go.ChangeShapes Go.WideShapes Go.ChangeAt
set_option linter.unusedVariables false
set_option linter.unusedSimpArgs false
section
variable {H : Type} {enc : TypeId × Value → H} {w : World} {held : Bool}
theorem opens_path : Opens enc Try.prog w held 45 pzel (fun p => I64 p.1 ∧ I64 p.2) := by
  have h := opens_struct2 (enc := enc) (w := w) (held := held) Try.underlying45 (by kernel_rfl) rfl (by kernel_rfl) (opens_i64 Try.underlying3) rfl (by kernel_rfl) (opens_i64 Try.underlying3)
  intro fuel cs x hx
  obtain ⟨p, hp, h1, h2⟩ := h fuel cs x hx
  exact ⟨p, hp, h1, h2⟩
theorem open_paths {A : Option Addr} {len cap : Nat} {d : DataW H} {ps : List MemPlace} (ht : Try.prog.underlying 22 = some (.slice 45))
    (h : DataW.Trod enc Try.prog w 0 (fun _ => true) held 22 (.slice A len cap) d ps) :
    ∃ l : List (Int × Int), Rd w w.heap.size 2 A len (pz l) ∧ len ≤ cap ∧ cap ≤ maxLen ∧ ∀ p ∈ l, I64 p.1 ∧ I64 p.2 := by
  obtain ⟨l, h1, h2, h3, _, h5⟩ := open_slices ht (by rw [show Try.prog.cellsOf 45 = 2 by kernel_rfl]; omega) opens_path h
  rw [show Try.prog.cellsOf 45 = 2 by kernel_rfl] at h1
  exact ⟨l, h1, h2, h3, h5⟩
end
end Go.Proofs.Ytpjfheojlcahgaa
