/- Layer 13: rows of operations as arguments. -/
import Derived.Test.YtpjfheojlcahgaaLawCwP
import Derived.Test.YtpjfheojlcahgaaOpenCw
import Derived.ChangeSame
namespace Go.Proofs.Ytpjfheojlcahgaa
open Go.RowKit Go.ChangeShapes Go.WideShapes Go.ChangeAt
set_option linter.unusedVariables false
set_option linter.unusedSimpArgs false
section
variable {H : Type} {enc : TypeId × Value → H} {w : World} {held : Bool}
structure PBd where
  A : Option Addr
  m : Nat
  c : Nat
  l : List (Int × Int)
def PBd.el (o : PBd) : List Value := [.slice o.A o.m o.c]
structure PBd.ok (w : World) (o : PBd) : Prop where
  rd : Rd w w.heap.size 2 o.A o.m (pz o.l)
  mc : o.m ≤ o.c
  cm : o.c ≤ maxLen
  l : ∀ p ∈ o.l, I64 p.1 ∧ I64 p.2
theorem opens_pbd : Opens enc Try.prog w held 22 PBd.el (PBd.ok w) := by
  intro fuel cs x h
  obtain ⟨A, n, c, l, rfl, h1, h2, h3, h4, h5⟩ := opens_slice Try.underlying22 (by rw [show Try.prog.cellsOf 45 = 2 by kernel_rfl]; omega) (opens_path (enc := enc) (w := w) (held := held)) h
  rw [show Try.prog.cellsOf 45 = 2 by kernel_rfl] at h2
  exact ⟨⟨A, n, c, l⟩, rfl, ⟨h2, h3, h4, h5⟩⟩
theorem opens_cwop : Opens enc Try.prog w held 36 CwOp.el (CwOp.ok w) := by
  have h := opens_struct3 (enc := enc) (w := w) (held := held) Try.underlying36 (by kernel_rfl) rfl (by kernel_rfl) (opens_i64 Try.underlying3) rfl (by kernel_rfl) (opens_i64 Try.underlying3) rfl (by kernel_rfl) opens_pbd
  intro fuel cs x hx
  obtain ⟨⟨k, n, ⟨A, m, c, l⟩⟩, hp, h1, h2, h3⟩ := h fuel cs x hx
  exact ⟨⟨k, n, A, m, c, l⟩, hp, ⟨h1, h2, h3.rd, h3.mc, h3.cm, h3.l⟩⟩
theorem open_cwops {A : Option Addr} {len cap : Nat} {d : DataW H} {ps : List MemPlace} (ht : Try.prog.underlying 29 = some (.slice 36))
    (h : DataW.Trod enc Try.prog w 0 (fun _ => true) held 29 (.slice A len cap) d ps) :
    ∃ l : List CwOp, Rd w w.heap.size 3 A len (cwops l) ∧ len ≤ cap ∧ cap ≤ maxLen ∧ ∀ o ∈ l, o.ok w := by
  obtain ⟨l, h1, h2, h3, _, h5⟩ := open_slices ht (by rw [show Try.prog.cellsOf 36 = 3 by kernel_rfl]; omega) opens_cwop h
  rw [show Try.prog.cellsOf 36 = 3 by kernel_rfl] at h1
  exact ⟨l, h1, h2, h3, h5⟩
end
theorem cwndPlays_any (a : Int) (A : Option Addr) (n c : Nat) (l : List CwOp) (w : World) (ha : (Lit.int .i64 a).wf = true) (h : Rd w w.heap.size 3 A n (cwops l)) (hnc : n ≤ c) (hmax : c ≤ maxLen) (hl : ∀ o ∈ l, o.ok w) :
    Calls Try.prog 4 #[.int .i64 a, .slice A n c] w fun e w' => e = .returned (.bool true) ∧ Below w.heap.size w w' := cwndPlays_walk a A n c l w ha h hnc hmax hl
end Go.Proofs.Ytpjfheojlcahgaa
