/- Layer 31: a row of what came as an argument; SackPlays. -/
import Derived.Test.YtohehnlbknaflaaG49SackPlays
import Derived.Test.YtohehnlbknaflaaG50SackPlays
import Derived.ChangeSame

namespace Go.Proofs.Ytohehnlbknaflaa
open Go.RowKit Go.ChangeShapes Go.WideShapes Go.ChangeAt
set_option linter.unusedVariables false
section
variable {H : Type} {enc : TypeId × Value → H} {w : World} {held : Bool}
theorem opens_came : Opens enc Try.prog w held 52 cmel (fun p => p.1 < 4294967296 ∧ -9223372036854775808 ≤ p.2 ∧ p.2 < 9223372036854775808) := by
  have h := opens_struct2 (enc := enc) (w := w) (held := held) Try.underlying52 (by kernel_rfl) rfl (by kernel_rfl) (opens_u32 Try.underlying22) rfl (by kernel_rfl) (opens_i64 Try.underlying3)
  intro fuel cs x hx
  obtain ⟨p, hp, h1, h2⟩ := h fuel cs x hx
  exact ⟨p, hp, h1, h2⟩
theorem open_cames {A : Option Addr} {len cap : Nat} {d : DataW H} {ps : List MemPlace} (ht : Try.prog.underlying 43 = some (.slice 52))
    (h : DataW.Trod enc Try.prog w 0 (fun _ => true) held 43 (.slice A len cap) d ps) :
    ∃ l : List (Nat × Int), Rd w w.heap.size 2 A len (cms l) ∧ len ≤ cap ∧ cap ≤ maxLen ∧ ∀ p ∈ l, p.1 < 4294967296 ∧ -9223372036854775808 ≤ p.2 ∧ p.2 < 9223372036854775808 := by
  obtain ⟨l, h1, h2, h3, _, h5⟩ := open_slices ht (by rw [show Try.prog.cellsOf 52 = 2 by kernel_rfl]; omega) opens_came h
  rw [show Try.prog.cellsOf 52 = 2 by kernel_rfl] at h1
  exact ⟨l, h1, h2, h3, h5⟩
end
theorem sackPlays_any (W m : Int) (A : Option Addr) (n c : Nat) (l : List (Nat × Int)) (w : World) (hW : (Lit.int .u32 W).wf = true) (hm : (Lit.int .i64 m).wf = true) (h : Rd w w.heap.size 2 A n (cms l)) (hnc : n ≤ c) (hmax : c ≤ maxLen) (hb : ∀ p ∈ l, p.1 < 4294967296 ∧ -9223372036854775808 ≤ p.2 ∧ p.2 < 9223372036854775808) :
    Calls Try.prog 5 #[.int .u32 W, .int .i64 m, .slice A n c] w fun e w' => e = .returned (.bool true) ∧ Below w.heap.size w w' :=
  sackPlays_walk W m A n c l w (by have := bounds_u32 hW; unfold U32; omega) (by have := bounds_i64 hm; omega) h hb
end Go.Proofs.Ytohehnlbknaflaa
