/- Layer 17: OutletPlays, its arguments as they are opened. -/
import Derived.Test.YtmkjclgdiikjdaaLawOtP
import Derived.Test.YtmkjclgdiikjdaaOpen
import Derived.Test.YtmkjclgdiikjdaaOpenG
import Derived.ChangeSame
namespace Go.Proofs.Ytmkjclgdiikjdaa
open Go.RowKit Go.ChangeShapes Go.WideShapes Go.ChangeAt
set_option linter.unusedVariables false
set_option linter.unusedSimpArgs false
section
variable {H : Type} {enc : TypeId × Value → H} {w : World} {held : Bool}
theorem opens_otop : Opens enc Try.prog w held 37 OtOp.el (OtOp.ok w) := by
  have h := opens_struct4 (enc := enc) (w := w) (held := held) Try.underlying37 (by kernel_rfl) rfl (by kernel_rfl) (opens_i64 Try.underlying3) rfl (by kernel_rfl) (opens_i64 Try.underlying3) rfl (by kernel_rfl) (opens_u64 Try.underlying22) rfl (by kernel_rfl) (opens_bytes Try.underlying29 Try.underlying5 (by kernel_rfl))
  intro fuel cs x hx
  obtain ⟨⟨k, nn, to, ⟨A, m, c, l⟩⟩, hp, h1, h2, h3, h4⟩ := h fuel cs x hx
  exact ⟨⟨k, nn, to, A, m, c, l⟩, hp, ⟨h1, h2, h3, h4.1, h4.2.1, h4.2.2.1, h4.2.2.2⟩⟩
theorem open_otops {A : Option Addr} {len cap : Nat} {d : DataW H} {ps : List MemPlace} (ht : Try.prog.underlying 23 = some (.slice 37))
    (h : DataW.Trod enc Try.prog w 0 (fun _ => true) held 23 (.slice A len cap) d ps) :
    ∃ l : List OtOp, Rd w w.heap.size 4 A len (otcs l) ∧ len ≤ cap ∧ cap ≤ maxLen ∧ ∀ o ∈ l, o.ok w := by
  obtain ⟨l, h1, h2, h3, _, h5⟩ := open_slices ht (by rw [show Try.prog.cellsOf 37 = 4 by kernel_rfl]; omega) opens_otop h
  rw [show Try.prog.cellsOf 37 = 4 by kernel_rfl] at h1
  exact ⟨l, h1, h2, h3, h5⟩
end
theorem outletPlays_any (size base : Int) (A : Option Addr) (n c : Nat) (l : List OtOp) (w : World) (hs : (Lit.int .i64 size).wf = true) (hb : (Lit.int .u64 base).wf = true) (hr : Rd w w.heap.size 4 A n (otcs l)) (hnc : n ≤ c) (hc : c ≤ maxLen) (hl : ∀ q ∈ l, q.ok w) :
    Calls Try.prog 3 #[.int .i64 size, .int .u64 base, .slice A n c] w fun e w' => e = .returned (.bool true) ∧ Below w.heap.size w w' := by
  have h2 : 0 ≤ base ∧ base < 18446744073709551616 := by have := bounds_u64 hb; omega
  obtain ⟨m, rfl⟩ : ∃ m : Nat, base = (m : Int) := ⟨base.toNat, by omega⟩
  exact outletPlays_walk size m A n c l w (by omega) hr hl
end Go.Proofs.Ytmkjclgdiikjdaa
