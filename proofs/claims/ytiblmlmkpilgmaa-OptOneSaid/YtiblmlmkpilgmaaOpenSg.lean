/- A segment as an argument. -/
import Derived.Test.YtiblmlmkpilgmaaOpenG
import Derived.Test.YtiblmlmkpilgmaaSg1
import Derived.Test.YtiblmlmkpilgmaaRows
import Derived.ChangeSame
namespace Go.Proofs.Ytiblmlmkpilgmaa
open Go.RowKit Go.ChangeShapes Go.WideShapes Go.ChangeAt
set_option linter.unusedVariables false
section
variable {H : Type} {enc : TypeId × Value → H} {w : World} {held : Bool}
theorem opens_option : Opens enc Try.prog w held 39 oel (fun p : Ob => p.1 < 256 ∧ Body.ok w p.2) := by
  have h := opens_struct2 (enc := enc) (w := w) (held := held) Try.underlying39 (by kernel_rfl) rfl (by kernel_rfl) (opens_u8 Try.underlying5) rfl (by kernel_rfl) (opens_bytes Try.underlying37 Try.underlying5 (by kernel_rfl))
  intro fuel cs x hx
  obtain ⟨p, hp, h1, h2⟩ := h fuel cs x hx
  exact ⟨p, hp, h1, h2⟩
theorem opens_opts : Opens enc Try.prog w held 76 (fun q : Option Addr × Nat × Nat × List Ob => [.slice q.1 q.2.1 q.2.2.1]) (fun q => Os w q.1 q.2.1 q.2.2.1 q.2.2.2 ∧ ∀ p ∈ q.2.2.2, p.1 < 256 ∧ ∀ x ∈ p.2.l, x < 256) := by
  intro fuel cs x h
  obtain ⟨A, n, c, l, e, h1, h2, h3, h4, h5⟩ := opens_slice Try.underlying76 (by rw [show Try.prog.cellsOf 39 = 2 by kernel_rfl]; omega) opens_option h
  rw [show Try.prog.cellsOf 39 = 2 by kernel_rfl] at h2
  exact ⟨(A, n, c, l), e, ⟨h2, fun p hp => ⟨(h5 p hp).2.1, (h5 p hp).2.2.1, (h5 p hp).2.2.2.1⟩, h3, h4⟩, fun p hp => ⟨(h5 p hp).1, (h5 p hp).2.2.2.2⟩⟩
theorem open_seg {cs : Array Value} {d : DataW H} {ps : List MemPlace} (h : DataW.Trod enc Try.prog w 0 (fun _ => true) held 78 (.agg cs) d ps) :
    ∃ q : Array Value × Sg, cs = q.1 ∧ SegV w (.agg q.1) q.2 ∧ q.2.bd := by
  obtain ⟨p, h1, k0, k1, k2, k3, k4, ⟨k5, k5'⟩, k6⟩ := open_agg (opens_struct7 (enc := enc) (w := w) (held := held) Try.underlying78 (by kernel_rfl) rfl (by kernel_rfl) (opens_u16 Try.underlying75) rfl (by kernel_rfl) (opens_u16 Try.underlying75) rfl (by kernel_rfl) (opens_u32 Try.underlying27) rfl (by kernel_rfl) (opens_u32 Try.underlying27) rfl (by kernel_rfl) (opens_u8 Try.underlying5) rfl (by kernel_rfl) opens_opts rfl (by kernel_rfl) (opens_bytes Try.underlying37 Try.underlying5 (by kernel_rfl))) h
  obtain ⟨src, dst, seq, ack, flags, ⟨A, n, c, l⟩, D⟩ := p
  obtain ⟨k6, k7, k8, k9⟩ := k6
  refine ⟨(cs, ⟨src, dst, seq, ack, flags, osay l, D.l⟩), rfl, ⟨A, n, c, D.A, D.n, D.c, l, ?_, k5, rfl, k6, k7, k8⟩, ⟨k0, k1, k2, k3, k4, ?_, ?_, k9⟩⟩
  · have e : cs = (segCs ⟨src, dst, seq, ack, flags, osay l, D.l⟩ A n c D.A D.n D.c) := by
      rw [← Array.toArray_toList (xs := cs), h1]
      rfl
    rw [e]
  · intro q hq
    obtain ⟨p, hp, rfl⟩ := List.mem_map.1 hq
    exact (k5' p hp).1
  · intro q hq
    obtain ⟨p, hp, rfl⟩ := List.mem_map.1 hq
    exact (k5' p hp).2
end
end Go.Proofs.Ytiblmlmkpilgmaa
