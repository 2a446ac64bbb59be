/- Layer 39: rows of operations as arguments. -/
import Derived.Test.YtonindjpbegdgaaLawQuB
import Derived.Test.YtonindjpbegdgaaOpenG
import Derived.ChangeSame
namespace Go.Proofs.Ytonindjpbegdgaa
open Go.RowKit Go.ChangeShapes Go.WideShapes Go.ChangeAt
set_option linter.unusedVariables false
set_option linter.unusedSimpArgs false
def Op4.ok (p : Op4) : Prop := I64 p.k ∧ I64 p.a ∧ I64 p.b ∧ I64 p.n
section
variable {H : Type} {enc : TypeId × Value → H} {w : World} {held : Bool}
theorem opens_op4 : Opens enc Try.prog w held 30 Op4.el Op4.ok := by
  have i := opens_i64 (enc := enc) (w := w) (held := held) Try.underlying3
  have h := opens_struct4 (enc := enc) (w := w) (held := held) Try.underlying30 (by kernel_rfl) rfl (by kernel_rfl) i rfl (by kernel_rfl) i rfl (by kernel_rfl) i rfl (by kernel_rfl) i
  intro fuel cs x hx
  obtain ⟨⟨a, b, c, d⟩, hp, h1, h2, h3, h4⟩ := h fuel cs x hx
  exact ⟨⟨a, b, c, d⟩, hp, h1, h2, h3, h4⟩
theorem open_ops {A : Option Addr} {len cap : Nat} {d : DataW H} {ps : List MemPlace} (ht : Try.prog.underlying 22 = some (.slice 30))
    (h : DataW.Trod enc Try.prog w 0 (fun _ => true) held 22 (.slice A len cap) d ps) :
    ∃ l : List Op4, Rd w w.heap.size 4 A len (op4s l) ∧ len ≤ cap ∧ cap ≤ maxLen ∧ ∀ p ∈ l, p.ok := by
  obtain ⟨l, h1, h2, h3, _, h5⟩ := open_slices ht (by rw [show Try.prog.cellsOf 30 = 4 by kernel_rfl]; omega) opens_op4 h
  rw [show Try.prog.cellsOf 30 = 4 by kernel_rfl] at h1
  exact ⟨l, h1, h2, h3, h5⟩
structure Ob4 where
  A : Option Addr
  n : Nat
  c : Nat
  l : List Op4
def Ob4.el (o : Ob4) : List Value := [.slice o.A o.n o.c]
structure Ob4.ok (w : World) (o : Ob4) : Prop where
  rd : Rd w w.heap.size 4 o.A o.n (op4s o.l)
  nc : o.n ≤ o.c
  cm : o.c ≤ maxLen
  l : ∀ p ∈ o.l, p.ok
theorem opens_ob4 : Opens enc Try.prog w held 22 Ob4.el (Ob4.ok w) := by
  intro fuel cs x h
  obtain ⟨A, n, c, l, rfl, h1, h2, h3, h4, h5⟩ := opens_slice Try.underlying22 (by rw [show Try.prog.cellsOf 30 = 4 by kernel_rfl]; omega) (opens_op4 (enc := enc) (w := w) (held := held)) h
  rw [show Try.prog.cellsOf 30 = 4 by kernel_rfl] at h2
  exact ⟨⟨A, n, c, l⟩, rfl, ⟨h2, h3, h4, h5⟩⟩
structure Own5 where
  m : Int
  o : Ob4
theorem open_owners {cs : Array Value} {d : DataW H} {ps : List MemPlace} (h : DataW.Trod enc Try.prog w 0 (fun _ => true) held 46 (.agg cs) d ps) :
    ∃ q : Own5, cs = #[.int .i64 q.m, .slice q.o.A q.o.n q.o.c] ∧ I64 q.m ∧ q.o.ok w := by
  obtain ⟨p, h1, k0, k1⟩ := open_agg (opens_struct2 (enc := enc) (w := w) (held := held) Try.underlying46 (by kernel_rfl) rfl (by kernel_rfl) (opens_i64 Try.underlying3) rfl (by kernel_rfl) opens_ob4) h
  obtain ⟨m, o⟩ := p
  refine ⟨⟨m, o⟩, ?_, k0, k1⟩
  rw [← Array.toArray_toList (xs := cs), h1]
  rfl
end
theorem quotaBounds_any (a b : Int) (q : Own5) (w : World) (ha : (Lit.int .i64 a).wf = true) (hb : (Lit.int .i64 b).wf = true) (hq : I64 q.m ∧ q.o.ok w) :
    Calls Try.prog 4 #[.int .i64 a, .int .i64 b, .agg #[.int .i64 q.m, .slice q.o.A q.o.n q.o.c]] w fun e w' => e = .returned (.bool true) ∧ Below w.heap.size w w' :=
  quotaBounds_walk a b q.m q.o.A q.o.n q.o.c q.o.l w ha hb hq.1 hq.2.rd hq.2.nc hq.2.cm hq.2.l
end Go.Proofs.Ytonindjpbegdgaa
