/- Layer 34: records in a world, and as an argument. -/
import Derived.Test.YtcgcglngjfijnaaOpenG
import Derived.Test.YtcgcglngjfijnaaSz2
import Derived.Test.YtcgcglngjfijnaaRows
import Derived.ChangeSame
namespace Go.Proofs.Ytcgcglngjfijnaa
open Go.RowKit Go.ChangeShapes Go.WideShapes Go.ChangeAt
set_option linter.unusedVariables false
/-- A record: tick, host, path, bytes. -/
abbrev Rcd := Int × Int × Int × List Nat
abbrev Rb := Int × Int × Int × Body
def rbel (p : Rb) : List Value := [.int .i64 p.1, .int .i64 p.2.1, .int .i64 p.2.2.1, .slice p.2.2.2.A p.2.2.2.n p.2.2.2.c]
def rbcs (l : List Rb) : List Value := l.flatMap rbel
def rsay (l : List Rb) : List Rcd := l.map fun p => (p.1, p.2.1, p.2.2.1, p.2.2.2.l)
def i64ok (x : Int) : Prop := -9223372036854775808 ≤ x ∧ x < 9223372036854775808
theorem rbcs_cons (p : Rb) (l : List Rb) : rbcs (p :: l) = .int .i64 p.1 :: .int .i64 p.2.1 :: .int .i64 p.2.2.1 :: .slice p.2.2.2.A p.2.2.2.n p.2.2.2.c :: rbcs l := rfl
theorem rbcs_append (l m : List Rb) : rbcs (l ++ m) = rbcs l ++ rbcs m := by simp [rbcs]
theorem rbcs_len (l : List Rb) : (rbcs l).length = l.length * 4 := by
  induction l with
  | nil => rfl
  | cons p l ih => rw [rbcs_cons, List.length_cons, List.length_cons, List.length_cons, List.length_cons, ih, List.length_cons]; omega
theorem rbcs_get {l : List Rb} {i : Nat} {p : Rb} (h : l[i]? = some p) : (rbcs l)[i * 4]? = some (.int .i64 p.1) ∧ (rbcs l)[i * 4 + 1]? = some (.int .i64 p.2.1) ∧ (rbcs l)[i * 4 + 2]? = some (.int .i64 p.2.2.1) ∧ (rbcs l)[i * 4 + 3]? = some (.slice p.2.2.2.A p.2.2.2.n p.2.2.2.c) := by
  induction l generalizing i with
  | nil => simp at h
  | cons q l ih =>
    cases i with
    | zero => simp at h; subst h; exact ⟨rfl, rfl, rfl, rfl⟩
    | succ i =>
      have e0 : (i + 1) * 4 = i * 4 + 1 + 1 + 1 + 1 := by omega
      have e1 : (i + 1) * 4 + 1 = i * 4 + 1 + 1 + 1 + 1 + 1 := by omega
      have e2 : (i + 1) * 4 + 2 = i * 4 + 2 + 1 + 1 + 1 + 1 := by omega
      have e3 : (i + 1) * 4 + 3 = i * 4 + 3 + 1 + 1 + 1 + 1 := by omega
      rw [rbcs_cons, e1, e2, e3, e0]
      simp only [List.getElem?_cons_succ]
      exact ih (by simpa using h)
theorem rbcs_one (l : List Rb) : ∀ v ∈ rbcs l, v.oneCell' = true := by
  intro v hv
  simp only [rbcs, rbel, List.mem_flatMap] at hv
  obtain ⟨p, _, hv⟩ := hv
  simp at hv
  rcases hv with rfl | rfl | rfl | rfl <;> rfl
/-- Records that can be read in a world. -/
structure Rs (w : World) (A : Option Addr) (n c : Nat) (l : List Rb) : Prop where
  row : Rd w w.heap.size 4 A n (rbcs l)
  bod : ∀ p ∈ l, Rd w w.heap.size 1 p.2.2.2.A p.2.2.2.n (ns .u8 p.2.2.2.l) ∧ p.2.2.2.n ≤ p.2.2.2.c ∧ p.2.2.2.c ≤ maxLen
  bds : ∀ p ∈ l, i64ok p.1 ∧ i64ok p.2.1 ∧ i64ok p.2.2.1 ∧ ∀ x ∈ p.2.2.2.l, x < 256
  cap : n ≤ c ∧ c ≤ maxLen
theorem Rs.nil (w : World) : Rs w none 0 0 [] := ⟨Rd.nil _ _ _ _, by simp, by simp, Nat.le_refl _, Nat.zero_le _⟩
theorem Rs.into {w w' : World} {A : Option Addr} {n c : Nat} {l : List Rb} (h : Rs w A n c l) (hb : Below w.heap.size w w') : Rs w' A n c l :=
  ⟨h.row.into hb, fun p hp => ⟨(h.bod p hp).1.into hb, (h.bod p hp).2⟩, h.bds, h.cap⟩
theorem Rs.len {w : World} {A : Option Addr} {n c : Nat} {l : List Rb} (h : Rs w A n c l) : l.length = n := by have := h.row.1; rw [rbcs_len] at this; omega
/-- A record, by a name of its own. -/
theorem Rs.at_ {w : World} {A : Option Addr} {n c : Nat} {l : List Rb} (h : Rs w A n c l) {i : Nat} (hi : i < n) :
    ∃ (b off : Nat) (t s p : Int) (q : Body), A = some ⟨b, off, none⟩ ∧ b < w.heap.size ∧ w.cell? ⟨b, off + i * 4, none⟩ = some (.int .i64 t) ∧ w.cell? ⟨b, off + i * 4 + 1, none⟩ = some (.int .i64 s) ∧ w.cell? ⟨b, off + i * 4 + 2, none⟩ = some (.int .i64 p) ∧ w.cell? ⟨b, off + i * 4 + 3, none⟩ = some (.slice q.A q.n q.c) ∧ Hid (l[i]? = some (t, s, p, q)) ∧ Hid (Rd w w.heap.size 1 q.A q.n (ns .u8 q.l)) ∧ Hid (q.l.length = q.n) ∧ Hid (i64ok t ∧ i64ok s ∧ i64ok p) := by
  obtain ⟨b, off, e, hb, hc⟩ := h.row.2 (by omega)
  have hl := h.len
  have hg : l[i]? = some (l[i]'(by omega)) := List.getElem?_eq_getElem (by omega)
  have hm : l[i]'(by omega) ∈ l := List.getElem_mem _
  obtain ⟨g0, g1, g2, g3⟩ := rbcs_get hg
  have hbd := h.bod _ hm
  have hbs := h.bds _ hm
  refine ⟨b, off, (l[i]'(by omega)).1, (l[i]'(by omega)).2.1, (l[i]'(by omega)).2.2.1, (l[i]'(by omega)).2.2.2, e, hb, ?_, ?_, ?_, ?_, Lib.hid hg, Lib.hid hbd.1, Lib.hid hbd.1.natLen, Lib.hid ⟨hbs.1, hbs.2.1, hbs.2.2.1⟩⟩
  · rw [hc (i * 4) (by omega), g0]
  · rw [Nat.add_assoc, hc (i * 4 + 1) (by omega), g1]
  · rw [Nat.add_assoc, hc (i * 4 + 2) (by omega), g2]
  · rw [Nat.add_assoc, hc (i * 4 + 3) (by omega), g3]
section
variable {H : Type} {enc : TypeId × Value → H} {w : World} {held : Bool}
theorem opens_rec : Opens enc Try.prog w held 93 rbel (fun p : Rb => i64ok p.1 ∧ i64ok p.2.1 ∧ i64ok p.2.2.1 ∧ Body.ok w p.2.2.2) := by
  have h := opens_struct4 (enc := enc) (w := w) (held := held) Try.underlying93 (by kernel_rfl) rfl (by kernel_rfl) (opens_i64 Try.underlying3) rfl (by kernel_rfl) (opens_i64 Try.underlying3) rfl (by kernel_rfl) (opens_i64 Try.underlying3) rfl (by kernel_rfl) (opens_bytes Try.underlying51 Try.underlying5 (by kernel_rfl))
  intro fuel cs x hx
  obtain ⟨p, hp, h1, h2, h3, h4⟩ := h fuel cs x hx
  exact ⟨p, hp, h1, h2, h3, h4⟩
theorem open_recs {A : Option Addr} {len cap : Nat} {d : DataW H} {ps : List MemPlace} (ht : Try.prog.underlying 85 = some (.slice 93))
    (h : DataW.Trod enc Try.prog w 0 (fun _ => true) held 85 (.slice A len cap) d ps) :
    ∃ l : List Rb, Rd w w.heap.size 4 A len (rbcs l) ∧ len ≤ cap ∧ cap ≤ maxLen ∧ ∀ p ∈ l, i64ok p.1 ∧ i64ok p.2.1 ∧ i64ok p.2.2.1 ∧ Body.ok w p.2.2.2 := by
  obtain ⟨l, h1, h2, h3, _, h5⟩ := open_slices ht (by rw [show Try.prog.cellsOf 93 = 4 by kernel_rfl]; omega) opens_rec h
  rw [show Try.prog.cellsOf 93 = 4 by kernel_rfl] at h1
  exact ⟨l, h1, h2, h3, h5⟩
theorem rs_of {A : Option Addr} {n c : Nat} {l : List Rb} (h1 : Rd w w.heap.size 4 A n (rbcs l)) (h2 : n ≤ c) (h3 : c ≤ maxLen) (h4 : ∀ p ∈ l, i64ok p.1 ∧ i64ok p.2.1 ∧ i64ok p.2.2.1 ∧ Body.ok w p.2.2.2) : Rs w A n c l :=
  ⟨h1, fun p hp => ⟨(h4 p hp).2.2.2.1, (h4 p hp).2.2.2.2.1, (h4 p hp).2.2.2.2.2.1⟩, fun p hp => ⟨(h4 p hp).1, (h4 p hp).2.1, (h4 p hp).2.2.1, (h4 p hp).2.2.2.2.2.2⟩, h2, h3⟩
end
end Go.Proofs.Ytcgcglngjfijnaa
