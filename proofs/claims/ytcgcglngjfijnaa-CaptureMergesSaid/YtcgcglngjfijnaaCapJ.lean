/- Layer 34: what a walk over two captures keeps: records, their plain rows, one record cut out; the merge step by step. -/
import Derived.Test.YtcgcglngjfijnaaGhoP
import Derived.Test.YtcgcglngjfijnaaCap7
import Derived.Test.YtcgcglngjfijnaaCapG
import Derived.Test.YtcgcglngjfijnaaCapH
import Derived.Test.YtcgcglngjfijnaaCapI
import Derived.Test.YtcgcglngjfijnaaCapL
namespace Go.Proofs.Ytcgcglngjfijnaa
open Go.RowKit
set_option linter.unusedVariables false
set_option linter.unusedSimpArgs false
theorem GH.Gr.full {B : Nat} {w w' : World} (h : GH.Gr false B w w') : Below w.heap.size w w' := ⟨h.below.os, h.below.tape, h.below.output, h.below.size, h.block rfl⟩
namespace GH
/-- Records. -/
def SP.rs (l : List Rb) : SP false := ⟨fun v w => ∃ A n c, v = .slice A n c ∧ Rs w A n c l, fun B v w w' h hb => by
  obtain ⟨A, n, c, h1, h2⟩ := h
  exact ⟨A, n, c, h1, h2.into hb.full⟩⟩
/-- Plain rows. -/
def SP.ro (l : List Rcd) : SP false := ⟨fun v w => ∃ A n c, v = .slice A n c ∧ l.length = n ∧ n ≤ c ∧ Rd w w.heap.size 4 A n (rcs l), fun B v w w' h hb => by
  obtain ⟨A, n, c, h1, h2, h3, h4⟩ := h
  exact ⟨A, n, c, h1, h2, h3, hb.rd h4⟩⟩
/-- A place from which on cells read so. -/
def SP.pt {M : Bool} (cs : List Value) : SP M := ⟨fun v w => ∃ b off, v = .pointer (some ⟨b, off, none⟩) ∧ b < w.heap.size ∧ ∀ j x, cs[j]? = some x → w.cell? ⟨b, off + j, none⟩ = some x, fun B v w w' h hb => by
  obtain ⟨b, off, h1, h2, h3⟩ := h
  exact ⟨b, off, h1, Nat.lt_of_lt_of_le h2 hb.below.size, fun j x hj => (hb.cell _ _ h2).trans (h3 j x hj)⟩⟩
theorem ro_of {w : World} {B : Nat} {v : Value} {l : List Rcd} (h : RO w B v l) : (SP.ro l).G v w := by
  obtain ⟨A, n, c, rfl, h1, h2, h3⟩ := h.out
  exact ⟨A, n, c, rfl, h2.out, h1, h3.out⟩
end GH
/-- A place of a plain row. -/
theorem rcs_at {w : World} {B n g o i : Nat} {l : List Rcd} {p : Rcd} (h : Rd w B 4 (some ⟨g, o, none⟩) n (rcs l)) (hi : i < n) (hp : l[i]? = some p) :
    ∀ j x, [Value.int .i64 p.1, .int .i64 p.2.1, .int .i64 p.2.2.1, .string (strN p.2.2.2)][j]? = some x → w.cell? ⟨g, o + i * 4 + j, none⟩ = some x := by
  obtain ⟨b, off, e, hb, hc⟩ := h.2 (by omega)
  injection e with e
  injection e with e1 e2
  subst e1; subst e2
  obtain ⟨g0, g1, g2, g3⟩ := rcs_get hp
  intro j x hj
  rw [Nat.add_assoc, hc (i * 4 + j) (by have := (List.getElem?_eq_some_iff.1 hj).1; simp at this; omega)]
  match j, hj with
  | 0, hj => rw [← hj]; exact g0
  | 1, hj => rw [← hj]; exact g1
  | 2, hj => rw [← hj]; exact g2
  | 3, hj => rw [← hj]; exact g3
/-- One record, cut out. -/
theorem Rs.cut1 {w : World} {b off n c i : Nat} {l : List Rb} {p : Rb} (h : Rs w (some ⟨b, off, none⟩) n c l) (hi : i < n) (hp : l[i]? = some p) : Rs w (some ⟨b, off + i * 4, none⟩) 1 1 [p] := by
  have hm : p ∈ l := List.mem_of_getElem? hp
  refine ⟨⟨rfl, fun _ => ?_⟩, fun q hq => ?_, fun q hq => ?_, by omega, by unfold maxLen; omega⟩
  · obtain ⟨b', off', e, hb, hc⟩ := h.row.2 (by omega)
    injection e with e
    injection e with e1 e2
    subst e1; subst e2
    refine ⟨_, _, rfl, hb, fun j hj => ?_⟩
    obtain ⟨g0, g1, g2, g3⟩ := rbcs_get hp
    rw [Nat.add_assoc, hc (i * 4 + j) (by omega)]
    match j, hj with
    | 0, _ => exact g0
    | 1, _ => exact g1
    | 2, _ => exact g2
    | 3, _ => exact g3
  · obtain rfl : q = p := by simpa using hq
    exact h.bod q hm
  · obtain rfl : q = p := by simpa using hq
    exact h.bds q hm
theorem drop_hd {α : Type} {l : List α} {i : Nat} {p : α} (h : l[i]? = some p) : l.drop i = p :: l.drop (i + 1) := nth_drop (Lib.hid h)
theorem at_of_drop {α : Type} {l r : List α} {i : Nat} {p : α} (h : l.drop i = p :: r) : l[i]? = some p ∧ l.drop (i + 1) = r := by
  have h1 : (l.drop i)[0]? = some p := by rw [h]; rfl
  rw [List.getElem?_drop, Nat.add_zero] at h1
  refine ⟨h1, ?_⟩
  rw [drop_hd h1] at h
  injection h
theorem mg_a {l m : List Rb} {i k : Nat} {p : Rb} (h : (mgR l m).drop (i + k) = mgR (l.drop i) (m.drop k)) (hp : l[i]? = some p) (hq : m.drop k = [] ∨ ∃ q, m[k]? = some q ∧ ¬ q.1 < p.1) :
    (mgR l m)[i + k]? = some p ∧ (mgR l m).drop (i + 1 + k) = mgR (l.drop (i + 1)) (m.drop k) := by
  have hd := drop_hd hp
  have e : mgR (l.drop i) (m.drop k) = p :: mgR (l.drop (i + 1)) (m.drop k) := by
    rcases hq with hq | ⟨q, hq, hlt⟩
    · rw [hq, mgR_nil2, mgR_nil2, hd]
    · rw [hd, drop_hd hq, mgR_a hlt]
  rw [e] at h
  obtain ⟨h1, h2⟩ := at_of_drop h
  exact ⟨h1, by rw [show i + 1 + k = i + k + 1 by omega]; exact h2⟩
theorem mg_b {l m : List Rb} {i k : Nat} {q : Rb} (h : (mgR l m).drop (i + k) = mgR (l.drop i) (m.drop k)) (hq : m[k]? = some q) (hp : l.drop i = [] ∨ ∃ p, l[i]? = some p ∧ q.1 < p.1) :
    (mgR l m)[i + k]? = some q ∧ (mgR l m).drop (i + (k + 1)) = mgR (l.drop i) (m.drop (k + 1)) := by
  have hd := drop_hd hq
  have e : mgR (l.drop i) (m.drop k) = q :: mgR (l.drop i) (m.drop (k + 1)) := by
    rcases hp with hp | ⟨p, hp, hlt⟩
    · rw [hp, mgR_nil, mgR_nil, hd]
    · rw [hd, drop_hd hp, mgR_b hlt]
  rw [e] at h
  obtain ⟨h1, h2⟩ := at_of_drop h
  exact ⟨h1, h2⟩
end Go.Proofs.Ytcgcglngjfijnaa
