/- Package spans: a set in memory; find, Run, Has, Covers. -/
import Derived.Test.YtpnnadnmkiobcaaG34SackBack
import Derived.Test.YtpnnadnmkiobcaaG18SackBack
import Derived.Test.YtpnnadnmkiobcaaRows
import Derived.OwnWalk
import Derived.RegionTactic
import Derived.LoopTactic
import Derived.StillTailTactics
import Derived.Laws.Externs
import Derived.WalkSpells
import Derived.Test.YtpnnadnmkiobcaaG4SackBack
import Derived.Test.YtpnnadnmkiobcaaOrd

namespace Go.Proofs.Ytpnnadnmkiobcaa
open Go.RowKit
set_option linter.unusedVariables false
def pmax : Nat := 18446744073709551616
section
variable {w w' : World} {g B most : Nat} {v : Value} {l : List Sp}
end
/-- Run over the pieces. -/
theorem runL_of {l : List Sp} (h : Rise l) (x : Nat) : (∀ p, l[spAt l x]? = some p → spTouch l x x = true → runL l x = p.2 ∧ x ≤ p.2) ∧ (spTouch l x x = false → runL l x = x) ∧ (spTouch l x x = true → spAt l x < l.length) := by
  have hd := spRest_drop l x
  have hR := spRest_rise (f := x) h
  have hge := spRest_ge (f := x) h
  have e : runL l x = match (spRest l x).find? fun p => decide (p.1 ≤ x) && decide (x < p.2) with | some p => p.2 | none => x := by
    unfold runL
    conv => lhs; rw [← pre_rest l x]
    rw [List.find?_append]
    have : (spPre l x).find? (fun p => decide (p.1 ≤ x) && decide (x < p.2)) = none := by
      rw [List.find?_eq_none]
      intro p hp
      have := spPre_lt p hp
      simp
      omega
    rw [this]
    rfl
  unfold spTouch
  have e2 : l[spAt l x]? = (spRest l x).head? := by rw [hd, List.head?_drop]
  rw [e, e2]
  have e3 : (spRest l x).length = l.length - spAt l x := by rw [hd, List.length_drop]
  have hnone : ∀ m : List Sp, (∀ q ∈ m, x < q.1) → m.find? (fun p => decide (p.1 ≤ x) && decide (x < p.2)) = none := by
    intro m hm
    rw [List.find?_eq_none]
    intro p hp
    have := hm p hp
    simp
    omega
  cases hs : spRest l x with
  | nil => simp
  | cons p m =>
    rw [hs] at hR hge e3
    have h1 := hge p (by simp)
    rw [List.length_cons] at e3
    simp only [List.head?_cons]
    by_cases hp : p.1 ≤ x
    · refine ⟨?_, fun hf => by simp at hf; omega, fun _ => by omega⟩
      rintro q hq -
      injection hq with hq
      subst hq
      refine ⟨?_, h1⟩
      rw [List.find?_cons]
      by_cases hx : x < p.2
      · rw [decide_eq_true hp, decide_eq_true hx]; rfl
      · rw [decide_eq_true hp, decide_eq_false hx]
        simp only [Bool.and_false]
        rw [hnone m fun q hq => by have := hR.2.1 q hq; omega]
        show x = p.2
        omega
    · refine ⟨fun q _ hf => by simp at hf; omega, ?_, fun hf => by simp at hf; omega⟩
      intro _
      rw [hnone (p :: m) fun q hq => by
        rcases List.mem_cons.1 hq with rfl | hq
        · omega
        · have := hR.2.1 q hq; have := hR.1; omega]
theorem runL_ge {l : List Sp} (h : Rise l) (x : Nat) : x ≤ runL l x := by
  unfold runL
  split
  · rename_i p hp
    have := List.find?_some hp
    simp at this
    omega
  · exact Nat.le_refl _
theorem runL_lt {l : List Sp} (hb : ∀ p ∈ l, p.2 < pmax) (x : Nat) (hx : x < pmax) : runL l x < pmax := by
  unfold runL
  split
  · rename_i p hp
    exact hb p (List.mem_of_find?_eq_some hp)
  · exact hx
end Go.Proofs.Ytpnnadnmkiobcaa

/- Package slices at []spans.Span: Clone, Delete, Insert, Replace of one. -/
namespace Go.Proofs.Ytpnnadnmkiobcaa
open Go.RowKit
set_option linter.unusedVariables false
theorem spnZ1 : ∀ v ∈ ((.agg #[.int .u64 0, .int .u64 0]) : Value).cells.toList, v.oneCell' = true := by
  intro v hv
  simp [Value.cells] at hv
  first | (subst hv; rfl) | (rcases hv with rfl | rfl <;> rfl) | (rcases hv with rfl | rfl | rfl <;> rfl) | (rcases hv with rfl | rfl | rfl | rfl <;> rfl) | (rcases hv with rfl | rfl | rfl | rfl | rfl <;> rfl)
/-- Cells that are part of a row. -/
theorem spnone {L : List Value} {k : Nat} (h : ∀ v ∈ L.take k, v.oneCell' = true) (j : Nat) : ∀ v ∈ (L.take k).drop j, v.oneCell' = true := fun v hv => h v (List.mem_of_mem_drop hv)
end Go.Proofs.Ytpnnadnmkiobcaa

/- Package slices at []spans.Span: Replace by one. -/
namespace Go.Proofs.Ytpnnadnmkiobcaa
open Go.RowKit
set_option linter.unusedVariables false
end Go.Proofs.Ytpnnadnmkiobcaa

/- Package spans: New, Add. -/
namespace Go.Proofs.Ytpnnadnmkiobcaa
open Go.RowKit
set_option linter.unusedVariables false
def mostN (m : Int) : Nat := if m < 1 then 1 else if 64 < m then 64 else m.toNat
theorem mostN_le (m : Int) : 1 ≤ mostN m ∧ mostN m ≤ 64 := by unfold mostN; split <;> (try split) <;> omega
/-- What Add makes of the pieces. -/
def addS (most : Nat) (l : List Sp) (f t : Nat) : List Sp × Bool := if t ≤ f then (l, true) else if spTouch l f t = false ∧ most ≤ l.length then (l, false) else (addL l f t, true)
theorem mid_nil {l : List Sp} {f t : Nat} : spTouch l f t = false ↔ spMid (spRest l f) t = [] := by
  unfold spTouch spMid
  cases spRest l f with
  | nil => simp
  | cons p m =>
    rw [List.takeWhile_cons]
    simp only [List.head?_cons]
    by_cases h : p.1 ≤ t
    · simp [h]
    · simp [h]
/-- Which pieces an added one touches, one after the other. -/
theorem mid_get {l : List Sp} {f t k : Nat} (hk : k ≤ (spMid (spRest l f) t).length) :
    (k < (spMid (spRest l f) t).length → ∃ p, l[spAt l f + k]? = some p ∧ (spMid (spRest l f) t)[k]? = some p ∧ p.1 ≤ t) ∧ (k = (spMid (spRest l f) t).length → ∀ p, l[spAt l f + k]? = some p → t < p.1) := by
  have e := spRest_drop l f
  have hg : ∀ k, l[spAt l f + k]? = (spRest l f)[k]? := fun k => by rw [e, List.getElem?_drop]
  rw [hg]
  generalize spRest l f = r at *
  have hr := mid_post r t
  constructor
  · intro hlt
    refine ⟨(spMid r t)[k], ?_, List.getElem?_eq_getElem hlt, spMid_le _ (List.getElem_mem _)⟩
    conv => lhs; rw [← hr]
    rw [List.getElem?_append_left hlt]
    exact List.getElem?_eq_getElem hlt
  · intro hke p hp
    rw [← hr, List.getElem?_append_right (by omega), hke, Nat.sub_self] at hp
    unfold spPost at hp
    have h2 := List.head?_dropWhile_not (fun p : Sp => decide (p.1 ≤ t)) r
    rw [List.head?_eq_getElem?, hp] at h2
    simpa using h2
theorem spWh_take {m : List Sp} {k : Nat} {p : Sp} (x : Sp) (h : m[k]? = some p) : spWh (m.take (k + 1)) x = (min (spWh (m.take k) x).1 p.1, max (spWh (m.take k) x).2 p.2) := by
  rw [List.take_add_one, h]
  unfold spWh
  rw [List.foldl_append]
  rfl
/-- A row stays where a cell of a block of another type is written. -/
theorem own_set {w : World} {g B sz n i : Nat} {t e : TypeId} {cs : Array Value} {v u : Value} {xs : List Value} (ho : w.ownsRow B e sz v n xs) (h : Blk w g t cs) (hne : e ≠ t) : (w.setCell ⟨g, i, none⟩ u).ownsRow B e sz v n xs := by
  refine own_kept ho fun k hk => Below.heap_setCell _ _ _ _ ?_
  intro he
  subst he
  rcases ho.2 with ⟨rfl, _⟩ | ⟨g', cap, cur, rfl, _, hh, _⟩
  · simp [Value.ownBlock] at hk
  · simp [Value.ownBlock] at hk
    subst hk
    unfold Blk at h
    rw [h] at hh
    injection hh with hh
    injection hh with _ ht
    exact hne ht.symm
theorem addL_cels (l : List Sp) (f t : Nat) : cels (addL l f t) = (cels l).take (spAt l f * 2) ++ [.int .u64 ((spWh (spMid (spRest l f) t) (f, t)).1 : Int), .int .u64 ((spWh (spMid (spRest l f) t) (f, t)).2 : Int)] ++ (cels l).drop ((spAt l f + (spMid (spRest l f) t).length) * 2) := by
  have e : spPost (spRest l f) t = l.drop (spAt l f + (spMid (spRest l f) t).length) := by
    have h : (spMid (spRest l f) t ++ spPost (spRest l f) t).drop (spMid (spRest l f) t).length = spPost (spRest l f) t := List.drop_left
    rw [mid_post] at h
    rw [← List.drop_drop, ← spRest_drop]
    exact h.symm
  rw [cels_take, cels_drop, ← e, ← spPre_take]
  unfold addL
  rw [cels_append, cels_cons, List.append_assoc]
  rfl
theorem addL_bd {l : List Sp} {f t b : Nat} (h : ∀ p ∈ l, p.2 < b) (ht : t < b) : ∀ p ∈ addL l f t, p.2 < b := by
  have e := parts_eq l f t
  have hp : ∀ p, p ∈ spPre l f ∨ p ∈ spMid (spRest l f) t ∨ p ∈ spPost (spRest l f) t → p.2 < b := by
    intro p hp
    apply h
    rw [e]
    simp only [List.mem_append]
    exact hp
  intro p hp'
  unfold addL at hp'
  simp only [List.mem_append, List.mem_cons] at hp'
  rcases hp' with h1 | rfl | h1
  · exact hp p (.inl h1)
  · exact spWh_snd _ _ _ ht fun q hq => hp q (.inr (.inl hq))
  · exact hp p (.inr (.inr h1))
theorem mid_le (l : List Sp) (f t : Nat) : spAt l f + (spMid (spRest l f) t).length ≤ l.length := by
  have e := congrArg List.length (parts_eq l f t)
  simp only [List.length_append] at e
  unfold spAt
  omega
/-- What a call on a set leaves as it was: all but the set, and its row; the new row is the old one or a new one. -/
def KeptS (g : Nat) (v v' : Value) (w w' : World) : Prop := (∀ k, k < w.heap.size → k ≠ g → v.ownBlock ≠ some k → w'.heap[k]? = w.heap[k]?) ∧ NewOr v v' w ∧ w.heap.size ≤ w'.heap.size
theorem KeptS.of_below {g : Nat} {v : Value} {w w' : World} (h : Below w.heap.size w w') : KeptS g v v w w' := ⟨fun k hk _ _ => h.block k hk, NewOr.same rfl, h.size⟩
theorem own_irr (A : Option Addr) (n m c : Nat) : (Value.slice A n c).ownBlock = (Value.slice A m c).ownBlock := by cases A <;> rfl
theorem KeptS.len {g n m c : Nat} {A : Option Addr} {v' : Value} {w w' : World} (h : KeptS g (.slice A n c) v' w w') : KeptS g (.slice A m c) v' w w' := by
  unfold KeptS NewOr at *
  rw [own_irr A m n c]
  exact h
theorem ifmin (x p : Nat) : (if p < x then (p : Int) else (x : Int)) = ((min x p : Nat) : Int) := by split <;> omega
theorem ifmax (y p : Nat) : (if y < p then (p : Int) else (y : Int)) = ((max y p : Nat) : Int) := by split <;> omega
end Go.Proofs.Ytpnnadnmkiobcaa
