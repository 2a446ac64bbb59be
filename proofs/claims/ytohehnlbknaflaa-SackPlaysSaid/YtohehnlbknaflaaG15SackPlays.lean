/- Package spans: a set in memory; find, Run, Has, Covers. -/
import Derived.Test.YtohehnlbknaflaaG14SackPlays
import Derived.Test.YtohehnlbknaflaaG11SackPlays
import Derived.Test.YtohehnlbknaflaaRows
import Derived.OwnWalk
import Derived.RegionTactic
import Derived.LoopTactic
import Derived.StillTailTactics
import Derived.Laws.Externs
import Derived.WalkSpells
import Derived.Test.YtohehnlbknaflaaQx

namespace Go.Proofs.Ytohehnlbknaflaa
open Go.RowKit
set_option linter.unusedVariables false
def pmax : Nat := 18446744073709551616
section
variable {w w' : World} {g B most : Nat} {v : Value} {l : List Sp}
end
/-- Run over the pieces. -/
theorem runL_of {l : List Sp} (h : Rise l) (x : Nat) : (∀ p, l[spAt l x]? = some p → spTouch l x x = true → runL l x = p.2 ∧ x ≤ p.2) ∧ (spTouch l x x = false → runL l x = x) ∧ (spTouch l x x = true → spAt l x < l.length) := by
  have hd := spRest_drop l x
  have hR := spRest_rise (f := x) h
  have hge := spRest_ge (f := x) h
  have e : runL l x = match (spRest l x).find? fun p => decide (p.1 ≤ x) && decide (x < p.2) with | some p => p.2 | none => x := by
    unfold runL
    conv => lhs; rw [← pre_rest l x]
    rw [List.find?_append]
    have : (spPre l x).find? (fun p => decide (p.1 ≤ x) && decide (x < p.2)) = none := by
      rw [List.find?_eq_none]
      intro p hp
      have := spPre_lt p hp
      simp
      omega
    rw [this]
    rfl
  unfold spTouch
  have e2 : l[spAt l x]? = (spRest l x).head? := by rw [hd, List.head?_drop]
  rw [e, e2]
  have e3 : (spRest l x).length = l.length - spAt l x := by rw [hd, List.length_drop]
  have hnone : ∀ m : List Sp, (∀ q ∈ m, x < q.1) → m.find? (fun p => decide (p.1 ≤ x) && decide (x < p.2)) = none := by
    intro m hm
    rw [List.find?_eq_none]
    intro p hp
    have := hm p hp
    simp
    omega
  cases hs : spRest l x with
  | nil => simp
  | cons p m =>
    rw [hs] at hR hge e3
    have h1 := hge p (by simp)
    rw [List.length_cons] at e3
    simp only [List.head?_cons]
    by_cases hp : p.1 ≤ x
    · refine ⟨?_, fun hf => by simp at hf; omega, fun _ => by omega⟩
      rintro q hq -
      injection hq with hq
      subst hq
      refine ⟨?_, h1⟩
      rw [List.find?_cons]
      by_cases hx : x < p.2
      · rw [decide_eq_true hp, decide_eq_true hx]; rfl
      · rw [decide_eq_true hp, decide_eq_false hx]
        simp only [Bool.and_false]
        rw [hnone m fun q hq => by have := hR.2.1 q hq; omega]
        show x = p.2
        omega
    · refine ⟨fun q _ hf => by simp at hf; omega, ?_, fun hf => by simp at hf; omega⟩
      intro _
      rw [hnone (p :: m) fun q hq => by
        rcases List.mem_cons.1 hq with rfl | hq
        · omega
        · have := hR.2.1 q hq; have := hR.1; omega]
theorem runL_ge {l : List Sp} (h : Rise l) (x : Nat) : x ≤ runL l x := by
  unfold runL
  split
  · rename_i p hp
    have := List.find?_some hp
    simp at this
    omega
  · exact Nat.le_refl _
theorem runL_lt {l : List Sp} (hb : ∀ p ∈ l, p.2 < pmax) (x : Nat) (hx : x < pmax) : runL l x < pmax := by
  unfold runL
  split
  · rename_i p hp
    exact hb p (List.mem_of_find?_eq_some hp)
  · exact hx
end Go.Proofs.Ytohehnlbknaflaa

/- Package slices at []spans.Span: Clone, Delete, Insert, Replace of one. -/
namespace Go.Proofs.Ytohehnlbknaflaa
open Go.RowKit
set_option linter.unusedVariables false
theorem spnZ1 : ∀ v ∈ ((.agg #[.int .u64 0, .int .u64 0]) : Value).cells.toList, v.oneCell' = true := by
  intro v hv
  simp [Value.cells] at hv
  first | (subst hv; rfl) | (rcases hv with rfl | rfl <;> rfl) | (rcases hv with rfl | rfl | rfl <;> rfl) | (rcases hv with rfl | rfl | rfl | rfl <;> rfl) | (rcases hv with rfl | rfl | rfl | rfl | rfl <;> rfl)
/-- Cells that are part of a row. -/
theorem spnone {L : List Value} {k : Nat} (h : ∀ v ∈ L.take k, v.oneCell' = true) (j : Nat) : ∀ v ∈ (L.take k).drop j, v.oneCell' = true := fun v hv => h v (List.mem_of_mem_drop hv)
end Go.Proofs.Ytohehnlbknaflaa

/- Package slices at []spans.Span: Replace by one. -/
namespace Go.Proofs.Ytohehnlbknaflaa
open Go.RowKit
set_option linter.unusedVariables false
end Go.Proofs.Ytohehnlbknaflaa
