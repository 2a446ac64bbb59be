/- The paths of offers, rising, each once. No program. -/
import Derived.Test.YtdcpmfodkggpeaaAdM
import Derived.Lib.SlicesCompact
namespace Go.Proofs.Ytdcpmfodkggpeaa
open Go.RowKit Go.Sort
set_option linter.unusedVariables false
def isort (l : List Int) : List Int := l.mergeSort (fun x y => decide (x ≤ y))
theorem isort_len (l : List Int) : (isort l).length = l.length := List.length_mergeSort _
theorem isort_perm (l : List Int) : (isort l).Perm l := List.mergeSort_perm l _
theorem isort_sorted (l : List Int) : (isort l).Pairwise (fun x y => x ≤ y) := by
  have h := List.pairwise_mergeSort (le := fun x y : Int => decide (x ≤ y)) (fun a b c h1 h2 => by simp at *; omega) (fun a b => by simp; omega) l
  exact h.imp fun {a b} h => by simpa using h
/-- Numbers that rise, each once. -/
def riseL (l : List Int) : List Int := Lib.compact (isort l)
theorem compact_lt {zs : List Int} (h : zs.Pairwise (fun x y => x ≤ y)) : (Lib.compact zs).Pairwise (fun x y => x < y) := by
  unfold Lib.compact Lib.compactUpTo
  rw [List.pairwise_map]
  have hp : ((List.range zs.length).filter (Lib.keeps zs.toArray)).Pairwise (fun i j => i < j) := List.Pairwise.filter _ List.pairwise_lt_range
  have hm : ∀ j ∈ (List.range zs.length).filter (Lib.keeps zs.toArray), j < zs.length ∧ (j = 0 ∨ zs.toArray[j]! ≠ zs.toArray[j - 1]!) := by
    intro j hj
    obtain ⟨h1, h2⟩ := List.mem_filter.1 hj
    exact ⟨by simpa using h1, by simpa [Lib.keeps] using h2⟩
  refine hp.imp_of_mem ?_
  intro i j hi hj hij
  obtain ⟨h1, h2⟩ := hm i hi
  obtain ⟨h3, h4⟩ := hm j hj
  have h5 := h4.resolve_left (by omega)
  rw [List.pairwise_iff_getElem] at h
  have e : ∀ k (hk : k < zs.length), zs.toArray[k]! = zs[k] := fun k hk => by rw [getElem!_pos _ k (by simpa using hk)]; simp
  rw [e j h3, e (j - 1) (by omega)] at h5
  rw [e i h1, e j h3]
  have h6 : zs[j - 1] ≤ zs[j] := h (j - 1) j (by omega) h3 (by omega)
  have h7 : zs[i] ≤ zs[j - 1] := by
    rcases Nat.lt_or_ge i (j - 1) with h8 | h8
    · exact h i (j - 1) h1 (by omega) h8
    · have : i = j - 1 := by omega
      subst this
      exact Int.le_refl _
  omega
theorem compact_mem {zs : List Int} {x : Int} : x ∈ Lib.compact zs ↔ x ∈ zs := by
  unfold Lib.compact Lib.compactUpTo
  have e : ∀ k (hk : k < zs.length), zs.toArray[k]! = zs[k] := fun k hk => by rw [getElem!_pos _ k (by simpa using hk)]; simp
  constructor
  · intro h
    obtain ⟨k, hk, rfl⟩ := List.mem_map.1 h
    have hk' : k < zs.length := by simpa using (List.mem_filter.1 hk).1
    rw [e k hk']
    exact List.getElem_mem hk'
  · intro h
    obtain ⟨k, hk, rfl⟩ := List.getElem_of_mem h
    clear h
    induction k with
    | zero => exact List.mem_map.2 ⟨0, List.mem_filter.2 ⟨by simpa using hk, by simp [Lib.keeps]⟩, e 0 hk⟩
    | succ k ih =>
      by_cases hs : zs[k + 1] = zs[k]'(by omega)
      · rw [hs]
        exact ih (by omega)
      · refine List.mem_map.2 ⟨k + 1, List.mem_filter.2 ⟨by simpa using hk, ?_⟩, e (k + 1) hk⟩
        refine Lib.keeps_pos ?_
        rw [e (k + 1) hk, show k + 1 - 1 = k from rfl, e k (by omega)]
        exact hs
theorem rise_lt (l : List Int) : (riseL l).Pairwise (fun x y => x < y) := compact_lt (isort_sorted l)
theorem rise_mem {l : List Int} {x : Int} : x ∈ riseL l ↔ x ∈ l := by unfold riseL; rw [compact_mem, (isort_perm l).mem_iff]
/-- Two rows of numbers that rise have the same members: they are the same. -/
theorem rise_eq {l m : List Int} (hl : l.Pairwise (fun x y => x < y)) (hm : m.Pairwise (fun x y => x < y)) (h : ∀ x, x ∈ l ↔ x ∈ m) : l = m := by
  have nd : ∀ {l : List Int}, l.Pairwise (fun x y => x < y) → l.Nodup := fun h => List.nodup_iff_pairwise_ne.2 (h.imp fun {a b} h => by omega)
  refine List.Perm.eq_of_pairwise (le := fun x y => x < y) ?_ hl hm ((List.perm_ext_iff_of_nodup (nd hl) (nd hm)).2 h)
  intro a b _ _ h1 h2
  omega
/-- The paths from 0 to 3 that are among offers'. -/
def pthR (l : List (Int × Int)) : List Int := ([0, 1, 2, 3] : List Int).filter fun p => l.any fun a => decide (a.2 = p)
theorem pthR_eq {most paths left : Nat} {l : List (Int × Int)} (h : AdOk most paths left l) : riseL (l.map Prod.snd) = pthR l := by
  refine rise_eq (rise_lt _) ?_ fun x => ?_
  · unfold pthR
    refine List.Pairwise.filter _ ?_
    decide
  · rw [rise_mem]
    unfold pthR
    rw [List.mem_filter, List.any_eq_true]
    constructor
    · intro hx
      obtain ⟨a, ha, rfl⟩ := List.mem_map.1 hx
      have hm := h.may a ha
      have h4 := h.paths4
      simp only [mayB, Bool.and_eq_true, decide_eq_true_eq] at hm
      refine ⟨?_, a, ha, decide_eq_true rfl⟩
      simp only [List.mem_cons, List.not_mem_nil, or_false]
      omega
    · rintro ⟨_, a, ha, he⟩
      exact List.mem_map.2 ⟨a, ha, of_decide_eq_true he⟩
theorem pthR_len (l : List (Int × Int)) : (pthR l).length ≤ 4 := List.length_filter_le _ _
end Go.Proofs.Ytdcpmfodkggpeaa
