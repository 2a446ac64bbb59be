/- Paths in order: what two rows in order have in common; what is chosen. No walk. -/
import Derived.Test.YtcfeojobkpbohaaSc13
namespace Go.Proofs.Ytcfeojobkpbohaa
open Go.RowKit Go.Sort
set_option linter.unusedVariables false
/-- By which paths stand in order. -/
def keyP (pol last : Int) (x : Pth) : Int × Int × Int := (rkP x, k2P pol last x, x.id)
def keyL (a b : Int × Int × Int) : Prop := ¬ (b.1 < a.1 ∨ b.1 = a.1 ∧ (b.2.1 < a.2.1 ∨ b.2.1 = a.2.1 ∧ b.2.2 < a.2.2))
theorem keys_pair {pol last : Int} {s : List Pth} (h : s.Pairwise (fun x y => ltP pol last y x = false)) : (s.map (keyP pol last)).Pairwise keyL := by
  rw [List.pairwise_map]
  refine h.imp ?_
  intro x y hxy
  have := of_decide_eq_false hxy
  exact this
theorem keys_eq {pol last : Int} {s t : List Pth} (hp : s.Perm t) (hs : s.Pairwise (fun x y => ltP pol last y x = false)) (ht : t.Pairwise (fun x y => ltP pol last y x = false)) : s.map (keyP pol last) = t.map (keyP pol last) := by
  refine List.Perm.eq_of_pairwise (le := keyL) ?_ (keys_pair hs) (keys_pair ht) (hp.map _)
  intro a b _ _ h1 h2
  unfold keyL at h1 h2
  obtain ⟨a1, a2, a3⟩ := a
  obtain ⟨b1, b2, b3⟩ := b
  dsimp only at h1 h2
  have e1 : a1 = b1 := by omega
  have e2 : a2 = b2 := by omega
  have e3 : a3 = b3 := by omega
  rw [e1, e2, e3]
theorem ids_of_keys {pol last : Int} (s : List Pth) : s.map Pth.id = (s.map (keyP pol last)).map (fun k => k.2.2) := by rw [List.map_map]; rfl
theorem ids_eq {pol last : Int} {s t : List Pth} (hp : s.Perm t) (hs : s.Pairwise (fun x y => ltP pol last y x = false)) (ht : t.Pairwise (fun x y => ltP pol last y x = false)) : s.map Pth.id = t.map Pth.id := by
  rw [ids_of_keys (pol := pol) (last := last) s, ids_of_keys (pol := pol) (last := last) t, keys_eq hp hs ht]
/-- Ranks rise along a row in order. -/
theorem rk_le {pol last : Int} {x y : Pth} (h : ltP pol last y x = false) : rkP x ≤ rkP y := by
  have := of_decide_eq_false h
  omega
theorem eqL_cons (x : Pth) (r : List Pth) : eqL (x :: r) = x :: r.takeWhile (fun y => decide (rkP y = rkP x)) := by
  show (x :: r).takeWhile (fun y => decide (rkP y = rkP x)) = _
  rw [List.takeWhile_cons, decide_eq_true rfl]
  rfl
theorem tw_filter {pol last : Int} (k : Int) : ∀ {r : List Pth}, r.Pairwise (fun x y => ltP pol last y x = false) → (∀ y ∈ r, k ≤ rkP y) → r.takeWhile (fun y => decide (rkP y = k)) = r.filter (fun y => decide (rkP y = k))
  | [], _, _ => rfl
  | y :: r, h, hk => by
    obtain ⟨h1, h2⟩ := List.pairwise_cons.1 h
    have ih := tw_filter k h2 (fun z hz => hk z (by simp [hz]))
    by_cases hy : rkP y = k
    · rw [List.takeWhile_cons, List.filter_cons, decide_eq_true hy]
      simp only [if_true]
      rw [ih]
    · rw [List.takeWhile_cons, List.filter_cons, decide_eq_false hy]
      simp only [Bool.false_eq_true, if_false]
      refine (List.filter_eq_nil_iff.2 fun z hz => ?_).symm
      have := rk_le (h1 z hz)
      have := hk y (by simp)
      simp only [decide_eq_true_eq]
      omega
theorem chR_eq {pol last : Int} {t : List Pth} (ht : t.Pairwise (fun x y => ltP pol last y x = false)) : chR pol t = chL pol t := by
  unfold chR chRk chL
  rw [List.take_length]
  cases t with
  | nil =>
    show ([] : List Pth) = if pol = 3 then eqL [] else List.take 1 []
    split <;> rfl
  | cons x r =>
    obtain ⟨h1, h2⟩ := List.pairwise_cons.1 ht
    by_cases hp : pol = 3
    · rw [if_pos hp, eqL_cons]
      dsimp only
      rw [tw_filter (rkP x) h2 (fun y hy => rk_le (h1 y hy))]
      simp only [decide_eq_true hp, Bool.true_and]
    · rw [if_neg hp]
      dsimp only
      simp only [decide_eq_false hp, Bool.false_and]
      simp
theorem eqL_keys (pol last : Int) : ∀ s : List Pth, (eqL s).map (keyP pol last) = match s.map (keyP pol last) with | [] => [] | k :: r => k :: r.takeWhile (fun j => decide (j.1 = k.1))
  | [] => rfl
  | x :: r => by
    rw [eqL_cons]
    simp only [List.map_cons, List.takeWhile_map]
    rfl
theorem chL_ids {pol last : Int} {s t : List Pth} (hp : s.Perm t) (hs : s.Pairwise (fun x y => ltP pol last y x = false)) (ht : t.Pairwise (fun x y => ltP pol last y x = false)) : (chL pol s).map Pth.id = (chR pol t).map Pth.id := by
  rw [chR_eq ht, ids_of_keys (pol := pol) (last := last), ids_of_keys (pol := pol) (last := last) (chL pol t)]
  have hk := keys_eq hp hs ht
  congr 1
  unfold chL
  by_cases h3 : pol = 3
  · rw [if_pos h3, if_pos h3, eqL_keys, eqL_keys, hk]
  · rw [if_neg h3, if_neg h3, List.map_take, List.map_take, hk]
theorem chL_mem {pol : Int} {s : List Pth} {x : Pth} (h : x ∈ chL pol s) : x ∈ s := by
  unfold chL at h
  split at h
  · exact List.takeWhile_subset _ h
  · exact List.mem_of_mem_take h
theorem chL_rank {pol last : Int} {s : List Pth} {x y : Pth} (hs : s.Pairwise (fun x y => ltP pol last y x = false)) (h : x ∈ chL pol s) (hy : y ∈ s) : rkP x ≤ rkP y := by
  cases s with
  | nil => cases hy
  | cons z r =>
    obtain ⟨h1, h2⟩ := List.pairwise_cons.1 hs
    have hz : rkP z ≤ rkP y := by
      rcases List.mem_cons.1 hy with rfl | hy
      · exact Int.le_refl _
      · exact rk_le (h1 y hy)
    have hx : rkP x = rkP z := by
      unfold chL at h
      split at h
      · rw [eqL_cons] at h
        rcases List.mem_cons.1 h with rfl | h
        · rfl
        · have := List.all_eq_true.1 List.all_takeWhile x h
          simpa using this
      · simp at h
        rw [h]
    omega
theorem chL_nil {pol : Int} {s : List Pth} : chL pol s = [] ↔ s = [] := by
  cases s with
  | nil => unfold chL; split <;> simp [eqL]
  | cons x r =>
    unfold chL
    split
    · rw [eqL_cons]; simp
    · simp
theorem chL_len {pol : Int} {s : List Pth} : (chL pol s).length ≤ s.length := by
  unfold chL
  split
  · exact (List.takeWhile_sublist _).length_le
  · rw [List.length_take]; omega
end Go.Proofs.Ytcfeojobkpbohaa
