/- A table of offers: pairs of a number and a path; adding, taking away. No program. -/
import Derived.Test.YtdcpmfodkggpeaaPairZ
namespace Go.Proofs.Ytdcpmfodkggpeaa
open Go.RowKit
set_option linter.unusedVariables false
/-- May there be such an offer, of so many paths? -/
def mayB (paths : Nat) (a : Int × Int) : Bool := decide (0 ≤ a.1) && (decide (a.1 ≤ 255) && (decide (0 ≤ a.2) && decide (a.2 < (paths : Int))))
/-- Where the offer with this number stands; behind all, if there is none. -/
def atI (l : List (Int × Int)) (id : Int) : Nat := l.findIdx (fun a => decide (a.1 = id))
/-- An offer is added: the tokens, the offers, was it heard? -/
def adAdd (most paths left : Nat) (l : List (Int × Int)) (a : Int × Int) : Nat × List (Int × Int) × Bool :=
  if mayB paths a = false ∨ a ∈ l ∨ left < 16 ∨ (l.length ≤ atI l a.1 ∧ most ≤ l.length) then (left, l, false)
  else (left - 16, if atI l a.1 < l.length then l.set (atI l a.1) a else l ++ [a], true)
def adGone (l : List (Int × Int)) (id : Int) : List (Int × Int) × Bool :=
  if atI l id < l.length then (l.eraseIdx (atI l id), true) else (l, false)
/-- What holds of a table at all times. -/
structure AdOk (most paths left : Nat) (l : List (Int × Int)) : Prop where
  most8 : most ≤ 8
  paths4 : paths ≤ 4
  left64 : left ≤ 64
  len : l.length ≤ most
  nodup : (l.map Prod.fst).Nodup
  may : ∀ a ∈ l, mayB paths a = true
theorem atI_le (l : List (Int × Int)) (id : Int) : atI l id ≤ l.length := List.findIdx_le_length
theorem atI_get {l : List (Int × Int)} {id : Int} (h : atI l id < l.length) : ∃ p, l[atI l id]? = some (id, p) := by
  have := List.findIdx_getElem (w := h)
  rw [decide_eq_true_eq] at this
  refine ⟨l[atI l id].2, ?_⟩
  rw [List.getElem?_eq_getElem h]
  congr 1
  exact Prod.ext this rfl
theorem atI_before {l : List (Int × Int)} {id : Int} {k : Nat} (hk : k < atI l id) {a : Int × Int} (ha : l[k]? = some a) : a.1 ≠ id := by
  have hl : k < l.length := Nat.lt_of_lt_of_le hk (atI_le l id)
  have := List.not_of_lt_findIdx hk
  rw [List.getElem?_eq_getElem hl] at ha
  injection ha with ha
  rw [← ha]
  simpa using this
theorem atI_of {l : List (Int × Int)} {id : Int} {k : Nat} {a : Int × Int} (ha : l[k]? = some a) (hid : a.1 = id) (hb : ∀ b ∈ l.take k, b.1 ≠ id) : atI l id = k := by
  have hk : k < l.length := (List.getElem?_eq_some_iff.1 ha).1
  refine (List.findIdx_eq hk).2 ⟨?_, fun j hj => ?_⟩
  · rw [List.getElem?_eq_getElem hk] at ha
    injection ha with ha
    rw [ha]
    exact decide_eq_true hid
  · have : l[j]'(by omega) ∈ l.take k := by
      rw [List.mem_take_iff_getElem]
      exact ⟨j, by omega, rfl⟩
    simpa using hb _ this
theorem atI_none {l : List (Int × Int)} {id : Int} (hb : ∀ b ∈ l, b.1 ≠ id) : atI l id = l.length := by
  refine Nat.le_antisymm (atI_le l id) (Nat.le_of_not_lt fun h => ?_)
  obtain ⟨p, hp⟩ := atI_get h
  exact hb _ (List.mem_of_getElem? hp) rfl
theorem atI_mem {l : List (Int × Int)} {id : Int} : atI l id < l.length ↔ ∃ b ∈ l, b.1 = id := by
  constructor
  · intro h
    obtain ⟨p, hp⟩ := atI_get h
    exact ⟨_, List.mem_of_getElem? hp, rfl⟩
  · rintro ⟨b, hb, hid⟩
    refine Nat.lt_of_le_of_ne (atI_le l id) fun e => ?_
    obtain ⟨k, hk, rfl⟩ := List.getElem_of_mem hb
    exact atI_before (k := k) (by omega) (List.getElem?_eq_getElem hk) hid
section
variable {most paths left : Nat} {l : List (Int × Int)} {a : Int × Int} {id : Int}
theorem AdOk.uniq (h : AdOk most paths left l) {a b : Int × Int} (ha : a ∈ l) (hb : b ∈ l) (e : a.1 = b.1) : a = b := by
  obtain ⟨i, hi, rfl⟩ := List.getElem_of_mem ha
  obtain ⟨j, hj, rfl⟩ := List.getElem_of_mem hb
  have hn := h.nodup
  rw [List.nodup_iff_pairwise_ne] at hn
  rcases Nat.lt_trichotomy i j with hij | hij | hij
  · exact absurd (show (l.map Prod.fst)[i]'(by simpa using hi) = (l.map Prod.fst)[j]'(by simpa using hj) by rw [List.getElem_map, List.getElem_map]; exact e) ((List.pairwise_iff_getElem.1 hn) i j (by simpa using hi) (by simpa using hj) hij)
  · subst hij; rfl
  · exact absurd (show (l.map Prod.fst)[j]'(by simpa using hj) = (l.map Prod.fst)[i]'(by simpa using hi) by rw [List.getElem_map, List.getElem_map]; exact e.symm) ((List.pairwise_iff_getElem.1 hn) j i (by simpa using hj) (by simpa using hi) hij)
theorem map_set_fst {l : List (Int × Int)} {k : Nat} {a : Int × Int} {p : Int} (h : l[k]? = some (a.1, p)) : (l.set k a).map Prod.fst = l.map Prod.fst := by
  rw [List.map_set]
  obtain ⟨hk, he⟩ := List.getElem?_eq_some_iff.1 h
  have : (l.map Prod.fst)[k]'(by simpa using hk) = a.1 := by simp [he]
  rw [← this, List.set_getElem_self]
theorem AdOk.add (h : AdOk most paths left l) (a : Int × Int) : AdOk most paths (adAdd most paths left l a).1 (adAdd most paths left l a).2.1 := by
  unfold adAdd
  by_cases hc : mayB paths a = false ∨ a ∈ l ∨ left < 16 ∨ (l.length ≤ atI l a.1 ∧ most ≤ l.length)
  · rw [if_pos hc]
    exact h
  rw [if_neg hc]
  have hc' : ¬ mayB paths a = false ∧ ¬ a ∈ l ∧ ¬ left < 16 ∧ ¬ (l.length ≤ atI l a.1 ∧ most ≤ l.length) := by
    refine ⟨fun x => hc (.inl x), fun x => hc (.inr (.inl x)), fun x => hc (.inr (.inr (.inl x))), fun x => hc (.inr (.inr (.inr x)))⟩
  obtain ⟨c1, c2, c3, c4⟩ := hc'
  have hm : mayB paths a = true := by cases e : mayB paths a; exact absurd e c1; rfl
  by_cases hk : atI l a.1 < l.length
  · simp only [if_pos hk]
    obtain ⟨p, hp⟩ := atI_get hk
    refine ⟨h.most8, h.paths4, by have := h.left64; omega, by rw [List.length_set]; exact h.len, by rw [map_set_fst hp]; exact h.nodup, fun b hb => ?_⟩
    rcases List.mem_or_eq_of_mem_set hb with hb | rfl
    · exact h.may b hb
    · exact hm
  · simp only [if_neg hk]
    have he : atI l a.1 = l.length := Nat.le_antisymm (atI_le _ _) (by omega)
    refine ⟨h.most8, h.paths4, by have := h.left64; omega, by simp; omega, ?_, fun b hb => ?_⟩
    · rw [List.map_append, List.nodup_append]
      refine ⟨h.nodup, by simp, ?_⟩
      intro x hx y hy
      simp only [List.map_cons, List.map_nil, List.mem_singleton] at hy
      subst hy
      obtain ⟨b, hb, rfl⟩ := List.mem_map.1 hx
      intro e
      exact hk (atI_mem.2 ⟨b, hb, e⟩)
    · rcases List.mem_append.1 hb with hb | hb
      · exact h.may b hb
      · simp only [List.mem_singleton] at hb
        subst hb
        exact hm
theorem AdOk.gone (h : AdOk most paths left l) (id : Int) : AdOk most paths left (adGone l id).1 := by
  unfold adGone
  split
  · refine ⟨h.most8, h.paths4, h.left64, ?_, ?_, fun b hb => h.may b (List.mem_of_mem_eraseIdx hb)⟩
    · show (l.eraseIdx (atI l id)).length ≤ most
      have := List.length_eraseIdx_le l (atI l id)
      have := h.len
      omega
    · exact h.nodup.sublist ((List.eraseIdx_sublist l (atI l id)).map _)
  · exact h
theorem AdOk.setLeft (h : AdOk most paths left l) {k : Nat} (hk : k ≤ 64) : AdOk most paths k l := ⟨h.most8, h.paths4, hk, h.len, h.nodup, h.may⟩
theorem AdOk.new {most paths : Nat} (h8 : most ≤ 8) (h4 : paths ≤ 4) : AdOk most paths 64 [] := ⟨h8, h4, Nat.le_refl _, Nat.zero_le _, by simp, by simp⟩
end
end Go.Proofs.Ytdcpmfodkggpeaa
