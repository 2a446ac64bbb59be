/- Heaps of things with times: mathematics. No program. -/
namespace Go.Proofs.Ytkekmcolekomjaa
set_option linter.unusedVariables false
/-- A thing: when, what, how many were put ahead of it. -/
abbrev Nd := Int × Int × Nat
def ltN (x y : Nd) : Prop := x.1 < y.1 ∨ (x.1 = y.1 ∧ x.2.2 < y.2.2)
def leN (x y : Nd) : Prop := x.1 < y.1 ∨ (x.1 = y.1 ∧ x.2.2 ≤ y.2.2)
instance (x y : Nd) : Decidable (ltN x y) := by unfold ltN; exact inferInstance
theorem leN_of_not {x y : Nd} (h : ¬ ltN x y) : leN y x := by unfold ltN at h; unfold leN; omega
theorem leN_of {x y : Nd} (h : ltN x y) : leN x y := by unfold ltN at h; unfold leN; omega
theorem leN_trans {x y z : Nd} (h : leN x y) (k : leN y z) : leN x z := by unfold leN at *; omega
theorem leN_refl (x : Nd) : leN x x := by unfold leN; omega
theorem ltN_not {x y : Nd} (h : ltN x y) (k : leN y x) : False := by unfold ltN at h; unfold leN at k; omega
theorem ltN_le {x y z : Nd} (h : ltN x y) (k : leN y z) : ltN x z := by unfold ltN at *; unfold leN at k; omega
def gN (l : List Nd) (i : Nat) : Nd := l.getD i (0, 0, 0)
theorem gN_some {l : List Nd} {i : Nat} (h : i < l.length) : l[i]? = some (gN l i) := by unfold gN; simp [h]
theorem gN_of {l : List Nd} {i : Nat} {x : Nd} (h : l[i]? = some x) : gN l i = x := by unfold gN; simp [h]
theorem gN_mem {l : List Nd} {i : Nat} (h : i < l.length) : gN l i ∈ l := List.mem_of_getElem? (gN_some h)
theorem mem_gN {l : List Nd} {x : Nd} (h : x ∈ l) : ∃ i, i < l.length ∧ gN l i = x := by
  obtain ⟨i, hi, rfl⟩ := List.mem_iff_getElem.1 h
  exact ⟨i, hi, by unfold gN; simp [hi]⟩
def swN (l : List Nd) (i j : Nat) : List Nd := (l.set i (gN l j)).set j (gN l i)
theorem swN_len (l : List Nd) (i j : Nat) : (swN l i j).length = l.length := by unfold swN; simp
theorem swN_get {l : List Nd} {i j k : Nat} (hi : i < l.length) (hj : j < l.length) : gN (swN l i j) k = if k = j then gN l i else if k = i then gN l j else gN l k := by
  unfold swN gN
  simp only [List.getD_eq_getElem?_getD, List.getElem?_set]
  by_cases h1 : k = j
  · subst h1; simp [hj]
  · have h1' : ¬ j = k := fun e => h1 e.symm
    by_cases h2 : k = i
    · subst h2; simp [h1, h1', hi]
    · have h2' : ¬ i = k := fun e => h2 e.symm
      simp [h1, h2, h1', h2']
theorem count_set' {l : List Nd} {i : Nat} {a b : Nd} (h : i < l.length) : (l.set i a).count b + (if gN l i = b then 1 else 0) = l.count b + (if a = b then 1 else 0) := by
  induction l generalizing i with
  | nil => simp at h
  | cons x l ih =>
    cases i with
    | zero =>
      simp only [List.set_cons_zero, List.count_cons, gN, List.getD_cons_zero, beq_iff_eq]
      split <;> split <;> omega
    | succ i =>
      simp only [List.set_cons_succ, List.count_cons, beq_iff_eq]
      have this : ∀ p q r : Nat, List.count b (l.set i a) + p = List.count b l + q → List.count b (l.set i a) + r + p = List.count b l + r + q := fun p q r h => by omega
      exact this _ _ _ (ih (i := i) (by simpa using h))
theorem swN_perm {l : List Nd} {i j : Nat} (hi : i < l.length) (hj : j < l.length) : (swN l i j).Perm l := by
  rw [List.perm_iff_count]
  intro a
  have h1 := count_set' (l := l) (i := i) (a := gN l j) (b := a) hi
  have h2 := count_set' (l := l.set i (gN l j)) (i := j) (a := gN l i) (b := a) (by simpa using hj)
  have e : gN (l.set i (gN l j)) j = gN l j := by
    unfold gN
    simp only [List.getD_eq_getElem?_getD, List.getElem?_set]
    by_cases h : i = j
    · subst h; simp [hi]
    · simp [h]
  rw [e] at h2
  unfold swN
  omega
/-- None comes ahead of its parent. -/
def Hp (l : List Nd) : Prop := ∀ k, 0 < k → k < l.length → leN (gN l ((k - 1) / 2)) (gN l k)
def HU (l : List Nd) (i : Nat) : Prop := (∀ k, 0 < k → k < l.length → k ≠ i → leN (gN l ((k - 1) / 2)) (gN l k)) ∧ (∀ k, 0 < k → k < l.length → (k - 1) / 2 = i → 0 < i → leN (gN l ((i - 1) / 2)) (gN l k))
def HD (l : List Nd) (i : Nat) : Prop := (∀ k, 0 < k → k < l.length → (k - 1) / 2 ≠ i → leN (gN l ((k - 1) / 2)) (gN l k)) ∧ (∀ k, 0 < k → k < l.length → (k - 1) / 2 = i → 0 < i → leN (gN l ((i - 1) / 2)) (gN l k))
theorem HU.zero {l : List Nd} (h : HU l 0) : Hp l := fun k h0 hk => h.1 k h0 hk (by omega)
theorem HU.stop {l : List Nd} {i : Nat} (h : HU l i) (hn : ¬ ltN (gN l i) (gN l ((i - 1) / 2))) : Hp l := fun k h0 hk => by
  by_cases e : k = i
  · subst e; exact leN_of_not hn
  · exact h.1 k h0 hk e
theorem HU.up {l : List Nd} {i : Nat} (h : HU l i) (h0 : 0 < i) (hi : i < l.length) (hlt : ltN (gN l i) (gN l ((i - 1) / 2))) : HU (swN l i ((i - 1) / 2)) ((i - 1) / 2) := by
  have hle := leN_of hlt
  have hpi : (i - 1) / 2 < l.length := by omega
  obtain ⟨p, hp⟩ : ∃ p, p = (i - 1) / 2 := ⟨_, rfl⟩
  rw [← hp] at hle hpi ⊢
  refine ⟨fun k k0 hk hne => ?_, fun k k0 hk hpk hp0 => ?_⟩ <;> rw [swN_len] at hk <;> rw [swN_get hi hpi, swN_get hi hpi]
  · rw [if_neg hne]
    by_cases e1 : k = i
    · subst e1
      rw [if_pos hp.symm, if_pos rfl]; exact hle
    · rw [if_neg e1]
      by_cases e2 : (k - 1) / 2 = i
      · rw [if_neg (by omega), if_pos e2]
        have := h.2 k k0 hk e2 h0
        rw [← hp] at this; exact this
      · by_cases e3 : (k - 1) / 2 = p
        · rw [if_pos e3]
          have := h.1 k k0 hk e1
          rw [e3] at this
          exact leN_trans hle this
        · rw [if_neg e3, if_neg e2]
          exact h.1 k k0 hk e1
  · rw [if_neg (by omega), if_neg (by omega)]
    have hpp := h.1 p hp0 hpi (by omega)
    rw [if_neg (by omega)]
    by_cases e1 : k = i
    · rw [if_pos e1]; exact hpp
    · rw [if_neg e1]
      have := h.1 k k0 hk e1
      rw [hpk] at this
      exact leN_trans hpp this
theorem HU.snoc {l : List Nd} (h : Hp l) (x : Nd) : HU (l ++ [x]) l.length := by
  have hg : ∀ k, k < l.length → gN (l ++ [x]) k = gN l k := fun k hk => by unfold gN; simp [List.getElem?_append_left hk]
  refine ⟨fun k k0 hk hne => ?_, fun k k0 hk hp h0 => ?_⟩ <;> simp at hk
  · rw [hg _ (by omega), hg _ (by omega)]; exact h k k0 (by omega)
  · omega
theorem HD.stop {l : List Nd} {i : Nat} (h : HD l i) (h1 : 2 * i + 1 < l.length → leN (gN l i) (gN l (2 * i + 1))) (h2 : 2 * i + 2 < l.length → leN (gN l i) (gN l (2 * i + 2))) : Hp l := fun k k0 hk => by
  by_cases e : (k - 1) / 2 = i
  · rw [e]
    rcases (show k = 2 * i + 1 ∨ k = 2 * i + 2 by omega) with rfl | rfl
    · exact h1 hk
    · exact h2 hk
  · exact h.1 k k0 hk e
theorem HD.down {l : List Nd} {i f : Nat} (h : HD l i) (hi : i < l.length) (hf : f < l.length) (hc : f = 2 * i + 1 ∨ f = 2 * i + 2) (hfi : leN (gN l f) (gN l i)) (h1 : 2 * i + 1 < l.length → leN (gN l f) (gN l (2 * i + 1))) (h2 : 2 * i + 2 < l.length → leN (gN l f) (gN l (2 * i + 2))) : HD (swN l i f) f := by
  have hp : (f - 1) / 2 = i := by omega
  refine ⟨fun k k0 hk hne => ?_, fun k k0 hk hpk hf0 => ?_⟩ <;> rw [swN_len] at hk <;> rw [swN_get hi hf, swN_get hi hf]
  · rw [if_neg hne]
    by_cases e1 : (k - 1) / 2 = i
    · rw [if_pos e1]
      by_cases e2 : k = f
      · rw [if_pos e2]; exact hfi
      · rw [if_neg e2, if_neg (by omega)]
        rcases (show k = 2 * i + 1 ∨ k = 2 * i + 2 by omega) with rfl | rfl
        · exact h1 hk
        · exact h2 hk
    · rw [if_neg e1]
      by_cases e3 : k = i
      · subst e3
        rw [if_neg (by omega), if_pos rfl]
        exact h.2 f (by omega) hf hp k0
      · rw [if_neg (by intro e; subst e; exact e1 hp), if_neg e3]
        exact h.1 k k0 hk e1
  · rw [hp, if_neg (by omega), if_pos rfl, if_neg (by omega), if_neg (by omega)]
    have := h.1 k k0 hk (by omega)
    rw [hpk] at this
    exact this
theorem Hp.min {l : List Nd} (h : Hp l) : ∀ k, k < l.length → leN (gN l 0) (gN l k) := by
  intro k
  induction k using Nat.strongRecOn with
  | _ k ih =>
    intro hk
    by_cases h0 : k = 0
    · subst h0; exact leN_refl _
    · exact leN_trans (ih ((k - 1) / 2) (by omega) (by omega)) (h k (by omega) hk)
theorem Hp.nil : Hp [] := fun k _ hk => absurd hk (by simp)
/-- What is left where the first is taken: the last stands in its stead. -/
def popN (l : List Nd) : List Nd := (l.set 0 (gN l (l.length - 1))).take (l.length - 1)
theorem popN_len (l : List Nd) : (popN l).length = l.length - 1 := by unfold popN; simp
theorem popN_perm {l : List Nd} (h : 0 < l.length) : l.Perm (gN l 0 :: popN l) := by
  cases l with
  | nil => simp at h
  | cons a t =>
    rcases List.eq_nil_or_concat t with rfl | ⟨t', z, rfl⟩
    · exact List.Perm.refl _
    · have e1 : gN (a :: (t' ++ [z])) ((a :: (t' ++ [z])).length - 1) = z := by unfold gN; simp
      have e : popN (a :: (t' ++ [z])) = z :: t' := by
        unfold popN
        rw [e1]
        simp
      rw [List.concat_eq_append] at *
      rw [e]
      show List.Perm (a :: (t' ++ [z])) (a :: z :: t')
      exact List.Perm.cons a (List.perm_append_comm (l₁ := t') (l₂ := [z]))
theorem HD.pop {l : List Nd} (h : Hp l) : HD (popN l) 0 := by
  have hl := popN_len l
  have hg : ∀ k, 0 < k → k < l.length - 1 → gN (popN l) k = gN l k := fun k k0 hk => by
    unfold popN gN
    simp only [List.getD_eq_getElem?_getD, List.getElem?_take, List.getElem?_set]
    rw [if_pos hk, if_neg (by omega)]
  refine ⟨fun k k0 hk hne => ?_, fun k _ _ _ h0 => absurd h0 (by omega)⟩
  rw [hl] at hk
  rw [hg _ (by omega) (by omega), hg _ k0 hk]
  exact h k k0 (by omega)
/-- Things in their order. -/
def Srt (R : List Nd) : Prop := R.Pairwise ltN
def insN (x : Nd) : List Nd → List Nd
  | [] => [x]
  | y :: R => if y.1 ≤ x.1 then y :: insN x R else x :: y :: R
theorem insN_perm (x : Nd) : ∀ R : List Nd, (R ++ [x]).Perm (insN x R)
  | [] => List.Perm.refl _
  | y :: R => by
    unfold insN
    split
    · exact List.Perm.cons y (insN_perm x R)
    · exact List.perm_append_comm (l₁ := y :: R) (l₂ := [x])
theorem insN_srt {x : Nd} : ∀ {R : List Nd}, Srt R → (∀ y ∈ R, y.2.2 < x.2.2) → Srt (insN x R)
  | [], _, _ => List.pairwise_singleton _ _
  | y :: R, h, hx => by
    obtain ⟨h1, h2⟩ := List.pairwise_cons.1 h
    unfold insN
    split
    · rename_i hc
      refine List.pairwise_cons.2 ⟨fun z hz => ?_, insN_srt h2 fun z hz => hx z (List.mem_cons_of_mem _ hz)⟩
      rcases List.mem_append.1 ((insN_perm x R).mem_iff.2 hz) with hz | hz
      · exact h1 z hz
      · obtain rfl := List.mem_singleton.1 hz
        have := hx y (List.mem_cons_self ..)
        unfold ltN; omega
    · rename_i hc
      refine List.pairwise_cons.2 ⟨fun z hz => ?_, h⟩
      rcases List.mem_cons.1 hz with rfl | hz
      · unfold ltN; omega
      · have := h1 z hz
        unfold ltN at this ⊢; omega
theorem first_eq {l R : List Nd} {x : Nd} (h : Hp l) (hp : l.Perm (x :: R)) (hs : Srt (x :: R)) : gN l 0 = x := by
  have hl : 0 < l.length := by rw [hp.length_eq]; simp
  have hx : x ∈ l := hp.mem_iff.2 (List.mem_cons_self ..)
  obtain ⟨i, hi, e⟩ := mem_gN hx
  have hle := h.min i hi
  rw [e] at hle
  have hm : gN l 0 ∈ x :: R := hp.mem_iff.1 (gN_mem hl)
  rcases List.mem_cons.1 hm with h1 | h1
  · exact h1
  · exact (ltN_not ((List.pairwise_cons.1 hs).1 _ h1) hle).elim
theorem pop_perm {l R : List Nd} {x : Nd} (h : Hp l) (hp : l.Perm (x :: R)) (hs : Srt (x :: R)) : (popN l).Perm R := by
  have hl : 0 < l.length := by rw [hp.length_eq]; simp
  have e := first_eq h hp hs
  have h2 := (popN_perm hl).symm.trans hp
  rw [e] at h2
  exact List.Perm.cons_inv h2
end Go.Proofs.Ytkekmcolekomjaa
