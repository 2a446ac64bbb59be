/- Pieces that rise and don't touch: mathematics. No program. -/
namespace Go.Proofs.Ytnngjbieoakanaa
set_option linter.unusedVariables false
abbrev Sp := Nat × Nat
/-- Pieces that rise and don't touch. -/
def Rise : List Sp → Prop
  | [] => True
  | p :: l => p.1 < p.2 ∧ (∀ q ∈ l, p.2 < q.1) ∧ Rise l
def spPre (l : List Sp) (f : Nat) : List Sp := l.takeWhile fun p => decide (p.2 < f)
def spRest (l : List Sp) (f : Nat) : List Sp := l.dropWhile fun p => decide (p.2 < f)
def spMid (l : List Sp) (t : Nat) : List Sp := l.takeWhile fun p => decide (p.1 ≤ t)
def spPost (l : List Sp) (t : Nat) : List Sp := l.dropWhile fun p => decide (p.1 ≤ t)
/-- A piece with those that it touches. -/
def spWh (m : List Sp) (x : Sp) : Sp := m.foldl (fun x p => (min x.1 p.1, max x.2 p.2)) x
def addL (l : List Sp) (f t : Nat) : List Sp := spPre l f ++ spWh (spMid (spRest l f) t) (f, t) :: spPost (spRest l f) t
/-- How many end below. -/
def spAt (l : List Sp) (f : Nat) : Nat := (spPre l f).length
def memL (l : List Sp) (n : Nat) : Bool := l.any fun p => decide (p.1 ≤ n) && decide (n < p.2)
def cutL (l : List Sp) (b : Nat) : List Sp := (l.map fun p => (max p.1 b, p.2)).filter fun p => decide (p.1 < p.2)
def runL (l : List Sp) (n : Nat) : Nat := match l.find? fun p => decide (p.1 ≤ n) && decide (n < p.2) with | some p => p.2 | none => n
def gapF : List Sp → Nat → Nat → List Sp
  | [], f, t => if f < t then [(f, t)] else []
  | p :: l, f, t => if t ≤ p.1 then (if f < t then [(f, t)] else []) else (if f < p.1 then (f, p.1) :: gapF l p.2 t else gapF l p.2 t)
def gapL (l : List Sp) (f t : Nat) : List Sp := gapF (spRest l f) f t
def manyL (l : List Sp) : Nat := (l.map fun p => p.2 - p.1).sum
/-- The reference's pass over the pieces. -/
def joinF : List Sp → Sp → List Sp × Sp
  | [], x => ([], x)
  | p :: l, x => if p.2 < x.1 ∨ x.2 < p.1 then (p :: (joinF l x).1, (joinF l x).2) else joinF l (min p.1 x.1, max p.2 x.2)

theorem Rise.tail {p : Sp} {l : List Sp} (h : Rise (p :: l)) : Rise l := h.2.2
theorem Rise.pos {l : List Sp} (h : Rise l) : ∀ p ∈ l, p.1 < p.2 := by
  induction l with
  | nil => simp
  | cons p l ih =>
    intro q hq
    rcases List.mem_cons.1 hq with rfl | hq
    · exact h.1
    · exact ih h.2.2 q hq
theorem rise_append {l m : List Sp} : Rise (l ++ m) ↔ Rise l ∧ Rise m ∧ ∀ p ∈ l, ∀ q ∈ m, p.2 < q.1 := by
  induction l with
  | nil => simp [Rise]
  | cons p l ih =>
    simp only [List.cons_append, Rise, ih, List.mem_append, List.mem_cons]
    constructor
    · rintro ⟨h1, h2, h3, h4, h5⟩
      refine ⟨⟨h1, fun q hq => h2 q (.inl hq), h3⟩, h4, ?_⟩
      rintro a (rfl | ha) q hq
      · exact h2 q (.inr hq)
      · exact h5 a ha q hq
    · rintro ⟨⟨h1, h2, h3⟩, h4, h5⟩
      exact ⟨h1, fun q hq => hq.elim (h2 q) (h5 p (.inl rfl) q), h3, h4, fun a ha q hq => h5 a (.inr ha) q hq⟩
theorem pre_rest (l : List Sp) (f : Nat) : spPre l f ++ spRest l f = l := List.takeWhile_append_dropWhile
theorem mid_post (l : List Sp) (t : Nat) : spMid l t ++ spPost l t = l := List.takeWhile_append_dropWhile
theorem spPre_lt {l : List Sp} {f : Nat} : ∀ p ∈ spPre l f, p.2 < f := by
  intro p hp
  induction l with
  | nil => simp [spPre] at hp
  | cons q l ih =>
    unfold spPre at hp ih
    rw [List.takeWhile_cons] at hp
    split at hp
    · rename_i h
      rcases List.mem_cons.1 hp with rfl | hp
      · simpa using h
      · exact ih hp
    · simp at hp
theorem spMid_le {l : List Sp} {t : Nat} : ∀ p ∈ spMid l t, p.1 ≤ t := by
  intro p hp
  induction l with
  | nil => simp [spMid] at hp
  | cons q l ih =>
    unfold spMid at hp ih
    rw [List.takeWhile_cons] at hp
    split at hp
    · rename_i h
      rcases List.mem_cons.1 hp with rfl | hp
      · simpa using h
      · exact ih hp
    · simp at hp
theorem spRest_ge {l : List Sp} {f : Nat} (h : Rise l) : ∀ p ∈ spRest l f, f ≤ p.2 := by
  intro p hp
  induction l with
  | nil => simp [spRest] at hp
  | cons q l ih =>
    unfold spRest at hp ih
    rw [List.dropWhile_cons] at hp
    split at hp
    · exact ih h.2.2 hp
    · rename_i h1
      have h1 : ¬ q.2 < f := by simpa using h1
      rcases List.mem_cons.1 hp with rfl | hp
      · omega
      · have := h.2.1 p hp
        have := h.2.2.pos p hp
        omega
theorem spPost_gt {l : List Sp} {t : Nat} (h : Rise l) : ∀ p ∈ spPost l t, t < p.1 := by
  intro p hp
  induction l with
  | nil => simp [spPost] at hp
  | cons q l ih =>
    unfold spPost at hp ih
    rw [List.dropWhile_cons] at hp
    split at hp
    · exact ih h.2.2 hp
    · rename_i h1
      have h1 : ¬ q.1 ≤ t := by simpa using h1
      rcases List.mem_cons.1 hp with rfl | hp
      · omega
      · have := h.2.1 p hp
        have := h.1
        omega
theorem spRest_rise {l : List Sp} {f : Nat} (h : Rise l) : Rise (spRest l f) := by
  have := pre_rest l f
  rw [← this] at h
  exact (rise_append.1 h).2.1
theorem spWh_cons (p : Sp) (m : List Sp) (x : Sp) : spWh (p :: m) x = spWh m (min x.1 p.1, max x.2 p.2) := rfl
theorem spWh_le (m : List Sp) (x : Sp) : (spWh m x).1 ≤ x.1 ∧ x.2 ≤ (spWh m x).2 := by
  induction m generalizing x with
  | nil => exact ⟨Nat.le_refl _, Nat.le_refl _⟩
  | cons p m ih =>
    rw [spWh_cons]
    have := ih (min x.1 p.1, max x.2 p.2)
    simp only at this
    omega
theorem spWh_snd (m : List Sp) (x : Sp) (b : Nat) (hx : x.2 < b) (hm : ∀ p ∈ m, p.2 < b) : (spWh m x).2 < b := by
  induction m generalizing x with
  | nil => exact hx
  | cons p m ih =>
    rw [spWh_cons]
    have := hm p (by simp)
    exact ih _ (by simp only; omega) fun q hq => hm q (by simp [hq])
theorem spWh_fst (m : List Sp) (x : Sp) (b : Nat) (hx : b < x.1) (hm : ∀ p ∈ m, b < p.1) : b < (spWh m x).1 := by
  induction m generalizing x with
  | nil => exact hx
  | cons p m ih =>
    rw [spWh_cons]
    have := hm p (by simp)
    exact ih _ (by simp only; omega) fun q hq => hm q (by simp [hq])
theorem spWh_mem (m : List Sp) (x : Sp) (hx : x.1 ≤ x.2) (hm : ∀ p ∈ m, p.1 < p.2 ∧ x.1 ≤ p.2 ∧ p.1 ≤ x.2) (n : Nat) :
    ((spWh m x).1 ≤ n ∧ n < (spWh m x).2) ↔ (x.1 ≤ n ∧ n < x.2) ∨ ∃ p ∈ m, p.1 ≤ n ∧ n < p.2 := by
  induction m generalizing x with
  | nil => simp [spWh]
  | cons p m ih =>
    have h0 := hm p (by simp)
    rw [spWh_cons, ih]
    · simp only [List.mem_cons, exists_eq_or_imp]
      constructor
      · rintro (h | h)
        · by_cases hp : p.1 ≤ n ∧ n < p.2
          · exact .inr (.inl hp)
          · exact .inl (by omega)
        · exact .inr (.inr h)
      · rintro (h | h | h)
        · exact .inl (by omega)
        · exact .inl (by omega)
        · exact .inr h
    · simp only; omega
    · intro q hq
      have := hm q (by simp [hq])
      simp only
      omega
theorem memL_append (l m : List Sp) (n : Nat) : memL (l ++ m) n = (memL l n || memL m n) := by simp [memL, List.any_append]
theorem memL_cons (p : Sp) (l : List Sp) (n : Nat) : memL (p :: l) n = ((decide (p.1 ≤ n) && decide (n < p.2)) || memL l n) := by simp [memL]
theorem memL_iff (l : List Sp) (n : Nat) : memL l n = true ↔ ∃ p ∈ l, p.1 ≤ n ∧ n < p.2 := by simp [memL]
section
variable {l : List Sp} {f t : Nat}
theorem mid_facts (h : Rise l) : ∀ p ∈ spMid (spRest l f) t, p.1 < p.2 ∧ f ≤ p.2 ∧ p.1 ≤ t := by
  intro p hp
  have hm : p ∈ spRest l f := by
    have := mid_post (spRest l f) t
    rw [← this]
    exact List.mem_append_left _ hp
  exact ⟨(spRest_rise h).pos p hm, spRest_ge h p hm, spMid_le p hp⟩
theorem parts_eq (l : List Sp) (f t : Nat) : l = spPre l f ++ (spMid (spRest l f) t ++ spPost (spRest l f) t) := by rw [mid_post, pre_rest]
/-- The order of the three parts. -/
theorem parts (h : Rise l) : Rise (spPre l f) ∧ Rise (spMid (spRest l f) t) ∧ Rise (spPost (spRest l f) t) ∧ (∀ p ∈ spPre l f, ∀ q ∈ spMid (spRest l f) t, p.2 < q.1) ∧ (∀ p ∈ spPre l f, ∀ q ∈ spPost (spRest l f) t, p.2 < q.1) ∧ ∀ p ∈ spMid (spRest l f) t, ∀ q ∈ spPost (spRest l f) t, p.2 < q.1 := by
  have e := parts_eq l f t
  have h' := e ▸ h
  rw [rise_append, rise_append] at h'
  obtain ⟨h1, ⟨h2, h3, h4⟩, h5⟩ := h'
  exact ⟨h1, h2, h3, fun p hp q hq => h5 p hp q (List.mem_append_left _ hq), fun p hp q hq => h5 p hp q (List.mem_append_right _ hq), h4⟩
theorem wh_pre (h : Rise l) : ∀ p ∈ spPre l f, p.2 < (spWh (spMid (spRest l f) t) (f, t)).1 := by
  intro p hp
  exact spWh_fst _ _ _ (spPre_lt p hp) fun q hq => (parts h).2.2.2.1 p hp q hq
theorem wh_post (h : Rise l) : ∀ q ∈ spPost (spRest l f) t, (spWh (spMid (spRest l f) t) (f, t)).2 < q.1 := by
  intro q hq
  exact spWh_snd _ _ _ (spPost_gt (spRest_rise h) q hq) fun p hp => (parts h).2.2.2.2.2 p hp q hq
theorem addL_rise (h : Rise l) (hft : f < t) : Rise (addL l f t) := by
  have hp := parts (f := f) (t := t) h
  have hle := spWh_le (spMid (spRest l f) t) (f, t)
  unfold addL
  rw [rise_append]
  refine ⟨hp.1, ⟨by simp only at hle; omega, wh_post h, hp.2.2.1⟩, fun p hp' q hq => ?_⟩
  rcases List.mem_cons.1 hq with rfl | hq
  · exact wh_pre h p hp'
  · exact hp.2.2.2.2.1 p hp' q hq
theorem addL_mem (h : Rise l) (hft : f < t) (n : Nat) : memL (addL l f t) n = (memL l n || (decide (f ≤ n) && decide (n < t))) := by
  have hw := spWh_mem (spMid (spRest l f) t) (f, t) (by simp only; omega) (mid_facts h) n
  have hm := memL_iff (spMid (spRest l f) t) n
  have e : memL l n = (memL (spPre l f) n || (memL (spMid (spRest l f) t) n || memL (spPost (spRest l f) t) n)) := by
    rw [← memL_append, ← memL_append, ← parts_eq]
  rw [e]
  unfold addL
  rw [memL_append, memL_cons]
  have hw' : (decide ((spWh (spMid (spRest l f) t) (f, t)).1 ≤ n) && decide (n < (spWh (spMid (spRest l f) t) (f, t)).2)) = ((decide (f ≤ n) && decide (n < t)) || memL (spMid (spRest l f) t) n) := by
    rw [Bool.eq_iff_iff]
    simp only [Bool.and_eq_true, decide_eq_true_eq, Bool.or_eq_true, hm]
    exact hw
  rw [hw']
  cases memL (spPre l f) n <;> cases memL (spMid (spRest l f) t) n <;> cases memL (spPost (spRest l f) t) n <;> simp
theorem addL_len (l : List Sp) (f t : Nat) : (addL l f t).length + (spMid (spRest l f) t).length = l.length + 1 := by
  have e := congrArg List.length (parts_eq l f t)
  simp only [List.length_append] at e
  unfold addL
  simp only [List.length_append, List.length_cons]
  omega
theorem joinF_skip (m : List Sp) (x : Sp) (h : ∀ p ∈ m, p.2 < x.1 ∨ x.2 < p.1) (r : List Sp) : joinF (m ++ r) x = (m ++ (joinF r x).1, (joinF r x).2) := by
  induction m with
  | nil => rfl
  | cons p m ih =>
    have := ih fun q hq => h q (by simp [hq])
    simp only [List.cons_append, joinF]
    rw [if_pos (h p (by simp)), this]
theorem joinF_mid (m : List Sp) (x : Sp) (h : ∀ p ∈ m, x.1 ≤ p.2 ∧ p.1 ≤ x.2) (r : List Sp) : joinF (m ++ r) x = joinF r (spWh m x) := by
  induction m generalizing x with
  | nil => rfl
  | cons p m ih =>
    have h0 := h p (by simp)
    simp only [List.cons_append, joinF]
    rw [if_neg (by omega), ih, spWh_cons, Nat.min_comm, Nat.max_comm]
    intro q hq
    have := h q (by simp [hq])
    simp only
    omega
theorem joinF_eq (h : Rise l) (hft : f < t) : joinF l (f, t) = (spPre l f ++ spPost (spRest l f) t, spWh (spMid (spRest l f) t) (f, t)) := by
  conv => lhs; rw [parts_eq l f t]
  rw [joinF_skip (spPre l f) (f, t) (fun p hp => .inl (spPre_lt p hp)), joinF_mid (spMid (spRest l f) t) (f, t) (fun p hp => (mid_facts h p hp).2)]
  have hs := joinF_skip (spPost (spRest l f) t) (spWh (spMid (spRest l f) t) (f, t)) (fun q hq => .inr (wh_post h q hq)) []
  rw [List.append_nil] at hs
  rw [hs]
  simp [joinF]
end
end Go.Proofs.Ytnngjbieoakanaa
