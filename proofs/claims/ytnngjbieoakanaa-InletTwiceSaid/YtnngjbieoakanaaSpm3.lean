/- Pieces: what SpansFill asks. No program. -/
import Derived.Test.YtnngjbieoakanaaSpm2
namespace Go.Proofs.Ytnngjbieoakanaa
set_option linter.unusedVariables false
theorem rise_two {l : List Sp} (h : Rise l) {p q : Sp} (hp : p ∈ l) (hq : q ∈ l) : p = q ∨ p.2 < q.1 ∨ q.2 < p.1 := by
  induction l with
  | nil => cases hp
  | cons a l ih =>
    rcases List.mem_cons.1 hp with rfl | hp' <;> rcases List.mem_cons.1 hq with rfl | hq'
    · exact .inl rfl
    · exact .inr (.inl (h.2.1 q hq'))
    · exact .inr (.inr (h.2.1 p hp'))
    · exact ih h.2.2 hp' hq'
theorem has_mem (l : List Sp) (x : Nat) : decide (x < runL l x) = memL l x := by
  unfold runL
  cases hf : l.find? fun p => decide (p.1 ≤ x) && decide (x < p.2) with
  | none =>
    have h1 := List.find?_eq_none.1 hf
    have h2 : memL l x = false := by
      rw [← Bool.not_eq_true]
      intro hm
      obtain ⟨p, hp, a, b⟩ := (memL_iff l x).1 hm
      exact h1 p hp (by simp; omega)
    rw [h2]
    simp
  | some p =>
    have h1 := List.find?_some hf
    have h2 := List.mem_of_find?_eq_some hf
    simp at h1
    have h3 : memL l x = true := (memL_iff l x).2 ⟨p, h2, h1.1, h1.2⟩
    rw [h3]
    simp
    exact h1.2
theorem run_all {l : List Sp} (h : Rise l) {f t : Nat} (hm : ∀ n, f ≤ n → n < t → memL l n = true) (hge : f ≤ runL l f) : t ≤ runL l f := by
  rcases Nat.lt_or_ge f t with hft | hft
  · have h1 := hm f (Nat.le_refl _) hft
    have h2 := has_mem l f
    rw [h1] at h2
    unfold runL at *
    cases hf : l.find? fun p => decide (p.1 ≤ f) && decide (f < p.2) with
    | none => rw [hf] at h2; simp at h2
    | some p =>
      have h3 := List.find?_some hf
      have h4 := List.mem_of_find?_eq_some hf
      simp at h3
      dsimp only
      refine Nat.le_of_not_lt fun hlt => ?_
      obtain ⟨q, hq, a, b⟩ := (memL_iff l p.2).1 (hm p.2 (by omega) hlt)
      rcases rise_two h h4 hq with e | e | e
      · rw [← e] at b; omega
      · omega
      · omega
  · omega
/-- The sets that the calls make, one after the other. -/
def addsF (l : List Sp) (ops : List Sp) : List Sp := ops.foldl (fun l p => if p.2 ≤ p.1 then l else addL l p.1 p.2) l
theorem addsF_snoc (l : List Sp) (ops : List Sp) (p : Sp) : addsF l (ops ++ [p]) = if p.2 ≤ p.1 then addsF l ops else addL (addsF l ops) p.1 p.2 := by
  unfold addsF
  rw [List.foldl_append]
  rfl
theorem addsF_ok {l ops : List Sp} {b : Nat} (h : Rise l) (hb : ∀ p ∈ l, p.2 < b) (ho : ∀ p ∈ ops, p.2 < b) : Rise (addsF l ops) ∧ (∀ p ∈ addsF l ops, p.2 < b) ∧ (addsF l ops).length ≤ l.length + ops.length := by
  induction ops generalizing l with
  | nil => exact ⟨h, hb, Nat.le_refl _⟩
  | cons p ops ih =>
    have e : addsF l (p :: ops) = addsF (if p.2 ≤ p.1 then l else addL l p.1 p.2) ops := rfl
    rw [e]
    by_cases hp : p.2 ≤ p.1
    · rw [if_pos hp]
      obtain ⟨h1, h2, h3⟩ := ih h hb fun q hq => ho q (by simp [hq])
      exact ⟨h1, h2, by simp only [List.length_cons]; omega⟩
    · rw [if_neg hp]
      have hl := addL_len l p.1 p.2
      have hbd : ∀ q ∈ addL l p.1 p.2, q.2 < b := by
        have e := parts_eq l p.1 p.2
        intro q hq
        unfold addL at hq
        simp only [List.mem_append, List.mem_cons] at hq
        have hp' : ∀ x, x ∈ spPre l p.1 ∨ x ∈ spMid (spRest l p.1) p.2 ∨ x ∈ spPost (spRest l p.1) p.2 → x.2 < b := by
          intro x hx
          apply hb
          rw [e]
          simp only [List.mem_append]
          exact hx
        rcases hq with h1 | rfl | h1
        · exact hp' q (.inl h1)
        · exact spWh_snd _ _ _ (ho p (by simp)) fun x hx => hp' x (.inr (.inl hx))
        · exact hp' q (.inr (.inr h1))
      obtain ⟨h1, h2, h3⟩ := ih (addL_rise h (by omega)) hbd fun q hq => ho q (by simp [hq])
      exact ⟨h1, h2, by simp only [List.length_cons]; omega⟩
/-- The gaps, added one after the other. -/
theorem fill_ok {l g : List Sp} {N : Nat} (h : Rise l) (hb : ∀ p ∈ l, p.2 < N) (hg : Rise g) (hgb : ∀ p ∈ g, p.2 < N) (hd : ∀ n, memL g n = true → memL l n = false) :
    Rise (addsF l g) ∧ (∀ p ∈ addsF l g, p.2 < N) ∧ (∀ n, memL (addsF l g) n = (memL l n || memL g n)) ∧ manyL (addsF l g) = manyL l + manyL g := by
  induction g generalizing l with
  | nil => exact ⟨h, hb, fun n => by simp [addsF, memL_nil], by simp [addsF, manyL]⟩
  | cons p g ih =>
    have hp := hg.1
    have e : addsF l (p :: g) = addsF (addL l p.1 p.2) g := by
      show addsF (if p.2 ≤ p.1 then l else addL l p.1 p.2) g = _
      rw [if_neg (by omega)]
    have hone := addsF_ok (ops := [p]) h hb (fun q hq => by simp at hq; subst hq; exact hgb q (by simp))
    have e1 : addsF l [p] = addL l p.1 p.2 := by
      show (if p.2 ≤ p.1 then l else addL l p.1 p.2) = _
      rw [if_neg (by omega)]
    rw [e1] at hone
    have hm := addL_mem h hp
    have hdis : ∀ n, memL g n = true → memL (addL l p.1 p.2) n = false := by
      intro n hn
      rw [hm, hd n (by rw [memL_cons, hn, Bool.or_true])]
      obtain ⟨q, hq, a, b⟩ := (memL_iff g n).1 hn
      have := hg.2.1 q hq
      simp
      omega
    obtain ⟨i1, i2, i3, i4⟩ := ih hone.1 hone.2.1 hg.2.2 (fun q hq => hgb q (by simp [hq])) hdis
    rw [e]
    refine ⟨i1, i2, fun n => ?_, ?_⟩
    · rw [i3, hm, memL_cons, Bool.or_assoc]
    · have hN : 0 < N := by have := hgb p (by simp); omega
      rw [i4, manyL_cons, many_add (N := N - 1) h hp (fun q hq => by have := hb q hq; omega) (by have := hgb p (by simp); omega) (fun n a b => hd n (by rw [memL_cons]; simp; left; omega)) (fun q hq => by have := hone.2.1 q hq; omega)]
      omega
theorem gap_in {l : List Sp} {f t : Nat} (h : Rise l) {i : Nat} {p : Sp} (hp : (gapL l f t)[i]? = some p) : p.1 < p.2 ∧ memL l p.1 = false ∧ memL l (p.2 - 1) = false ∧ f ≤ p.1 ∧ p.2 ≤ t := by
  obtain ⟨h1, h2, h3, h4⟩ := gapL_facts f t h
  have hm := List.mem_of_getElem? hp
  have hlt := h1.pos p hm
  obtain ⟨a, b⟩ := h2 p hm
  have k : ∀ n, p.1 ≤ n → n < p.2 → memL l n = false := by
    intro n c d
    have : memL (gapL l f t) n = true := (memL_iff _ n).2 ⟨p, hm, c, d⟩
    rw [h4] at this
    simp at this
    exact this.2
  exact ⟨hlt, k _ (Nat.le_refl _) hlt, k _ (by omega) (by omega), a, b⟩
theorem gap_dis {l : List Sp} {f t : Nat} (h : Rise l) : ∀ n, memL (gapL l f t) n = true → memL l n = false := by
  intro n hn
  rw [(gapL_facts f t h).2.2.2] at hn
  simp at hn
  exact hn.2
theorem gap_done {l : List Sp} {f t : Nat} (h : Rise l) (hm : ∀ n, f ≤ n → n < t → memL l n = true) : gapL l f t = [] := by
  obtain ⟨h1, h2, h3, h4⟩ := gapL_facts f t h
  cases hg : gapL l f t with
  | nil => rfl
  | cons p g =>
    have hp : (gapL l f t)[0]? = some p := by rw [hg]; rfl
    obtain ⟨a, b, c, d, e⟩ := gap_in h hp
    rw [hm p.1 d (by omega)] at b
    cases b
/-- What SpansFill asks, in all. -/
theorem fill_all {l : List Sp} {f t N : Nat} (h : Rise l) (hb : ∀ p ∈ l, p.2 < N) (ht : t < N) : Rise (addsF l (gapL l f t)) ∧ (∀ p ∈ addsF l (gapL l f t), p.2 < N) ∧ manyL (addsF l (gapL l f t)) = manyL l + manyL (gapL l f t) ∧
    (f ≤ runL (addsF l (gapL l f t)) f → t ≤ runL (addsF l (gapL l f t)) f) ∧ gapL (addsF l (gapL l f t)) f t = [] := by
  obtain ⟨g1, g2, g3, g4⟩ := gapL_facts f t h
  obtain ⟨i1, i2, i3, i4⟩ := fill_ok h hb g1 (fun p hp => by have := (g2 p hp).2; omega) (gap_dis h)
  have hm : ∀ n, f ≤ n → n < t → memL (addsF l (gapL l f t)) n = true := by
    intro n a b
    rw [i3, g4]
    cases memL l n <;> simp [a, b]
  exact ⟨i1, i2, i4, run_all i1 hm, gap_done i1 hm⟩
end Go.Proofs.Ytnngjbieoakanaa
