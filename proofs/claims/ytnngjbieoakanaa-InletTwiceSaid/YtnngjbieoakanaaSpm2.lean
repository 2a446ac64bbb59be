/- Pieces that rise and don't touch: counting, cutting, gaps. No program. -/
import Derived.Test.YtnngjbieoakanaaSpm
namespace Go.Proofs.Ytnngjbieoakanaa
set_option linter.unusedVariables false
/-- How many numbers below N there are. -/
def cntB (f : Nat → Bool) : Nat → Nat
  | 0 => 0
  | n + 1 => cntB f n + if f n then 1 else 0
theorem cntB_le (f : Nat → Bool) (n : Nat) : cntB f n ≤ n := by
  induction n with
  | zero => exact Nat.le_refl _
  | succ n ih => unfold cntB; split <;> omega
theorem cntB_congr {f g : Nat → Bool} (h : ∀ n, f n = g n) (n : Nat) : cntB f n = cntB g n := by
  induction n with
  | zero => rfl
  | succ n ih => unfold cntB; rw [ih, h]
theorem cntB_or {f g : Nat → Bool} (h : ∀ n, f n = true → g n = false) (n : Nat) : cntB (fun i => f i || g i) n = cntB f n + cntB g n := by
  induction n with
  | zero => rfl
  | succ n ih =>
    unfold cntB
    rw [ih]
    cases hf : f n with
    | false => simp; omega
    | true => rw [h n hf]; simp; omega
theorem cntB_span (a b n : Nat) : cntB (fun i => decide (a ≤ i) && decide (i < b)) n = min b n - min a n := by
  induction n with
  | zero => simp [cntB]
  | succ n ih =>
    unfold cntB
    rw [ih]
    by_cases h1 : a ≤ n <;> by_cases h2 : n < b <;> simp [h1, h2] <;> omega
theorem cntB_none (n : Nat) : cntB (fun _ => false) n = 0 := by
  induction n with
  | zero => rfl
  | succ n ih => unfold cntB; rw [ih]; rfl
theorem manyL_cons (p : Sp) (l : List Sp) : manyL (p :: l) = p.2 - p.1 + manyL l := by simp [manyL]
theorem memL_nil (n : Nat) : memL [] n = false := rfl
/-- How many there are, counted. -/
theorem many_cnt {l : List Sp} {N : Nat} (h : Rise l) (hb : ∀ p ∈ l, p.2 ≤ N) : manyL l = cntB (memL l) N := by
  induction l with
  | nil => rw [cntB_congr memL_nil, cntB_none]; rfl
  | cons p l ih =>
    have e : ∀ n, memL (p :: l) n = ((decide (p.1 ≤ n) && decide (n < p.2)) || memL l n) := memL_cons p l
    rw [manyL_cons, ih h.2.2 (fun q hq => hb q (by simp [hq])), cntB_congr e, cntB_or, cntB_span]
    · have := hb p (by simp)
      have := h.1
      omega
    · intro n hn
      simp at hn
      rw [← Bool.not_eq_true]
      intro hm
      obtain ⟨q, hq, h1, h2⟩ := (memL_iff l n).1 hm
      have := h.2.1 q hq
      omega
theorem many_lt {l : List Sp} {N : Nat} (h : Rise l) (hb : ∀ p ∈ l, p.2 < N) (h0 : 0 < N) : manyL l < N := by
  have e := many_cnt (N := N - 1) h fun p hp => by have := hb p hp; omega
  have := cntB_le (memL l) (N - 1)
  omega
theorem many_take_le (l : List Sp) (k : Nat) : manyL (l.take k) ≤ manyL l := by
  induction l generalizing k with
  | nil => simp [manyL]
  | cons p l ih =>
    cases k with
    | zero => simp [manyL]
    | succ k => rw [List.take_succ_cons, manyL_cons, manyL_cons]; have := ih k; omega
theorem many_take {l : List Sp} {k : Nat} {p : Sp} (h : l[k]? = some p) : manyL (l.take (k + 1)) = manyL (l.take k) + (p.2 - p.1) := by
  rw [List.take_add_one, h]
  simp [manyL]
/-- One that none of them touches from within makes so many more. -/
theorem many_add {l : List Sp} {f t N : Nat} (h : Rise l) (hft : f < t) (hb : ∀ p ∈ l, p.2 ≤ N) (ht : t ≤ N) (hd : ∀ n, f ≤ n → n < t → memL l n = false) (hb' : ∀ p ∈ addL l f t, p.2 ≤ N) : manyL (addL l f t) = manyL l + (t - f) := by
  rw [many_cnt (addL_rise h hft) hb', many_cnt h hb, cntB_congr (addL_mem h hft), cntB_or, cntB_span]
  · omega
  · intro n hn
    rw [← Bool.not_eq_true]
    intro hm
    simp at hm
    rw [hd n hm.1 hm.2] at hn
    cases hn
/-! Cutting. -/
def spCut (l : List Sp) (b : Nat) : Nat := (l.takeWhile fun p => decide (p.2 ≤ b)).length
def cutR (l : List Sp) (b : Nat) : List Sp := match l with | [] => [] | p :: r => (max p.1 b, p.2) :: r
theorem cutL_all {l : List Sp} {b : Nat} (h : ∀ p ∈ l, b < p.1 ∧ p.1 < p.2) : cutL l b = l := by
  induction l with
  | nil => rfl
  | cons p l ih =>
    have h0 := h p (by simp)
    have ih' := ih fun q hq => h q (by simp [hq])
    unfold cutL at *
    rw [List.map_cons, List.filter_cons, if_pos (by simp; omega), ih']
    congr 1
    rw [show max p.1 b = p.1 by omega]
theorem cutL_eq {l : List Sp} {b : Nat} (h : Rise l) : cutL l b = cutR (l.drop (spCut l b)) b := by
  induction l with
  | nil => rfl
  | cons p l ih =>
    unfold spCut
    rw [List.takeWhile_cons]
    by_cases hp : p.2 ≤ b
    · rw [if_pos (by simpa using hp), List.length_cons, List.drop_succ_cons]
      have := ih h.2.2
      unfold spCut at this
      rw [← this]
      unfold cutL
      rw [List.map_cons, List.filter_cons, if_neg (by simp; omega)]
    · rw [if_neg (by simpa using hp)]
      simp only [List.length_nil, List.drop_zero]
      have hr : cutL l b = l := cutL_all fun q hq => ⟨by have := h.2.1 q hq; omega, h.2.2.pos q hq⟩
      unfold cutL at *
      rw [List.map_cons, List.filter_cons, if_pos (by simp; have := h.1; omega), hr]
      rfl
theorem cutL_rise {l : List Sp} {b : Nat} (h : Rise l) : Rise (cutL l b) := by
  rw [cutL_eq h]
  have hd : Rise (l.drop (spCut l b)) := by
    have := List.take_append_drop (spCut l b) l
    rw [← this] at h
    exact (rise_append.1 h).2.1
  have hg : ∀ p ∈ (l.drop (spCut l b)).head?, b < p.2 := by
    intro p hp
    have e : l.drop (spCut l b) = l.dropWhile fun p => decide (p.2 ≤ b) := by
      have h1 := List.takeWhile_append_dropWhile (p := fun p : Sp => decide (p.2 ≤ b)) (l := l)
      unfold spCut
      conv => lhs; rhs; rw [← h1]
      exact List.drop_left
    rw [e] at hp
    have := List.head?_dropWhile_not (fun p : Sp => decide (p.2 ≤ b)) l
    rw [Option.mem_def] at hp
    rw [hp] at this
    simpa using this
  generalize l.drop (spCut l b) = r at *
  cases r with
  | nil => exact trivial
  | cons p r =>
    have := hg p (by simp)
    exact ⟨by show max p.1 b < p.2; have := hd.1; omega, hd.2.1, hd.2.2⟩
theorem cutL_bd {l : List Sp} {b N : Nat} (h : ∀ p ∈ l, p.2 < N) : ∀ p ∈ cutL l b, p.2 < N := by
  intro p hp
  unfold cutL at hp
  obtain ⟨h1, h2⟩ := List.mem_filter.1 hp
  obtain ⟨q, hq, rfl⟩ := List.mem_map.1 h1
  exact h q hq
theorem cutL_len (l : List Sp) (b : Nat) : (cutL l b).length ≤ l.length := by
  unfold cutL
  exact Nat.le_trans (List.length_filter_le _ _) (by simp)
/-- Where the program cuts. -/
theorem spCut_of {l : List Sp} {b i : Nat} (h : Rise l) (hi : spAt l b = i) : (∀ p, l[i]? = some p → p.2 = b → spCut l b = i + 1) ∧ ((∀ p, l[i]? = some p → p.2 ≠ b) → spCut l b = i) := by
  subst hi
  induction l with
  | nil => exact ⟨fun p hp => by simp at hp, fun _ => rfl⟩
  | cons q l ih =>
    unfold spCut spAt spPre
    rw [List.takeWhile_cons, List.takeWhile_cons]
    by_cases h1 : q.2 < b
    · rw [if_pos (by simpa using h1), if_pos (by simp; omega), List.length_cons, List.length_cons]
      obtain ⟨ih1, ih2⟩ := ih h.2.2
      unfold spCut spAt spPre at ih1 ih2
      simp only [List.getElem?_cons_succ]
      exact ⟨fun p hp e => by rw [ih1 p hp e], fun hn => by rw [ih2 hn]⟩
    · rw [if_neg (by simpa using h1)]
      simp only [List.length_nil, List.getElem?_cons_zero]
      constructor
      · rintro p hp e
        injection hp with hp
        subst hp
        rw [if_pos (by simp; omega), List.length_cons]
        have : (l.takeWhile fun p => decide (p.2 ≤ b)) = [] := by
          cases l with
          | nil => rfl
          | cons r l =>
            rw [List.takeWhile_cons, if_neg]
            have := h.2.1 r (by simp)
            have := h.2.2.1
            simp
            omega
        rw [this]
        rfl
      · intro hn
        have := hn q rfl
        rw [if_neg (by simp; omega)]
        rfl
/-! Gaps. -/
theorem gapF_facts (l : List Sp) (f t : Nat) (h : Rise l) (hf : ∀ p ∈ l, f ≤ p.2) : Rise (gapF l f t) ∧ (∀ p ∈ gapF l f t, f ≤ p.1 ∧ p.2 ≤ t) ∧ (gapF l f t).length ≤ l.length + 1 ∧ ∀ n, memL (gapF l f t) n = (decide (f ≤ n) && decide (n < t) && !memL l n) := by
  induction l generalizing f with
  | nil =>
    unfold gapF
    by_cases hft : f < t
    · rw [if_pos hft]
      refine ⟨⟨hft, by simp, trivial⟩, by simp, by simp, fun n => by simp [memL]⟩
    · rw [if_neg hft]
      refine ⟨trivial, by simp, by simp, fun n => ?_⟩
      rw [memL_nil]
      by_cases h1 : f ≤ n <;> by_cases h2 : n < t <;> simp [h1, h2] <;> omega
  | cons p l ih =>
    have hp1 := h.1
    have hfp := hf p (by simp)
    have htail : ∀ n, n < p.1 → memL (p :: l) n = false := by
      intro n hn
      rw [← Bool.not_eq_true]
      intro hm
      obtain ⟨q, hq, h1, h2⟩ := (memL_iff _ n).1 hm
      rcases List.mem_cons.1 hq with rfl | hq
      · omega
      · have := h.2.1 q hq; omega
    unfold gapF
    by_cases htp : t ≤ p.1
    · rw [if_pos htp]
      by_cases hft : f < t
      · rw [if_pos hft]
        refine ⟨⟨hft, by simp, trivial⟩, by simp, by simp, fun n => ?_⟩
        rw [memL_cons, memL_nil, Bool.or_false]
        by_cases hn : n < t
        · rw [htail n (by omega)]; simp
        · simp [hn]
      · rw [if_neg hft]
        refine ⟨trivial, by simp, by simp, fun n => ?_⟩
        rw [memL_nil]
        by_cases h1 : f ≤ n <;> by_cases h2 : n < t <;> simp [h1, h2] <;> omega
    · rw [if_neg htp]
      obtain ⟨i1, i2, i3, i4⟩ := ih p.2 h.2.2 fun q hq => by have := h.2.1 q hq; have := h.2.2.pos q hq; omega
      have hm : ∀ n, memL (p :: l) n = ((decide (p.1 ≤ n) && decide (n < p.2)) || memL l n) := memL_cons p l
      have hlow : ∀ n, n < p.2 → memL l n = false := by
        intro n hn
        rw [← Bool.not_eq_true]
        intro hmm
        obtain ⟨q, hq, h1, h2⟩ := (memL_iff _ n).1 hmm
        have := h.2.1 q hq
        omega
      by_cases hfp1 : f < p.1
      · rw [if_pos hfp1]
        refine ⟨⟨hfp1, fun q hq => by have := (i2 q hq).1; show p.1 < q.1; omega, i1⟩, ?_, by simp only [List.length_cons]; omega, fun n => ?_⟩
        · intro q hq
          rcases List.mem_cons.1 hq with rfl | hq
          · exact ⟨Nat.le_refl _, by show p.1 ≤ t; omega⟩
          · have := i2 q hq; omega
        · rw [memL_cons, i4, hm]
          by_cases c1 : n < p.1
          · rw [hlow n (by omega)]
            by_cases c2 : f ≤ n
            · simp [c1, c2, show n < t by omega, show ¬ p.2 ≤ n by omega, show ¬ p.1 ≤ n by omega]
            · simp [c1, c2, show ¬ p.2 ≤ n by omega]
          · by_cases c2 : n < p.2
            · simp [c1, c2, show ¬ p.2 ≤ n by omega, show p.1 ≤ n by omega]
            · simp [c1, c2, show p.2 ≤ n by omega, show f ≤ n by omega]
      · rw [if_neg hfp1]
        refine ⟨i1, fun q hq => by have := i2 q hq; omega, by simp only [List.length_cons]; omega, fun n => ?_⟩
        rw [i4, hm]
        by_cases c2 : n < p.2
        · by_cases c3 : f ≤ n
          · simp [c2, c3, show ¬ p.2 ≤ n by omega, show p.1 ≤ n by omega]
          · simp [c2, c3, show ¬ p.2 ≤ n by omega]
        · simp [c2, show p.2 ≤ n by omega, show f ≤ n by omega]
theorem gapL_facts {l : List Sp} (f t : Nat) (h : Rise l) : Rise (gapL l f t) ∧ (∀ p ∈ gapL l f t, f ≤ p.1 ∧ p.2 ≤ t) ∧ (gapL l f t).length ≤ l.length + 1 ∧ ∀ n, memL (gapL l f t) n = (decide (f ≤ n) && decide (n < t) && !memL l n) := by
  obtain ⟨h1, h2, h3, h4⟩ := gapF_facts (spRest l f) f t (spRest_rise h) (spRest_ge h)
  have e := pre_rest l f
  have hlen := congrArg List.length e
  rw [List.length_append] at hlen
  refine ⟨h1, h2, by unfold gapL; omega, fun n => ?_⟩
  unfold gapL
  rw [h4]
  by_cases hn : f ≤ n
  · have : memL l n = memL (spRest l f) n := by
      conv => lhs; rw [← e]
      rw [memL_append]
      have : memL (spPre l f) n = false := by
        rw [← Bool.not_eq_true]
        intro hm
        obtain ⟨q, hq, h1, h2⟩ := (memL_iff _ n).1 hm
        have := spPre_lt q hq
        omega
      rw [this, Bool.false_or]
    rw [this]
  · simp [hn]
end Go.Proofs.Ytnngjbieoakanaa
