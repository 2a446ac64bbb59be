/- Pieces: what SpansPlay asks; the reference's ways. No program. -/
import Derived.Test.YtnngjbieoakanaaSpm3
import Derived.Test.YtnngjbieoakanaaLib

namespace Go.Proofs.Ytnngjbieoakanaa
set_option linter.unusedVariables false
/-- Pieces that rise and don't touch are told by their numbers. -/
theorem rise_ext {l m : List Sp} (hl : Rise l) (hm : Rise m) (h : ∀ n, memL l n = memL m n) : l = m := by
  induction l generalizing m with
  | nil =>
    cases m with
    | nil => rfl
    | cons q m =>
      have h1 := h q.1
      rw [memL_nil, memL_cons] at h1
      have := hm.1
      simp [this] at h1
  | cons p l ih =>
    cases m with
    | nil =>
      have h1 := h p.1
      rw [memL_nil, memL_cons] at h1
      have := hl.1
      simp [this] at h1
    | cons q m =>
      have hp := hl.1
      have hq := hm.1
      have lowl : ∀ n, n ≤ p.2 → memL l n = false := by
        intro n hn
        rw [← Bool.not_eq_true]
        intro hmm
        obtain ⟨r, hr, a, b⟩ := (memL_iff l n).1 hmm
        have := hl.2.1 r hr
        omega
      have lowm : ∀ n, n ≤ q.2 → memL m n = false := by
        intro n hn
        rw [← Bool.not_eq_true]
        intro hmm
        obtain ⟨r, hr, a, b⟩ := (memL_iff m n).1 hmm
        have := hm.2.1 r hr
        omega
      have hc : ∀ n, ((decide (p.1 ≤ n) && decide (n < p.2)) || memL l n) = ((decide (q.1 ≤ n) && decide (n < q.2)) || memL m n) := by
        intro n
        rw [← memL_cons, ← memL_cons]
        exact h n
      have e1 : p.1 = q.1 := by
        rcases Nat.lt_trichotomy p.1 q.1 with h1 | h1 | h1
        · have := hc p.1
          rw [lowm p.1 (by omega)] at this
          have h2 : ¬ q.1 ≤ p.1 := by omega
          simp [hp, h2] at this
        · exact h1
        · have := hc q.1
          rw [lowl q.1 (by omega)] at this
          have h2 : ¬ p.1 ≤ q.1 := by omega
          simp [hq, h2] at this
      have e2 : p.2 = q.2 := by
        rcases Nat.lt_trichotomy p.2 q.2 with h1 | h1 | h1
        · have := hc p.2
          rw [lowl p.2 (by omega)] at this
          have h2 : q.1 ≤ p.2 := by omega
          simp [h1, h2] at this
        · exact h1
        · have := hc q.2
          rw [lowm q.2 (by omega)] at this
          have h2 : p.1 ≤ q.2 := by omega
          simp [h1, h2] at this
      have e : p = q := Prod.ext e1 e2
      subst e
      congr 1
      refine ih hl.2.2 hm.2.2 fun n => ?_
      rcases Nat.lt_or_ge p.2 n with h1 | h1
      · have := hc n
        have h2 : ¬ n < p.2 := by omega
        simpa [h2] using this
      · rw [lowl n h1, lowm n h1]
/-! The reference's Gaps. -/
theorem gap_end {l : List Sp} {f t : Nat} (h : Rise l) (hft : t ≤ f) : gapL l f t = [] := gap_done h fun n a b => by omega
theorem run_ge (l : List Sp) (f : Nat) : f ≤ runL l f := by
  unfold runL
  cases hf : l.find? fun p => decide (p.1 ≤ f) && decide (f < p.2) with
  | none => exact Nat.le_refl _
  | some p =>
    have h3 := List.find?_some hf
    simp at h3
    dsimp only
    omega
/-- All numbers up to where the run ends are there. -/
theorem run_inner {l : List Sp} (h : Rise l) {f : Nat} : (∀ n, f ≤ n → n < runL l f → memL l n = true) ∧ memL l (runL l f) = false := by
  unfold runL
  cases hf : l.find? fun p => decide (p.1 ≤ f) && decide (f < p.2) with
  | none =>
    have h1 := List.find?_eq_none.1 hf
    refine ⟨fun n a b => ?_, ?_⟩
    · exact absurd b (by dsimp only; omega)
    · rw [← Bool.not_eq_true]
      intro hm
      obtain ⟨p, hp, a, b⟩ := (memL_iff l f).1 hm
      exact h1 p hp (by simp; omega)
  | some p =>
    have h3 := List.find?_some hf
    have h4 := List.mem_of_find?_eq_some hf
    simp at h3
    dsimp only
    refine ⟨fun n a b => (memL_iff l n).2 ⟨p, h4, by omega, b⟩, ?_⟩
    rw [← Bool.not_eq_true]
    intro hm
    obtain ⟨q, hq, a, b⟩ := (memL_iff l p.2).1 hm
    rcases rise_two h h4 hq with e | e | e
    · rw [← e] at b; omega
    · omega
    · omega
theorem gap_full {l : List Sp} {f t : Nat} (h : Rise l) (ht : t ≤ runL l f) : gapL l f t = [] :=
  gap_done h fun n a b => (run_inner h).1 n a (by omega)
/-- The least begin behind a number. -/
def nextF (l : List Sp) (x t : Nat) : Nat := l.foldl (fun m p => if x < p.1 ∧ p.1 < m then p.1 else m) t
theorem nextF_snoc (l : List Sp) (p : Sp) (x t : Nat) : nextF (l ++ [p]) x t = if x < p.1 ∧ p.1 < nextF l x t then p.1 else nextF l x t := by
  unfold nextF
  rw [List.foldl_append]
  rfl
theorem nextF_spec (l : List Sp) (x t : Nat) : nextF l x t ≤ t ∧ (∀ p ∈ l, x < p.1 → nextF l x t ≤ p.1) ∧ (nextF l x t = t ∨ ∃ p ∈ l, x < p.1 ∧ nextF l x t = p.1) := by
  induction l generalizing t with
  | nil => exact ⟨Nat.le_refl _, by simp, .inl rfl⟩
  | cons q l ih =>
    have e : nextF (q :: l) x t = nextF l x (if x < q.1 ∧ q.1 < t then q.1 else t) := rfl
    rw [e]
    obtain ⟨h1, h2, h3⟩ := ih (if x < q.1 ∧ q.1 < t then q.1 else t)
    generalize nextF l x (if x < q.1 ∧ q.1 < t then q.1 else t) = r at *
    refine ⟨by split at h1 <;> omega, ?_, ?_⟩
    · intro p hp hx
      rcases List.mem_cons.1 hp with rfl | hp
      · split at h1 <;> omega
      · exact h2 p hp hx
    · rcases h3 with h3 | ⟨p, hp, a, b⟩
      · by_cases hc : x < q.1 ∧ q.1 < t
        · rw [if_pos hc] at h3
          exact .inr ⟨q, by simp, hc.1, h3⟩
        · rw [if_neg hc] at h3
          exact .inl h3
      · exact .inr ⟨p, by simp [hp], a, b⟩
theorem nextF_gt {l : List Sp} {x t : Nat} (h : x < t) : x < nextF l x t := by
  obtain ⟨h1, h2, h3⟩ := nextF_spec l x t
  rcases h3 with h3 | ⟨p, hp, a, b⟩ <;> omega
/-- One round of the reference's Gaps. -/
theorem gap_round {l : List Sp} {f t : Nat} (h : Rise l) (hx : runL l f < t) :
    gapL l f t = (runL l f, nextF l (runL l f) t) :: gapL l (nextF l (runL l f) t) t := by
  obtain ⟨r1, r2⟩ := run_inner h (f := f)
  have hge := run_ge l f
  generalize runL l f = x at *
  obtain ⟨n1, n2, n3⟩ := nextF_spec l x t
  have ngt := nextF_gt (l := l) hx
  generalize nextF l x t = y at *
  obtain ⟨a1, a2, a3, a4⟩ := gapL_facts f t h
  obtain ⟨b1, b2, b3, b4⟩ := gapL_facts y t h
  -- between x and y nothing is there
  have hbet : ∀ n, x ≤ n → n < y → memL l n = false := by
    intro n hn1 hn2
    rw [← Bool.not_eq_true]
    intro hm
    obtain ⟨p, hp, c1, c2⟩ := (memL_iff l n).1 hm
    rcases Nat.lt_or_ge x p.1 with hc | hc
    · have := n2 p hp hc; omega
    · have : memL l x = true := (memL_iff l x).2 ⟨p, hp, hc, by omega⟩
      rw [r2] at this
      cases this
  refine rise_ext a1 ⟨ngt, ?_, b1⟩ ?_
  · intro q hq
    obtain ⟨q1, q2⟩ := b2 q hq
    have hlt := b1.pos q hq
    have hmy : memL (gapL l y t) q.1 = true := (memL_iff _ _).2 ⟨q, hq, Nat.le_refl _, hlt⟩
    rw [b4] at hmy
    simp at hmy
    have hne : q.1 ≠ y := by
      intro e
      rcases n3 with h3 | ⟨p, hp, c1, c2⟩
      · omega
      · have : memL l q.1 = true := (memL_iff l q.1).2 ⟨p, hp, by omega, by have := h.pos p hp; omega⟩
        rw [hmy.2] at this
        cases this
    show y < q.1
    omega
  · intro n
    rw [a4, memL_cons, b4]
    dsimp only
    rcases Nat.lt_or_ge n f with c1 | c1
    · have e1 : ¬ f ≤ n := by omega
      have e2 : ¬ x ≤ n := by omega
      have e3 : ¬ y ≤ n := by omega
      simp [e1, e2, e3]
    · rcases Nat.lt_or_ge n x with c2 | c2
      · have e2 : ¬ x ≤ n := by omega
        have e3 : ¬ y ≤ n := by omega
        rw [r1 n c1 c2]
        simp [e2, e3]
      · rcases Nat.lt_or_ge n y with c3 | c3
        · have e3 : ¬ y ≤ n := by omega
          have e4 : n < t := by omega
          rw [hbet n c2 c3]
          simp [c1, c2, c3, e3, e4]
        · have e4 : ¬ n < y := by omega
          simp [c1, c3, e4]
/-! The reference's Join: what sinks. -/
/-- A list with one more at a place. -/
def insAt (m : List Sp) (i : Nat) (x : Sp) : List Sp := m.take i ++ x :: m.drop i
theorem insAt_len (m : List Sp) (i : Nat) (x : Sp) (hi : i ≤ m.length) : (insAt m i x).length = m.length + 1 := by
  unfold insAt
  simp only [List.length_append, List.length_cons, List.length_take, List.length_drop]
  omega
theorem insAt_end (m : List Sp) (x : Sp) : insAt m m.length x = m ++ [x] := by simp [insAt]
theorem insAt_here {m : List Sp} {i : Nat} {x : Sp} (hi : i ≤ m.length) : (insAt m i x)[i]? = some x := by
  unfold insAt
  rw [List.getElem?_append_right (by simp; omega)]
  simp [Nat.min_eq_left hi]
theorem insAt_before {m : List Sp} {i k : Nat} {x : Sp} (hi : i ≤ m.length) (hk : k < i) : (insAt m i x)[k]? = m[k]? := by
  unfold insAt
  rw [List.getElem?_append_left (by simp; omega), List.getElem?_take_of_lt hk]
theorem insAt_swap {m : List Sp} {i : Nat} {x y : Sp} (hy : m[i]? = some y) : ((insAt m (i + 1) x).set (i + 1) y).set i x = insAt m i x := by
  have hi : i < m.length := (List.getElem?_eq_some_iff.1 hy).1
  have e1 : m.take (i + 1) = m.take i ++ [y] := by rw [List.take_add_one, hy]; rfl
  have e2 : m.drop i = y :: m.drop (i + 1) := by
    obtain ⟨hl, hx⟩ := List.getElem?_eq_some_iff.1 hy
    rw [← List.getElem_cons_drop hl, hx]
  have hl : (m.take i).length = i := by simp; omega
  unfold insAt
  rw [e1, e2, List.append_assoc, List.set_append_right _ _ (by omega), List.set_append_right _ _ (by omega), hl, Nat.sub_self, show i + 1 - i = 1 by omega]
  rfl
section
variable {l : List Sp} {f t : Nat}
def joinM (l : List Sp) (f t : Nat) : List Sp := spPre l f ++ spPost (spRest l f) t
def joinX (l : List Sp) (f t : Nat) : Sp := spWh (spMid (spRest l f) t) (f, t)
theorem join_top : insAt (joinM l f t) (spAt l f) (joinX l f t) = addL l f t := by
  unfold insAt joinM joinX addL spAt
  rw [List.take_left, List.drop_left]
/-- Behind its place each begins higher, ahead of it lower. -/
theorem join_gt (h : Rise l) (hft : f < t) {i : Nat} (hi : spAt l f ≤ i) {p : Sp} (hp : (joinM l f t)[i]? = some p) : (joinX l f t).1 < p.1 := by
  unfold joinM spAt at *
  rw [List.getElem?_append_right hi] at hp
  have h1 := wh_post (f := f) (t := t) h p (List.mem_of_getElem? hp)
  have h2 := spWh_le (spMid (spRest l f) t) (f, t)
  unfold joinX
  dsimp only at h2
  omega
theorem join_lt (h : Rise l) {i : Nat} (hi : i < spAt l f) {p : Sp} (hp : (joinM l f t)[i]? = some p) : p.1 < (joinX l f t).1 := by
  unfold joinM spAt at *
  rw [List.getElem?_append_left hi] at hp
  have hm := List.mem_of_getElem? hp
  have h1 := wh_pre (f := f) (t := t) h p hm
  have h2 := (parts (f := f) (t := t) h).1.pos p hm
  unfold joinX
  omega
theorem joinM_len (l : List Sp) (f t : Nat) : spAt l f ≤ (joinM l f t).length ∧ (joinM l f t).length ≤ l.length := by
  have e := congrArg List.length (parts_eq l f t)
  simp only [List.length_append] at e
  unfold joinM spAt
  rw [List.length_append]
  omega
end
/-- The pass over the pieces, one after the other. -/
def joinS (s : List Sp × Sp) (p : Sp) : List Sp × Sp := if p.2 < s.2.1 ∨ s.2.2 < p.1 then (s.1 ++ [p], s.2) else (s.1, (min p.1 s.2.1, max p.2 s.2.2))
theorem joinS_all (l : List Sp) (o : List Sp) (x : Sp) : l.foldl joinS (o, x) = (o ++ (joinF l x).1, (joinF l x).2) := by
  induction l generalizing o x with
  | nil => simp [joinF]
  | cons p l ih =>
    rw [List.foldl_cons]
    unfold joinS joinF
    dsimp only
    by_cases h : p.2 < x.1 ∨ x.2 < p.1
    · rw [if_pos h, if_pos h]
      have := ih (o ++ [p]) x
      unfold joinS at this
      rw [this]
      simp
    · rw [if_neg h, if_neg h]
      have := ih o (min p.1 x.1, max p.2 x.2)
      unfold joinS at this
      exact this
def joinK (l : List Sp) (x : Sp) (k : Nat) : List Sp × Sp := (l.take k).foldl joinS ([], x)
theorem joinK_step {l : List Sp} {x : Sp} {k : Nat} {p : Sp} (h : l[k]? = some p) : joinK l x (k + 1) = joinS (joinK l x k) p := by
  unfold joinK
  rw [List.take_add_one, h, List.foldl_append]
  rfl
theorem joinK_len (l : List Sp) (x : Sp) (k : Nat) : (joinK l x k).1.length ≤ k := by
  induction k with
  | zero => simp [joinK]
  | succ k ih =>
    cases hp : l[k]? with
    | none =>
      have : joinK l x (k + 1) = joinK l x k := by unfold joinK; rw [List.take_add_one, hp]; simp
      rw [this]; omega
    | some p =>
      rw [joinK_step hp]
      unfold joinS
      split
      · simp; omega
      · dsimp only; omega
theorem joinK_all {l : List Sp} {f t : Nat} (h : Rise l) (hft : f < t) : joinK l (f, t) l.length = (joinM l f t, joinX l f t) := by
  unfold joinK
  rw [List.take_length, joinS_all, joinF_eq h hft]
  rfl
/-- Cells of a piece that is put at a place. -/
theorem mid_zero (l : List Sp) (f t : Nat) : (addL l f t).length ≤ l.length ∨ (addL l f t).length = l.length + 1 ∧ spMid (spRest l f) t = [] := by
  have := addL_len l f t
  rcases Nat.eq_zero_or_pos (spMid (spRest l f) t).length with h | h
  · exact .inr ⟨by omega, List.eq_nil_of_length_eq_zero h⟩
  · exact .inl (by omega)
/-- The reference's Cut, one after the other. -/
def cutK (l : List Sp) (b k : Nat) : List Sp := cutL (l.take k) b
theorem cutK_step {l : List Sp} {b k : Nat} {p : Sp} (h : l[k]? = some p) : cutK l b (k + 1) = if max p.1 b < p.2 then cutK l b k ++ [(max p.1 b, p.2)] else cutK l b k := by
  unfold cutK cutL
  rw [List.take_add_one, h]
  simp only [Option.toList, List.map_append, List.map_cons, List.map_nil, List.filter_append, List.filter_cons, List.filter_nil]
  split <;> rename_i h1 <;> simp at h1
  · rw [if_pos (by omega)]
  · rw [if_neg (by omega), List.append_nil]
/-- The reference's Run, one after the other. -/
theorem run_none {l : List Sp} {f : Nat} (h : ∀ (i : Nat) (p : Sp), l[i]? = some p → ¬ (p.1 ≤ f ∧ f < p.2)) : runL l f = f := by
  unfold runL
  cases hf : l.find? fun p => decide (p.1 ≤ f) && decide (f < p.2) with
  | none => rfl
  | some p =>
    have h3 := List.find?_some hf
    have h4 := List.mem_of_find?_eq_some hf
    obtain ⟨i, hi⟩ := List.mem_iff_getElem?.1 h4
    simp at h3
    exact absurd h3 (h i p hi)
theorem run_some {l : List Sp} {f i : Nat} {p : Sp} (h : Rise l) (hp : l[i]? = some p) (h1 : p.1 ≤ f ∧ f < p.2) : runL l f = p.2 := by
  unfold runL
  have hm := List.mem_of_getElem? hp
  cases hf : l.find? fun p => decide (p.1 ≤ f) && decide (f < p.2) with
  | none =>
    have := List.find?_eq_none.1 hf p hm
    simp at this
    omega
  | some q =>
    have h3 := List.find?_some hf
    have h4 := List.mem_of_find?_eq_some hf
    simp at h3
    rcases rise_two h hm h4 with e | e | e
    · rw [e]
    · omega
    · omega
end Go.Proofs.Ytnngjbieoakanaa

/- A cell of a block is written. No program. -/
namespace Go.Proofs.Ytnngjbieoakanaa
open Go.RowKit
theorem Blk.set {w : World} {g : Nat} {t : TypeId} {cs : Array Value} (h : Blk w g t cs) (i : Nat) (v : Value) : Blk (w.setCell ⟨g, i, none⟩ v) g t (cs.setIfInBounds i v) := by
  have hl := h.lt
  unfold Blk at h ⊢
  have h' : w.heap[g] = .cells cs t := by simpa [Array.getElem?_eq_getElem hl] using h
  show (w.heap.modify g _)[g]? = _
  rw [Array.getElem?_eq_getElem (by simpa using hl), Array.getElem_modify_self, h']
  rfl
/-- Nothing has turned but this block. -/
def Solo (g : Nat) (w w' : World) : Prop := Below g w w' ∧ w'.heap.size = w.heap.size ∧ ∀ k, k ≠ g → w'.heap[k]? = w.heap[k]?
section
variable {g : Nat} {w w' w2 : World}
theorem Solo.refl : Solo g w w := ⟨Below.refl _ _, rfl, fun _ _ => rfl⟩
theorem Solo.trans (h : Solo g w w') (k : Solo g w' w2) : Solo g w w2 := ⟨h.1.trans k.1, k.2.1.trans h.2.1, fun i hi => (k.2.2 i hi).trans (h.2.2 i hi)⟩
theorem Solo.drew (h : Solo g w w') : Solo g w w'.drew := ⟨h.1.drew, h.2.1, h.2.2⟩
theorem Solo.setCell (h : Solo g w w') (o : Nat) (v : Value) : Solo g w (w'.setCell ⟨g, o, none⟩ v) :=
  ⟨h.1.setCell (Nat.le_refl _) v, by rw [← h.2.1]; simp [World.setCell], fun k hk => (Below.heap_setCell w' ⟨g, o, none⟩ v k hk).trans (h.2.2 k hk)⟩
theorem Solo.blk {k : Nat} {t : TypeId} {cs : Array Value} (h : Solo g w w') (hb : Blk w k t cs) (hk : k ≠ g) : Blk w' k t cs := (h.2.2 k hk).trans hb
end
end Go.Proofs.Ytnngjbieoakanaa
