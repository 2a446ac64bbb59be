/- An inlet of a stream whose bytes are known: mathematics. No program. -/
import Derived.Test.YtflmnhibjgehnaaInM
namespace Go.Proofs.Ytflmnhibjgehnaa
set_option linter.unusedVariables false
/-- All that came is the stream's. -/
structure OrdI (s : List Nat) (st : Ist) : Prop where
  kn : st.kn = false
  nx : st.next ≤ s.length
  pb : ∀ p ∈ st.P, p.2 ≤ s.length
  eq : ∀ j, (j < st.there ∨ memL st.P (st.base + j) = true) → st.L[j]? = s[st.base + j]?
theorem cutL_memI {l : List Sp} {b n : Nat} (h : memL (cutL l b) n = true) : memL l n = true ∧ b ≤ n := by
  obtain ⟨p, hp, h1, h2⟩ := (memL_iff _ _).1 h
  unfold cutL at hp
  have hp2 := (List.mem_filter.1 hp).1
  obtain ⟨q, hq, rfl⟩ := List.mem_map.1 hp2
  simp only at h1 h2
  exact ⟨(memL_iff _ _).2 ⟨q, hq, by omega, h2⟩, by omega⟩
theorem addS_memI {most : Nat} {l : List Sp} {f t n : Nat} (h : Rise l) (hm : memL (addS most l f t).1 n = true) : memL l n = true ∨ f ≤ n ∧ n < t := by
  unfold addS at hm
  split at hm
  · exact .inl hm
  · rename_i h0
    split at hm
    · exact .inl hm
    · have h1 := addL_mem h (show f < t by omega) n
      rw [h1] at hm
      simp only [Bool.or_eq_true, Bool.and_eq_true, decide_eq_true_eq] at hm
      exact hm
theorem memL_bd {l : List Sp} {b n : Nat} (h : ∀ p ∈ l, p.2 ≤ b) (hm : memL l n = true) : n < b := by
  obtain ⟨p, hp, h1, h2⟩ := (memL_iff _ _).1 hm
  have := h p hp
  omega
section
variable {s : List Nat} {st : Ist}
theorem OrdI.come {f m : Nat} (h : OrdI s st) (ok : st.ok) (hf : st.next ≤ f) (hm : f + m ≤ s.length) (ht : f + m ≤ st.base + st.size) : OrdI s (st.come f ((s.drop f).take m)).1 := by
  have hl : ((s.drop f).take m).length = m := by rw [List.length_take, List.length_drop]; omega
  have hbf : st.base ≤ f := by unfold Ist.next at hf; omega
  have hset := fun j => ok.setL_get (bs := (s.drop f).take m) hbf (by rw [hl]; exact ht) j
  have hget : ∀ j, f ≤ st.base + j → st.base + j < f + m → ((s.drop f).take m)[st.base + j - f]? = s[st.base + j]? := fun j a b => by
    rw [List.getElem?_take, if_pos (by omega), List.getElem?_drop]
    congr 1
    omega
  have key : ∀ j, (j < st.there ∨ memL st.P (st.base + j) = true ∨ f ≤ st.base + j ∧ st.base + j < f + m) → (st.setL f ((s.drop f).take m))[j]? = s[st.base + j]? := fun j hj => by
    rw [hset j, hl]
    by_cases hc : f ≤ st.base + j ∧ st.base + j < f + m ∧ memL st.P (st.base + j) = false
    · rw [if_pos hc, hget j hc.1 hc.2.1]
    · rw [if_neg hc]
      refine h.eq j ?_
      rcases hj with hj | hj | hj
      · exact .inl hj
      · exact .inr hj
      · refine .inr ?_
        cases hb : memL st.P (st.base + j)
        · exact absurd ⟨hj.1, hj.2, hb⟩ hc
        · rfl
  unfold Ist.come
  rw [hl]
  by_cases h1 : st.next < f
  · rw [if_pos h1]
    by_cases h2 : (addS st.most st.P f (f + m)).2 = true
    · rw [if_pos h2]
      refine ⟨h.kn, h.nx, fun p hp => ?_, fun j hj => ?_⟩
      · have h3 := addS_okM ok.rs ok.pl (b := s.length + 1) (fun p hp => by have := h.pb p hp; omega) (f := f) (t := f + m) (by omega)
        have := h3.2.1 p hp
        show p.2 ≤ s.length
        omega
      · refine key j ?_
        rcases hj with hj | hj
        · exact .inl hj
        · exact .inr (addS_memI ok.rs hj)
    · rw [if_neg h2]
      exact h
  · rw [if_neg h1]
    have hfe : f = st.base + st.there := by unfold Ist.next at *; omega
    have hr := run_ge st.P (f + m)
    have hin := (run_inner ok.rs (f := f + m)).1
    have hrb : runL st.P (f + m) ≤ s.length := by
      have := runLt (l := st.P) (b := s.length + 1) (fun p hp => by have := h.pb p hp; omega) (f + m) (by omega)
      omega
    refine ⟨h.kn, ?_, fun p hp => ?_, fun j hj => ?_⟩
    · show st.base + (runL st.P (f + m) - st.base) ≤ s.length
      omega
    · have := cutL_bd (l := st.P) (b := runL st.P (f + m)) (N := s.length + 1) (fun p hp => by have := h.pb p hp; omega) p hp
      show p.2 ≤ s.length
      omega
    · refine key j ?_
      rcases hj with hj | hj
      · have hj : j < runL st.P (f + m) - st.base := hj
        by_cases a : j < st.there
        · exact .inl a
        · by_cases b : st.base + j < f + m
          · exact .inr (.inr ⟨by omega, b⟩)
          · exact .inr (.inl (hin _ (by omega) (by omega)))
      · exact .inr (.inl (cutL_memI hj).1)
theorem drop_take_in {s : List Nat} {f m lo hi : Nat} (h1 : f ≤ lo) (h2 : hi ≤ f + m) : (((s.drop f).take m).drop (lo - f)).take (hi - lo) = (s.drop lo).take (hi - lo) := by
  rw [List.drop_take, List.take_take, List.drop_drop, show f + (lo - f) = lo by omega, show min (hi - lo) (m - (lo - f)) = hi - lo by omega]
theorem OrdI.put {f m : Nat} (h : OrdI s st) (ok : st.ok) (hm : f + m ≤ s.length) : OrdI s (st.put f ((s.drop f).take m)).1 := by
  have hl : ((s.drop f).take m).length = m := by rw [List.length_take, List.length_drop]; omega
  unfold Ist.put
  rw [hl]
  split
  · exact h
  · split
    · rename_i h2
      split
      · have hb := st.bound_le
        unfold Ist.low Ist.high at *
        rw [drop_take_in (by omega) (by omega)]
        exact h.come ok (by omega) (by omega) (by omega)
      · exact h
    · exact h
theorem OrdI.take {k : Nat} (h : OrdI s st) (ok : st.ok) (hk : k ≤ st.there) : OrdI s (st.take k) ∧ st.L.take k = (s.drop st.base).take k ∧ s.take (st.base + k) = s.take st.base ++ st.L.take k := by
  have hts := ok.ts
  have hll := ok.ll
  have hnx := h.nx
  unfold Ist.next at hnx
  have e1 : st.L.take k = (s.drop st.base).take k := by
    refine List.ext_getElem? fun j => ?_
    rw [List.getElem?_take, List.getElem?_take, List.getElem?_drop]
    split
    · exact h.eq j (.inl (by omega))
    · rfl
  refine ⟨⟨h.kn, ?_, h.pb, fun j hj => ?_⟩, e1, ?_⟩
  · show st.base + k + (st.there - k) ≤ s.length
    omega
  · show (st.L.drop k ++ List.replicate k 0)[j]? = s[st.base + k + j]?
    have hj' : k + j < st.there ∨ memL st.P (st.base + (k + j)) = true := by
      rcases hj with hj | hj
      · have hj : j < st.there - k := hj
        exact .inl (by omega)
      · refine .inr ?_
        rw [← Nat.add_assoc]
        exact hj
    have hlt : k + j < st.L.length := by
      rw [hll]
      rcases hj' with a | a
      · omega
      · have := memL_bd ok.pb a
        omega
    rw [List.getElem?_append_left (by rw [List.length_drop]; omega), List.getElem?_drop, h.eq (k + j) hj', Nat.add_assoc]
  · rw [e1, List.take_add]
theorem OrdI.zero (s : List Nat) (size most : Nat) : OrdI s ⟨0, size, 0, most, 0, false, [], List.replicate size 0⟩ :=
  ⟨rfl, Nat.zero_le _, by simp, fun j hj => hj.elim (fun hj => absurd hj (Nat.not_lt_zero _)) (fun hj => absurd hj (by simp [memL]))⟩
theorem OrdI.top (h : OrdI s st) : st.top ≤ s.length := by
  unfold Ist.top
  split
  · rename_i p hp
    have := h.pb p (List.mem_of_getLast? hp)
    have := h.nx
    omega
  · exact h.nx
/-- The byte that is waited for comes. -/
theorem OrdI.one (h : OrdI s st) (ok : st.ok) (hr : st.there < st.size) (hi : st.next < s.length) : (st.put st.next ((s.drop st.next).take 1)).2 = true ∧ st.next < (st.put st.next ((s.drop st.next).take 1)).1.next := by
  have hl : ((s.drop st.next).take 1).length = 1 := by rw [List.length_take, List.length_drop]; omega
  have hbl := ok.bl
  have hs6 := ok.s6
  unfold iLim at hbl
  have hb : st.bound = st.base + st.size := by unfold Ist.bound; rw [h.kn]; rfl
  have hn : st.next = st.base + st.there := rfl
  have hr := run_ge st.P (st.next + 1)
  unfold Ist.put
  rw [hl, if_neg (by omega)]
  unfold Ist.low Ist.high
  rw [hb, if_pos (by omega), show max st.next st.next = st.next by omega, show min (st.next + 1) (st.base + st.size) - st.next = 1 by omega]
  have e2 : (((s.drop st.next).take 1).drop (st.next - st.next)).take 1 = (s.drop st.next).take 1 := by rw [Nat.sub_self, List.drop_zero, List.take_take, Nat.min_self]
  rw [e2]
  have hc2 : (st.come st.next ((s.drop st.next).take 1)).2 = true := by unfold Ist.come; rw [if_neg (by omega)]
  rw [if_pos hc2]
  refine ⟨by simp; omega, ?_⟩
  unfold Ist.come
  rw [if_neg (by omega), hl]
  show st.next < st.base + (runL st.P (st.next + 1) - st.base)
  omega
end
end Go.Proofs.Ytflmnhibjgehnaa
