/- A wheel's places and its map of timers agree: mathematics of put and cancel. -/
import Derived.Test.YtpeagibompohhaaWhMap
namespace Go.Proofs.Ytpeagibompohhaa
set_option linter.unusedVariables false
/-- Who stands where his timer says, P of its tick. -/
structure WG (P : Nat → Nat) (S : List (List Int)) (f : Fm) : Prop where
  here : ∀ id t k, f id = some (t, k) → ∃ l, S[P t]? = some l ∧ l[k]? = some id
  there : ∀ p l k id, S[p]? = some l → l[k]? = some id → ∃ t, f id = some (t, k) ∧ P t = p
theorem Fm.upd_self (f : Fm) (id : Int) (x : Option (Nat × Nat)) : f.upd id x id = x := if_pos rfl
theorem Fm.upd_ne (f : Fm) {id i : Int} (x : Option (Nat × Nat)) (h : i ≠ id) : f.upd id x i = f i := if_neg h
theorem get_lt {α : Type} {l : List α} {k : Nat} {x : α} (h : l[k]? = some x) : k < l.length := (List.getElem?_eq_some_iff.1 h).1
theorem WG.put {P : Nat → Nat} {S : List (List Int)} {f : Fm} (h : WG P S f) {id : Int} {t : Nat} {l : List Int} (hf : f id = none) (hl : S[P t]? = some l) : WG P (S.set (P t) (l ++ [id])) (f.upd id (some (t, l.length))) where
  here i t' k' hi := by
    by_cases e : i = id
    · subst e
      rw [Fm.upd_self] at hi
      injection hi with hi
      injection hi with e1 e2
      subst e1 e2
      exact ⟨_, List.getElem?_set_self (get_lt hl), by rw [List.getElem?_append_right (Nat.le_refl _), Nat.sub_self]; rfl⟩
    · rw [Fm.upd_ne f _ e] at hi
      obtain ⟨l', h1, h2⟩ := h.here i t' k' hi
      by_cases ep : P t' = P t
      · rw [ep] at h1 ⊢
        rw [hl] at h1
        injection h1 with h1
        subst h1
        exact ⟨_, List.getElem?_set_self (get_lt hl), by rw [List.getElem?_append_left (get_lt h2)]; exact h2⟩
      · exact ⟨l', by rw [List.getElem?_set_ne (Ne.symm ep)]; exact h1, h2⟩
  there p l' k i h1 h2 := by
    by_cases ep : p = P t
    · subst ep
      rw [List.getElem?_set_self (get_lt hl)] at h1
      injection h1 with h1
      subst h1
      by_cases hk : k < l.length
      · rw [List.getElem?_append_left hk] at h2
        obtain ⟨t', h3, h4⟩ := h.there _ l k i hl h2
        refine ⟨t', ?_, h4⟩
        rw [Fm.upd_ne f _ (fun e => by subst e; rw [hf] at h3; cases h3)]
        exact h3
      · have hk2 := get_lt h2
        rw [List.length_append, List.length_singleton] at hk2
        have hk3 : k = l.length := by omega
        subst hk3
        rw [List.getElem?_append_right (Nat.le_refl _), Nat.sub_self] at h2
        have h2 : some id = some i := h2
        injection h2 with h2
        subst h2
        exact ⟨t, Fm.upd_self _ _ _, rfl⟩
    · rw [List.getElem?_set_ne (Ne.symm ep)] at h1
      obtain ⟨t', h3, h4⟩ := h.there p l' k i h1 h2
      refine ⟨t', ?_, h4⟩
      rw [Fm.upd_ne f _ (fun e => by subst e; rw [hf] at h3; cases h3)]
      exact h3
theorem WG.cancel {P : Nat → Nat} {S : List (List Int)} {f : Fm} (h : WG P S f) {id last : Int} {t k m tl : Nat} {l : List Int} (hf : f id = some (t, k)) (hl : S[P t]? = some l) (hm : l.length = m + 1) (hla : l[m]? = some last) (hfl : f last = some (tl, m)) (hp : P tl = P t) :
    WG P (S.set (P t) ((l.set k last).take m)) ((f.upd last (some (tl, k))).upd id none) := by
  have hlk : l[k]? = some id := by
    obtain ⟨l', h1, h2⟩ := h.here id t k hf
    rw [hl] at h1
    injection h1 with h1
    subst h1
    exact h2
  have hkl := get_lt hlk
  have hkm : k = m ∨ k < m := by omega
  have hle : k < m → last ≠ id := fun hk e => by
    subst e
    rw [hf] at hfl
    injection hfl with hfl
    injection hfl with _ e2
    omega
  have hgo : ∀ j, j < m → j ≠ k → ((l.set k last).take m)[j]? = l[j]? := fun j hj hjk => by
    rw [List.getElem?_take, if_pos hj, List.getElem?_set_ne (Ne.symm hjk)]
  have hgk : k < m → ((l.set k last).take m)[k]? = some last := fun hk => by
    rw [List.getElem?_take, if_pos hk, List.getElem?_set_self hkl]
  refine ⟨fun i t' k' hi => ?_, fun p l' j i h1 h2 => ?_⟩
  · by_cases e : i = id
    · subst e
      rw [Fm.upd_self] at hi
      cases hi
    · rw [Fm.upd_ne _ _ e] at hi
      by_cases e2 : i = last
      · subst e2
        rw [Fm.upd_self] at hi
        injection hi with hi
        injection hi with e3 e4
        subst e3 e4
        have hk : k < m := by
          rcases hkm with h5 | h5
          · subst h5
            rw [hla] at hlk
            injection hlk with hlk
            exact absurd hlk e
          · exact h5
        rw [hp]
        exact ⟨_, List.getElem?_set_self (get_lt hl), hgk hk⟩
      · rw [Fm.upd_ne _ _ e2] at hi
        obtain ⟨l', h1, h2⟩ := h.here i t' k' hi
        by_cases ep : P t' = P t
        · rw [ep] at h1 ⊢
          rw [hl] at h1
          injection h1 with h1
          subst h1
          have h5 := get_lt h2
          have h6 : k' ≠ k := fun e => by subst e; rw [hlk] at h2; injection h2 with h2; exact absurd h2.symm (by assumption)
          have h7 : k' ≠ m := fun e => by subst e; rw [hla] at h2; injection h2 with h2; exact absurd h2.symm (by assumption)
          exact ⟨_, List.getElem?_set_self (get_lt hl), by rw [hgo k' (by omega) h6]; exact h2⟩
        · exact ⟨l', by rw [List.getElem?_set_ne (Ne.symm ep)]; exact h1, h2⟩
  · by_cases ep : p = P t
    · subst ep
      rw [List.getElem?_set_self (get_lt hl)] at h1
      injection h1 with h1
      subst h1
      have hj : j < m := by
        have := get_lt h2
        rw [List.length_take] at this
        omega
      by_cases ej : j = k
      · subst ej
        rw [hgk hj] at h2
        injection h2 with h2
        subst h2
        exact ⟨tl, by rw [Fm.upd_ne _ _ (hle hj), Fm.upd_self], hp⟩
      · rw [hgo j hj ej] at h2
        obtain ⟨t', h3, h4⟩ := h.there _ l j i hl h2
        refine ⟨t', ?_, h4⟩
        rw [Fm.upd_ne _ _ (fun e => by subst e; rw [hf] at h3; injection h3 with h3; injection h3 with _ h3; exact ej h3.symm), Fm.upd_ne _ _ (fun e => by subst e; rw [hfl] at h3; injection h3 with h3; injection h3 with _ h3; omega)]
        exact h3
    · rw [List.getElem?_set_ne (Ne.symm ep)] at h1
      obtain ⟨t', h3, h4⟩ := h.there p l' j i h1 h2
      refine ⟨t', ?_, h4⟩
      rw [Fm.upd_ne _ _ (fun e => by subst e; rw [hf] at h3; injection h3 with h3; injection h3 with h3 _; subst h3; exact ep h4.symm), Fm.upd_ne _ _ (fun e => by subst e; rw [hfl] at h3; injection h3 with h3; injection h3 with h3 _; subst h3; exact ep (h4.symm.trans hp))]
      exact h3
end Go.Proofs.Ytpeagibompohhaa
