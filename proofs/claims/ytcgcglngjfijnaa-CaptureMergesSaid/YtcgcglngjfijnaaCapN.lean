/- Layer 34: what is written is read: mathematics. No program. -/
import Derived.Test.YtcgcglngjfijnaaCapB
namespace Go.Proofs.Ytcgcglngjfijnaa
set_option linter.unusedVariables false
set_option linter.unusedSimpArgs false
theorem take_app {l m : List Nat} {n : Nat} (h : l.length = n) : (l ++ m).take n = l := List.take_left' h
theorem drop_app {l m : List Nat} {n : Nat} (h : l.length = n) : (l ++ m).drop n = m := List.drop_left' h
/-- Records that may be are read as they were. -/
theorem parR_recs : ∀ (l : List Rcd) (a : Int) (r : List Nat), rightGo a l → 0 ≤ a → parR l.length a.toNat (recsB a l ++ r) = some (l, r)
  | [], a, r, _, _ => rfl
  | p :: l, a, r, h, ha => by
    obtain ⟨⟨o1, o2, o3, o4, o5, o6⟩, h2⟩ := h
    obtain ⟨t, s, q, bs⟩ := p
    dsimp only at o1 o2 o3 o4 o5 o6
    have hb : recsB a ((t, s, q, bs) :: l) ++ r = be (t - a).toNat 4 ++ ((128 * s + q).toNat :: (be bs.length 2 ++ (bs ++ (recsB t l ++ r)))) := by
      show (recB a (t, s, q, bs) ++ recsB t l) ++ r = _
      unfold recB
      simp
    have hl4 : (be (t - a).toNat 4).length = 4 := be_len _ _
    have e4 : ub ((be (t - a).toNat 4 ++ ((128 * s + q).toNat :: (be bs.length 2 ++ (bs ++ (recsB t l ++ r))))).take 4) = (t - a).toNat := by
      rw [take_app hl4, ub_be, Nat.mod_eq_of_lt]
      have : (256 : Nat) ^ 4 = 4294967296 := by decide
      omega
    have e5 : (be (t - a).toNat 4 ++ ((128 * s + q).toNat :: (be bs.length 2 ++ (bs ++ (recsB t l ++ r))))).getD 4 0 = (128 * s + q).toNat := by
      rw [List.getD_eq_getElem?_getD, List.getElem?_append_right (by omega), hl4]
      rfl
    have d5 : (be (t - a).toNat 4 ++ ((128 * s + q).toNat :: (be bs.length 2 ++ (bs ++ (recsB t l ++ r))))).drop 5 = be bs.length 2 ++ (bs ++ (recsB t l ++ r)) := by
      rw [show (5 : Nat) = 4 + 1 from rfl, ← List.drop_drop, drop_app hl4]
      rfl
    have em : ub ((be bs.length 2 ++ (bs ++ (recsB t l ++ r))).take 2) = bs.length := by
      rw [take_app (be_len _ _), ub_be, Nat.mod_eq_of_lt]
      have : (256 : Nat) ^ 2 = 65536 := by decide
      omega
    have d7 : (be (t - a).toNat 4 ++ ((128 * s + q).toNat :: (be bs.length 2 ++ (bs ++ (recsB t l ++ r))))).drop 7 = bs ++ (recsB t l ++ r) := by
      rw [show (7 : Nat) = 5 + 2 from rfl, ← List.drop_drop, d5, drop_app (be_len _ _)]
    have hlen : (be (t - a).toNat 4 ++ ((128 * s + q).toNat :: (be bs.length 2 ++ (bs ++ (recsB t l ++ r))))).length = 7 + (bs.length + (recsB t l ++ r).length) := by
      simp [be_len]
      omega
    rw [hb, List.length_cons, parR_succ, d5, em, if_neg (by omega), if_neg (by omega), e4, e5, ← List.drop_drop, d7, drop_app rfl, take_app rfl]
    have et : a.toNat + (t - a).toNat = t.toNat := by omega
    rw [et, parR_recs l t r h2 (by omega)]
    have e1 : ((t.toNat : Nat) : Int) = t := by omega
    have e2 : (((128 * s + q).toNat / 128 : Nat) : Int) = s := by rcases o4 with h | h <;> omega
    have e3 : (((128 * s + q).toNat % 128 : Nat) : Int) = q := by rcases o4 with h | h <;> omega
    rw [e1, e2, e3]
    rfl
/-- What is read is what they say. -/
theorem parR_says : ∀ (k t : Nat) (b : List Nat) (l : List Rcd) (r : List Nat), (∀ x ∈ b, x < 256) → parR k t b = some (l, r) → b = recsB (t : Int) l ++ r ∧ l.length = k ∧ ∀ p ∈ l, ∀ x ∈ p.2.2.2, x < 256
  | 0, t, b, l, r, _, h => by
    injection h with h
    injection h with h1 h2
    subst h1 h2
    exact ⟨rfl, rfl, by simp⟩
  | k + 1, t, b, l, r, hb, h => by
    rw [parR_succ] at h
    by_cases h7 : b.length < 7
    · rw [if_pos h7] at h; cases h
    rw [if_neg h7] at h
    by_cases hm : b.length < 7 + ub ((b.drop 5).take 2)
    · rw [if_pos hm] at h; cases h
    rw [if_neg hm, Option.map_eq_some_iff] at h
    obtain ⟨⟨l', r'⟩, h1, h2⟩ := h
    injection h2 with h2 h3
    dsimp only at h2 h3
    subst h3
    obtain ⟨i1, i2, i3⟩ := parR_says k _ _ l' r' (fun x hx => hb x (List.mem_of_mem_drop hx)) h1
    subst h2
    refine ⟨?_, by rw [List.length_cons, i2], fun p hp x hx => ?_⟩
    · show b = (recB (t : Int) _ ++ recsB _ l') ++ r'
      dsimp only
      have b4 : ∀ x ∈ b.take 4, x < 256 := fun x hx => hb x (List.mem_of_mem_take hx)
      have b52 : ∀ x ∈ (b.drop 5).take 2, x < 256 := fun x hx => hb x (List.mem_of_mem_drop (List.mem_of_mem_take hx))
      have l4 : (b.take 4).length = 4 := by rw [List.length_take]; omega
      have l52 : ((b.drop 5).take 2).length = 2 := by rw [List.length_take, List.length_drop]; omega
      have e4 := be_ub _ b4
      have e52 := be_ub _ b52
      rw [l4] at e4
      rw [l52] at e52
      have hml : ((b.drop 7).take (ub ((b.drop 5).take 2))).length = ub ((b.drop 5).take 2) := by rw [List.length_take, List.length_drop]; omega
      have ht : (((t + ub (b.take 4) : Nat) : Int) - (t : Int)).toNat = ub (b.take 4) := by omega
      have hh : (128 * ((b.getD 4 0 / 128 : Nat) : Int) + ((b.getD 4 0 % 128 : Nat) : Int)).toNat = b.getD 4 0 := by omega
      unfold recB
      dsimp only
      rw [ht, hh, hml, e4, e52]
      have hd4 : b.drop 4 = b.getD 4 0 :: b.drop 5 := by
        rw [List.getD_eq_getElem?_getD, List.getElem?_eq_getElem (by omega), List.drop_eq_getElem_cons (by omega)]
        rfl
      have hd5 : b.drop 5 = (b.drop 5).take 2 ++ b.drop 7 := by
        rw [show (7 : Nat) = 5 + 2 from rfl, ← List.drop_drop]
        exact (List.take_append_drop 2 _).symm
      have hd7 : b.drop 7 = (b.drop 7).take (ub ((b.drop 5).take 2)) ++ b.drop (7 + ub ((b.drop 5).take 2)) := by
        rw [← List.drop_drop]
        exact (List.take_append_drop _ _).symm
      have e : b = b.take 4 ++ b.drop 4 := (List.take_append_drop 4 b).symm
      conv => lhs; rw [e, hd4, hd5, hd7, i1]
      simp
    · rcases List.mem_cons.1 hp with rfl | hp
      · exact hb x (List.mem_of_mem_drop (List.mem_of_mem_take hx))
      · exact i3 p hp x hx
theorem parR_bd {k : Nat} {b r : List Nat} {l : List Rcd} (h : parR k 0 b = some (l, r)) (hk : k ≤ 65535) (hb : ∀ x ∈ b, x < 256) : ∀ p ∈ l, i64ok p.1 ∧ i64ok p.2.1 ∧ i64ok p.2.2.1 := by
  have key : ∀ (k t : Nat) (b : List Nat) (l : List Rcd) (r : List Nat), (∀ x ∈ b, x < 256) → parR k t b = some (l, r) → ∀ p ∈ l, 0 ≤ p.1 ∧ p.1 ≤ ((t + k * 4294967296 : Nat) : Int) ∧ 0 ≤ p.2.1 ∧ p.2.1 < 256 ∧ 0 ≤ p.2.2.1 ∧ p.2.2.1 < 256 := by
    intro k
    induction k with
    | zero =>
      intro t b l r _ h
      injection h with h
      injection h with h1 h2
      subst h1
      simp
    | succ k ih =>
      intro t b l r hb h
      rw [parR_succ] at h
      by_cases h7 : b.length < 7
      · rw [if_pos h7] at h; cases h
      rw [if_neg h7] at h
      by_cases hm : b.length < 7 + ub ((b.drop 5).take 2)
      · rw [if_pos hm] at h; cases h
      rw [if_neg hm, Option.map_eq_some_iff] at h
      obtain ⟨⟨l', r'⟩, h1, h2⟩ := h
      injection h2 with h2 h3
      dsimp only at h2
      subst h2
      have hu : ub (b.take 4) < 4294967296 := ub_lt 4 _ (by rw [List.length_take]; omega) fun x hx => hb x (List.mem_of_mem_take hx)
      have hg : b.getD 4 0 < 256 := hb _ (mem_getD b 0 4 (by omega))
      intro p hp
      rcases List.mem_cons.1 hp with rfl | hp
      · refine ⟨?_, ?_, ?_, ?_, ?_, ?_⟩ <;> dsimp only <;> omega
      · have := ih _ _ l' r' (fun x hx => hb x (List.mem_of_mem_drop hx)) h1 p hp
        omega
  intro p hp
  have := key k 0 b l r hb h p hp
  unfold i64ok
  omega
/-- The parts of a capture's bytes. -/
theorem capE_parts {l : List Rcd} {b : List Nat} (h : capE l = b) (hr : rightR l) :
    10 ≤ b.length ∧ b.take (b.length - 4) = capB l ∧ b.drop (b.length - 4) = be (sumS (capB l)) 4 ∧ ub (b.take 4) = 1112690517 ∧ ub ((b.drop 4).take 2) = l.length ∧ parR l.length 0 ((b.take (b.length - 4)).drop 6) = some (l, []) := by
  have hl := capE_len l
  have hb4 : (capE l).length - 4 = (capB l).length := by rw [capE_len, capB_len]; omega
  subst h
  have t1 : (capE l).take ((capE l).length - 4) = capB l := by rw [hb4]; exact take_app rfl
  have h16 : l.length < 65536 := by have := hr.1; omega
  refine ⟨by omega, t1, by rw [hb4]; exact drop_app rfl, ?_, ?_, ?_⟩
  · unfold capE capB capH
    rw [List.append_assoc, List.append_assoc, take_app (be_len _ _), ub_be]
  · unfold capE capB capH
    rw [List.append_assoc, List.append_assoc, drop_app (be_len _ _), List.append_assoc, take_app (be_len _ _), ub_be, Nat.mod_eq_of_lt]
    exact h16
  · rw [t1]
    unfold capB
    rw [drop_app (capH_len _)]
    have := parR_recs l 0 [] hr.2 (by omega)
    rwa [List.append_nil] at this
theorem capE_of {b : List Nat} {l : List Rcd} (hb : ∀ x ∈ b, x < 256) (hlen : 10 ≤ b.length) (hm : ub (b.take 4) = 1112690517) (hs : b.drop (b.length - 4) = be (sumS (b.take (b.length - 4))) 4) (hp : parR (ub ((b.drop 4).take 2)) 0 ((b.take (b.length - 4)).drop 6) = some (l, [])) : capE l = b ∧ ∀ p ∈ l, ∀ x ∈ p.2.2.2, x < 256 := by
  obtain ⟨h1, h2, h3⟩ := parR_says _ _ _ _ _ (fun x hx => hb x (List.mem_of_mem_take (List.mem_of_mem_drop hx))) hp
  rw [List.append_nil] at h1
  have b4 : ∀ x ∈ b.take 4, x < 256 := fun x hx => hb x (List.mem_of_mem_take hx)
  have b42 : ∀ x ∈ (b.drop 4).take 2, x < 256 := fun x hx => hb x (List.mem_of_mem_drop (List.mem_of_mem_take hx))
  have e4 := be_ub _ b4
  have e42 := be_ub _ b42
  rw [show (b.take 4).length = 4 by rw [List.length_take]; omega, hm] at e4
  rw [show ((b.drop 4).take 2).length = 2 by rw [List.length_take, List.length_drop]; omega, ← h2] at e42
  have hB : capB l = b.take (b.length - 4) := by
    unfold capB capH
    rw [e4, e42]
    have e : b.take (b.length - 4) = (b.take (b.length - 4)).take 6 ++ (b.take (b.length - 4)).drop 6 := (List.take_append_drop _ _).symm
    rw [e, h1, List.take_take, show min 6 (b.length - 4) = 6 by omega]
    have e6 : b.take 6 = b.take 4 ++ (b.drop 4).take 2 := by
      rw [show (6 : Nat) = 4 + 2 from rfl, List.take_add]
    rw [e6]
    rfl
  refine ⟨?_, h3⟩
  unfold capE
  rw [hB, ← hs, List.take_append_drop]
theorem capE_inj {l m : List Rcd} (hl : rightR l) (hm : rightR m) (h : capE l = capE m) : l = m := by
  have h1 := (capE_parts rfl hl)
  have h2 := (capE_parts h.symm hm)
  have e1 := h1.2.2.2.2.1.symm.trans h2.2.2.2.2.1
  have e2 := h1.2.2.2.2.2
  rw [e1, h2.2.2.2.2.2] at e2
  injection e2 with e2
  injection e2 with e2 _
  exact e2.symm
end Go.Proofs.Ytcgcglngjfijnaa
