/- The numbers of layer 43 as plain lists. -/
import Derived.Lib.BitFns
namespace Go.Proofs.Ytnnhndgeedlpgaa

/-- A number's bytes: seven bits each, the lowest ahead. -/
def vb (n : Nat) : List Nat := if n < 128 then [n] else (n % 128 + 128) :: vb (n / 128)
termination_by n
decreasing_by omega
theorem vb_small {n : Nat} (h : n < 128) : vb n = [n] := by rw [vb, if_pos h]
theorem vb_big {n : Nat} (h : ¬ n < 128) : vb n = (n % 128 + 128) :: vb (n / 128) := by rw [vb, if_neg h]
theorem vb_len (k : Nat) : ∀ n : Nat, n < 128 ^ (k + 1) → (vb n).length ≤ k + 1 := by
  induction k with
  | zero => intro n h; rw [vb_small (by omega)]; simp
  | succ k ih =>
    intro n h
    by_cases hn : n < 128
    · rw [vb_small hn]; simp
    · rw [vb_big hn]
      have := ih (n / 128) (by rw [Nat.pow_succ] at h; omega)
      simp; omega
theorem vb_len64 {n : Nat} (h : n < 18446744073709551616) : (vb n).length ≤ 10 := vb_len 9 n (by omega)
theorem vb_pos (n : Nat) : 1 ≤ (vb n).length := by
  by_cases h : n < 128
  · rw [vb_small h]; simp
  · rw [vb_big h]; simp
theorem vb_byte (n : Nat) : ∀ x ∈ vb n, x < 256 := by
  induction n using Nat.strongRecOn with
  | ind n ih =>
    by_cases h : n < 128
    · rw [vb_small h]; intro x hx; simp at hx; omega
    · rw [vb_big h]; intro x hx
      simp at hx
      rcases hx with h1 | h1
      · omega
      · exact ih (n / 128) (by omega) x h1

theorem bl_step (f x : Nat) : Lib.bitLenAux (f + 1) x = if x = 0 then 0 else 1 + Lib.bitLenAux f (x / 2) := rfl
theorem bl_le (f x : Nat) : Lib.bitLenAux f x ≤ f := by
  induction f generalizing x with
  | zero => exact Nat.le_refl _
  | succ f ih => rw [bl_step]; have := ih (x / 2); split <;> omega
theorem bitLen_le (x : Nat) : Lib.bitLen x ≤ 64 := bl_le 64 x
theorem bl_zero (f : Nat) : Lib.bitLenAux f 0 = 0 := by cases f <;> rfl
theorem bl_pos (f : Nat) {x : Nat} (h : 1 ≤ x) : 1 ≤ Lib.bitLenAux (f + 1) x := by rw [bl_step, if_neg (by omega)]; omega
theorem bl_vb (j : Nat) : ∀ x : Nat, x < 2 ^ (7 * j + 1) → max 1 ((Lib.bitLenAux (7 * j + 1) x + 6) / 7) = (vb x).length := by
  induction j with
  | zero =>
    intro x h
    have : x < 2 := by simpa using h
    rw [vb_small (by omega), bl_step]
    split <;> simp [Lib.bitLenAux]
  | succ j ih =>
    intro x h
    by_cases hx : x < 128
    · rw [vb_small hx]
      have hb : Lib.bitLenAux (7 * (j + 1) + 1) x ≤ 7 := by
        have e : 7 * (j + 1) + 1 = 7 * j + 1 + 1 + 1 + 1 + 1 + 1 + 1 + 1 := by omega
        rw [e]
        have h0 : x / 2 / 2 / 2 / 2 / 2 / 2 / 2 = 0 := by omega
        simp only [bl_step (7 * j + 1 + 6), bl_step (7 * j + 1 + 5), bl_step (7 * j + 1 + 4), bl_step (7 * j + 1 + 3), bl_step (7 * j + 1 + 2), bl_step (7 * j + 1 + 1), bl_step (7 * j + 1)]
        rw [h0, bl_zero]
        repeat' split
        all_goals omega
      have h1 : [x].length = 1 := rfl
      rw [h1]
      omega
    · rw [vb_big hx]
      have h7 : x / 128 < 2 ^ (7 * j + 1) := by
        have e : 2 ^ (7 * (j + 1) + 1) = 128 * 2 ^ (7 * j + 1) := by rw [show 7 * (j + 1) + 1 = 7 + (7 * j + 1) by omega, Nat.pow_add]
        rw [e] at h
        exact Nat.div_lt_of_lt_mul h
      have ih := ih (x / 128) h7
      have hp := bl_pos (7 * j) (x := x / 128) (by omega)
      have e : 7 * (j + 1) + 1 = 7 * j + 1 + 1 + 1 + 1 + 1 + 1 + 1 + 1 := by omega
      have e2 : x / 128 = x / 2 / 2 / 2 / 2 / 2 / 2 / 2 := by omega
      rw [e]
      simp only [bl_step (7 * j + 1 + 6), bl_step (7 * j + 1 + 5), bl_step (7 * j + 1 + 4), bl_step (7 * j + 1 + 3), bl_step (7 * j + 1 + 2), bl_step (7 * j + 1 + 1), bl_step (7 * j + 1)]
      rw [if_neg (by omega), if_neg (by omega), if_neg (by omega), if_neg (by omega), if_neg (by omega), if_neg (by omega), if_neg (by omega), ← e2, List.length_cons, ← ih]
      omega
theorem size_vb {n : Nat} (h : n < 18446744073709551616) : max 1 ((Lib.bitLen n + 6) / 7) = (vb n).length := bl_vb 9 n (by omega)
/-- Numbers' bytes, one behind the other. -/
def vbs (l : List Nat) : List Nat := l.flatMap vb
theorem vbs_snoc (l : List Nat) (x : Nat) : vbs (l ++ [x]) = vbs l ++ vb x := by simp [vbs]
theorem vbs_len (l : List Nat) (h : ∀ x ∈ l, x < 18446744073709551616) : (vbs l).length ≤ 10 * l.length := by
  induction l with
  | nil => simp [vbs]
  | cons x l ih =>
    have h1 := vb_len64 (h x (by simp))
    have h2 := ih fun y hy => h y (by simp [hy])
    simp [vbs] at h2 ⊢
    omega
/-- The number whose digits to the base 128 these bytes are, the lowest ahead. -/
def dec : List Nat → Nat
  | [] => 0
  | x :: l => x % 128 + 128 * dec l
theorem dec_snoc (l : List Nat) (x : Nat) : dec (l ++ [x]) = dec l + x % 128 * 128 ^ l.length := by
  induction l with
  | nil => simp [dec]
  | cons y l ih => simp only [List.cons_append, dec, ih, List.length_cons, Nat.pow_succ]; rw [Nat.mul_add, Nat.add_assoc]; congr 2; rw [Nat.mul_comm, Nat.mul_assoc]
theorem dec_vb (n : Nat) : dec (vb n) = n := by
  induction n using Nat.strongRecOn with
  | ind n ih =>
    by_cases h : n < 128
    · rw [vb_small h]; simp [dec]; omega
    · rw [vb_big h, dec, ih (n / 128) (by omega)]; omega
theorem dec_lt (l : List Nat) : dec l < 128 ^ l.length := by
  induction l with
  | nil => simp [dec]
  | cons y l ih => simp only [dec, List.length_cons, Nat.pow_succ]; omega
/-- Bytes with a number's shape: all but the last one go on. -/
def Goes : List Nat → Prop
  | [] => False
  | [x] => x < 128
  | x :: y :: l => 128 ≤ x ∧ x < 256 ∧ Goes (y :: l)
theorem goes_vb (l : List Nat) (h : Goes l) : (vb (dec l) = l ↔ (vb (dec l)).length = l.length) := by
  induction l with
  | nil => exact h.elim
  | cons x l ih =>
    cases l with
    | nil => simp only [Goes] at h; simp only [dec]; rw [vb_small (by omega)]; simp; omega
    | cons y l =>
      obtain ⟨h1, h2, h3⟩ := h
      have ih := ih h3
      rw [dec]
      by_cases h0 : dec (y :: l) = 0
      · rw [h0, vb_small (by omega)]; simp
      · rw [vb_big (by omega), show (x % 128 + 128 * dec (y :: l)) / 128 = dec (y :: l) by omega, show (x % 128 + 128 * dec (y :: l)) % 128 + 128 = x by omega]
        rw [List.cons.injEq, List.length_cons, List.length_cons]
        constructor
        · intro hh; rw [ih.1 hh.2]
        · intro hh; exact ⟨rfl, ih.2 (by simp at hh ⊢; omega)⟩
/-- What stands at the beginning: from place i on, at most so many places more. -/
def vgo (l : List Nat) : Nat → Nat → Nat × Nat
  | _, 0 => (0, 0)
  | i, f + 1 =>
    match l[i]? with
    | none => (0, 0)
    | some x => if 128 ≤ x then vgo l (i + 1) f else if vb (dec (l.take (i + 1))) = l.take (i + 1) ∧ dec (l.take (i + 1)) < 18446744073709551616 then (dec (l.take (i + 1)), i + 1) else (0, 0)
/-- What 64 bits keep. -/
def lo64 (n : Nat) : Nat := n % 18446744073709551616
theorem lo64_small {n : Nat} (h : n < 18446744073709551616) : lo64 n = n := Nat.mod_eq_of_lt h
theorem lo64_lt (n : Nat) : lo64 n < 18446744073709551616 := Nat.mod_lt _ (by omega)
theorem goes_of (p : List Nat) (x : Nat) (hp : ∀ y ∈ p, 128 ≤ y ∧ y < 256) (hx : x < 128) : Goes (p ++ [x]) := by
  induction p with
  | nil => exact hx
  | cons y p ih =>
    have h1 := hp y (by simp)
    have h2 := ih fun z hz => hp z (by simp [hz])
    cases p with
    | nil => exact ⟨h1.1, h1.2, h2⟩
    | cons z p => exact ⟨h1.1, h1.2, h2⟩
/-- When the program takes what it has taken up for a number. -/
theorem takes (p : List Nat) (x : Nat) (hp : ∀ y ∈ p, 128 ≤ y ∧ y < 256) (hx : x < 128) (h9 : p.length ≤ 9) :
    (vb (dec (p ++ [x])) = p ++ [x] ∧ dec (p ++ [x]) < 18446744073709551616) ↔ ((vb (lo64 (dec (p ++ [x])))).length = p.length + 1 ∧ ¬ (p.length = 9 ∧ 1 < x)) := by
  have hg := goes_vb _ (goes_of p x hp hx)
  have hd := dec_snoc p x
  have hl := dec_lt p
  have hlen : (p ++ [x]).length = p.length + 1 := by simp
  rw [hlen] at hg
  by_cases hbig : dec (p ++ [x]) < 18446744073709551616
  · rw [lo64_small hbig, hg]
    have : ¬ (p.length = 9 ∧ 1 < x) := by
      rintro ⟨h1, h2⟩
      rw [h1] at hd hl
      omega
    simp [this, hbig]
  · constructor
    · intro h; exact absurd h.2 hbig
    · rintro ⟨_, h2⟩
      exfalso
      apply hbig
      rw [hd]
      rcases Nat.lt_or_ge p.length 9 with h | h
      · have h1 : 128 ^ p.length ≤ 128 ^ 8 := Nat.pow_le_pow_right (by omega) (by omega)
        have h3 : x % 128 * 128 ^ p.length ≤ 127 * 128 ^ 8 := Nat.mul_le_mul (by omega) h1
        omega
      · have h1 : p.length = 9 := by omega
        rw [h1] at hl ⊢
        omega
theorem vgo_none {l : List Nat} {i f : Nat} (h : l[i]? = none) : vgo l i f = (0, 0) := by cases f <;> simp [vgo, h]
theorem vgo_more {l : List Nat} {i f x : Nat} (h : l[i]? = some x) (hx : 128 ≤ x) : vgo l i (f + 1) = vgo l (i + 1) f := by simp [vgo, h, hx]
theorem vgo_ends {l : List Nat} {i f x : Nat} (h : l[i]? = some x) (hx : ¬ 128 ≤ x) :
    vgo l i (f + 1) = if vb (dec (l.take (i + 1))) = l.take (i + 1) ∧ dec (l.take (i + 1)) < 18446744073709551616 then (dec (l.take (i + 1)), i + 1) else (0, 0) := by simp only [vgo, h, if_neg hx]
def vget (l : List Nat) : Nat × Nat := vgo l 0 10
theorem vgo_le (l : List Nat) : ∀ f i, (vgo l i f).2 ≤ l.length := by
  intro f
  induction f with
  | zero => intro i; simp [vgo]
  | succ f ih =>
    intro i
    cases h : l[i]? with
    | none => rw [vgo_none h]; simp
    | some x =>
      by_cases hx : 128 ≤ x
      · rw [vgo_more h hx]; exact ih _
      · rw [vgo_ends h hx]
        have := (List.getElem?_eq_some_iff.1 h).1
        split <;> simp; omega
theorem vget_le (l : List Nat) : (vget l).2 ≤ l.length := vgo_le l 10 0
theorem vgo_says (l : List Nat) : ∀ f i, (vgo l i f).2 ≠ 0 → (vgo l i f).1 < 18446744073709551616 ∧ vb (vgo l i f).1 = l.take (vgo l i f).2 := by
  intro f
  induction f with
  | zero => intro i h; simp [vgo] at h
  | succ f ih =>
    intro i hn
    cases h : l[i]? with
    | none => rw [vgo_none h] at hn; simp at hn
    | some x =>
      by_cases hx : 128 ≤ x
      · rw [vgo_more h hx] at hn ⊢; exact ih _ hn
      · rw [vgo_ends h hx] at hn ⊢
        split
        · rename_i hc; exact ⟨hc.2, hc.1⟩
        · rename_i hc; rw [if_neg hc] at hn; simp at hn
theorem vget_says (l : List Nat) (h : (vget l).2 ≠ 0) : (vget l).1 < 18446744073709551616 ∧ vb (vget l).1 = l.take (vget l).2 := vgo_says l 10 0 h
/-- All the numbers. -/
def vall (r : List Nat) : Option (List Nat) :=
  if r = [] then some [] else if (vget r).2 = 0 then none else (vall (r.drop (vget r).2)).map ((vget r).1 :: ·)
termination_by r.length
decreasing_by
  rename_i h1 h2
  have : 0 < r.length := List.length_pos_iff.2 h1
  rw [List.length_drop]
  omega
theorem vall_nil : vall [] = some [] := by rw [vall]; rfl
theorem vall_none {r : List Nat} (h1 : r ≠ []) (h2 : (vget r).2 = 0) : vall r = none := by rw [vall, if_neg h1, if_pos h2]
theorem vall_some {r : List Nat} (h1 : r ≠ []) (h2 : (vget r).2 ≠ 0) : vall r = (vall (r.drop (vget r).2)).map ((vget r).1 :: ·) := by rw [vall, if_neg h1, if_neg h2]
theorem goes_of_vb (n : Nat) : Goes (vb n) := by
  induction n using Nat.strongRecOn with
  | ind n ih =>
    by_cases h : n < 128
    · rw [vb_small h]; exact h
    · have h1 := ih (n / 128) (by omega)
      rw [vb_big h]
      cases hc : vb (n / 128) with
      | nil => rw [hc] at h1; exact h1.elim
      | cons y t => rw [hc] at h1; exact ⟨by omega, by omega, h1⟩
theorem vgo_goes (r : List Nat) : ∀ (q p : List Nat), Goes q → p.length + q.length ≤ 10 → dec (p ++ q) < 18446744073709551616 → vb (dec (p ++ q)) = p ++ q →
    vgo (p ++ q ++ r) p.length (10 - p.length) = (dec (p ++ q), p.length + q.length) := by
  intro q
  induction q with
  | nil => intro p h; exact h.elim
  | cons x q ih =>
    intro p hg hl hd hv
    have hx : (p ++ x :: q ++ r)[p.length]? = some x := by simp
    rw [List.length_cons] at hl
    rw [show 10 - p.length = 10 - p.length - 1 + 1 by omega]
    cases q with
    | nil =>
      have hx8 : x < 128 := hg
      rw [vgo_ends hx (by omega)]
      have ht : (p ++ [x] ++ r).take (p.length + 1) = p ++ [x] := by rw [List.take_append_of_le_length (by simp)]; exact List.take_of_length_le (by simp)
      rw [ht, if_pos ⟨hv, hd⟩]
      rfl
    | cons y q =>
      obtain ⟨h1, h2, h3⟩ := hg
      rw [vgo_more hx h1]
      have e : p ++ x :: y :: q = p ++ [x] ++ y :: q := by simp
      have hp : (p ++ [x]).length = p.length + 1 := by simp
      have := ih (p ++ [x]) h3 (by rw [hp]; omega) (by rw [← e]; exact hd) (by rw [← e]; exact hv)
      rw [hp, ← e] at this
      rw [show 10 - p.length - 1 = 10 - (p.length + 1) by omega, this]
      simp; omega
theorem vget_vb {n : Nat} (h : n < 18446744073709551616) (r : List Nat) : vget (vb n ++ r) = (n, (vb n).length) := by
  have hd := dec_vb n
  have := vgo_goes r (vb n) [] (goes_of_vb n) (by simpa using vb_len64 h) (by rw [List.nil_append, hd]; exact h) (by rw [List.nil_append, hd])
  rw [List.nil_append, hd] at this
  show vgo _ 0 10 = _
  simpa using this
theorem vall_vbs (u : List Nat) (h : ∀ x ∈ u, x < 18446744073709551616) : vall (vbs u) = some u := by
  induction u with
  | nil => exact vall_nil
  | cons x u ih =>
    have e : vbs (x :: u) = vb x ++ vbs u := by simp [vbs]
    have hg := vget_vb (h x (by simp)) (vbs u)
    have hp := vb_pos x
    rw [e]
    have hne : vb x ++ vbs u ≠ [] := by intro h0; have := congrArg List.length h0; simp at this; rw [this.1] at hp; simp at hp
    rw [vall_some hne (by rw [hg]; exact Nat.pos_iff_ne_zero.1 hp), hg]
    simp only [List.drop_left]
    rw [ih fun y hy => h y (by simp [hy])]
    rfl
theorem vbs_vall (b : List Nat) : ∀ u, vall b = some u → vbs u = b ∧ ∀ x ∈ u, x < 18446744073709551616 := by
  induction hn : b.length using Nat.strongRecOn generalizing b with
  | ind n ih =>
    intro u hu
    by_cases h0 : b = []
    · subst h0; rw [vall_nil] at hu; injection hu with hu; subst hu; simp [vbs]
    · by_cases h1 : (vget b).2 = 0
      · rw [vall_none h0 h1] at hu; cases hu
      · rw [vall_some h0 h1] at hu
        obtain ⟨hs1, hs2⟩ := vget_says b h1
        have hl : 0 < b.length := List.length_pos_iff.2 h0
        cases hc : vall (b.drop (vget b).2) with
        | none => rw [hc] at hu; cases hu
        | some u' =>
          rw [hc] at hu
          injection hu with hu
          subst hu
          obtain ⟨h2, h3⟩ := ih (b.drop (vget b).2).length (by rw [List.length_drop]; omega) _ rfl u' hc
          refine ⟨?_, ?_⟩
          · have e : vbs ((vget b).1 :: u') = vb (vget b).1 ++ vbs u' := by simp [vbs]
            rw [e, hs2, h2, List.take_append_drop]
          · intro x hx
            simp at hx
            rcases hx with rfl | hx
            · exact hs1
            · exact h3 x hx
theorem vbs_ge (u : List Nat) : u.length ≤ (vbs u).length := by
  induction u with
  | nil => simp
  | cons x u ih =>
    have := vb_pos x
    simp [vbs] at ih ⊢
    omega
theorem vall_len {b u : List Nat} (h : vall b = some u) : u.length ≤ b.length := by
  have := vbs_ge u
  rwa [(vbs_vall b u h).1] at this
end Go.Proofs.Ytnnhndgeedlpgaa
