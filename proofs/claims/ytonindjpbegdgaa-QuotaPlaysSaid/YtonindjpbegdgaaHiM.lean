/- Rows of numbers by how great they are: the mathematics. No program. -/
import Derived.Test.YtonindjpbegdgaaPairZ
namespace Go.Proofs.Ytonindjpbegdgaa
open Go.RowKit
set_option linter.unusedVariables false
/-- How many numbers a row has; a row's least number; how often a number was doubled; a number's row. -/
def wideN (r : Nat) : Nat := 2 ^ (r / 4 - 1)
def leastN (r : Nat) : Nat := (r - 4 * (r / 4 - 1)) * 2 ^ (r / 4 - 1)
def dblN (n : Nat) : Nat := Nat.log2 n + 1 - 3
def rowN (n : Nat) : Nat := if n < 8 then n else 4 * dblN n + n / 2 ^ dblN n
theorem leastN_succ : ∀ r, r < 120 → leastN (r + 1) = leastN r + wideN r := by decide
theorem leastN_lt : ∀ r, r < 120 → leastN r < leastN (r + 1) := fun r hr => by
  rw [leastN_succ r hr]
  have : 0 < wideN r := Nat.pow_pos (by omega)
  omega
theorem leastN_mono {a b : Nat} (h : a ≤ b) (hb : b ≤ 120) : leastN a ≤ leastN b := by
  induction b with
  | zero => obtain rfl : a = 0 := by omega
            exact Nat.le_refl _
  | succ b ih =>
    by_cases e : a = b + 1
    · subst e; exact Nat.le_refl _
    · exact Nat.le_trans (ih (by omega) (by omega)) (Nat.le_of_lt (leastN_lt b (by omega)))
theorem leastN_top : leastN 120 = 2147483648 := by decide
theorem leastN_le (r : Nat) (h : r ≤ 120) : leastN r ≤ 2147483648 := by rw [← leastN_top]; exact leastN_mono h (by omega)
theorem wideN_le (r : Nat) (h : r < 120) : wideN r ≤ 2147483648 := by have := leastN_succ r h; have := leastN_le (r + 1) (by omega); omega
theorem row_unique {n a b : Nat} (ha : a < 120) (hb : b < 120) (h1 : leastN a ≤ n) (h2 : n < leastN (a + 1)) (h3 : leastN b ≤ n) (h4 : n < leastN (b + 1)) : a = b := by
  rcases Nat.lt_trichotomy a b with h | h | h
  · have := leastN_mono (show a + 1 ≤ b from h) (by omega); omega
  · exact h
  · have := leastN_mono (show b + 1 ≤ a from h) (by omega); omega
theorem rowN_spec {n : Nat} (h : n < 2147483648) : rowN n < 120 ∧ leastN (rowN n) ≤ n ∧ n < leastN (rowN n + 1) := by
  unfold rowN
  by_cases h8 : n < 8
  · rw [if_pos h8]
    rcases (show n = 0 ∨ n = 1 ∨ n = 2 ∨ n = 3 ∨ n = 4 ∨ n = 5 ∨ n = 6 ∨ n = 7 by omega) with rfl | rfl | rfl | rfl | rfl | rfl | rfl | rfl <;> decide
  · rw [if_neg h8]
    have hn0 : n ≠ 0 := by omega
    have l1 := Nat.log2_self_le hn0
    have l2 := @Nat.lt_log2_self n
    obtain ⟨k, hk⟩ : ∃ k, k = Nat.log2 n := ⟨_, rfl⟩
    rw [← hk] at l1 l2
    have hk3 : 3 ≤ k := by
      apply Nat.le_of_not_lt; intro hlt
      have := Nat.pow_le_pow_right (show 0 < 2 by omega) (show k + 1 ≤ 3 from hlt)
      omega
    have hk30 : k ≤ 30 := by
      apply Nat.le_of_not_lt; intro hlt
      have := Nat.pow_le_pow_right (show 0 < 2 by omega) (show 31 ≤ k from hlt)
      omega
    obtain ⟨d, hd⟩ : ∃ d, d = k - 2 := ⟨_, rfl⟩
    have hdd : dblN n = d := by unfold dblN; rw [← hk]; omega
    rw [hdd]
    have e1 : 2 ^ k = 4 * 2 ^ d := by rw [show k = d + 2 by omega, Nat.pow_add]; omega
    have e2 : 2 ^ (k + 1) = 8 * 2 ^ d := by rw [show k + 1 = d + 3 by omega, Nat.pow_add]; omega
    rw [e1] at l1
    rw [e2] at l2
    have hp : 0 < 2 ^ d := Nat.pow_pos (by omega)
    obtain ⟨p, hpp⟩ : ∃ p, p = 2 ^ d := ⟨_, rfl⟩
    rw [← hpp] at l1 l2 hp ⊢
    obtain ⟨q, hq⟩ : ∃ q, q = n / p := ⟨_, rfl⟩
    have q1 : 4 ≤ q := by rw [hq, Nat.le_div_iff_mul_le hp]; exact l1
    have q2 : q < 8 := by rw [hq, Nat.div_lt_iff_lt_mul hp]; exact l2
    have q3 : q * p ≤ n := by rw [hq]; exact Nat.div_mul_le_self n p
    have q4 : n < (q + 1) * p := by rw [hq, Nat.add_mul, Nat.one_mul]; exact Nat.lt_div_mul_add hp
    rw [← hq]
    refine ⟨by omega, ?_, ?_⟩
    · unfold leastN
      rw [show (4 * d + q) / 4 - 1 = d by omega, ← hpp, show 4 * d + q - 4 * d = q by omega]
      exact q3
    · unfold leastN
      by_cases q7 : q = 7
      · subst q7
        rw [show (4 * d + 7 + 1) / 4 - 1 = d + 1 by omega, Nat.pow_succ, ← hpp, show 4 * d + 7 + 1 - 4 * (d + 1) = 4 by omega]
        omega
      · rw [show (4 * d + q + 1) / 4 - 1 = d by omega, ← hpp, show 4 * d + q + 1 - 4 * d = q + 1 by omega]
        exact q4
theorem rowN_of {n r : Nat} (hr : r < 120) (h : n < 2147483648) (h1 : leastN r ≤ n) (h2 : n < leastN (r + 1)) : rowN n = r :=
  let s := rowN_spec h
  row_unique s.1 hr s.2.1 s.2.2 h1 h2
theorem rowN_least {n : Nat} (h : n < 2147483648) : rowN (leastN (rowN n)) = rowN n :=
  let s := rowN_spec h
  rowN_of s.1 (Nat.lt_of_le_of_lt s.2.1 h) (Nat.le_refl _) (leastN_lt _ s.1)
/-- What came, as pairs: how many in a row, in all; their sum. -/
def inN (n : Int) : Nat := clN 0 2147483647 n
def ofN (n : Int) : Nat := clN 0 1048576 n
theorem inN_lt (n : Int) : inN n < 2147483648 := by have := clN_le (show 0 ≤ 2147483647 by omega) n; unfold inN; omega
theorem ofN_le (n : Int) : ofN n ≤ 1048576 := clN_le (by omega) n
def cntF (r : Nat) (p : Int × Int) : Nat := if rowN (inN p.1) = r then ofN p.2 else 0
def cntL (l : List (Int × Int)) (r : Nat) : Nat := (l.map (cntF r)).sum
def manyL (l : List (Int × Int)) : Nat := (l.map fun p => ofN p.2).sum
def sumLI (l : List (Int × Int)) : Nat := (l.map fun p => ofN p.2 * inN p.1).sum
theorem sum_le_of {α : Type} (f : α → Nat) (c : Nat) (l : List α) (h : ∀ x ∈ l, f x ≤ c) : (l.map f).sum ≤ l.length * c := by
  induction l with
  | nil => simp
  | cons x l ih =>
    have h1 := h x (by simp)
    have h2 := ih fun y hy => h y (by simp [hy])
    rw [List.map_cons, List.sum_cons, List.length_cons, Nat.add_mul]
    omega
theorem manyL_le (l : List (Int × Int)) : manyL l ≤ l.length * 1048576 := sum_le_of _ _ l fun p _ => ofN_le _
theorem sumLI_le (l : List (Int × Int)) : sumLI l ≤ l.length * 2251799813685248 := sum_le_of _ _ l fun p _ => by
  have h1 := ofN_le p.2
  have h2 := inN_lt p.1
  have := Nat.mul_le_mul h1 (Nat.le_of_lt h2)
  omega
/-- The sum over the first rows. -/
def upTo (f : Nat → Nat) (k : Nat) : Nat := ((List.range k).map f).sum
theorem upTo_zero (f : Nat → Nat) : upTo f 0 = 0 := rfl
theorem upTo_succ (f : Nat → Nat) (k : Nat) : upTo f (k + 1) = upTo f k + f k := by unfold upTo; rw [List.range_succ]; simp
theorem upTo_add (f g : Nat → Nat) (k : Nat) : upTo (fun r => f r + g r) k = upTo f k + upTo g k := by
  induction k with
  | zero => rfl
  | succ k ih => rw [upTo_succ, upTo_succ, upTo_succ, ih]; omega
theorem upTo_one (q v k : Nat) : upTo (fun r => if q = r then v else 0) k = if q < k then v else 0 := by
  induction k with
  | zero => simp [upTo_zero]
  | succ k ih => rw [upTo_succ, ih]; split <;> split <;> (try split) <;> omega
theorem upTo_mono {f : Nat → Nat} {a b : Nat} (h : a ≤ b) : upTo f a ≤ upTo f b := by
  induction b with
  | zero => obtain rfl : a = 0 := by omega
            exact Nat.le_refl _
  | succ b ih =>
    by_cases e : a = b + 1
    · subst e; exact Nat.le_refl _
    · have := ih (by omega); rw [upTo_succ]; omega
theorem upTo_many (l : List (Int × Int)) : upTo (cntL l) 120 = manyL l := by
  induction l with
  | nil =>
    show upTo (fun _ => 0) 120 = 0
    decide
  | cons p l ih =>
    have e : cntL (p :: l) = fun r => (if rowN (inN p.1) = r then ofN p.2 else 0) + cntL l r := by funext r; simp [cntL, cntF]
    rw [e, upTo_add, ih, upTo_one, if_pos (rowN_spec (inN_lt _)).1]
    simp [manyL]
theorem upTo_le {f : Nat → Nat} {a M : Nat} (h : upTo f 120 ≤ M) (ha : a ≤ 120) : upTo f a ≤ M := Nat.le_trans (upTo_mono ha) h
theorem one_le {f : Nat → Nat} {a M : Nat} (h : upTo f 120 ≤ M) (ha : a < 120) : f a ≤ M := by
  have := upTo_le (a := a + 1) h ha
  rw [upTo_succ] at this
  omega
theorem cntL_append (l m : List (Int × Int)) (r : Nat) : cntL (l ++ m) r = cntL l r + cntL m r := by simp [cntL]
theorem manyL_append (l m : List (Int × Int)) : manyL (l ++ m) = manyL l + manyL m := by simp [manyL]
theorem sumLI_append (l m : List (Int × Int)) : sumLI (l ++ m) = sumLI l + sumLI m := by simp [sumLI]
/-- The first of some rows at which so many have come: its least number. -/
def belP (f : Nat → Nat) (many part : Nat) (k : Nat) : Prop := 0 < f k ∧ many * part ≤ upTo f (k + 1) * 1000
instance (f : Nat → Nat) (many part k : Nat) : Decidable (belP f many part k) := by unfold belP; infer_instance
def bel (f : Nat → Nat) (many part : Nat) : Nat → Nat → Nat
  | 0, _ => 0
  | g + 1, k => if belP f many part k then leastN k else bel f many part g (k + 1)
def belN (f : Nat → Nat) (many part : Nat) : Nat := bel f many part 120 0
theorem bel_hit {f : Nat → Nat} {many part k : Nat} (hk : k < 120) (h : belP f many part k) : bel f many part (120 - k) k = leastN k := by
  obtain ⟨g, hg⟩ : ∃ g, 120 - k = g + 1 := ⟨119 - k, by omega⟩
  rw [hg, bel, if_pos h]
theorem bel_miss {f : Nat → Nat} {many part k : Nat} (hk : k < 120) (h : ¬ belP f many part k) : bel f many part (120 - k) k = bel f many part (120 - (k + 1)) (k + 1) := by
  obtain ⟨g, hg⟩ : ∃ g, 120 - k = g + 1 := ⟨119 - k, by omega⟩
  rw [hg, bel, if_neg h, show 120 - (k + 1) = g by omega]
/-- So many of a thousand, rounded up, in two steps. -/
theorem wanted_iff {many part come : Nat} : many / 1000 * part + (many % 1000 * part + 999) / 1000 ≤ come ↔ many * part ≤ come * 1000 := by
  obtain ⟨q, hq⟩ : ∃ q, q = many / 1000 := ⟨_, rfl⟩
  obtain ⟨m, hm⟩ : ∃ m, m = many % 1000 := ⟨_, rfl⟩
  have e : many = 1000 * q + m := by omega
  rw [← hq, ← hm, e, Nat.add_mul, Nat.mul_assoc]
  obtain ⟨a, ha⟩ : ∃ a, a = q * part := ⟨_, rfl⟩
  obtain ⟨b, hb⟩ : ∃ b, b = m * part := ⟨_, rfl⟩
  rw [← ha, ← hb]
  omega
end Go.Proofs.Ytonindjpbegdgaa
