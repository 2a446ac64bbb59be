/- Plain mathematics of the bytes that make numbers of eight bytes. -/
import Derived.Test.YtcgcglngjfijnaaSip4
namespace Go.Proofs.Ytcgcglngjfijnaa
open Go.RowKit
set_option linter.unusedVariables false

/-- The number that bytes make, the lowest ahead. -/
def lv : List Nat → Nat
  | [] => 0
  | x :: r => x + 256 * lv r
theorem lv_lt : ∀ (bs : List Nat), (∀ x ∈ bs, x < 256) → lv bs < 256 ^ bs.length
  | [], _ => by simp [lv]
  | x :: r, h => by
    have h1 := h x (by simp)
    have h2 := lv_lt r (fun y hy => h y (by simp [hy]))
    simp only [lv, List.length_cons, Nat.pow_succ]
    omega
theorem lv_snoc (x : Nat) : ∀ (bs : List Nat), lv (bs ++ [x]) = lv bs + 256 ^ bs.length * x
  | [] => by simp [lv]
  | y :: r => by
    simp only [List.cons_append, lv, lv_snoc x r, List.length_cons, Nat.pow_succ]
    rw [Nat.mul_add, ← Nat.mul_assoc, Nat.mul_comm 256 (256 ^ r.length)]
    omega
theorem pow8 (j : Nat) : (2 : Nat) ^ (8 * j) = 256 ^ j := by rw [Nat.pow_mul]
theorem or_part (l x j m : Nat) (hj : j < 8) (hm : m % 8 = j) (hl : l < 256 ^ j) (hx : x < 256) : l ||| sh8 x m = l + 256 ^ j * x := by
  unfold sh8 M64
  rw [hm, pow8]
  have h1 : x * 256 ^ j < 18446744073709551616 := by
    have h2 : 256 ^ j ≤ 256 ^ 7 := Nat.pow_le_pow_right (by omega) (by omega)
    have h3 : x * 256 ^ j ≤ 255 * 256 ^ 7 := Nat.mul_le_mul (by omega) h2
    omega
  rw [Nat.mod_eq_of_lt h1, Nat.mul_comm x, ← pow8, Nat.or_comm, ← Nat.two_pow_add_eq_or_of_lt (by rw [pow8]; exact hl)]
  omega
/-- Fewer than eight bytes more. -/
theorem part7 (v : V4) (m0 : Nat) (h0 : m0 % 8 = 0) : ∀ (n : Nat) (bs : List Nat), bs.length = n → n < 8 → (∀ x ∈ bs, x < 256) → saddL (v, 0, m0) bs = (v, lv bs, m0 + n)
  | 0, bs, hn, _, _ => by
    obtain rfl := List.eq_nil_of_length_eq_zero hn
    rfl
  | n + 1, bs, hn, h8, hb => by
    obtain ⟨cs, x, rfl⟩ : ∃ cs x, bs = cs ++ [x] := ⟨bs.dropLast, bs.getLast (by intro e; rw [e] at hn; simp at hn), (List.dropLast_concat_getLast _).symm⟩
    have hc : cs.length = n := by simpa using hn
    have ih := part7 v m0 h0 n cs hc (by omega) (fun y hy => hb y (by simp [hy]))
    rw [saddL_app, ih]
    show sadd (v, lv cs, m0 + n) x = _
    unfold sadd
    simp only []
    rw [if_neg (by omega), or_part _ _ n _ (by omega) (by omega) (by rw [← hc]; exact lv_lt cs (fun y hy => hb y (by simp [hy]))) (hb x (by simp)), lv_snoc, hc]
    rfl
/-- Eight bytes more. -/
theorem part8 (v : V4) (m0 : Nat) (h0 : m0 % 8 = 0) (bs : List Nat) (hn : bs.length = 8) (hb : ∀ x ∈ bs, x < 256) : saddL (v, 0, m0) bs = (tk v (lv bs), 0, m0 + 8) := by
  obtain ⟨cs, x, rfl⟩ : ∃ cs x, bs = cs ++ [x] := ⟨bs.dropLast, bs.getLast (by intro e; rw [e] at hn; simp at hn), (List.dropLast_concat_getLast _).symm⟩
  have hc : cs.length = 7 := by simpa using hn
  rw [saddL_app, part7 v m0 h0 7 cs hc (by omega) (fun y hy => hb y (by simp [hy]))]
  show sadd (v, lv cs, m0 + 7) x = _
  unfold sadd
  simp only []
  rw [if_pos (by omega), or_part _ _ 7 _ (by omega) (by omega) (by rw [← hc]; exact lv_lt cs (fun y hy => hb y (by simp [hy]))) (hb x (by simp)), lv_snoc, hc]
theorem lv_drop {bs : List Nat} {j x : Nat} (h : bs[j]? = some x) : lv (bs.drop j) = x + 256 * lv (bs.drop (j + 1)) := by
  obtain ⟨hj, e⟩ := List.getElem?_eq_some_iff.1 h
  rw [List.drop_eq_getElem_cons hj, e]
  rfl
theorem lv_drop_none {bs : List Nat} {j : Nat} (h : bs.length ≤ j) : lv (bs.drop j) = 0 := by
  rw [List.drop_eq_nil_of_le h]
  rfl
theorem lv_le (bs : List Nat) (n : Nat) (h : ∀ x ∈ bs, x < 256) (hn : bs.length ≤ n) : lv bs < 256 ^ n :=
  Nat.lt_of_lt_of_le (lv_lt bs h) (Nat.pow_le_pow_right (by omega) hn)
/-- After k times eight bytes. -/
theorem eights (s0 : V4) (bs : List Nat) (hb : ∀ x ∈ bs, x < 256) : ∀ k, 8 * k ≤ bs.length → (saddL (s0, 0, 0) (bs.take (8 * k))).2 = (0, 8 * k)
  | 0, _ => rfl
  | k + 1, hk => by
    have ih := eights s0 bs hb k (by omega)
    have e : bs.take (8 * (k + 1)) = bs.take (8 * k) ++ (bs.drop (8 * k)).take 8 := by rw [show 8 * (k + 1) = 8 * k + 8 by omega, List.take_add]
    obtain ⟨s1, hs⟩ : ∃ s1, s1 = saddL (s0, 0, 0) (bs.take (8 * k)) := ⟨_, rfl⟩
    rw [← hs] at ih
    obtain ⟨v, l, m⟩ := s1
    simp only [Prod.mk.injEq] at ih
    obtain ⟨rfl, rfl⟩ := ih
    rw [e, saddL_app, ← hs, part8 v (8 * k) (by omega) _ (by simp; omega) (fun x hx => hb x (List.mem_of_mem_drop (List.mem_of_mem_take hx)))]
    simp only [Prod.mk.injEq, true_and]
    omega
theorem eights_next (s0 : V4) (bs : List Nat) (hb : ∀ x ∈ bs, x < 256) (k : Nat) (hk : 8 * (k + 1) ≤ bs.length) :
    (saddL (s0, 0, 0) (bs.take (8 * (k + 1)))).1 = tk (saddL (s0, 0, 0) (bs.take (8 * k))).1 (lv ((bs.drop (8 * k)).take 8)) := by
  have ih := eights s0 bs hb k (by omega)
  have e : bs.take (8 * (k + 1)) = bs.take (8 * k) ++ (bs.drop (8 * k)).take 8 := by rw [show 8 * (k + 1) = 8 * k + 8 by omega, List.take_add]
  obtain ⟨s1, hs⟩ : ∃ s1, s1 = saddL (s0, 0, 0) (bs.take (8 * k)) := ⟨_, rfl⟩
  rw [← hs] at ih
  obtain ⟨v, l, m⟩ := s1
  simp only [Prod.mk.injEq] at ih
  obtain ⟨rfl, rfl⟩ := ih
  rw [e, saddL_app, ← hs, part8 v (8 * k) (by omega) _ (by simp; omega) (fun x hx => hb x (List.mem_of_mem_drop (List.mem_of_mem_take hx)))]
/-- The last number. -/
theorem sfin_last (s0 : V4) (bs : List Nat) (hb : ∀ x ∈ bs, x < 256) (k : Nat) (hk : 8 * k ≤ bs.length) (hr : bs.length < 8 * k + 8) :
    sfin (saddL (s0, 0, 0) bs) = fin4 (rndN ((tk (saddL (s0, 0, 0) (bs.take (8 * k))).1 (bs.length % 256 * 256 ^ 7 + lv (bs.drop (8 * k)))).1, (tk (saddL (s0, 0, 0) (bs.take (8 * k))).1 (bs.length % 256 * 256 ^ 7 + lv (bs.drop (8 * k)))).2.1, (tk (saddL (s0, 0, 0) (bs.take (8 * k))).1 (bs.length % 256 * 256 ^ 7 + lv (bs.drop (8 * k)))).2.2.1 ^^^ 255, (tk (saddL (s0, 0, 0) (bs.take (8 * k))).1 (bs.length % 256 * 256 ^ 7 + lv (bs.drop (8 * k)))).2.2.2) 4) := by
  have ih := eights s0 bs hb k hk
  have e : saddL (s0, 0, 0) bs = saddL (saddL (s0, 0, 0) (bs.take (8 * k))) (bs.drop (8 * k)) := by rw [← saddL_app, List.take_append_drop]
  obtain ⟨s1, hs⟩ : ∃ s1, s1 = saddL (s0, 0, 0) (bs.take (8 * k)) := ⟨_, rfl⟩
  rw [← hs] at ih
  obtain ⟨v, l, m⟩ := s1
  simp only [Prod.mk.injEq] at ih
  obtain ⟨rfl, rfl⟩ := ih
  have hd : ∀ x ∈ bs.drop (8 * k), x < 256 := fun x hx => hb x (List.mem_of_mem_drop hx)
  have hlen : (bs.drop (8 * k)).length = bs.length - 8 * k := by simp
  rw [e, ← hs, part7 v (8 * k) (by omega) (bs.length - 8 * k) _ hlen (by omega) hd]
  unfold sfin
  have hl := lv_le (bs.drop (8 * k)) 7 hd (by omega)
  have hm : lv (bs.drop (8 * k)) ||| ((8 * k + (bs.length - 8 * k)) * 2 ^ 56 % M64) = bs.length % 256 * 256 ^ 7 + lv (bs.drop (8 * k)) := by
    rw [show 8 * k + (bs.length - 8 * k) = bs.length by omega]
    have e2 : bs.length * 2 ^ 56 % M64 = 2 ^ 56 * (bs.length % 256) := by unfold M64; omega
    rw [e2, Nat.or_comm, ← Nat.two_pow_add_eq_or_of_lt (by omega)]
    omega
  simp only [hm]
end Go.Proofs.Ytcgcglngjfijnaa
