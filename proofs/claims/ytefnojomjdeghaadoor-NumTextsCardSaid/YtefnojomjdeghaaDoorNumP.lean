/- Layer 1: decimal digits: the mathematics. No program. -/
import Derived.Test.YtefnojomjdeghaaDoorStr
import Derived.Lib.ItoaNum
namespace Go.Proofs.YtefnojomjdeghaaDoor
open Go.RowKit
set_option linter.unusedVariables false

def dgt (c : Nat) : Bool := decide (48 ≤ c ∧ c ≤ 57)
def pv (l : List Nat) : Nat := l.foldl (fun n c => 10 * n + (c - 48)) 0
/-- A text that is read as a count. -/
def okp (l : List Nat) : Bool := !l.isEmpty && (decide (l.length ≤ 10) && (!(decide (1 < l.length) && decide (l.getD 0 0 = 48)) && (l.all dgt && decide (pv l ≤ 2147483647))))
def decN (n : Nat) : List Nat := (Lib.decDigits n).map UInt8.toNat
def decT (n : Nat) : ByteArray := ⟨(Lib.decDigits n).toArray⟩
theorem nats_decT (n : Nat) : nats (decT n) = decN n := by unfold nats decT decN; simp
theorem pv_snoc (l : List Nat) (c : Nat) : pv (l ++ [c]) = 10 * pv l + (c - 48) := by unfold pv; rw [List.foldl_append]; rfl
theorem decN_small {n : Nat} (h : n < 10) : decN n = [48 + n] := by
  unfold decN
  rw [Lib.decDigits, dif_pos h]
  simp; omega
theorem decN_big {n : Nat} (h : ¬ n < 10) : decN n = decN (n / 10) ++ [48 + n % 10] := by
  unfold decN
  rw [Lib.decDigits, dif_neg h, List.map_append]
  simp; omega
theorem pv_lt : ∀ l : List Nat, l.all dgt = true → pv l < 10 ^ l.length := by
  intro l
  suffices h : ∀ r : List Nat, r.reverse.all dgt = true → pv r.reverse < 10 ^ r.length by
    intro hl
    have := h l.reverse (by rwa [List.reverse_reverse])
    rwa [List.reverse_reverse, List.length_reverse] at this
  intro r
  induction r with
  | nil => intro _; simp [pv]
  | cons c r ih =>
    intro hl
    rw [List.reverse_cons] at hl ⊢
    rw [List.all_append, Bool.and_eq_true] at hl
    have h1 := ih hl.1
    have h2 : 48 ≤ c ∧ c ≤ 57 := by simpa [dgt] using hl.2
    rw [pv_snoc, List.length_cons, Nat.pow_succ]
    omega
theorem decN_ok (n : Nat) : (decN n).all dgt = true ∧ pv (decN n) = n ∧ decN n ≠ [] ∧ (1 ≤ n → (decN n).getD 0 0 ≠ 48) := by
  induction n using Nat.strongRecOn with
  | _ n ih =>
    by_cases h : n < 10
    · rw [decN_small h]
      refine ⟨by simp [dgt]; omega, by simp [pv], by simp, fun h1 => by simp; omega⟩
    · obtain ⟨h1, h2, h3, h4⟩ := ih (n / 10) (by omega)
      rw [decN_big h]
      refine ⟨?_, ?_, by simp, fun _ => ?_⟩
      · rw [List.all_append, h1]
        simp [dgt]; omega
      · rw [pv_snoc, h2]; omega
      · match hd : decN (n / 10), h3 with
        | x :: t, _ =>
          have := h4 (by omega)
          rw [hd] at this
          simpa using this
theorem decN_len : ∀ (k n : Nat), n < 10 ^ (k + 1) → (decN n).length ≤ k + 1
  | 0, n, h => by rw [decN_small (by simpa using h)]; simp
  | k + 1, n, h => by
    by_cases h1 : n < 10
    · rw [decN_small h1]; simp
    · rw [decN_big h1]
      have := decN_len k (n / 10) (by rw [Nat.pow_succ] at h; omega)
      simp; omega
/-- What is written is read. -/
theorem okp_decN {n : Nat} (h : n < 2147483648) : okp (decN n) = true ∧ pv (decN n) = n := by
  obtain ⟨h1, h2, h3, h4⟩ := decN_ok n
  have h5 := decN_len 9 n (by omega)
  refine ⟨?_, h2⟩
  unfold okp
  have e1 : (decN n).isEmpty = false := by simpa using h3
  have e2 : (decide (1 < (decN n).length) && decide ((decN n).getD 0 0 = 48)) = false := by
    rcases Nat.eq_zero_or_pos n with rfl | h0
    · rw [decN_small (by omega)]; rfl
    · have := h4 h0
      simp only [Bool.and_eq_false_iff, decide_eq_false_iff_not]
      exact Or.inr this
  rw [e1, e2, h1, h2, decide_eq_true h5, decide_eq_true (by omega)]
  rfl
theorem decN_pv : ∀ r : List Nat, r ≠ [] → r.reverse.all dgt = true → r.reverse.getD 0 0 ≠ 48 → decN (pv r.reverse) = r.reverse ∧ 1 ≤ pv r.reverse
  | [], h, _, _ => absurd rfl h
  | [c], _, ha, h0 => by
    have hc : 48 ≤ c ∧ c ≤ 57 := by simpa [dgt] using ha
    have h0 : c ≠ 48 := by simpa using h0
    have e : pv [c].reverse = c - 48 := by simp [pv]
    rw [e, decN_small (by omega)]
    refine ⟨?_, by omega⟩
    simp; omega
  | c :: d :: r, _, ha, h0 => by
    rw [List.reverse_cons] at ha h0 ⊢
    rw [List.all_append, Bool.and_eq_true] at ha
    have hc : 48 ≤ c ∧ c ≤ 57 := by simpa [dgt] using ha.2
    have hne : (d :: r).reverse ≠ [] := by simp
    have h0' : (d :: r).reverse.getD 0 0 ≠ 48 := by
      match hd : (d :: r).reverse, hne with
      | x :: t, _ =>
        rw [hd] at h0
        simpa using h0
    obtain ⟨i1, i2⟩ := decN_pv (d :: r) (by simp) ha.1 h0'
    rw [pv_snoc, decN_big (by omega), show (10 * pv (d :: r).reverse + (c - 48)) / 10 = pv (d :: r).reverse by omega, i1, show 48 + (10 * pv (d :: r).reverse + (c - 48)) % 10 = c by omega]
    exact ⟨rfl, by omega⟩
/-- What is read is written so. -/
theorem decN_of_ok {l : List Nat} (h : okp l = true) : decN (pv l) = l := by
  unfold okp at h
  simp only [Bool.and_eq_true, Bool.not_eq_true', decide_eq_true_eq] at h
  obtain ⟨h1, h2, h3, h4, h5⟩ := h
  have hne : l ≠ [] := by simpa using h1
  by_cases h0 : l.getD 0 0 = 48
  · have h3' : ¬ 1 < l.length := by
      intro hl
      rw [decide_eq_true hl, decide_eq_true h0] at h3
      cases h3
    match l, hne, h3', h0 with
    | [c], _, _, h0 =>
      have : c = 48 := by simpa using h0
      subst this
      have e : pv [48] = 0 := rfl
      rw [e, decN_small (by omega)]
    | _ :: _ :: _, _, h3', _ => simp at h3'
  · have := decN_pv l.reverse (by simpa using hne) (by rwa [List.reverse_reverse]) (by rwa [List.reverse_reverse])
    rw [List.reverse_reverse] at this
    exact this.1
theorem decT_of_ok {s : ByteArray} (h : okp (nats s) = true) : decT (pv (nats s)) = s := nats_inj (by rw [nats_decT, decN_of_ok h])
end Go.Proofs.YtefnojomjdeghaaDoor
