/- How many of the first n are so. No program. -/
import Derived.Test.YtahdfginmkcgfaaPop
import Derived.Test.YtahdfginmkcgfaaRep
namespace Go.Proofs.Ytahdfginmkcgfaa
open Go.RowKit
set_option linter.unusedVariables false

def cnt (f : Nat → Bool) : Nat → Nat
  | 0 => 0
  | n + 1 => cnt f n + (f n).toNat
theorem cnt_congr {f g : Nat → Bool} : ∀ {n : Nat}, (∀ i, i < n → f i = g i) → cnt f n = cnt g n
  | 0, _ => rfl
  | n + 1, h => by
    simp only [cnt]
    rw [cnt_congr (n := n) (fun i hi => h i (by omega)), h n (by omega)]
theorem cnt_add (f : Nat → Bool) (m : Nat) : ∀ n : Nat, cnt f (m + n) = cnt f m + cnt (fun i => f (m + i)) n
  | 0 => rfl
  | n + 1 => by
    rw [← Nat.add_assoc]
    simp only [cnt]
    rw [cnt_add f m n]
    omega
theorem cnt_le (f : Nat → Bool) : ∀ n : Nat, cnt f n ≤ n
  | 0 => Nat.le_refl _
  | n + 1 => by
    have := cnt_le f n
    have : (f n).toNat ≤ 1 := Bool.toNat_le _
    simp only [cnt]
    omega
theorem cnt_first (f : Nat → Bool) (n : Nat) : cnt f (n + 1) = (f 0).toNat + cnt (fun i => f (1 + i)) n := by
  rw [Nat.add_comm n 1, cnt_add]
  simp [cnt]
theorem cnt_rev (g : Nat → Bool) : ∀ n : Nat, cnt (fun i => g (n - 1 - i)) n = cnt g n
  | 0 => rfl
  | n + 1 => by
    rw [cnt_first]
    have h := cnt_rev g n
    rw [cnt_congr (f := fun i => g (n + 1 - 1 - (1 + i))) (g := fun i => g (n - 1 - i)) (fun i hi => by congr 1; omega), h]
    simp only [cnt]
    rw [show n + 1 - 1 - 0 = n by omega]
    omega
/-- Going round, the other way: the same. -/
theorem cnt_round (g : Nat → Bool) (c : Nat) (hc : c < 256) : cnt (fun i => g ((c + 256 - i) % 256)) 256 = cnt g 256 := by
  have e1 := cnt_add (fun i => g ((c + 256 - i) % 256)) (c + 1) (255 - c)
  have e2 := cnt_add g (c + 1) (255 - c)
  rw [show (c + 1) + (255 - c) = 256 by omega] at e1 e2
  rw [e1, e2]
  congr 1
  · rw [← cnt_rev g (c + 1)]
    exact cnt_congr fun i hi => by congr 1; omega
  · rw [← cnt_rev (fun i => g (c + 1 + i)) (255 - c)]
    exact cnt_congr fun i hi => by congr 1; omega
theorem p8_cnt_fin : ∀ r : Fin 256, p8 r.val = cnt r.val.testBit 8 := by decide +kernel
theorem p8_cnt (x k : Nat) : p8 (x / 2 ^ k % 256) = cnt (fun i => x.testBit (k + i)) 8 := by
  rw [p8_cnt_fin ⟨x / 2 ^ k % 256, Nat.mod_lt _ (by omega)⟩]
  refine cnt_congr fun i hi => ?_
  show (x / 2 ^ k % 2 ^ 8).testBit i = _
  rw [Nat.testBit_mod_two_pow, Nat.testBit_div_two_pow, decide_eq_true hi, Bool.true_and, Nat.add_comm]
theorem pop_cnt (x : Nat) : pop x = cnt x.testBit 64 := by
  have h0 := p8_cnt x 0; have h1 := p8_cnt x 8; have h2 := p8_cnt x 16; have h3 := p8_cnt x 24; have h4 := p8_cnt x 32; have h5 := p8_cnt x 40; have h6 := p8_cnt x 48; have h7 := p8_cnt x 56
  have e1 := cnt_add x.testBit 8 56
  have e2 := cnt_add (fun i => x.testBit (8 + i)) 8 48
  have e3 := cnt_add (fun i => x.testBit (16 + i)) 8 40
  have e4 := cnt_add (fun i => x.testBit (24 + i)) 8 32
  have e5 := cnt_add (fun i => x.testBit (32 + i)) 8 24
  have e6 := cnt_add (fun i => x.testBit (40 + i)) 8 16
  have e7 := cnt_add (fun i => x.testBit (48 + i)) 8 8
  simp only [← Nat.add_assoc, Nat.reduceAdd, Nat.zero_add] at e1 e2 e3 e4 e5 e6 e7 h0
  have q0 : p8 (x % 256) = cnt x.testBit 8 := by rw [← h0]; simp
  unfold pop
  rw [e1, e2, e3, e4, e5, e6, e7, q0]
  simp only [Nat.reducePow] at h1 h2 h3 h4 h5 h6 h7
  rw [h1, h2, h3, h4, h5, h6, h7]
  omega
theorem word_cnt (cw : List Nat) (k : Nat) : pop (wo cw k) = cnt (fun i => bitp cw (64 * k + i)) 64 := by
  rw [pop_cnt]
  refine cnt_congr fun i hi => ?_
  unfold bitp wo
  rw [show (64 * k + i) / 64 = k by omega, show (64 * k + i) % 64 = i by omega]
theorem cnt_words (cw : List Nat) : cnt (bitp cw) 256 = pop (wo cw 0) + pop (wo cw 1) + pop (wo cw 2) + pop (wo cw 3) := by
  rw [word_cnt cw 0, word_cnt cw 1, word_cnt cw 2, word_cnt cw 3]
  have e1 := cnt_add (bitp cw) 64 192
  have e2 := cnt_add (fun i => bitp cw (64 + i)) 64 128
  have e3 := cnt_add (fun i => bitp cw (128 + i)) 64 64
  simp only [← Nat.add_assoc, Nat.reduceAdd] at e1 e2 e3
  simp only [Nat.reduceMul, Nat.zero_add]
  have h0 : cnt (fun i => bitp cw i) 64 = cnt (bitp cw) 64 := rfl
  rw [e1, e2, e3]
  omega
/-- Of the numbers kept: which came. -/
def kept (r : List Nat) (t i : Nat) : Bool := decide (i ≤ t) && r.contains (t - i)
theorem Came.count {r : List Nat} {top : Nat} {cw : List Nat} (h : Came r top cw) : cnt (bitp cw) 256 = cnt (kept r top) 256 := by
  rw [← cnt_round (bitp cw) (top % 256) (Nat.mod_lt _ (by omega))]
  refine cnt_congr fun i hi => ?_
  unfold kept
  rw [Bool.eq_iff_iff, h.2.2.2.2 _ (Nat.mod_lt _ (by omega)), Bool.and_eq_true, decide_eq_true_iff, List.contains_iff_mem]
  constructor
  · rintro ⟨m, hm, e, hl⟩
    have := h.2.1 m hm
    obtain rfl : m = top - i := by omega
    exact ⟨by omega, hm⟩
  · rintro ⟨hi2, hm⟩
    exact ⟨top - i, hm, by omega, by omega⟩
end Go.Proofs.Ytahdfginmkcgfaa
