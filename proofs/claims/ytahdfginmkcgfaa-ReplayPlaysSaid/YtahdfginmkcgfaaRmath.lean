/- Plain mathematics of a window of 256 numbers, kept as four words of 64 bits. No program. -/
import Derived.Test.YtahdfginmkcgfaaLib
namespace Go.Proofs.Ytahdfginmkcgfaa
open Go.RowKit
set_option linter.unusedVariables false

/-- Four words. -/
def Ok4 (cw : List Nat) : Prop := cw.length = 4 ∧ ∀ x ∈ cw, x < 2 ^ 64
/-- The bit at a place below 256. -/
def bitp (cw : List Nat) (p : Nat) : Bool := (cw.getD (p / 64) 0).testBit (p % 64)
def setw (cw : List Nat) (n : Nat) : List Nat := cw.set (n % 256 / 64) (cw.getD (n % 256 / 64) 0 ||| 2 ^ (n % 64))
def clrw (cw : List Nat) (n : Nat) : List Nat := cw.set (n % 256 / 64) (cw.getD (n % 256 / 64) 0 &&& (18446744073709551615 - 2 ^ (n % 64)))
theorem bitp_set {cw : List Nat} {a v p : Nat} (ha : a < cw.length) : bitp (cw.set a v) p = if p / 64 = a then v.testBit (p % 64) else bitp cw p := by
  unfold bitp
  simp only [List.getD_eq_getElem?_getD, List.getElem?_set]
  by_cases h : a = p / 64
  · subst h
    simp [ha]
  · rw [if_neg h, if_neg (fun e => h e.symm)]
theorem Ok4.at_ {cw : List Nat} (h : Ok4 cw) (i : Nat) : cw.getD i 0 < 2 ^ 64 := by
  rw [List.getD_eq_getElem?_getD]
  cases hi : cw[i]? with
  | none => simp
  | some x => exact h.2 x (List.mem_of_getElem? hi)
theorem Ok4.set {cw : List Nat} (h : Ok4 cw) (i v : Nat) (hv : v < 2 ^ 64) : Ok4 (cw.set i v) := by
  refine ⟨by simp [h.1], fun x hx => ?_⟩
  rcases List.mem_or_eq_of_mem_set hx with h1 | rfl
  · exact h.2 x h1
  · exact hv
theorem Ok4.setw {cw : List Nat} (h : Ok4 cw) (n : Nat) : Ok4 (setw cw n) :=
  h.set _ _ (Nat.or_lt_two_pow (h.at_ _) (Nat.pow_lt_pow_right (by omega) (Nat.mod_lt _ (by omega))))
theorem Ok4.clrw {cw : List Nat} (h : Ok4 cw) (n : Nat) : Ok4 (clrw cw n) :=
  h.set _ _ (Nat.lt_of_le_of_lt Nat.and_le_left (h.at_ _))
theorem split256 {p n : Nat} (hp : p < 256) : (p / 64 = n % 256 / 64 ∧ p % 64 = n % 64) ↔ p = n % 256 := by omega
theorem bitp_setw {cw : List Nat} (h : Ok4 cw) (n p : Nat) (hp : p < 256) : bitp (setw cw n) p = (decide (p = n % 256) || bitp cw p) := by
  unfold setw
  rw [bitp_set (by rw [h.1]; omega)]
  have hs := split256 (n := n) hp
  split
  · rename_i ha
    rw [Nat.testBit_or, Nat.testBit_two_pow, ← ha, Bool.or_comm]
    congr 1
    rw [decide_eq_decide]
    omega
  · rename_i ha
    rw [decide_eq_false (by omega), Bool.false_or]
theorem bitp_clrw {cw : List Nat} (h : Ok4 cw) (n p : Nat) (hp : p < 256) : bitp (clrw cw n) p = (!decide (p = n % 256) && bitp cw p) := by
  unfold clrw
  rw [bitp_set (by rw [h.1]; omega)]
  have hs := split256 (n := n) hp
  split
  · rename_i ha
    have hb : 2 ^ (n % 64) < 2 ^ 64 := Nat.pow_lt_pow_right (by omega) (Nat.mod_lt _ (by omega))
    rw [show 18446744073709551615 - 2 ^ (n % 64) = 2 ^ 64 - (2 ^ (n % 64) + 1) by omega, Nat.testBit_and, Nat.testBit_two_pow_sub_succ hb, Nat.testBit_two_pow, ← ha, Bool.and_comm]
    rw [decide_eq_true (show p % 64 < 64 by omega), Bool.true_and]
    congr 2
    rw [decide_eq_decide]
    omega
  · rename_i ha
    rw [decide_eq_false (by omega)]
    simp
theorem bit_ne {c b : Nat} : decide (¬ (c &&& 2 ^ b) = 0) = c.testBit b := by
  cases h : c.testBit b
  · rw [decide_eq_false_iff_not, Decidable.not_not]
    refine Nat.eq_of_testBit_eq fun i => ?_
    rw [Nat.testBit_and, Nat.testBit_two_pow, Nat.zero_testBit]
    by_cases hi : b = i
    · subst hi
      rw [h]
      rfl
    · rw [decide_eq_false hi, Bool.and_false]
  · rw [decide_eq_true_iff]
    intro e
    have := congrArg (fun x => x.testBit b) e
    simp only [Nat.testBit_and, Nat.testBit_two_pow, h, Nat.zero_testBit, decide_true, Bool.and_true] at this
    cases this
theorem bitp_mod (cw : List Nat) (n : Nat) : (cw.getD (n % 256 / 64) 0).testBit (n % 64) = bitp cw (n % 256) := by
  unfold bitp
  rw [show n % 256 % 64 = n % 64 by omega]

/-- Would a number be let through? -/
def freshB (top : Nat) (cw : List Nat) (n : Nat) : Bool := decide (top < n) || (decide (top - n < 256) && !bitp cw (n % 256))
/-- The window after a rise to n. -/
def Rise (top : Nat) (cw : List Nat) (n : Nat) (cw' : List Nat) : Prop := Ok4 cw' ∧ ∀ p, p < 256 → (bitp cw' p = true ↔ (bitp cw p = true ∧ ∀ x, top < x → x ≤ n → x % 256 ≠ p))
/-- What came, and the window that keeps it. -/
def Came (r : List Nat) (top : Nat) (cw : List Nat) : Prop :=
  Ok4 cw ∧ (∀ m ∈ r, m ≤ top) ∧ (r ≠ [] → top ∈ r) ∧ (r = [] → top = 0) ∧ ∀ p, p < 256 → (bitp cw p = true ↔ ∃ m ∈ r, m % 256 = p ∧ top < m + 256)
theorem bitp_zero (p : Nat) (hp : p < 256) : bitp [0, 0, 0, 0] p = false := by
  unfold bitp
  have h : p / 64 = 0 ∨ p / 64 = 1 ∨ p / 64 = 2 ∨ p / 64 = 3 := by omega
  rcases h with h | h | h | h <;> rw [h] <;> exact Nat.zero_testBit _
theorem ok4_zero : Ok4 [0, 0, 0, 0] := ⟨rfl, by simp⟩
theorem Came.zero : Came [] 0 [0, 0, 0, 0] := ⟨ok4_zero, by simp, by simp, by simp, fun p hp => by rw [bitp_zero p hp]; simp⟩
theorem Came.mem {r : List Nat} {top n : Nat} {cw : List Nat} (h : Came r top cw) (h1 : n ≤ top) (h2 : top - n < 256) : bitp cw (n % 256) = true ↔ n ∈ r := by
  obtain ⟨h0, ha, hb, hc, hd⟩ := h
  rw [hd _ (Nat.mod_lt _ (by omega))]
  constructor
  · rintro ⟨m, hm, e, hl⟩
    have := ha m hm
    obtain rfl : m = n := by omega
    exact hm
  · exact fun hn => ⟨n, hn, rfl, by omega⟩
theorem Came.fresh {r : List Nat} {top n : Nat} {cw : List Nat} (h : Came r top cw) : freshB top cw n = true ↔ (top < n ∨ (top - n < 256 ∧ n ∉ r)) := by
  unfold freshB
  by_cases h1 : top < n
  · simp [h1]
  · by_cases h2 : top - n < 256
    · have := h.mem (n := n) (by omega) h2
      simp [h1, h2, ← this]
    · simp [h1, h2]
theorem Came.none {top n : Nat} {cw : List Nat} (h : Came [] top cw) : freshB top cw n = true := by
  rw [h.fresh, h.2.2.2.1 rfl]
  by_cases h0 : n = 0
  · right
    simp [h0]
  · left
    omega
theorem Rise.same {top n : Nat} {cw : List Nat} (h : Ok4 cw) (hn : n ≤ top) : Rise top cw n cw := ⟨h, fun p hp => ⟨fun hb => ⟨hb, fun x h1 h2 => by omega⟩, fun hb => hb.1⟩⟩
theorem Rise.clear {top n : Nat} {cw : List Nat} (hn : top + 256 ≤ n) : Rise top cw n [0, 0, 0, 0] := ⟨ok4_zero, fun p hp => by
  rw [bitp_zero p hp]
  constructor
  · intro h
    cases h
  · rintro ⟨_, h⟩
    exact absurd (show (n - (n - p) % 256) % 256 = p by omega) (h (n - (n - p) % 256) (by omega) (by omega))⟩
theorem Came.take {r : List Nat} {top n : Nat} {cw cw' : List Nat} (h : Came r top cw) (hf : top < n + 256) (hr : Rise top cw n cw') : Came (r ++ [n]) (max top n) (setw cw' n) := by
  obtain ⟨h0, ha, hb, hc, hd⟩ := h
  obtain ⟨k0, k⟩ := hr
  refine ⟨k0.setw n, fun m hm => ?_, fun _ => ?_, fun e => by simp at e, fun p hp => ?_⟩
  · rcases List.mem_append.1 hm with hm | hm
    · have := ha m hm
      omega
    · simp at hm
      omega
  · rcases Nat.lt_or_ge top n with hlt | hlt
    · rw [Nat.max_eq_right (by omega)]
      simp
    · rw [Nat.max_eq_left hlt]
      by_cases hr : r = []
      · have := hc hr
        simp [hr]
        omega
      · simp [hb hr]
  · rw [bitp_setw k0 n p hp, Bool.or_eq_true, decide_eq_true_iff, k p hp, hd p hp]
    constructor
    · rintro (rfl | ⟨⟨m, hm, e, hl⟩, hx⟩)
      · exact ⟨n, by simp, rfl, by omega⟩
      · refine ⟨m, by simp [hm], e, ?_⟩
        have := ha m hm
        rcases Nat.lt_or_ge (max top n) (m + 256) with h1 | h1
        · exact h1
        · exact absurd (show (m + 256) % 256 = p by omega) (hx (m + 256) (by omega) (by omega))
    · rintro ⟨m, hm, e, hl⟩
      rcases List.mem_append.1 hm with hm | hm
      · by_cases hp2 : p = n % 256
        · exact Or.inl hp2
        · right
          refine ⟨⟨m, hm, e, by omega⟩, fun x h1 h2 h3 => ?_⟩
          have := ha m hm
          omega
      · simp at hm
        subst hm
        exact Or.inl e.symm
/-- One more number's place is cleared, from the highest down. -/
def Down (top : Nat) (cw : List Nat) (n x : Nat) (cw' : List Nat) : Prop := Ok4 cw' ∧ ∀ p, p < 256 → (bitp cw' p = true ↔ (bitp cw p = true ∧ ∀ y, x < y → y ≤ n → y % 256 ≠ p))
theorem Down.start {top n : Nat} {cw : List Nat} (h : Ok4 cw) : Down top cw n n cw := ⟨h, fun p hp => ⟨fun hb => ⟨hb, fun x h1 h2 => by omega⟩, fun hb => hb.1⟩⟩
theorem Down.step {top n x : Nat} {cw cw' : List Nat} (h : Down top cw n x cw') (h0 : 0 < x) (hx : x ≤ n) : Down top cw n (x - 1) (clrw cw' x) := by
  obtain ⟨k0, k⟩ := h
  refine ⟨k0.clrw x, fun p hp => ?_⟩
  rw [bitp_clrw k0 x p hp, Bool.and_eq_true, k p hp]
  simp only [Bool.not_eq_true', decide_eq_false_iff_not]
  constructor
  · rintro ⟨h1, h2, h3⟩
    refine ⟨h2, fun y h4 h5 h6 => ?_⟩
    by_cases hy : y = x
    · subst hy
      exact h1 h6.symm
    · exact h3 y (by omega) h5 h6
  · rintro ⟨h1, h2⟩
    exact ⟨fun e => h2 x (by omega) hx e.symm, h1, fun y h4 h5 => h2 y (by omega) h5⟩
theorem Down.done {top n : Nat} {cw cw' : List Nat} (h : Down top cw n top cw') : Rise top cw n cw' := h
end Go.Proofs.Ytahdfginmkcgfaa
