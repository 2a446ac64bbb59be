/- A wheel of four rounds of sixteen places: mathematics. No program. -/
namespace Go.Proofs.Ytpeagibompohhaa
set_option linter.unusedVariables false
/-- In which round what is due at t stands. -/
def rdW (n t : Nat) : Nat := if t / 16 = n / 16 then 0 else if t / 256 = n / 256 then 1 else if t / 4096 = n / 4096 then 2 else 3
/-- In which place of the round. -/
def slW (r t : Nat) : Nat := match r with | 0 => t % 16 | 1 => t / 16 % 16 | 2 => t / 256 % 16 | _ => t / 4096 % 16
def plW (n t : Nat) : Nat := 16 * rdW n t + slW (rdW n t) t
theorem rdW_cases (n t : Nat) : (t / 16 = n / 16 ∧ rdW n t = 0) ∨ (t / 16 ≠ n / 16 ∧ t / 256 = n / 256 ∧ rdW n t = 1) ∨ (t / 16 ≠ n / 16 ∧ t / 256 ≠ n / 256 ∧ t / 4096 = n / 4096 ∧ rdW n t = 2) ∨ (t / 16 ≠ n / 16 ∧ t / 256 ≠ n / 256 ∧ t / 4096 ≠ n / 4096 ∧ rdW n t = 3) := by
  unfold rdW
  by_cases h1 : t / 16 = n / 16
  · exact .inl ⟨h1, if_pos h1⟩
  · rw [if_neg h1]
    by_cases h2 : t / 256 = n / 256
    · exact .inr (.inl ⟨h1, h2, if_pos h2⟩)
    · rw [if_neg h2]
      by_cases h3 : t / 4096 = n / 4096
      · exact .inr (.inr (.inl ⟨h1, h2, h3, if_pos h3⟩))
      · exact .inr (.inr (.inr ⟨h1, h2, h3, if_neg h3⟩))
theorem rdW_le (n t : Nat) : rdW n t ≤ 3 := by have := rdW_cases n t; omega
theorem slW_lt (r t : Nat) : slW r t < 16 := by unfold slW; split <;> omega
theorem plW_lt (n t : Nat) : plW n t < 64 := by have := rdW_le n t; have := slW_lt (rdW n t) t; unfold plW; omega
theorem plW_eq {n t r s : Nat} (hs : s < 16) (h : plW n t = 16 * r + s) : rdW n t = r ∧ slW (rdW n t) t = s := by
  have := slW_lt (rdW n t) t
  unfold plW at h
  omega
theorem rdW_zero {n t : Nat} (h : rdW n t = 0) : t / 16 = n / 16 := by have := rdW_cases n t; omega
/-- What is due now stands in the place of this tick. -/
theorem plW_now (n : Nat) : plW n n = n % 16 := by
  have h : rdW n n = 0 := by have := rdW_cases n n; omega
  unfold plW
  rw [h]
  show 16 * 0 + n % 16 = n % 16
  omega
theorem plW_due {n t : Nat} (h : plW n t = n % 16) : t = n := by
  obtain ⟨h1, h2⟩ := plW_eq (r := 0) (s := n % 16) (Nat.mod_lt _ (by omega)) (by rw [h, Nat.mul_zero, Nat.zero_add])
  have h3 := rdW_zero h1
  rw [h1] at h2
  have h2 : t % 16 = n % 16 := h2
  omega
/-- A tick goes by: who stands in a round that doesn't go on, or in another place of it, stands where it stood. -/
theorem rdW_tick {n t : Nat} (h : n < t) : rdW (n + 1) t ≤ rdW n t := by
  have := rdW_cases n t; have := rdW_cases (n + 1) t; omega
def p16 (r : Nat) : Nat := match r with | 0 => 1 | 1 => 16 | 2 => 256 | _ => 4096
theorem slW_eq (r t : Nat) (hr : r ≤ 3) : slW r t = t / p16 r % 16 := by
  rcases (show r = 0 ∨ r = 1 ∨ r = 2 ∨ r = 3 by omega) with rfl | rfl | rfl | rfl <;> simp [slW, p16]
/-- .. in the place that begins: a round that goes on. -/
theorem plW_stay {n t r : Nat} (h : n < t) (hr : rdW n t = r) (h1 : 1 ≤ r) (hg : (n + 1) % p16 r = 0) (hs : slW r t ≠ slW r (n + 1)) : plW (n + 1) t = plW n t := by
  have hle := rdW_le n t
  have c1 := rdW_cases n t
  have c2 := rdW_cases (n + 1) t
  have e : rdW (n + 1) t = r := by
    rcases (show r = 1 ∨ r = 2 ∨ r = 3 by omega) with rfl | rfl | rfl <;> simp only [slW, p16] at hs hg <;> omega
  unfold plW
  rw [e, hr]
/-- .. of the rounds that don't go on. -/
theorem plW_rest {n t r : Nat} (h : n < t) (h1 : 1 ≤ r) (h3 : r ≤ 3) (hr : r ≤ rdW n t) (hg : (n + 1) % p16 r ≠ 0) : plW (n + 1) t = plW n t := by
  have c1 := rdW_cases n t
  have c2 := rdW_cases (n + 1) t
  have e : rdW (n + 1) t = rdW n t := by
    rcases (show r = 1 ∨ r = 2 ∨ r = 3 by omega) with rfl | rfl | rfl <;> simp only [p16] at hg <;> omega
  unfold plW
  rw [e]
theorem plW_zero {n t : Nat} (h : n < t) (hr : rdW n t = 0) : plW (n + 1) t = plW n t := by
  have c1 := rdW_cases n t
  have c2 := rdW_cases (n + 1) t
  have e : rdW (n + 1) t = 0 := by omega
  unfold plW
  rw [e, hr]
end Go.Proofs.Ytpeagibompohhaa
