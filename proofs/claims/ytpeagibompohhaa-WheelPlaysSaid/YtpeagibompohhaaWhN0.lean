/- When the next number of a wheel is due: mathematics. No program. -/
import Derived.Test.YtpeagibompohhaaWhL
namespace Go.Proofs.Ytpeagibompohhaa
set_option linter.unusedVariables false
theorem p16_pos (r : Nat) : 0 < p16 r := by unfold p16; split <;> omega
theorem nx_range {n t r : Nat} (h : n < t) (h2 : t ≤ n + 65535) (hr : rdW n t = r) : n / p16 r + 1 ≤ t / p16 r ∧ t / p16 r ≤ n / p16 r + 16 := by
  have c := rdW_cases n t
  have := rdW_le n t
  rcases (show r = 0 ∨ r = 1 ∨ r = 2 ∨ r = 3 by omega) with rfl | rfl | rfl | rfl <;> simp only [p16] <;> omega
theorem nx_place {n t r i : Nat} (h : n < t) (h2 : t ≤ n + 65535) (hr : rdW n t = r) (hi : i < 16) (hlo : n / p16 r + 1 + i ≤ t / p16 r) : plW n t = 16 * r + (n / p16 r + 1 + i) % 16 ↔ t / p16 r = n / p16 r + 1 + i := by
  have h3 := nx_range h h2 hr
  have hle := rdW_le n t
  unfold plW
  rw [hr, slW_eq r t (by omega)]
  generalize t / p16 r = a at *
  generalize n / p16 r = b at *
  omega
theorem nx_less {x y d : Nat} (h : x / d < y / d) : x < y := by
  rcases Nat.lt_or_ge x y with h1 | h1
  · exact h1
  · have := Nat.div_le_div_right (c := d) h1
    omega
theorem nx_rd {n x y r : Nat} (hx : n < x) (hy : n < y) (h : rdW n x = r) (h2 : r < rdW n y) : x < y := by
  have c := rdW_cases n x
  have c2 := rdW_cases n y
  have := rdW_le n y
  rcases (show r = 0 ∨ r = 1 ∨ r = 2 by omega) with rfl | rfl | rfl <;> omega
/-- The first of all. -/
def IsMin (L : List Tm) (t : Nat) : Prop := (∃ x ∈ L, x.2 = t) ∧ ∀ x ∈ L, t ≤ x.2
theorem IsMin.uniq {L : List Tm} {t u : Nat} (h : IsMin L t) (k : IsMin L u) : t = u := by
  obtain ⟨⟨x, hx, e⟩, h2⟩ := h
  obtain ⟨⟨y, hy, e'⟩, k2⟩ := k
  have := h2 y hy
  have := k2 x hx
  omega
theorem nx_step {n r i : Nat} {L : List Tm} (hdu : ∀ x ∈ L, n < x.2 ∧ x.2 ≤ n + 65535) (hge : ∀ x ∈ L, rdW n x.2 = r → n / p16 r + 1 + i ≤ x.2 / p16 r) (hi : i < 16) (hno : ∀ x ∈ L, plW n x.2 ≠ 16 * r + (n / p16 r + 1 + i) % 16) : ∀ x ∈ L, rdW n x.2 = r → n / p16 r + 1 + (i + 1) ≤ x.2 / p16 r := fun x hx hr => by
  obtain ⟨h1, h2⟩ := hdu x hx
  have h3 := hge x hx hr
  have h4 : x.2 / p16 r ≠ n / p16 r + 1 + i := fun e => hno x hx ((nx_place h1 h2 hr hi h3).2 e)
  omega
theorem nx_min {n r i t : Nat} {L : List Tm} (hdu : ∀ x ∈ L, n < x.2 ∧ x.2 ≤ n + 65535) (hrd : ∀ x ∈ L, r ≤ rdW n x.2) (hge : ∀ x ∈ L, rdW n x.2 = r → n / p16 r + 1 + i ≤ x.2 / p16 r) (hi : i < 16)
    (ht : ∃ x ∈ L, x.2 = t ∧ plW n x.2 = 16 * r + (n / p16 r + 1 + i) % 16) (hle : ∀ x ∈ L, plW n x.2 = 16 * r + (n / p16 r + 1 + i) % 16 → t ≤ x.2) : IsMin L t := by
  obtain ⟨x, hx, rfl, hp⟩ := ht
  refine ⟨⟨x, hx, rfl⟩, fun y hy => ?_⟩
  have hxr : rdW n x.2 = r := (plW_eq (Nat.mod_lt _ (by omega)) hp).1
  obtain ⟨a1, a2⟩ := hdu x hx
  obtain ⟨b1, b2⟩ := hdu y hy
  have hxe := (nx_place a1 a2 hxr hi (hge x hx hxr)).1 hp
  rcases Nat.lt_or_ge r (rdW n y.2) with h | h
  · exact Nat.le_of_lt (nx_rd a1 b1 hxr h)
  · have hyr : rdW n y.2 = r := Nat.le_antisymm h (hrd y hy)
    have h3 := hge y hy hyr
    by_cases e : y.2 / p16 r = n / p16 r + 1 + i
    · exact hle y hy ((nx_place b1 b2 hyr hi h3).2 e)
    · exact Nat.le_of_lt (nx_less (d := p16 r) (by omega))
theorem nx_round {n r : Nat} {L : List Tm} (hdu : ∀ x ∈ L, n < x.2 ∧ x.2 ≤ n + 65535) (hrd : ∀ x ∈ L, r ≤ rdW n x.2) (hge : ∀ x ∈ L, rdW n x.2 = r → n / p16 r + 1 + 16 ≤ x.2 / p16 r) : ∀ x ∈ L, r + 1 ≤ rdW n x.2 := fun x hx => by
  have h1 := hrd x hx
  obtain ⟨a1, a2⟩ := hdu x hx
  rcases Nat.lt_or_ge r (rdW n x.2) with h | h
  · exact h
  · have hr : rdW n x.2 = r := by omega
    have := nx_range a1 a2 hr
    have := hge x hx hr
    omega
end Go.Proofs.Ytpeagibompohhaa
