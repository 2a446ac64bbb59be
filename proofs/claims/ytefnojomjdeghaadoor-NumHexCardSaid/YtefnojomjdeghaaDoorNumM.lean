/- Package num: Hex and Unhex undo each other: the mathematics. -/
import Derived.Test.YtefnojomjdeghaaDoorNum3
namespace Go.Proofs.YtefnojomjdeghaaDoor
open Go.RowKit
set_option linter.unusedVariables false
theorem hok_dg : ∀ k : Fin 16, hok (dg k.val) = true ∧ hd (dg k.val) = k.val := by decide +kernel
theorem dg_hd (c : Nat) (h : hok c = true) : dg (hd c) = c := by
  simp only [hok, decide_eq_true_eq] at h
  unfold hd dg
  split <;> split <;> omega
theorem unh_hexN : ∀ l : List Nat, (∀ x ∈ l, x < 256) → unh (hexN l) = some l
  | [], _ => rfl
  | x :: l, h => by
    have hx := h x (by simp)
    have h1 := hok_dg ⟨x / 16, by omega⟩
    have h2 := hok_dg ⟨x % 16, by omega⟩
    simp only at h1 h2
    rw [hexN, unh, h1.1, h2.1, unh_hexN l (fun y hy => h y (by simp [hy])), h1.2, h2.2]
    simp only [Bool.and_self, if_true, Option.map_some, Option.some.injEq, List.cons.injEq, and_true]
    omega
theorem unhex_hexT (l : List Nat) (h : ∀ x ∈ l, x < 256) : unhex (hexT l) = some l := by
  unfold hexT
  cases l with
  | nil => rfl
  | cons x l =>
    rw [if_neg (by simp)]
    unfold unhex
    rw [if_neg (by simp [hexN]), if_neg (by simp [hexN])]
    exact unh_hexN _ h
theorem hexN_unh : ∀ (s r : List Nat), unh s = some r → hexN r = s ∧ ∀ x ∈ r, x < 256
  | [], r, h => by
    rw [unh] at h
    injection h with h
    subst h
    exact ⟨rfl, fun x hx => by cases hx⟩
  | [_], r, h => by rw [unh] at h; cases h
  | a :: b :: s, r, h => by
    rw [unh] at h
    split at h
    · rename_i hab
      rw [Bool.and_eq_true] at hab
      have ha := hd_lt hab.1
      have hb := hd_lt hab.2
      cases hu : unh s with
      | none => rw [hu] at h; cases h
      | some q =>
        rw [hu] at h
        simp only [Option.map_some, Option.some.injEq] at h
        subst h
        have ih := hexN_unh s q hu
        refine ⟨?_, ?_⟩
        · rw [hexN, ih.1, show (hd a * 16 + hd b) / 16 = hd a by omega, show (hd a * 16 + hd b) % 16 = hd b by omega, dg_hd a hab.1, dg_hd b hab.2]
        · intro x hx
          rcases List.mem_cons.1 hx with rfl | hx
          · omega
          · exact ih.2 x hx
    · cases h
theorem hexT_unhex (s r : List Nat) (h : unhex s = some r) : hexT r = s ∧ ∀ x ∈ r, x < 256 := by
  unfold unhex at h
  split at h
  · rename_i h1
    injection h with h
    subst h h1
    exact ⟨rfl, fun x hx => by cases hx⟩
  · split at h
    · cases h
    · rename_i h1 h2
      have h3 := hexN_unh s r h
      refine ⟨?_, h3.2⟩
      unfold hexT
      rw [if_neg (by
        intro h4
        rw [h4] at h3
        exact h2 h3.1.symm)]
      exact h3.1
end Go.Proofs.YtefnojomjdeghaaDoor
