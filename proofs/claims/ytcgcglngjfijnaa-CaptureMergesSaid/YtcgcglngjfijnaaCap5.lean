/- Layer 34: the document's sum. -/
import Derived.Test.YtcgcglngjfijnaaCap4
namespace Go.Proofs.Ytcgcglngjfijnaa
open Go.RowKit
set_option linter.unusedVariables false
set_option linter.unusedSimpArgs false
/-- The document's state ahead of the byte i. -/
def sumAt (l : List Nat) (i x y : Nat) : Prop :=
  (y < 65535 ∧ x < 65535 ∧ sumF 0 0 l = sumF x y (l.drop i) ∧ (i % 2 = 0 ∨ l.length ≤ i)) ∨
  (y < 65535 ∧ x < 65535 + 65536 ∧ i % 2 = 1 ∧ ∃ b r, l.drop i = b :: r ∧ sumF 0 0 l = sumF ((x + b) % 65535) ((y + (x + b) % 65535) % 65535) r)
theorem sumAt_0 (l : List Nat) : sumAt l 0 0 0 := .inl ⟨by omega, by omega, rfl, .inl rfl⟩
theorem sumAt_end {l : List Nat} {i x y : Nat} (h : sumAt l i x y) (hi : l.length ≤ i) : sumS l = y * 65536 + x ∧ x < 65535 ∧ y < 65535 := by
  rcases h with ⟨h1, h2, h3, _⟩ | ⟨_, _, _, b, r, h, _⟩
  · rw [List.drop_of_length_le hi] at h3
    unfold sumS
    rw [h3]
    exact ⟨rfl, h2, h1⟩
  · rw [List.drop_of_length_le hi] at h
    cases h
theorem sumAt_bd {l : List Nat} {i x y : Nat} (h : sumAt l i x y) : x < 131071 ∧ y < 65535 := by
  rcases h with ⟨h1, h2, _⟩ | ⟨h1, h2, _⟩ <;> omega
theorem drop_cons {l : List Nat} {i a : Nat} (h : l[i]? = some a) : l.drop i = a :: l.drop (i + 1) := nth_drop (Lib.hid h)
/-- An even place that isn't the last one. -/
theorem sumAt_even {l : List Nat} {i x y a : Nat} (h : sumAt l i x y) (ha : l[i]? = some a) (hb : a < 256) (he : i % 2 = 0) (hl : i + 1 < l.length) : sumAt l (i + 1) (x + a * 256) y := by
  rcases h with ⟨h1, h2, h3, _⟩ | ⟨_, _, h3, _⟩
  · rw [drop_cons ha] at h3
    obtain ⟨b, hbb⟩ : ∃ b, l[i + 1]? = some b := ⟨l[i + 1], List.getElem?_eq_getElem hl⟩
    rw [drop_cons hbb] at h3
    refine .inr ⟨h1, by omega, by omega, b, _, drop_cons hbb, ?_⟩
    rw [h3, show x + a * 256 + b = x + (a * 256 + b) by omega]
    rfl
  · omega
theorem sumAt_last {l : List Nat} {i x y a : Nat} (h : sumAt l i x y) (ha : l[i]? = some a) (he : i % 2 = 0) (hl : i + 1 = l.length) : sumAt l (i + 1) ((x + a * 256) % 65535) ((y + (x + a * 256) % 65535) % 65535) := by
  rcases h with ⟨h1, h2, h3, _⟩ | ⟨_, _, h3, _⟩
  · rw [drop_cons ha, List.drop_of_length_le (by omega : l.length ≤ i + 1)] at h3
    refine .inl ⟨by omega, by omega, ?_, .inr (by omega)⟩
    rw [List.drop_of_length_le (by omega : l.length ≤ i + 1), h3]
    rfl
  · omega
theorem sumAt_odd {l : List Nat} {i x y a : Nat} (h : sumAt l i x y) (ha : l[i]? = some a) (ho : i % 2 = 1) : sumAt l (i + 1) ((x + a) % 65535) ((y + (x + a) % 65535) % 65535) := by
  have hi : i < l.length := (List.getElem?_eq_some_iff.1 ha).1
  rcases h with ⟨_, _, _, h | h⟩ | ⟨h1, h2, _, b, r, hd, h3⟩
  · omega
  · omega
  · rw [drop_cons ha] at hd
    injection hd with e1 e2
    subst e1 e2
    exact .inl ⟨by omega, by omega, h3, .inl (by omega)⟩
end Go.Proofs.Ytcgcglngjfijnaa
