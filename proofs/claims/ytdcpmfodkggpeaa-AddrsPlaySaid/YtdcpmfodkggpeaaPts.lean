/- A slice of slices of bytes. No program. -/
import Derived.Test.YtdcpmfodkggpeaaLib
namespace Go.Proofs.Ytdcpmfodkggpeaa
open Go.RowKit
set_option linter.unusedVariables false

/-- A slice of slices of bytes, below block B. -/
def Pts (w : World) (B : Nat) (A : Option Addr) (n : Nat) (bss : List (List Nat)) : Prop :=
  bss.length = n ∧ ∃ hs : List Value, Rd w B 1 A n hs ∧ ∀ (i : Nat) (bs : List Nat), bss[i]? = some bs → ∃ A' c', hs[i]? = some (.slice A' bs.length c') ∧ bs.length ≤ c' ∧ Rd w B 1 A' bs.length (ns .u8 bs)
section
variable {w w' : World} {B n : Nat} {A : Option Addr} {bss : List (List Nat)}
theorem Pts.keep (h : Pts w B A n bss) (hb : Below B w w') : Pts w' B A n bss := by
  obtain ⟨h1, hs, h2, h3⟩ := h
  refine ⟨h1, hs, h2.below hb, fun i bs hi => ?_⟩
  obtain ⟨A', c', e1, e2, e3⟩ := h3 i bs hi
  exact ⟨A', c', e1, e2, e3.below hb⟩
theorem Pts.mono {B' : Nat} (h : Pts w B A n bss) (hB : B ≤ B') : Pts w B' A n bss := by
  obtain ⟨h1, hs, h2, h3⟩ := h
  refine ⟨h1, hs, h2.mono hB, fun i bs hi => ?_⟩
  obtain ⟨A', c', e1, e2, e3⟩ := h3 i bs hi
  exact ⟨A', c', e1, e2, e3.mono hB⟩
theorem Pts.nil (w : World) (B : Nat) (A : Option Addr) : Pts w B A 0 [] := ⟨rfl, [], Rd.nil _ _ _ _, fun i bs h => by simp at h⟩
theorem Pts.nth (h : Pts w B A n bss) {i : Nat} (hi : i < n) : ∃ (b off : Nat) (A' : Option Addr) (n' c' : Nat) (bs : List Nat), A = some ⟨b, off, none⟩ ∧ b < B ∧ w.cell? ⟨b, off + i, none⟩ = some (.slice A' n' c') ∧ Hid (bss[i]? = some bs) ∧ Hid (bs.length = n') ∧ n' ≤ c' ∧ Hid (Rd w B 1 A' n' (ns .u8 bs)) := by
  obtain ⟨h1, hs, h2, h3⟩ := h
  obtain ⟨b, off, e, hb, hc⟩ := h2.2 (by omega)
  have hl : i < bss.length := by omega
  obtain ⟨A', c', e1, e2, e3⟩ := h3 i bss[i] (by rw [List.getElem?_eq_getElem hl])
  exact ⟨b, off, A', _, c', bss[i], e, hb, (hc i (by omega)).trans e1, Lib.hid (List.getElem?_eq_getElem hl), Lib.hid rfl, e2, Lib.hid e3⟩
end
theorem flat_take {bss : List (List Nat)} {i : Nat} {bs : List Nat} (h : bss[i]? = some bs) : (bss.take (i + 1)).flatten = (bss.take i).flatten ++ bs := by
  rw [List.take_add_one, h]
  simp
theorem flat_le (bss : List (List Nat)) (i : Nat) : (bss.take i).flatten.length ≤ bss.flatten.length := by
  conv => rhs; rw [← List.take_append_drop i bss]
  rw [List.flatten_append, List.length_append]
  omega
end Go.Proofs.Ytdcpmfodkggpeaa
