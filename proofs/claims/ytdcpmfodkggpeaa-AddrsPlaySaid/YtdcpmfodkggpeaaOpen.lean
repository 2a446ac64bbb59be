/- Arguments, opened into what the walks ask. No program. -/
import Derived.Test.YtdcpmfodkggpeaaLib
import Derived.OpenShut
import Derived.ChangeOld
import Derived.Deep.Slices
namespace Go.Proofs.Ytdcpmfodkggpeaa
open Go.RowKit Go.ChangeShapes Go.WideShapes Go.ChangeAt
set_option linter.unusedVariables false

section
variable {H : Type} {enc : TypeId × Value → H} {P : Program} {w : World} {held : Bool} {t e : TypeId} {A : Option Addr} {len cap : Nat} {d : DataW H} {ps : List MemPlace}
theorem open_row {k : IntKind} (ht : P.underlying t = some (.slice e)) (he : P.underlying e = some (.int k)) (hc : P.cellsOf e = 1)
    (h : DataW.Trod enc P w 0 (fun _ => true) held t (.slice A len cap) d ps) :
    ∃ l : List Int, Rd w w.heap.size 1 A len (zs k l) ∧ len ≤ cap ∧ cap ≤ maxLen ∧ ∀ x ∈ l, (Lit.int k x).wf = true := by
  obtain ⟨fuel, hf⟩ := h
  rcases open_ints ht he hc hf with ⟨hcs, _⟩ | ⟨x, n, c, ys, hcs, _, hl, hm, hz, _, hcell, hwz⟩
  · simp [Value.cells] at hcs
    obtain ⟨rfl, rfl, rfl⟩ := hcs
    exact ⟨[], Rd.nil _ _ _ _, Nat.le_refl _, Nat.zero_le _, by simp⟩
  · simp [Value.cells] at hcs
    obtain ⟨rfl, rfl, rfl⟩ := hcs
    have hz : ys.length = cap := by simpa using hz
    refine ⟨ys.take len, ⟨by simp [zs]; omega, fun hn => ?_⟩, hl, hm, fun y hy => hwz y (List.mem_of_mem_take hy)⟩
    have h0 := hcell 0 (by omega)
    have hspot : x.spot = none := by
      have := World.cell?_spot h0
      unfold Addr.add at this
      simpa using this
    obtain ⟨b, off, spot⟩ := x
    simp at hspot
    subst hspot
    refine ⟨b, off, rfl, World.block_lt_of_cell? w (a := ⟨b, off, none⟩) (by simpa [addr_add] using h0), fun j hj => ?_⟩
    have hj' : j < len := by omega
    have h1 := hcell j (by omega)
    rw [addr_add] at h1
    rw [h1]
    simp [zs, hj', show j < ys.length by omega]
theorem zs_nat {k : IntKind} {l : List Int} (h : ∀ x ∈ l, 0 ≤ x) : zs k l = ns k (l.map Int.toNat) := by
  simp only [zs, ns, List.map_map]
  refine List.map_congr_left fun x hx => ?_
  have := h x hx
  simp only [Function.comp_apply]
  rw [Int.toNat_of_nonneg this]
theorem open_u8 (ht : P.underlying t = some (.slice e)) (he : P.underlying e = some (.int .u8)) (hc : P.cellsOf e = 1)
    (h : DataW.Trod enc P w 0 (fun _ => true) held t (.slice A len cap) d ps) :
    ∃ l : List Nat, Rd w w.heap.size 1 A len (ns .u8 l) ∧ len ≤ cap ∧ cap ≤ maxLen ∧ ∀ x ∈ l, x < 256 := by
  obtain ⟨l, h1, h2, h3, h4⟩ := open_row ht he hc h
  refine ⟨l.map Int.toNat, by rw [← zs_nat fun x hx => (bounds_u8 (h4 x hx)).1]; exact h1, h2, h3, fun y hy => ?_⟩
  obtain ⟨x, hx, rfl⟩ := List.mem_map.1 hy
  have := bounds_u8 (h4 x hx)
  omega
theorem open_u64 (ht : P.underlying t = some (.slice e)) (he : P.underlying e = some (.int .u64)) (hc : P.cellsOf e = 1)
    (h : DataW.Trod enc P w 0 (fun _ => true) held t (.slice A len cap) d ps) :
    ∃ l : List Nat, Rd w w.heap.size 1 A len (ns .u64 l) ∧ len ≤ cap ∧ cap ≤ maxLen ∧ ∀ x ∈ l, x < 18446744073709551616 := by
  obtain ⟨l, h1, h2, h3, h4⟩ := open_row ht he hc h
  refine ⟨l.map Int.toNat, by rw [← zs_nat fun x hx => (bounds_u64 (h4 x hx)).1]; exact h1, h2, h3, fun y hy => ?_⟩
  obtain ⟨x, hx, rfl⟩ := List.mem_map.1 hy
  have := bounds_u64 (h4 x hx)
  omega
theorem open_i64 (ht : P.underlying t = some (.slice e)) (he : P.underlying e = some (.int .i64)) (hc : P.cellsOf e = 1)
    (h : DataW.Trod enc P w 0 (fun _ => true) held t (.slice A len cap) d ps) :
    ∃ l : List Int, Rd w w.heap.size 1 A len (zs .i64 l) ∧ len ≤ cap ∧ cap ≤ maxLen ∧ ∀ x ∈ l, -9223372036854775808 ≤ x ∧ x < 9223372036854775808 := by
  obtain ⟨l, h1, h2, h3, h4⟩ := open_row ht he hc h
  refine ⟨l, h1, h2, h3, fun x hx => ?_⟩
  have := bounds_i64 (h4 x hx)
  omega
end
end Go.Proofs.Ytdcpmfodkggpeaa
