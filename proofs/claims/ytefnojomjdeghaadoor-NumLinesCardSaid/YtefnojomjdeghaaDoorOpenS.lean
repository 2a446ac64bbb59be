/- A slice of texts as an argument. -/
import Derived.Test.YtefnojomjdeghaaDoorOpen
import Derived.Test.YtefnojomjdeghaaDoorNum6
import Derived.SliceStrings
namespace Go.Proofs.YtefnojomjdeghaaDoor
open Go.RowKit Go.ChangeShapes Go.WideShapes Go.ChangeAt
set_option linter.unusedVariables false
section
variable {H : Type} {enc : TypeId × Value → H} {w : World} {held : Bool} {A : Option Addr} {len cap : Nat} {d : DataW H} {ps : List MemPlace}
theorem open_texts (ht : Tryd.prog.underlying 37 = some (.slice 9)) (h : DataW.Trod enc Tryd.prog w 0 (fun _ => true) held 37 (.slice A len cap) d ps) :
    ∃ l : List ByteArray, Rd w w.heap.size 1 A len (ss l) ∧ len ≤ cap ∧ cap ≤ maxLen ∧ ∀ x ∈ l, x.size ≤ maxLen := by
  obtain ⟨fuel, hf⟩ := h
  rcases open_strings ht Tryd.underlying9 (by kernel_rfl) hf with ⟨hcs, _⟩ | ⟨x, n, c, ys, hcs, _, hl, hm, hz, _, hcell, hwz⟩
  · simp [Value.cells] at hcs
    obtain ⟨rfl, rfl, rfl⟩ := hcs
    exact ⟨[], Rd.nil _ _ _ _, Nat.le_refl _, Nat.zero_le _, by simp⟩
  · simp [Value.cells] at hcs
    obtain ⟨rfl, rfl, rfl⟩ := hcs
    have hz : ys.length = cap := by simpa using hz
    refine ⟨ys.take len, ⟨by simp [ss]; omega, fun hn => ?_⟩, hl, hm, fun y hy => hwz y (List.mem_of_mem_take hy)⟩
    have h0 := hcell 0 (by omega)
    have hspot : x.spot = none := by
      have := World.cell?_spot h0
      unfold Addr.add at this
      simpa using this
    obtain ⟨b, off, spot⟩ := x
    simp at hspot
    subst hspot
    refine ⟨b, off, rfl, World.block_lt_of_cell? w (a := ⟨b, off, none⟩) (by simpa [addr_add] using h0), fun j hj => ?_⟩
    have hj' : j < len := by omega
    have h1 := hcell j (by omega)
    rw [addr_add] at h1
    rw [h1]
    simp [ss, hj', show j < ys.length by omega]
end
end Go.Proofs.YtefnojomjdeghaaDoor
