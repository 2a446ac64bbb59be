/- A cell of a block is written. No program. -/
import Derived.Test.YtahdfginmkcgfaaLib
namespace Go.Proofs.Ytahdfginmkcgfaa
open Go.RowKit
theorem Blk.set {w : World} {g : Nat} {t : TypeId} {cs : Array Value} (h : Blk w g t cs) (i : Nat) (v : Value) : Blk (w.setCell ⟨g, i, none⟩ v) g t (cs.setIfInBounds i v) := by
  have hl := h.lt
  unfold Blk at h ⊢
  have h' : w.heap[g] = .cells cs t := by simpa [Array.getElem?_eq_getElem hl] using h
  show (w.heap.modify g _)[g]? = _
  rw [Array.getElem?_eq_getElem (by simpa using hl), Array.getElem_modify_self, h']
  rfl
end Go.Proofs.Ytahdfginmkcgfaa
