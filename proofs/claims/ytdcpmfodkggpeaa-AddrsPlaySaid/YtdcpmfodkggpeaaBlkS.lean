/- A cell of a block is written. No program. -/
import Derived.Test.YtdcpmfodkggpeaaLib
namespace Go.Proofs.Ytdcpmfodkggpeaa
open Go.RowKit
theorem Blk.set {w : World} {g : Nat} {t : TypeId} {cs : Array Value} (h : Blk w g t cs) (i : Nat) (v : Value) : Blk (w.setCell ⟨g, i, none⟩ v) g t (cs.setIfInBounds i v) := by
  have hl := h.lt
  unfold Blk at h ⊢
  have h' : w.heap[g] = .cells cs t := by simpa [Array.getElem?_eq_getElem hl] using h
  show (w.heap.modify g _)[g]? = _
  rw [Array.getElem?_eq_getElem (by simpa using hl), Array.getElem_modify_self, h']
  rfl
/-- Nothing has turned but this block. -/
def Solo (g : Nat) (w w' : World) : Prop := Below g w w' ∧ w'.heap.size = w.heap.size ∧ ∀ k, k ≠ g → w'.heap[k]? = w.heap[k]?
section
variable {g : Nat} {w w' w2 : World}
theorem Solo.refl : Solo g w w := ⟨Below.refl _ _, rfl, fun _ _ => rfl⟩
theorem Solo.trans (h : Solo g w w') (k : Solo g w' w2) : Solo g w w2 := ⟨h.1.trans k.1, k.2.1.trans h.2.1, fun i hi => (k.2.2 i hi).trans (h.2.2 i hi)⟩
theorem Solo.drew (h : Solo g w w') : Solo g w w'.drew := ⟨h.1.drew, h.2.1, h.2.2⟩
theorem Solo.setCell (h : Solo g w w') (o : Nat) (v : Value) : Solo g w (w'.setCell ⟨g, o, none⟩ v) :=
  ⟨h.1.setCell (Nat.le_refl _) v, by rw [← h.2.1]; simp [World.setCell], fun k hk => (Below.heap_setCell w' ⟨g, o, none⟩ v k hk).trans (h.2.2 k hk)⟩
theorem Solo.blk {k : Nat} {t : TypeId} {cs : Array Value} (h : Solo g w w') (hb : Blk w k t cs) (hk : k ≠ g) : Blk w' k t cs := (h.2.2 k hk).trans hb
end
end Go.Proofs.Ytdcpmfodkggpeaa
