/- Of what was there nothing has turned but one block. No program. -/
import Derived.Test.YtdcpmfodkggpeaaBlkS
namespace Go.Proofs.Ytdcpmfodkggpeaa
open Go.RowKit
set_option linter.unusedVariables false
/-- Of what was there nothing has turned but this block. -/
def Tou (g : Nat) (w w' : World) : Prop := Below g w w' ∧ ∀ k, k < w.heap.size → k ≠ g → w'.heap[k]? = w.heap[k]?
theorem Tou.of {g : Nat} {w w' : World} (h : Below w.heap.size w w') (hg : g ≤ w.heap.size) : Tou g w w' := ⟨h.mono hg, fun k hk _ => h.block k hk⟩
theorem Tou.solo {g : Nat} {w w' w2 : World} (h : Tou g w w') (k : Solo g w' w2) : Tou g w w2 :=
  ⟨h.1.trans k.1, fun i hi hne => (k.2.2 i hne).trans (h.2 i hi hne)⟩
theorem Tou.below {g B : Nat} {w0 w w' : World} (h0 : Below B w0 w) (h : Tou g w w') (hB : B ≤ g) : Below B w0 w' := h0.trans (h.1.mono hB)
theorem Tou.blk {g k : Nat} {t : TypeId} {cs : Array Value} {w w' : World} (h : Tou g w w') (hb : Blk w k t cs) (hk : k ≠ g) : Blk w' k t cs := (h.2 k hb.lt hk).trans hb
theorem Tou.refl (g : Nat) (w : World) : Tou g w w := ⟨Below.refl _ _, fun _ _ _ => rfl⟩
theorem Tou.grow {g : Nat} {w w1 w2 : World} (h : Tou g w w1) (hb : Below w1.heap.size w1 w2) (hg : g ≤ w1.heap.size) : Tou g w w2 :=
  ⟨h.1.trans (hb.mono hg), fun k hk hne => (hb.block k (Nat.lt_of_lt_of_le hk h.1.size)).trans (h.2 k hk hne)⟩
theorem Tou.tou {g : Nat} {w w1 w2 : World} (h : Tou g w w1) (k : Tou g w1 w2) : Tou g w w2 :=
  ⟨h.1.trans k.1, fun i hi hne => (k.2 i (Nat.lt_of_lt_of_le hi h.1.size) hne).trans (h.2 i hi hne)⟩
theorem Tou.soloAt {g r : Nat} {w w1 w2 : World} (h : Tou g w w1) (hs : Solo r w1 w2) (hr : w.heap.size ≤ r) (hg : g ≤ r) : Tou g w w2 :=
  ⟨h.1.trans (hs.1.mono hg), fun k hk hne => (hs.2.2 k (by omega)).trans (h.2 k hk hne)⟩
end Go.Proofs.Ytdcpmfodkggpeaa
