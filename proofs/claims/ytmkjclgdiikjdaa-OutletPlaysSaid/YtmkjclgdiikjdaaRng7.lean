/- Layer 5: the chapter's example. -/
import Derived.Test.YtmkjclgdiikjdaaRng6
import Derived.Test.YtmkjclgdiikjdaaOpen
import Derived.Lib.SlBytesConst
import Derived.Laws.IdiomStrings
namespace Go.Proofs.Ytmkjclgdiikjdaa
open Go.RowKit
set_option linter.unusedVariables false
/-- A constant as bytes, just made. -/
theorem Rd.litm {w : World} {k : IntKind} {n : Nat} {t : TypeId} {cs : Array Value} {fr : Nat × Nat} (l : List Nat) (hc : cs.toList = ns k l) (hn : n = l.length) : Rd (w.alloc (.cells cs t fr)) (w.heap.size + 1) 1 (some ⟨w.heap.size, 0, none⟩) n (ns k l) := by
  subst hn
  refine ⟨by simp [ns], fun _ => ⟨_, _, rfl, by omega, fun j hj => ?_⟩⟩
  rw [Nat.zero_add, World.cell?_alloc_mark, ← hc]
  simp
end Go.Proofs.Ytmkjclgdiikjdaa
