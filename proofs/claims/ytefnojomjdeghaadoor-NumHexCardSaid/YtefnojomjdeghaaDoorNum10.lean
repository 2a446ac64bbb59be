/- Layer 1, NumHex: the law's walk. -/
import Derived.Test.YtefnojomjdeghaaDoorNum9
import Derived.Test.YtefnojomjdeghaaDoorNumM
namespace Go.Proofs.YtefnojomjdeghaaDoor
open Go.RowKit
set_option linter.unusedVariables false
theorem hexT_lt {l : List Nat} (h : ∀ x ∈ l, x < 256) : ∀ x ∈ hexT l, x < 256 := by
  unfold hexT
  split
  · intro x hx; simp at hx; omega
  · exact hexN_lt h
theorem hexT_len (l : List Nat) : (hexT l).length ≤ 2 * l.length + 1 := by
  unfold hexT
  split
  · simp
  · rw [hexN_len]; omega
end Go.Proofs.YtefnojomjdeghaaDoor
