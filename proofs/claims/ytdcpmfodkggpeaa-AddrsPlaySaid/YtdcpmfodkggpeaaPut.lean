/- A struct of some cells is stored whole; its cells. No program. -/
import Derived.Test.YtdcpmfodkggpeaaBlkS
namespace Go.Proofs.Ytdcpmfodkggpeaa
open Go.RowKit
set_option linter.unusedVariables false
/-- What is loaded of a row of cells. -/
theorem cells_of {w : World} {g : Nat} {t : TypeId} {cs : Array Value} (h : Blk w g t cs) : ∀ j v, cs.toList[j]? = some v → w.cell? ⟨g, 0 + j, none⟩ = some v := by
  intro j v hj
  rw [Nat.zero_add, h.cell]
  simpa using hj
theorem cells_at {w : World} {g o k : Nat} {t : TypeId} {cs : Array Value} {xs : List Value} (h : Blk w g t cs) (he : (cs.toList.drop o).take k = xs) : ∀ j v, xs[j]? = some v → w.cell? ⟨g, o + j, none⟩ = some v := by
  intro j v hj
  rw [h.cell]
  subst he
  rw [List.getElem?_take] at hj
  split at hj
  · rw [List.getElem?_drop] at hj; simpa using hj
  · cases hj
section
variable {w w0 : World} {T B : Nat} {t : TypeId} {b0 : Value} (a0 : Value)
def ptw1 (w : World) (T : Nat) (a0 : Value) : World := (w.setCell ⟨T, 0, none⟩ a0)
theorem pt1 (h : Blk w T t #[b0]) : Blk (ptw1 w T a0) T t #[a0] := by
  have h1 : Blk (w.setCell ⟨T, 0, none⟩ a0) T t #[a0] := h.set 0 a0
  exact h1
theorem pts1 : Solo T w (ptw1 w T a0) := ((Solo.refl).setCell 0 a0)
theorem ptb1 (h : Below B w0 w) (hT : B ≤ T) : Below B w0 (ptw1 w T a0) := h.trans ((pts1 a0 (w := w) (T := T)).1.mono hT)
end
theorem ptc1 {w : World} {T : Nat} {t : TypeId} {a0 : Value} (h : Blk w T t #[a0]) : w.cell? ⟨T, 0, none⟩ = some a0 := by
  rw [h.cell]; rfl
section
variable {w w0 : World} {T B : Nat} {t : TypeId} {b0 b1 : Value} (a0 a1 : Value)
def ptw2 (w : World) (T : Nat) (a0 a1 : Value) : World := ((w.setCell ⟨T, 0, none⟩ a0).setCell ⟨T, 1, none⟩ a1)
theorem pt2 (h : Blk w T t #[b0, b1]) : Blk (ptw2 w T a0 a1) T t #[a0, a1] := by
  have h1 : Blk (w.setCell ⟨T, 0, none⟩ a0) T t #[a0, b1] := h.set 0 a0
  have h2 : Blk ((w.setCell ⟨T, 0, none⟩ a0).setCell ⟨T, 1, none⟩ a1) T t #[a0, a1] := h1.set 1 a1
  exact h2
theorem pts2 : Solo T w (ptw2 w T a0 a1) := (((Solo.refl).setCell 0 a0).setCell 1 a1)
theorem ptb2 (h : Below B w0 w) (hT : B ≤ T) : Below B w0 (ptw2 w T a0 a1) := h.trans ((pts2 a0 a1 (w := w) (T := T)).1.mono hT)
end
theorem ptc2 {w : World} {T : Nat} {t : TypeId} {a0 a1 : Value} (h : Blk w T t #[a0, a1]) : w.cell? ⟨T, 0, none⟩ = some a0 ∧ w.cell? ⟨T, 1, none⟩ = some a1 := by
  refine ⟨?_, ?_⟩ <;> (rw [h.cell]; rfl)
section
variable {w w0 : World} {T B : Nat} {t : TypeId} {b0 b1 b2 : Value} (a0 a1 a2 : Value)
def ptw3 (w : World) (T : Nat) (a0 a1 a2 : Value) : World := (((w.setCell ⟨T, 0, none⟩ a0).setCell ⟨T, 1, none⟩ a1).setCell ⟨T, 2, none⟩ a2)
theorem pt3 (h : Blk w T t #[b0, b1, b2]) : Blk (ptw3 w T a0 a1 a2) T t #[a0, a1, a2] := by
  have h1 : Blk (w.setCell ⟨T, 0, none⟩ a0) T t #[a0, b1, b2] := h.set 0 a0
  have h2 : Blk ((w.setCell ⟨T, 0, none⟩ a0).setCell ⟨T, 1, none⟩ a1) T t #[a0, a1, b2] := h1.set 1 a1
  have h3 : Blk (((w.setCell ⟨T, 0, none⟩ a0).setCell ⟨T, 1, none⟩ a1).setCell ⟨T, 2, none⟩ a2) T t #[a0, a1, a2] := h2.set 2 a2
  exact h3
theorem pts3 : Solo T w (ptw3 w T a0 a1 a2) := ((((Solo.refl).setCell 0 a0).setCell 1 a1).setCell 2 a2)
theorem ptb3 (h : Below B w0 w) (hT : B ≤ T) : Below B w0 (ptw3 w T a0 a1 a2) := h.trans ((pts3 a0 a1 a2 (w := w) (T := T)).1.mono hT)
end
theorem ptc3 {w : World} {T : Nat} {t : TypeId} {a0 a1 a2 : Value} (h : Blk w T t #[a0, a1, a2]) : w.cell? ⟨T, 0, none⟩ = some a0 ∧ w.cell? ⟨T, 1, none⟩ = some a1 ∧ w.cell? ⟨T, 2, none⟩ = some a2 := by
  refine ⟨?_, ?_, ?_⟩ <;> (rw [h.cell]; rfl)
section
variable {w w0 : World} {T B : Nat} {t : TypeId} {b0 b1 b2 b3 : Value} (a0 a1 a2 a3 : Value)
def ptw4 (w : World) (T : Nat) (a0 a1 a2 a3 : Value) : World := ((((w.setCell ⟨T, 0, none⟩ a0).setCell ⟨T, 1, none⟩ a1).setCell ⟨T, 2, none⟩ a2).setCell ⟨T, 3, none⟩ a3)
theorem pt4 (h : Blk w T t #[b0, b1, b2, b3]) : Blk (ptw4 w T a0 a1 a2 a3) T t #[a0, a1, a2, a3] := by
  have h1 : Blk (w.setCell ⟨T, 0, none⟩ a0) T t #[a0, b1, b2, b3] := h.set 0 a0
  have h2 : Blk ((w.setCell ⟨T, 0, none⟩ a0).setCell ⟨T, 1, none⟩ a1) T t #[a0, a1, b2, b3] := h1.set 1 a1
  have h3 : Blk (((w.setCell ⟨T, 0, none⟩ a0).setCell ⟨T, 1, none⟩ a1).setCell ⟨T, 2, none⟩ a2) T t #[a0, a1, a2, b3] := h2.set 2 a2
  have h4 : Blk ((((w.setCell ⟨T, 0, none⟩ a0).setCell ⟨T, 1, none⟩ a1).setCell ⟨T, 2, none⟩ a2).setCell ⟨T, 3, none⟩ a3) T t #[a0, a1, a2, a3] := h3.set 3 a3
  exact h4
theorem pts4 : Solo T w (ptw4 w T a0 a1 a2 a3) := (((((Solo.refl).setCell 0 a0).setCell 1 a1).setCell 2 a2).setCell 3 a3)
theorem ptb4 (h : Below B w0 w) (hT : B ≤ T) : Below B w0 (ptw4 w T a0 a1 a2 a3) := h.trans ((pts4 a0 a1 a2 a3 (w := w) (T := T)).1.mono hT)
end
theorem ptc4 {w : World} {T : Nat} {t : TypeId} {a0 a1 a2 a3 : Value} (h : Blk w T t #[a0, a1, a2, a3]) : w.cell? ⟨T, 0, none⟩ = some a0 ∧ w.cell? ⟨T, 1, none⟩ = some a1 ∧ w.cell? ⟨T, 2, none⟩ = some a2 ∧ w.cell? ⟨T, 3, none⟩ = some a3 := by
  refine ⟨?_, ?_, ?_, ?_⟩ <;> (rw [h.cell]; rfl)
section
variable {w w0 : World} {T B : Nat} {t : TypeId} {b0 b1 b2 b3 b4 : Value} (a0 a1 a2 a3 a4 : Value)
def ptw5 (w : World) (T : Nat) (a0 a1 a2 a3 a4 : Value) : World := (((((w.setCell ⟨T, 0, none⟩ a0).setCell ⟨T, 1, none⟩ a1).setCell ⟨T, 2, none⟩ a2).setCell ⟨T, 3, none⟩ a3).setCell ⟨T, 4, none⟩ a4)
theorem pt5 (h : Blk w T t #[b0, b1, b2, b3, b4]) : Blk (ptw5 w T a0 a1 a2 a3 a4) T t #[a0, a1, a2, a3, a4] := by
  have h1 : Blk (w.setCell ⟨T, 0, none⟩ a0) T t #[a0, b1, b2, b3, b4] := h.set 0 a0
  have h2 : Blk ((w.setCell ⟨T, 0, none⟩ a0).setCell ⟨T, 1, none⟩ a1) T t #[a0, a1, b2, b3, b4] := h1.set 1 a1
  have h3 : Blk (((w.setCell ⟨T, 0, none⟩ a0).setCell ⟨T, 1, none⟩ a1).setCell ⟨T, 2, none⟩ a2) T t #[a0, a1, a2, b3, b4] := h2.set 2 a2
  have h4 : Blk ((((w.setCell ⟨T, 0, none⟩ a0).setCell ⟨T, 1, none⟩ a1).setCell ⟨T, 2, none⟩ a2).setCell ⟨T, 3, none⟩ a3) T t #[a0, a1, a2, a3, b4] := h3.set 3 a3
  have h5 : Blk (((((w.setCell ⟨T, 0, none⟩ a0).setCell ⟨T, 1, none⟩ a1).setCell ⟨T, 2, none⟩ a2).setCell ⟨T, 3, none⟩ a3).setCell ⟨T, 4, none⟩ a4) T t #[a0, a1, a2, a3, a4] := h4.set 4 a4
  exact h5
theorem pts5 : Solo T w (ptw5 w T a0 a1 a2 a3 a4) := ((((((Solo.refl).setCell 0 a0).setCell 1 a1).setCell 2 a2).setCell 3 a3).setCell 4 a4)
theorem ptb5 (h : Below B w0 w) (hT : B ≤ T) : Below B w0 (ptw5 w T a0 a1 a2 a3 a4) := h.trans ((pts5 a0 a1 a2 a3 a4 (w := w) (T := T)).1.mono hT)
end
theorem ptc5 {w : World} {T : Nat} {t : TypeId} {a0 a1 a2 a3 a4 : Value} (h : Blk w T t #[a0, a1, a2, a3, a4]) : w.cell? ⟨T, 0, none⟩ = some a0 ∧ w.cell? ⟨T, 1, none⟩ = some a1 ∧ w.cell? ⟨T, 2, none⟩ = some a2 ∧ w.cell? ⟨T, 3, none⟩ = some a3 ∧ w.cell? ⟨T, 4, none⟩ = some a4 := by
  refine ⟨?_, ?_, ?_, ?_, ?_⟩ <;> (rw [h.cell]; rfl)
section
variable {w w0 : World} {T B : Nat} {t : TypeId} {b0 b1 b2 b3 b4 b5 : Value} (a0 a1 a2 a3 a4 a5 : Value)
def ptw6 (w : World) (T : Nat) (a0 a1 a2 a3 a4 a5 : Value) : World := ((((((w.setCell ⟨T, 0, none⟩ a0).setCell ⟨T, 1, none⟩ a1).setCell ⟨T, 2, none⟩ a2).setCell ⟨T, 3, none⟩ a3).setCell ⟨T, 4, none⟩ a4).setCell ⟨T, 5, none⟩ a5)
theorem pt6 (h : Blk w T t #[b0, b1, b2, b3, b4, b5]) : Blk (ptw6 w T a0 a1 a2 a3 a4 a5) T t #[a0, a1, a2, a3, a4, a5] := by
  have h1 : Blk (w.setCell ⟨T, 0, none⟩ a0) T t #[a0, b1, b2, b3, b4, b5] := h.set 0 a0
  have h2 : Blk ((w.setCell ⟨T, 0, none⟩ a0).setCell ⟨T, 1, none⟩ a1) T t #[a0, a1, b2, b3, b4, b5] := h1.set 1 a1
  have h3 : Blk (((w.setCell ⟨T, 0, none⟩ a0).setCell ⟨T, 1, none⟩ a1).setCell ⟨T, 2, none⟩ a2) T t #[a0, a1, a2, b3, b4, b5] := h2.set 2 a2
  have h4 : Blk ((((w.setCell ⟨T, 0, none⟩ a0).setCell ⟨T, 1, none⟩ a1).setCell ⟨T, 2, none⟩ a2).setCell ⟨T, 3, none⟩ a3) T t #[a0, a1, a2, a3, b4, b5] := h3.set 3 a3
  have h5 : Blk (((((w.setCell ⟨T, 0, none⟩ a0).setCell ⟨T, 1, none⟩ a1).setCell ⟨T, 2, none⟩ a2).setCell ⟨T, 3, none⟩ a3).setCell ⟨T, 4, none⟩ a4) T t #[a0, a1, a2, a3, a4, b5] := h4.set 4 a4
  have h6 : Blk ((((((w.setCell ⟨T, 0, none⟩ a0).setCell ⟨T, 1, none⟩ a1).setCell ⟨T, 2, none⟩ a2).setCell ⟨T, 3, none⟩ a3).setCell ⟨T, 4, none⟩ a4).setCell ⟨T, 5, none⟩ a5) T t #[a0, a1, a2, a3, a4, a5] := h5.set 5 a5
  exact h6
theorem pts6 : Solo T w (ptw6 w T a0 a1 a2 a3 a4 a5) := (((((((Solo.refl).setCell 0 a0).setCell 1 a1).setCell 2 a2).setCell 3 a3).setCell 4 a4).setCell 5 a5)
theorem ptb6 (h : Below B w0 w) (hT : B ≤ T) : Below B w0 (ptw6 w T a0 a1 a2 a3 a4 a5) := h.trans ((pts6 a0 a1 a2 a3 a4 a5 (w := w) (T := T)).1.mono hT)
end
theorem ptc6 {w : World} {T : Nat} {t : TypeId} {a0 a1 a2 a3 a4 a5 : Value} (h : Blk w T t #[a0, a1, a2, a3, a4, a5]) : w.cell? ⟨T, 0, none⟩ = some a0 ∧ w.cell? ⟨T, 1, none⟩ = some a1 ∧ w.cell? ⟨T, 2, none⟩ = some a2 ∧ w.cell? ⟨T, 3, none⟩ = some a3 ∧ w.cell? ⟨T, 4, none⟩ = some a4 ∧ w.cell? ⟨T, 5, none⟩ = some a5 := by
  refine ⟨?_, ?_, ?_, ?_, ?_, ?_⟩ <;> (rw [h.cell]; rfl)
section
variable {w w0 : World} {T B : Nat} {t : TypeId} {b0 b1 b2 b3 b4 b5 b6 : Value} (a0 a1 a2 a3 a4 a5 a6 : Value)
def ptw7 (w : World) (T : Nat) (a0 a1 a2 a3 a4 a5 a6 : Value) : World := (((((((w.setCell ⟨T, 0, none⟩ a0).setCell ⟨T, 1, none⟩ a1).setCell ⟨T, 2, none⟩ a2).setCell ⟨T, 3, none⟩ a3).setCell ⟨T, 4, none⟩ a4).setCell ⟨T, 5, none⟩ a5).setCell ⟨T, 6, none⟩ a6)
theorem pt7 (h : Blk w T t #[b0, b1, b2, b3, b4, b5, b6]) : Blk (ptw7 w T a0 a1 a2 a3 a4 a5 a6) T t #[a0, a1, a2, a3, a4, a5, a6] := by
  have h1 : Blk (w.setCell ⟨T, 0, none⟩ a0) T t #[a0, b1, b2, b3, b4, b5, b6] := h.set 0 a0
  have h2 : Blk ((w.setCell ⟨T, 0, none⟩ a0).setCell ⟨T, 1, none⟩ a1) T t #[a0, a1, b2, b3, b4, b5, b6] := h1.set 1 a1
  have h3 : Blk (((w.setCell ⟨T, 0, none⟩ a0).setCell ⟨T, 1, none⟩ a1).setCell ⟨T, 2, none⟩ a2) T t #[a0, a1, a2, b3, b4, b5, b6] := h2.set 2 a2
  have h4 : Blk ((((w.setCell ⟨T, 0, none⟩ a0).setCell ⟨T, 1, none⟩ a1).setCell ⟨T, 2, none⟩ a2).setCell ⟨T, 3, none⟩ a3) T t #[a0, a1, a2, a3, b4, b5, b6] := h3.set 3 a3
  have h5 : Blk (((((w.setCell ⟨T, 0, none⟩ a0).setCell ⟨T, 1, none⟩ a1).setCell ⟨T, 2, none⟩ a2).setCell ⟨T, 3, none⟩ a3).setCell ⟨T, 4, none⟩ a4) T t #[a0, a1, a2, a3, a4, b5, b6] := h4.set 4 a4
  have h6 : Blk ((((((w.setCell ⟨T, 0, none⟩ a0).setCell ⟨T, 1, none⟩ a1).setCell ⟨T, 2, none⟩ a2).setCell ⟨T, 3, none⟩ a3).setCell ⟨T, 4, none⟩ a4).setCell ⟨T, 5, none⟩ a5) T t #[a0, a1, a2, a3, a4, a5, b6] := h5.set 5 a5
  have h7 : Blk (((((((w.setCell ⟨T, 0, none⟩ a0).setCell ⟨T, 1, none⟩ a1).setCell ⟨T, 2, none⟩ a2).setCell ⟨T, 3, none⟩ a3).setCell ⟨T, 4, none⟩ a4).setCell ⟨T, 5, none⟩ a5).setCell ⟨T, 6, none⟩ a6) T t #[a0, a1, a2, a3, a4, a5, a6] := h6.set 6 a6
  exact h7
theorem pts7 : Solo T w (ptw7 w T a0 a1 a2 a3 a4 a5 a6) := ((((((((Solo.refl).setCell 0 a0).setCell 1 a1).setCell 2 a2).setCell 3 a3).setCell 4 a4).setCell 5 a5).setCell 6 a6)
theorem ptb7 (h : Below B w0 w) (hT : B ≤ T) : Below B w0 (ptw7 w T a0 a1 a2 a3 a4 a5 a6) := h.trans ((pts7 a0 a1 a2 a3 a4 a5 a6 (w := w) (T := T)).1.mono hT)
end
theorem ptc7 {w : World} {T : Nat} {t : TypeId} {a0 a1 a2 a3 a4 a5 a6 : Value} (h : Blk w T t #[a0, a1, a2, a3, a4, a5, a6]) : w.cell? ⟨T, 0, none⟩ = some a0 ∧ w.cell? ⟨T, 1, none⟩ = some a1 ∧ w.cell? ⟨T, 2, none⟩ = some a2 ∧ w.cell? ⟨T, 3, none⟩ = some a3 ∧ w.cell? ⟨T, 4, none⟩ = some a4 ∧ w.cell? ⟨T, 5, none⟩ = some a5 ∧ w.cell? ⟨T, 6, none⟩ = some a6 := by
  refine ⟨?_, ?_, ?_, ?_, ?_, ?_, ?_⟩ <;> (rw [h.cell]; rfl)
end Go.Proofs.Ytdcpmfodkggpeaa
