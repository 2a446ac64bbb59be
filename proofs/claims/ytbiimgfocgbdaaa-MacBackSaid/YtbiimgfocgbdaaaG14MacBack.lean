/- Regions in any order: options, slices of options, segments. -/
import Derived.Test.YtbiimgfocgbdaaaG5MacBack
import Derived.Test.YtbiimgfocgbdaaaG13MacBack
import Derived.Test.YtbiimgfocgbdaaaG4MacBack

namespace Go.Proofs.Ytbiimgfocgbdaaa
open Go.RowKit
set_option linter.unusedVariables false
theorem Os.gr {M : Bool} {B : Nat} {w w' : World} {A : Option Addr} {n c : Nat} {l : List Ob} (h : Os w A n c l) (hb : GH.Gr M B w w') : Os w' A n c l :=
  ⟨hb.rd h.row, fun p hp => ⟨hb.rd (h.bod p hp).1, (h.bod p hp).2⟩, h.cap⟩
namespace GH
/-- An option. -/
def SP.opt {M : Bool} (kd : Nat) (l : List Nat) : SP M := ⟨fun v w => ∃ A n c, v = .agg #[.int .u8 (kd : Nat), .slice A n c] ∧ n ≤ c ∧ c ≤ maxLen ∧ Rd w w.heap.size 1 A n (Go.Proofs.Ytbiimgfocgbdaaa.ns .u8 l), fun B v w w' h hb => by
  obtain ⟨A, n, c, h1, h2, h3, h4⟩ := h
  exact ⟨A, n, c, h1, h2, h3, hb.rd h4⟩⟩
theorem opt_of {M : Bool} {kd : Nat} {l : List Nat} {v : Value} {B : Nat} {w : World} (h : Nats w 5 .u8 B v l) : (SP.opt (M := M) kd l).G (.agg #[.int .u8 (kd : Nat), v]) w := by
  obtain ⟨A, c, rfl, hc⟩ := h.form
  refine ⟨A, _, c, rfl, hc, ?_, h.rd⟩
  rcases h.2 with ⟨hv, h0⟩ | ⟨g, cap, cur, hv, _, _, _, hcm, _⟩
  · injection hv with _ _ h3; omega
  · injection hv with _ _ h3; omega
/-- A slice of options. -/
def SP.os {M : Bool} (L : List Opn) : SP M := ⟨fun v w => ∃ A n c lo, v = .slice A n c ∧ Os w A n c lo ∧ osay lo = L, fun B v w w' h hb => by
  obtain ⟨A, n, c, lo, h1, h2, h3⟩ := h
  exact ⟨A, n, c, lo, h1, h2.gr hb, h3⟩⟩
theorem os_lit {M : Bool} {kd n c : Nat} {A : Option Addr} {l : List Nat} {w : World} {t : TypeId} (hr : Rd w w.heap.size 1 A n (Go.Proofs.Ytbiimgfocgbdaaa.ns .u8 l)) (hnc : n ≤ c) (hc : c ≤ maxLen) : (SP.os (M := M) [(kd, l)]).G (.slice (some ⟨w.heap.size, 0, none⟩) 1 1) (w.alloc (.cells #[.int .u8 (kd : Nat), .slice A n c] t)) := by
  refine ⟨_, 1, 1, [(kd, ⟨A, n, c, l⟩)], rfl, ⟨(Rd.made w t #[.int .u8 (kd : Nat), .slice A n c] (n := 1) (size := 2) rfl).mono (by simp), fun p hp => ?_, Nat.le_refl _, by unfold maxLen; omega⟩, rfl⟩
  obtain rfl : p = (kd, ⟨A, n, c, l⟩) := by simpa using hp
  exact ⟨(hr.alloc (Nat.le_refl _) _).mono (by simp), hnc, hc⟩
/-- A segment. -/
def SP.seg {M : Bool} (g : Sg) : SP M := ⟨fun v w => SegV w v g, fun B v w w' h hb => h.gr hb⟩
end GH
end Go.Proofs.Ytbiimgfocgbdaaa

/- A struct of some cells is stored whole; its cells. No program. -/
namespace Go.Proofs.Ytbiimgfocgbdaaa
open Go.RowKit
set_option linter.unusedVariables false
/-- What is loaded of a row of cells. -/
theorem cells_of {w : World} {g : Nat} {t : TypeId} {cs : Array Value} (h : Blk w g t cs) : ∀ j v, cs.toList[j]? = some v → w.cell? ⟨g, 0 + j, none⟩ = some v := by
  intro j v hj
  rw [Nat.zero_add, h.cell]
  simpa using hj
theorem cells_at {w : World} {g o k : Nat} {t : TypeId} {cs : Array Value} {xs : List Value} (h : Blk w g t cs) (he : (cs.toList.drop o).take k = xs) : ∀ j v, xs[j]? = some v → w.cell? ⟨g, o + j, none⟩ = some v := by
  intro j v hj
  rw [h.cell]
  subst he
  rw [List.getElem?_take] at hj
  split at hj
  · rw [List.getElem?_drop] at hj; simpa using hj
  · cases hj
section
variable {w w0 : World} {T B : Nat} {t : TypeId} {b0 : Value} (a0 : Value)
def ptw1 (w : World) (T : Nat) (a0 : Value) : World := (w.setCell ⟨T, 0, none⟩ a0)
theorem pt1 (h : Blk w T t #[b0]) : Blk (ptw1 w T a0) T t #[a0] := by
  have h1 : Blk (w.setCell ⟨T, 0, none⟩ a0) T t #[a0] := h.set 0 a0
  exact h1
theorem pts1 : Solo T w (ptw1 w T a0) := ((Solo.refl).setCell 0 a0)
theorem ptb1 (h : Below B w0 w) (hT : B ≤ T) : Below B w0 (ptw1 w T a0) := h.trans ((pts1 a0 (w := w) (T := T)).1.mono hT)
end
theorem ptc1 {w : World} {T : Nat} {t : TypeId} {a0 : Value} (h : Blk w T t #[a0]) : w.cell? ⟨T, 0, none⟩ = some a0 := by
  rw [h.cell]; rfl
section
variable {w w0 : World} {T B : Nat} {t : TypeId} {b0 b1 : Value} (a0 a1 : Value)
def ptw2 (w : World) (T : Nat) (a0 a1 : Value) : World := ((w.setCell ⟨T, 0, none⟩ a0).setCell ⟨T, 1, none⟩ a1)
theorem pt2 (h : Blk w T t #[b0, b1]) : Blk (ptw2 w T a0 a1) T t #[a0, a1] := by
  have h1 : Blk (w.setCell ⟨T, 0, none⟩ a0) T t #[a0, b1] := h.set 0 a0
  have h2 : Blk ((w.setCell ⟨T, 0, none⟩ a0).setCell ⟨T, 1, none⟩ a1) T t #[a0, a1] := h1.set 1 a1
  exact h2
theorem pts2 : Solo T w (ptw2 w T a0 a1) := (((Solo.refl).setCell 0 a0).setCell 1 a1)
theorem ptb2 (h : Below B w0 w) (hT : B ≤ T) : Below B w0 (ptw2 w T a0 a1) := h.trans ((pts2 a0 a1 (w := w) (T := T)).1.mono hT)
end
theorem ptc2 {w : World} {T : Nat} {t : TypeId} {a0 a1 : Value} (h : Blk w T t #[a0, a1]) : w.cell? ⟨T, 0, none⟩ = some a0 ∧ w.cell? ⟨T, 1, none⟩ = some a1 := by
  refine ⟨?_, ?_⟩ <;> (rw [h.cell]; rfl)
section
variable {w w0 : World} {T B : Nat} {t : TypeId} {b0 b1 b2 : Value} (a0 a1 a2 : Value)
def ptw3 (w : World) (T : Nat) (a0 a1 a2 : Value) : World := (((w.setCell ⟨T, 0, none⟩ a0).setCell ⟨T, 1, none⟩ a1).setCell ⟨T, 2, none⟩ a2)
theorem pt3 (h : Blk w T t #[b0, b1, b2]) : Blk (ptw3 w T a0 a1 a2) T t #[a0, a1, a2] := by
  have h1 : Blk (w.setCell ⟨T, 0, none⟩ a0) T t #[a0, b1, b2] := h.set 0 a0
  have h2 : Blk ((w.setCell ⟨T, 0, none⟩ a0).setCell ⟨T, 1, none⟩ a1) T t #[a0, a1, b2] := h1.set 1 a1
  have h3 : Blk (((w.setCell ⟨T, 0, none⟩ a0).setCell ⟨T, 1, none⟩ a1).setCell ⟨T, 2, none⟩ a2) T t #[a0, a1, a2] := h2.set 2 a2
  exact h3
theorem pts3 : Solo T w (ptw3 w T a0 a1 a2) := ((((Solo.refl).setCell 0 a0).setCell 1 a1).setCell 2 a2)
theorem ptb3 (h : Below B w0 w) (hT : B ≤ T) : Below B w0 (ptw3 w T a0 a1 a2) := h.trans ((pts3 a0 a1 a2 (w := w) (T := T)).1.mono hT)
end
theorem ptc3 {w : World} {T : Nat} {t : TypeId} {a0 a1 a2 : Value} (h : Blk w T t #[a0, a1, a2]) : w.cell? ⟨T, 0, none⟩ = some a0 ∧ w.cell? ⟨T, 1, none⟩ = some a1 ∧ w.cell? ⟨T, 2, none⟩ = some a2 := by
  refine ⟨?_, ?_, ?_⟩ <;> (rw [h.cell]; rfl)
section
variable {w w0 : World} {T B : Nat} {t : TypeId} {b0 b1 b2 b3 : Value} (a0 a1 a2 a3 : Value)
def ptw4 (w : World) (T : Nat) (a0 a1 a2 a3 : Value) : World := ((((w.setCell ⟨T, 0, none⟩ a0).setCell ⟨T, 1, none⟩ a1).setCell ⟨T, 2, none⟩ a2).setCell ⟨T, 3, none⟩ a3)
theorem pt4 (h : Blk w T t #[b0, b1, b2, b3]) : Blk (ptw4 w T a0 a1 a2 a3) T t #[a0, a1, a2, a3] := by
  have h1 : Blk (w.setCell ⟨T, 0, none⟩ a0) T t #[a0, b1, b2, b3] := h.set 0 a0
  have h2 : Blk ((w.setCell ⟨T, 0, none⟩ a0).setCell ⟨T, 1, none⟩ a1) T t #[a0, a1, b2, b3] := h1.set 1 a1
  have h3 : Blk (((w.setCell ⟨T, 0, none⟩ a0).setCell ⟨T, 1, none⟩ a1).setCell ⟨T, 2, none⟩ a2) T t #[a0, a1, a2, b3] := h2.set 2 a2
  have h4 : Blk ((((w.setCell ⟨T, 0, none⟩ a0).setCell ⟨T, 1, none⟩ a1).setCell ⟨T, 2, none⟩ a2).setCell ⟨T, 3, none⟩ a3) T t #[a0, a1, a2, a3] := h3.set 3 a3
  exact h4
theorem pts4 : Solo T w (ptw4 w T a0 a1 a2 a3) := (((((Solo.refl).setCell 0 a0).setCell 1 a1).setCell 2 a2).setCell 3 a3)
theorem ptb4 (h : Below B w0 w) (hT : B ≤ T) : Below B w0 (ptw4 w T a0 a1 a2 a3) := h.trans ((pts4 a0 a1 a2 a3 (w := w) (T := T)).1.mono hT)
end
theorem ptc4 {w : World} {T : Nat} {t : TypeId} {a0 a1 a2 a3 : Value} (h : Blk w T t #[a0, a1, a2, a3]) : w.cell? ⟨T, 0, none⟩ = some a0 ∧ w.cell? ⟨T, 1, none⟩ = some a1 ∧ w.cell? ⟨T, 2, none⟩ = some a2 ∧ w.cell? ⟨T, 3, none⟩ = some a3 := by
  refine ⟨?_, ?_, ?_, ?_⟩ <;> (rw [h.cell]; rfl)
section
variable {w w0 : World} {T B : Nat} {t : TypeId} {b0 b1 b2 b3 b4 : Value} (a0 a1 a2 a3 a4 : Value)
def ptw5 (w : World) (T : Nat) (a0 a1 a2 a3 a4 : Value) : World := (((((w.setCell ⟨T, 0, none⟩ a0).setCell ⟨T, 1, none⟩ a1).setCell ⟨T, 2, none⟩ a2).setCell ⟨T, 3, none⟩ a3).setCell ⟨T, 4, none⟩ a4)
theorem pt5 (h : Blk w T t #[b0, b1, b2, b3, b4]) : Blk (ptw5 w T a0 a1 a2 a3 a4) T t #[a0, a1, a2, a3, a4] := by
  have h1 : Blk (w.setCell ⟨T, 0, none⟩ a0) T t #[a0, b1, b2, b3, b4] := h.set 0 a0
  have h2 : Blk ((w.setCell ⟨T, 0, none⟩ a0).setCell ⟨T, 1, none⟩ a1) T t #[a0, a1, b2, b3, b4] := h1.set 1 a1
  have h3 : Blk (((w.setCell ⟨T, 0, none⟩ a0).setCell ⟨T, 1, none⟩ a1).setCell ⟨T, 2, none⟩ a2) T t #[a0, a1, a2, b3, b4] := h2.set 2 a2
  have h4 : Blk ((((w.setCell ⟨T, 0, none⟩ a0).setCell ⟨T, 1, none⟩ a1).setCell ⟨T, 2, none⟩ a2).setCell ⟨T, 3, none⟩ a3) T t #[a0, a1, a2, a3, b4] := h3.set 3 a3
  have h5 : Blk (((((w.setCell ⟨T, 0, none⟩ a0).setCell ⟨T, 1, none⟩ a1).setCell ⟨T, 2, none⟩ a2).setCell ⟨T, 3, none⟩ a3).setCell ⟨T, 4, none⟩ a4) T t #[a0, a1, a2, a3, a4] := h4.set 4 a4
  exact h5
theorem pts5 : Solo T w (ptw5 w T a0 a1 a2 a3 a4) := ((((((Solo.refl).setCell 0 a0).setCell 1 a1).setCell 2 a2).setCell 3 a3).setCell 4 a4)
theorem ptb5 (h : Below B w0 w) (hT : B ≤ T) : Below B w0 (ptw5 w T a0 a1 a2 a3 a4) := h.trans ((pts5 a0 a1 a2 a3 a4 (w := w) (T := T)).1.mono hT)
end
theorem ptc5 {w : World} {T : Nat} {t : TypeId} {a0 a1 a2 a3 a4 : Value} (h : Blk w T t #[a0, a1, a2, a3, a4]) : w.cell? ⟨T, 0, none⟩ = some a0 ∧ w.cell? ⟨T, 1, none⟩ = some a1 ∧ w.cell? ⟨T, 2, none⟩ = some a2 ∧ w.cell? ⟨T, 3, none⟩ = some a3 ∧ w.cell? ⟨T, 4, none⟩ = some a4 := by
  refine ⟨?_, ?_, ?_, ?_, ?_⟩ <;> (rw [h.cell]; rfl)
section
variable {w w0 : World} {T B : Nat} {t : TypeId} {b0 b1 b2 b3 b4 b5 : Value} (a0 a1 a2 a3 a4 a5 : Value)
def ptw6 (w : World) (T : Nat) (a0 a1 a2 a3 a4 a5 : Value) : World := ((((((w.setCell ⟨T, 0, none⟩ a0).setCell ⟨T, 1, none⟩ a1).setCell ⟨T, 2, none⟩ a2).setCell ⟨T, 3, none⟩ a3).setCell ⟨T, 4, none⟩ a4).setCell ⟨T, 5, none⟩ a5)
theorem pt6 (h : Blk w T t #[b0, b1, b2, b3, b4, b5]) : Blk (ptw6 w T a0 a1 a2 a3 a4 a5) T t #[a0, a1, a2, a3, a4, a5] := by
  have h1 : Blk (w.setCell ⟨T, 0, none⟩ a0) T t #[a0, b1, b2, b3, b4, b5] := h.set 0 a0
  have h2 : Blk ((w.setCell ⟨T, 0, none⟩ a0).setCell ⟨T, 1, none⟩ a1) T t #[a0, a1, b2, b3, b4, b5] := h1.set 1 a1
  have h3 : Blk (((w.setCell ⟨T, 0, none⟩ a0).setCell ⟨T, 1, none⟩ a1).setCell ⟨T, 2, none⟩ a2) T t #[a0, a1, a2, b3, b4, b5] := h2.set 2 a2
  have h4 : Blk ((((w.setCell ⟨T, 0, none⟩ a0).setCell ⟨T, 1, none⟩ a1).setCell ⟨T, 2, none⟩ a2).setCell ⟨T, 3, none⟩ a3) T t #[a0, a1, a2, a3, b4, b5] := h3.set 3 a3
  have h5 : Blk (((((w.setCell ⟨T, 0, none⟩ a0).setCell ⟨T, 1, none⟩ a1).setCell ⟨T, 2, none⟩ a2).setCell ⟨T, 3, none⟩ a3).setCell ⟨T, 4, none⟩ a4) T t #[a0, a1, a2, a3, a4, b5] := h4.set 4 a4
  have h6 : Blk ((((((w.setCell ⟨T, 0, none⟩ a0).setCell ⟨T, 1, none⟩ a1).setCell ⟨T, 2, none⟩ a2).setCell ⟨T, 3, none⟩ a3).setCell ⟨T, 4, none⟩ a4).setCell ⟨T, 5, none⟩ a5) T t #[a0, a1, a2, a3, a4, a5] := h5.set 5 a5
  exact h6
theorem pts6 : Solo T w (ptw6 w T a0 a1 a2 a3 a4 a5) := (((((((Solo.refl).setCell 0 a0).setCell 1 a1).setCell 2 a2).setCell 3 a3).setCell 4 a4).setCell 5 a5)
theorem ptb6 (h : Below B w0 w) (hT : B ≤ T) : Below B w0 (ptw6 w T a0 a1 a2 a3 a4 a5) := h.trans ((pts6 a0 a1 a2 a3 a4 a5 (w := w) (T := T)).1.mono hT)
end
theorem ptc6 {w : World} {T : Nat} {t : TypeId} {a0 a1 a2 a3 a4 a5 : Value} (h : Blk w T t #[a0, a1, a2, a3, a4, a5]) : w.cell? ⟨T, 0, none⟩ = some a0 ∧ w.cell? ⟨T, 1, none⟩ = some a1 ∧ w.cell? ⟨T, 2, none⟩ = some a2 ∧ w.cell? ⟨T, 3, none⟩ = some a3 ∧ w.cell? ⟨T, 4, none⟩ = some a4 ∧ w.cell? ⟨T, 5, none⟩ = some a5 := by
  refine ⟨?_, ?_, ?_, ?_, ?_, ?_⟩ <;> (rw [h.cell]; rfl)
section
variable {w w0 : World} {T B : Nat} {t : TypeId} {b0 b1 b2 b3 b4 b5 b6 : Value} (a0 a1 a2 a3 a4 a5 a6 : Value)
def ptw7 (w : World) (T : Nat) (a0 a1 a2 a3 a4 a5 a6 : Value) : World := (((((((w.setCell ⟨T, 0, none⟩ a0).setCell ⟨T, 1, none⟩ a1).setCell ⟨T, 2, none⟩ a2).setCell ⟨T, 3, none⟩ a3).setCell ⟨T, 4, none⟩ a4).setCell ⟨T, 5, none⟩ a5).setCell ⟨T, 6, none⟩ a6)
theorem pt7 (h : Blk w T t #[b0, b1, b2, b3, b4, b5, b6]) : Blk (ptw7 w T a0 a1 a2 a3 a4 a5 a6) T t #[a0, a1, a2, a3, a4, a5, a6] := by
  have h1 : Blk (w.setCell ⟨T, 0, none⟩ a0) T t #[a0, b1, b2, b3, b4, b5, b6] := h.set 0 a0
  have h2 : Blk ((w.setCell ⟨T, 0, none⟩ a0).setCell ⟨T, 1, none⟩ a1) T t #[a0, a1, b2, b3, b4, b5, b6] := h1.set 1 a1
  have h3 : Blk (((w.setCell ⟨T, 0, none⟩ a0).setCell ⟨T, 1, none⟩ a1).setCell ⟨T, 2, none⟩ a2) T t #[a0, a1, a2, b3, b4, b5, b6] := h2.set 2 a2
  have h4 : Blk ((((w.setCell ⟨T, 0, none⟩ a0).setCell ⟨T, 1, none⟩ a1).setCell ⟨T, 2, none⟩ a2).setCell ⟨T, 3, none⟩ a3) T t #[a0, a1, a2, a3, b4, b5, b6] := h3.set 3 a3
  have h5 : Blk (((((w.setCell ⟨T, 0, none⟩ a0).setCell ⟨T, 1, none⟩ a1).setCell ⟨T, 2, none⟩ a2).setCell ⟨T, 3, none⟩ a3).setCell ⟨T, 4, none⟩ a4) T t #[a0, a1, a2, a3, a4, b5, b6] := h4.set 4 a4
  have h6 : Blk ((((((w.setCell ⟨T, 0, none⟩ a0).setCell ⟨T, 1, none⟩ a1).setCell ⟨T, 2, none⟩ a2).setCell ⟨T, 3, none⟩ a3).setCell ⟨T, 4, none⟩ a4).setCell ⟨T, 5, none⟩ a5) T t #[a0, a1, a2, a3, a4, a5, b6] := h5.set 5 a5
  have h7 : Blk (((((((w.setCell ⟨T, 0, none⟩ a0).setCell ⟨T, 1, none⟩ a1).setCell ⟨T, 2, none⟩ a2).setCell ⟨T, 3, none⟩ a3).setCell ⟨T, 4, none⟩ a4).setCell ⟨T, 5, none⟩ a5).setCell ⟨T, 6, none⟩ a6) T t #[a0, a1, a2, a3, a4, a5, a6] := h6.set 6 a6
  exact h7
theorem pts7 : Solo T w (ptw7 w T a0 a1 a2 a3 a4 a5 a6) := ((((((((Solo.refl).setCell 0 a0).setCell 1 a1).setCell 2 a2).setCell 3 a3).setCell 4 a4).setCell 5 a5).setCell 6 a6)
theorem ptb7 (h : Below B w0 w) (hT : B ≤ T) : Below B w0 (ptw7 w T a0 a1 a2 a3 a4 a5 a6) := h.trans ((pts7 a0 a1 a2 a3 a4 a5 a6 (w := w) (T := T)).1.mono hT)
end
theorem ptc7 {w : World} {T : Nat} {t : TypeId} {a0 a1 a2 a3 a4 a5 a6 : Value} (h : Blk w T t #[a0, a1, a2, a3, a4, a5, a6]) : w.cell? ⟨T, 0, none⟩ = some a0 ∧ w.cell? ⟨T, 1, none⟩ = some a1 ∧ w.cell? ⟨T, 2, none⟩ = some a2 ∧ w.cell? ⟨T, 3, none⟩ = some a3 ∧ w.cell? ⟨T, 4, none⟩ = some a4 ∧ w.cell? ⟨T, 5, none⟩ = some a5 ∧ w.cell? ⟨T, 6, none⟩ = some a6 := by
  refine ⟨?_, ?_, ?_, ?_, ?_, ?_, ?_⟩ <;> (rw [h.cell]; rfl)
end Go.Proofs.Ytbiimgfocgbdaaa
