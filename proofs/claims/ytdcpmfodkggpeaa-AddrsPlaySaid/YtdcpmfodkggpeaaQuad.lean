/- Rows of four whole numbers (four cells, .i64). No program. -/
import Derived.Test.YtdcpmfodkggpeaaPairZ
namespace Go.Proofs.Ytdcpmfodkggpeaa
open Go.RowKit
set_option linter.unusedVariables false
structure Op4 where
  k : Int
  a : Int
  b : Int
  n : Int
def Op4.el (p : Op4) : List Value := [.int .i64 p.k, .int .i64 p.a, .int .i64 p.b, .int .i64 p.n]
theorem op4_len (p : Op4) : p.el.length = 4 := rfl
def op4s (l : List Op4) : List Value := l.flatMap Op4.el
theorem op4s_len (l : List Op4) : (op4s l).length = l.length * 4 := fm_len op4_len l
theorem Rd.op4 {w : World} {B n : Nat} {A : Option Addr} {l : List Op4} (h : Rd w B 4 A n (op4s l)) {i : Nat} (hi : i < n) :
    ∃ (b off : Nat) (x y z u : Int), A = some ⟨b, off, none⟩ ∧ b < B ∧ w.cell? ⟨b, off + i * 4, none⟩ = some (.int .i64 x) ∧ w.cell? ⟨b, off + i * 4 + 1, none⟩ = some (.int .i64 y) ∧ w.cell? ⟨b, off + i * 4 + 2, none⟩ = some (.int .i64 z) ∧ w.cell? ⟨b, off + i * 4 + 3, none⟩ = some (.int .i64 u) ∧ Hid (l[i]? = some ⟨x, y, z, u⟩) := by
  obtain ⟨b, off, e, hb, hc⟩ := h.2 (by omega)
  have hl : l.length = n := by have := h.1; rw [op4s_len] at this; omega
  have hg : l[i]? = some l[i] := by rw [List.getElem?_eq_getElem (by omega)]
  have g0 := fm_get op4_len hg (r := 0) (by omega)
  have g1 := fm_get op4_len hg (r := 1) (by omega)
  have g2 := fm_get op4_len hg (r := 2) (by omega)
  have g3 := fm_get op4_len hg (r := 3) (by omega)
  exact ⟨b, off, _, _, _, _, e, hb, (hc (i * 4) (by omega)).trans g0, (Nat.add_assoc off (i * 4) 1 ▸ hc (i * 4 + 1) (by omega)).trans g1, (Nat.add_assoc off (i * 4) 2 ▸ hc (i * 4 + 2) (by omega)).trans g2, (Nat.add_assoc off (i * 4) 3 ▸ hc (i * 4 + 3) (by omega)).trans g3, Lib.hid hg⟩
theorem Rd.op4Len {w : World} {B n : Nat} {A : Option Addr} {l : List Op4} (h : Rd w B 4 A n (op4s l)) : l.length = n := by have := h.1; rw [op4s_len] at this; omega
end Go.Proofs.Ytdcpmfodkggpeaa
