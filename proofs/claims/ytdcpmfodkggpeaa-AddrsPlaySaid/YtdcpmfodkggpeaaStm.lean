/- A struct of any number of cells is stored whole, and is handed back out of memory. No program. -/
import Derived.Test.YtdcpmfodkggpeaaBlkS
import Derived.Deep.MidRow
namespace Go.Proofs.Ytdcpmfodkggpeaa
open Go.RowKit
set_option linter.unusedVariables false
set_option linter.unusedSimpArgs false
/-- Cells from a place on, written. -/
def setL (cs : Array Value) : Nat → List Value → Array Value
  | _, [] => cs
  | o, v :: r => setL (cs.setIfInBounds o v) (o + 1) r
theorem Blk.setCells : ∀ (l : List Value) (o : Nat) {w : World} {g : Nat} {t : TypeId} {cs : Array Value}, Blk w g t cs → Blk (w.setCells g o l) g t (setL cs o l)
  | [], _, _, _, _, _, h => h
  | v :: r, o, _, _, _, _, h => Blk.setCells r (o + 1) (h.set o v)
theorem Solo.setCells : ∀ (l : List Value) (o : Nat) {w w' : World} {g : Nat}, Solo g w w' → Solo g w (w'.setCells g o l)
  | [], _, _, _, _, h => h
  | v :: r, o, _, _, _, h => Solo.setCells r (o + 1) (h.setCell o v)
theorem Blk.there {w : World} {g : Nat} {t : TypeId} {cs : Array Value} (h : Blk w g t cs) {o n : Nat} (hn : o + n ≤ cs.size) : w.there g o n := fun j hj =>
  ⟨by rw [h.cell, Array.getElem?_eq_getElem (by omega)]; rfl, h.frozen _⟩
section
variable {P : Program} {ops : Array Oper} {rest : List Oper} {op : Oper} {a : Act} {w : World} {Q : Exit → Act → World → Prop}
theorem stm_store {g o : Nat} {t u : TypeId} {cs cells cs' : Array Value} (hB : Blk w g t cs) (hgd : op.guard = none) (x y : Operand) (ho : op.op = .store u x y) (hx : a.eval x = .pointer (some ⟨g, o, none⟩)) (hy : a.eval y = .agg cells)
    (hn : o + cells.size ≤ cs.size) (hi : (P.info? u).map (·.size) = some cells.size) (h1 : cells.all (·.oneCell') = true) (hc : setL cs o cells.toList = cs')
    (h : ∀ w', Blk w' g t cs' → Solo g w w' → wpList P ops Q rest (a.put op.dst undef) w') : wpList P ops Q (op :: rest) a w :=
  wpList_store_mid hgd u x y ho g o cells hx hy (hB.there hn) hi h1 (h _ (hc ▸ hB.setCells cells.toList o) (Solo.refl.setCells _ _))
theorem results_agg {fn : Func} {k : Tmp} {u t : TypeId} (h : fn.results = #[.cell k u]) {tmps : Array Value} {g : Nat} {cs : Array Value} (hB : Blk w g t cs) (ht : tmps.getD k undef = .pointer (some ⟨g, 0, none⟩))
    (hu : (match P.underlying u with | some (.struct _) | some (.array _ _) => true | _ => false) = true) (hsz : (P.info? u).map (·.size) = some cs.size) : (results fn tmps).run P w = .ok (.agg cs) w := by
  have hd : ∃ d, P.underlying u = some d ∧ d.isRow = true := by
    cases hq : P.underlying u with
    | none => rw [hq] at hu; cases hu
    | some d => rw [hq] at hu; exact ⟨d, rfl, by cases d <;> first | rfl | cases hu⟩
  obtain ⟨d, hd, hr⟩ := hd
  have hl := run_loadVar_mid (P := P) w g 0 u cs.toList d (fun j v hj => by rw [Nat.zero_add, hB.cell]; simpa using hj) hd hr (by simpa using hsz)
  simp only [Array.toArray_toList] at hl
  unfold results
  rw [h]
  have ht' : tmps[k]?.getD undef = .pointer (some ⟨g, 0, none⟩) := by simpa using ht
  simp [asAddr, Result.andThen, ht']
  rw [hl]
end
end Go.Proofs.Ytdcpmfodkggpeaa
