/- A region whose operations only read, and whose calls make memory but leave what is there: one walk in the order of the text. No program. -/
import Derived.Test.YtdcpmfodkggpeaaUnd
namespace Go.Proofs.Ytdcpmfodkggpeaa
open Go.RowKit
set_option linter.unusedVariables false
section
variable {P : Program}
/-- The walk in the order of the text (a structure: it is not to be seen through). -/
structure WpX (P : Program) (ops : Array Oper) (w : World) (Q : Act → Prop) (l : List Oper) (a : Act) : Prop where
  out : wpQuiet P ops (fun w' => Below w.heap.size w w') Q l a
/-- What stands behind the region is asked in every world in which all is as it was. -/
theorem wp_ext {L : List Oper} {id : Nat} {Q : Exit → Act → World → Prop} {a : Act} {w : World} (hm : P.follows .mixedOrders = true) (hB : Region.lexB .any L.toArray = true)
    (h : ∀ Q' : Act → Prop, Hid (∀ a, (∀ w', Below w.heap.size w w' → Q .normal a w') → Q' a) → WpX P L.toArray w Q' L a) : (Code.region id L.toArray true).wp P Q a w :=
  wp_region_quiet (C := fun w' => Below w.heap.size w w') hm hB ((Below.refl _ _).drew) (by simpa using (h (fun a => ∀ w', Below w.heap.size w w' → Q .normal a w') fun _ h => h).out)
section
variable {ops : Array Oper} {o : Oper} {rest : List Oper} {Q : Act → Prop} {a : Act} {w : World}
theorem x_nil (h : Q a) : WpX P ops w Q [] a := ⟨wpQuiet_nil h⟩
theorem x_skip (hw : Region.wanted o (yielded ops a.tmps) = false) (h : WpX P ops w Q rest (a.put o.dst undef)) : WpX P ops w Q (o :: rest) a := ⟨qskip hw h.out⟩
theorem x_val {v : Value} (hw : Region.wanted o (yielded ops a.tmps) = true) (hv : ∀ w', Below w.heap.size w w' → (execOp a.eval o).run P w' = .ok (.value v) w') (h : WpX P ops w Q rest (a.put o.dst v)) : WpX P ops w Q (o :: rest) a :=
  ⟨qstep hw fun K hK => ⟨v, fun w' hx => by unfold Oper.quietAt; rw [hv w' hx]; exact ⟨rfl, rfl⟩, hK _ h.out⟩⟩
theorem x_load {t : TypeId} (x : Operand) (hw : Region.wanted o (yielded ops a.tmps) = true) (ho : o.op = .load t x) {b off : Nat} {v : Value} (hx : a.eval x = .pointer (some ⟨b, off, none⟩)) (hc : w.cell? ⟨b, off, none⟩ = some v)
    (hu : (match P.underlying t with | some (.struct _) | some (.array _ _) | none => false | _ => true) = true) (h : WpX P ops w Q rest (a.put o.dst v)) : WpX P ops w Q (o :: rest) a := by
  refine x_val hw (fun w' hx' => ?_) h
  have hb : b < w.heap.size := World.block_lt_of_cell? w (a := ⟨b, off, none⟩) hc
  have hc' : w'.cell? ⟨b, off, none⟩ = some v := by rw [(Ext.of hx').cell hb]; exact hc
  have hag : (isAgg t).run P w' = .ok false w' := by
    unfold isAgg
    cases hd : P.underlying t with
    | none => rw [hd] at hu; cases hu
    | some d => rw [hd] at hu; simp only [Sem.run_bind, run_underlying hd, Result.andThen_ok]; cases d <;> first | rfl | cases hu
  simp [execOp, ho, hx, Instr.loadAt, Instr.sureAddr, loadVar, hag, hc', Result.andThen]
/-- A load of a struct. -/
theorem x_loads {t : TypeId} (x : Operand) (cs : List Value) (hw : Region.wanted o (yielded ops a.tmps) = true) (ho : o.op = .load t x) {b off : Nat} (hx : a.eval x = .pointer (some ⟨b, off, none⟩)) (hc : ∀ j v, cs[j]? = some v → w.cell? ⟨b, off + j, none⟩ = some v) (h0 : 0 < cs.length)
    (hu : (match P.underlying t with | some (.struct _) | some (.array _ _) => true | _ => false) = true) (hsz : (P.info? t).map (·.size) = some cs.length) (h : WpX P ops w Q rest (a.put o.dst (.agg cs.toArray))) : WpX P ops w Q (o :: rest) a := by
  refine x_val hw (fun w' hx' => ?_) h
  have hb : b < w.heap.size := World.block_lt_of_cell? w (a := ⟨b, off + 0, none⟩) (hc 0 cs[0] (by simp))
  have hc' : ∀ j v, cs[j]? = some v → w'.cell? ((⟨b, off, none⟩ : Addr).add j) = some v := by
    intro j v hj
    rw [addr_add, (Ext.of hx').cell hb]
    exact hc j v hj
  have hag : (isAgg t).run P w' = .ok true w' := by
    unfold isAgg
    cases hd : P.underlying t with
    | none => rw [hd] at hu; cases hu
    | some d => rw [hd] at hu; simp only [Sem.run_bind, run_underlying hd, Result.andThen_ok]; cases d <;> first | rfl | cases hu
  have hl := run_loadCells_list (P := P) w' ⟨b, off, none⟩ cs hc'
  cases hq : P.info? t with
  | none => simp [hq] at hsz
  | some i =>
    have hi : i.size = cs.length := by simpa [hq] using hsz
    simp [execOp, ho, hx, Instr.loadAt, Instr.sureAddr, loadVar, hag, sizeOf, typeInfo, hq, hi, hl, Result.andThen]
/-- A call that answers this, wherever it comes. -/
theorem x_call {f : FuncId} {args : Array Value} {v : Value} (hw : Region.wanted o (yielded ops a.tmps) = true) (he : ∀ w', Below w.heap.size w w' → (execOp a.eval o).run P w' = .ok (.enter f args) w')
    (hc : ∀ w', Below w.heap.size w w' → Calls P f args w' fun e w'' => e = .returned v ∧ Below w'.heap.size w' w'') (h : WpX P ops w Q rest (a.put o.dst v)) : WpX P ops w Q (o :: rest) a :=
  ⟨qstep hw fun K hK => ⟨v, fun w' hx => by
    unfold Oper.quietAt
    rw [he w' hx]
    exact ⟨rfl, (hc w' hx).mono fun e w'' ⟨h1, h2⟩ => ⟨h1, hx.trans (h2.mono hx.size)⟩⟩, hK _ h.out⟩⟩
end
end
end Go.Proofs.Ytdcpmfodkggpeaa
