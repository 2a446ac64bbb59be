/- Methods called through an interface value. -/
import Derived.Test.YtbiimgfocgbdaaaG4MacBack
import Derived.Test.YtbiimgfocgbdaaaProg

namespace Go.Proofs.Ytbiimgfocgbdaaa
open Go.RowKit
set_option linter.unusedVariables false
set_option linter.unusedSimpArgs false
section
variable {P : Program} {ops : Array Oper} {rest : List Oper} {o : Oper} {a : Act} {w : World} {Q : Exit → Act → World → Prop}
/-- A call of whatever kind, of which is known what it enters. -/
theorem wpList_enter (hgd : o.guard = none) {f : FuncId} {args : Array Value} (he : (execOp a.eval o).run P w = .ok (.enter f args) w)
    (hc : Calls P f args w fun e w' => ∃ v, e = .returned v ∧ wpList P ops Q rest (a.put o.dst v) w') : wpList P ops Q (o :: rest) a w := by
  refine wpList_plain hgd fun K hK => ?_
  unfold Oper.wp
  rw [he]
  refine hc.mono ?_
  rintro e w' ⟨v, rfl, h⟩
  exact hK _ _ h
theorem wpList_invoke (hgd : o.guard = none) (r : Operand) (name : String) (xs : Array Operand) (ats : Array TypeId) (ho : o.op = .call { callee := .invoke r name, args := xs, argTypes := ats }) {v : Value} {vs : Array Value} (hr : a.eval r = v) (hx : xs.map a.eval = vs) {f : FuncId} {args : Array Value} (he : (callMethod v name vs).run P w = .ok (.enter f args) w)
    (hc : Calls P f args w fun e w' => ∃ v, e = .returned v ∧ wpList P ops Q rest (a.put o.dst v) w') : wpList P ops Q (o :: rest) a w := by
  refine wpList_enter hgd ?_ hc
  subst hr hx
  rw [← he]
  have h0 : (#[a.eval r] ++ xs.map a.eval)[0]? = some (a.eval r) := by rw [← Array.getElem?_toList]; simp only [Array.toList_append]; rfl
  have h1 : (#[a.eval r] ++ xs.map a.eval).extract 1 (#[a.eval r] ++ xs.map a.eval).size = xs.map a.eval := by
    apply Array.ext'
    simp
    exact List.take_of_length_le (by simp)
  unfold execOp
  simp only [ho, resolve, Sem.run_bind, Sem.run_pure, Result.andThen_ok]
  unfold invoke
  simp only [h0, h1]
theorem run_loadVar {t : TypeId} (cs : List Value) {b off : Nat} (hc : ∀ j v, cs[j]? = some v → w.cell? ⟨b, off + j, none⟩ = some v)
    (hu : (match P.underlying t with | some (.struct _) | some (.array _ _) => true | _ => false) = true) (hsz : (P.info? t).map (·.size) = some cs.length) : (loadVar t ⟨b, off, none⟩).run P w = .ok (.agg cs.toArray) w := by
  have hc' : ∀ j v, cs[j]? = some v → w.cell? ((⟨b, off, none⟩ : Addr).add j) = some v := by
    intro j v hj
    rw [addr_add]
    exact hc j v hj
  have hag : (isAgg t).run P w = .ok true w := by
    unfold isAgg
    cases hd : P.underlying t with
    | none => rw [hd] at hu; cases hu
    | some d => rw [hd] at hu; simp only [Sem.run_bind, run_underlying hd, Result.andThen_ok]; cases d <;> first | rfl | cases hu
  have hl := run_loadCells_list (P := P) w ⟨b, off, none⟩ cs hc'
  cases hq : P.info? t with
  | none => simp [hq] at hsz
  | some i =>
    have hi : i.size = cs.length := by simpa [hq] using hsz
    simp [loadVar, hag, sizeOf, typeInfo, hq, hi, hl, Result.andThen]
end
theorem invKey_option0 (T : Nat) (w : World) : (callMethod (.iface 126 (.pointer (some ⟨T, 0, none⟩))) "Option" #[]).run Try.prog w = (do let r ← loadVar 34 ⟨T, 0, none⟩; callFunc 136 #[r]).run Try.prog w := by kernel_rfl
theorem invKey_option {T : Nat} {cs : List Value} {w : World} (h : Blk w T 34 cs.toArray) (hl : cs.length = 3) : (callMethod (.iface 126 (.pointer (some ⟨T, 0, none⟩))) "Option" #[]).run Try.prog w = .ok (.enter 136 #[.agg cs.toArray]) w := by
  rw [invKey_option0]
  have hr := run_loadVar (P := Try.prog) (w := w) (t := 34) cs (b := T) (off := 0) (h.loads 0 cs (by simp)) (by kernel_rfl) (by rw [hl]; kernel_rfl)
  have hf : ∀ v, (callFunc 136 #[v]).run Try.prog w = .ok (.enter 136 #[v]) w := fun v => by kernel_rfl
  simp only [Sem.run_bind, hr, Result.andThen_ok, hf]
theorem invKey_seal (T : Nat) (x : Value) (w : World) : (callMethod (.iface 126 (.pointer (some ⟨T, 0, none⟩))) "Seal" #[x]).run Try.prog w = .ok (.enter 92 #[.pointer (some ⟨T, 2, none⟩), x]) w := by kernel_rfl
theorem invJoin_option0 (T : Nat) (w : World) : (callMethod (.iface 127 (.pointer (some ⟨T, 0, none⟩))) "Option" #[]).run Try.prog w = (do let r ← loadVar 36 ⟨T, 0, none⟩; callFunc 137 #[r]).run Try.prog w := by kernel_rfl
theorem invJoin_option {T : Nat} {cs : List Value} {w : World} (h : Blk w T 36 cs.toArray) (hl : cs.length = 6) : (callMethod (.iface 127 (.pointer (some ⟨T, 0, none⟩))) "Option" #[]).run Try.prog w = .ok (.enter 137 #[.agg cs.toArray]) w := by
  rw [invJoin_option0]
  have hr := run_loadVar (P := Try.prog) (w := w) (t := 36) cs (b := T) (off := 0) (h.loads 0 cs (by simp)) (by kernel_rfl) (by rw [hl]; kernel_rfl)
  have hf : ∀ v, (callFunc 137 #[v]).run Try.prog w = .ok (.enter 137 #[v]) w := fun v => by kernel_rfl
  simp only [Sem.run_bind, hr, Result.andThen_ok, hf]
theorem invJoin_seal (T : Nat) (x : Value) (w : World) : (callMethod (.iface 127 (.pointer (some ⟨T, 0, none⟩))) "Seal" #[x]).run Try.prog w = .ok (.enter 92 #[.pointer (some ⟨T, 5, none⟩), x]) w := by kernel_rfl
theorem invData_option0 (T : Nat) (w : World) : (callMethod (.iface 128 (.pointer (some ⟨T, 0, none⟩))) "Option" #[]).run Try.prog w = (do let r ← loadVar 38 ⟨T, 0, none⟩; callFunc 10 #[r]).run Try.prog w := by kernel_rfl
theorem invData_option {T : Nat} {cs : List Value} {w : World} (h : Blk w T 38 cs.toArray) (hl : cs.length = 6) : (callMethod (.iface 128 (.pointer (some ⟨T, 0, none⟩))) "Option" #[]).run Try.prog w = .ok (.enter 10 #[.agg cs.toArray]) w := by
  rw [invData_option0]
  have hr := run_loadVar (P := Try.prog) (w := w) (t := 38) cs (b := T) (off := 0) (h.loads 0 cs (by simp)) (by kernel_rfl) (by rw [hl]; kernel_rfl)
  have hf : ∀ v, (callFunc 10 #[v]).run Try.prog w = .ok (.enter 10 #[v]) w := fun v => by kernel_rfl
  simp only [Sem.run_bind, hr, Result.andThen_ok, hf]
theorem invData_seal (T : Nat) (x : Value) (w : World) : (callMethod (.iface 128 (.pointer (some ⟨T, 0, none⟩))) "Seal" #[x]).run Try.prog w = .ok (.enter 92 #[.pointer (some ⟨T, 5, none⟩), x]) w := by kernel_rfl
theorem invWord_option0 (T : Nat) (w : World) : (callMethod (.iface 129 (.pointer (some ⟨T, 0, none⟩))) "Option" #[]).run Try.prog w = (do let r ← loadVar 40 ⟨T, 0, none⟩; callFunc 32 #[r]).run Try.prog w := by kernel_rfl
theorem invWord_option {T : Nat} {cs : List Value} {w : World} (h : Blk w T 40 cs.toArray) (hl : cs.length = 6) : (callMethod (.iface 129 (.pointer (some ⟨T, 0, none⟩))) "Option" #[]).run Try.prog w = .ok (.enter 32 #[.agg cs.toArray]) w := by
  rw [invWord_option0]
  have hr := run_loadVar (P := Try.prog) (w := w) (t := 40) cs (b := T) (off := 0) (h.loads 0 cs (by simp)) (by kernel_rfl) (by rw [hl]; kernel_rfl)
  have hf : ∀ v, (callFunc 32 #[v]).run Try.prog w = .ok (.enter 32 #[v]) w := fun v => by kernel_rfl
  simp only [Sem.run_bind, hr, Result.andThen_ok, hf]
theorem invWord_seal (T : Nat) (x : Value) (w : World) : (callMethod (.iface 129 (.pointer (some ⟨T, 0, none⟩))) "Seal" #[x]).run Try.prog w = .ok (.enter 92 #[.pointer (some ⟨T, 5, none⟩), x]) w := by kernel_rfl
end Go.Proofs.Ytbiimgfocgbdaaa

/- Of what was there nothing has turned but one block. No program. -/
namespace Go.Proofs.Ytbiimgfocgbdaaa
open Go.RowKit
set_option linter.unusedVariables false
/-- Of what was there nothing has turned but this block. -/
def Tou (g : Nat) (w w' : World) : Prop := Below g w w' ∧ ∀ k, k < w.heap.size → k ≠ g → w'.heap[k]? = w.heap[k]?
theorem Tou.of {g : Nat} {w w' : World} (h : Below w.heap.size w w') (hg : g ≤ w.heap.size) : Tou g w w' := ⟨h.mono hg, fun k hk _ => h.block k hk⟩
theorem Tou.solo {g : Nat} {w w' w2 : World} (h : Tou g w w') (k : Solo g w' w2) : Tou g w w2 :=
  ⟨h.1.trans k.1, fun i hi hne => (k.2.2 i hne).trans (h.2 i hi hne)⟩
theorem Tou.below {g B : Nat} {w0 w w' : World} (h0 : Below B w0 w) (h : Tou g w w') (hB : B ≤ g) : Below B w0 w' := h0.trans (h.1.mono hB)
theorem Tou.blk {g k : Nat} {t : TypeId} {cs : Array Value} {w w' : World} (h : Tou g w w') (hb : Blk w k t cs) (hk : k ≠ g) : Blk w' k t cs := (h.2 k hb.lt hk).trans hb
theorem Tou.refl (g : Nat) (w : World) : Tou g w w := ⟨Below.refl _ _, fun _ _ _ => rfl⟩
theorem Tou.grow {g : Nat} {w w1 w2 : World} (h : Tou g w w1) (hb : Below w1.heap.size w1 w2) (hg : g ≤ w1.heap.size) : Tou g w w2 :=
  ⟨h.1.trans (hb.mono hg), fun k hk hne => (hb.block k (Nat.lt_of_lt_of_le hk h.1.size)).trans (h.2 k hk hne)⟩
theorem Tou.soloAt {g r : Nat} {w w1 w2 : World} (h : Tou g w w1) (hs : Solo r w1 w2) (hr : w.heap.size ≤ r) (hg : g ≤ r) : Tou g w w2 :=
  ⟨h.1.trans (hs.1.mono hg), fun k hk hne => (hs.2.2 k (by omega)).trans (h.2 k hk hne)⟩
end Go.Proofs.Ytbiimgfocgbdaaa
