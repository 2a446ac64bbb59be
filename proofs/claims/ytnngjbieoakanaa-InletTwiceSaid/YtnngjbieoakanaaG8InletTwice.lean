/- A region whose operations only read, and whose calls make memory but leave what is there: one walk in the order of the text. No program. -/
import Derived.Test.YtnngjbieoakanaaUnd
import Derived.Test.YtnngjbieoakanaaSpm
import Derived.Test.YtnngjbieoakanaaG6InletTwice
import Derived.Test.YtnngjbieoakanaaRows
import Derived.OwnWalk
import Derived.RegionTactic
import Derived.LoopTactic

namespace Go.Proofs.Ytnngjbieoakanaa
open Go.RowKit
set_option linter.unusedVariables false
section
variable {P : Program}
/-- The walk in the order of the text (a structure: it is not to be seen through). -/
structure WpX (P : Program) (ops : Array Oper) (w : World) (Q : Act → Prop) (l : List Oper) (a : Act) : Prop where
  out : wpQuiet P ops (fun w' => Below w.heap.size w w') Q l a
/-- What stands behind the region is asked in every world in which all is as it was. -/
theorem wp_ext {L : List Oper} {id : Nat} {Q : Exit → Act → World → Prop} {a : Act} {w : World} (hm : P.follows .mixedOrders = true) (hB : Region.lexB .any L.toArray = true)
    (h : ∀ Q' : Act → Prop, Hid (∀ a, (∀ w', Below w.heap.size w w' → Q .normal a w') → Q' a) → WpX P L.toArray w Q' L a) : (Code.region id L.toArray true).wp P Q a w :=
  wp_region_quiet (C := fun w' => Below w.heap.size w w') hm hB ((Below.refl _ _).drew) (by simpa using (h (fun a => ∀ w', Below w.heap.size w w' → Q .normal a w') fun _ h => h).out)
section
variable {ops : Array Oper} {o : Oper} {rest : List Oper} {Q : Act → Prop} {a : Act} {w : World}
theorem x_nil (h : Q a) : WpX P ops w Q [] a := ⟨wpQuiet_nil h⟩
theorem x_skip (hw : Region.wanted o (yielded ops a.tmps) = false) (h : WpX P ops w Q rest (a.put o.dst undef)) : WpX P ops w Q (o :: rest) a := ⟨qskip hw h.out⟩
theorem x_val {v : Value} (hw : Region.wanted o (yielded ops a.tmps) = true) (hv : ∀ w', Below w.heap.size w w' → (execOp a.eval o).run P w' = .ok (.value v) w') (h : WpX P ops w Q rest (a.put o.dst v)) : WpX P ops w Q (o :: rest) a :=
  ⟨qstep hw fun K hK => ⟨v, fun w' hx => by unfold Oper.quietAt; rw [hv w' hx]; exact ⟨rfl, rfl⟩, hK _ h.out⟩⟩
theorem x_load {t : TypeId} (x : Operand) (hw : Region.wanted o (yielded ops a.tmps) = true) (ho : o.op = .load t x) {b off : Nat} {v : Value} (hx : a.eval x = .pointer (some ⟨b, off, none⟩)) (hc : w.cell? ⟨b, off, none⟩ = some v)
    (hu : (match P.underlying t with | some (.struct _) | some (.array _ _) | none => false | _ => true) = true) (h : WpX P ops w Q rest (a.put o.dst v)) : WpX P ops w Q (o :: rest) a := by
  refine x_val hw (fun w' hx' => ?_) h
  have hb : b < w.heap.size := World.block_lt_of_cell? w (a := ⟨b, off, none⟩) hc
  have hc' : w'.cell? ⟨b, off, none⟩ = some v := by rw [(Ext.of hx').cell hb]; exact hc
  have hag : (isAgg t).run P w' = .ok false w' := by
    unfold isAgg
    cases hd : P.underlying t with
    | none => rw [hd] at hu; cases hu
    | some d => rw [hd] at hu; simp only [Sem.run_bind, run_underlying hd, Result.andThen_ok]; cases d <;> first | rfl | cases hu
  simp [execOp, ho, hx, Instr.loadAt, Instr.sureAddr, loadVar, hag, hc', Result.andThen]
/-- A load of a struct. -/
theorem x_loads {t : TypeId} (x : Operand) (cs : List Value) (hw : Region.wanted o (yielded ops a.tmps) = true) (ho : o.op = .load t x) {b off : Nat} (hx : a.eval x = .pointer (some ⟨b, off, none⟩)) (hc : ∀ j v, cs[j]? = some v → w.cell? ⟨b, off + j, none⟩ = some v) (h0 : 0 < cs.length)
    (hu : (match P.underlying t with | some (.struct _) | some (.array _ _) => true | _ => false) = true) (hsz : (P.info? t).map (·.size) = some cs.length) (h : WpX P ops w Q rest (a.put o.dst (.agg cs.toArray))) : WpX P ops w Q (o :: rest) a := by
  refine x_val hw (fun w' hx' => ?_) h
  have hb : b < w.heap.size := World.block_lt_of_cell? w (a := ⟨b, off + 0, none⟩) (hc 0 cs[0] (by simp))
  have hc' : ∀ j v, cs[j]? = some v → w'.cell? ((⟨b, off, none⟩ : Addr).add j) = some v := by
    intro j v hj
    rw [addr_add, (Ext.of hx').cell hb]
    exact hc j v hj
  have hag : (isAgg t).run P w' = .ok true w' := by
    unfold isAgg
    cases hd : P.underlying t with
    | none => rw [hd] at hu; cases hu
    | some d => rw [hd] at hu; simp only [Sem.run_bind, run_underlying hd, Result.andThen_ok]; cases d <;> first | rfl | cases hu
  have hl := run_loadCells_list (P := P) w' ⟨b, off, none⟩ cs hc'
  cases hq : P.info? t with
  | none => simp [hq] at hsz
  | some i =>
    have hi : i.size = cs.length := by simpa [hq] using hsz
    simp [execOp, ho, hx, Instr.loadAt, Instr.sureAddr, loadVar, hag, sizeOf, typeInfo, hq, hi, hl, Result.andThen]
/-- A call that answers this, wherever it comes. -/
theorem x_call {f : FuncId} {args : Array Value} {v : Value} (hw : Region.wanted o (yielded ops a.tmps) = true) (he : ∀ w', Below w.heap.size w w' → (execOp a.eval o).run P w' = .ok (.enter f args) w')
    (hc : ∀ w', Below w.heap.size w w' → Calls P f args w' fun e w'' => e = .returned v ∧ Below w'.heap.size w' w'') (h : WpX P ops w Q rest (a.put o.dst v)) : WpX P ops w Q (o :: rest) a :=
  ⟨qstep hw fun K hK => ⟨v, fun w' hx => by
    unfold Oper.quietAt
    rw [he w' hx]
    exact ⟨rfl, (hc w' hx).mono fun e w'' ⟨h1, h2⟩ => ⟨h1, hx.trans (h2.mono hx.size)⟩⟩, hK _ h.out⟩⟩
end
end
end Go.Proofs.Ytnngjbieoakanaa

/- Package spans: the comparison, the search, find. -/
namespace Go.Proofs.Ytnngjbieoakanaa
open Go.RowKit
set_option linter.unusedVariables false

/-- Pieces as cells. -/
def cels (l : List Sp) : List Value := l.flatMap fun p => [.int .u64 (p.1 : Int), .int .u64 (p.2 : Int)]
theorem cels_cons (p : Sp) (l : List Sp) : cels (p :: l) = .int .u64 (p.1 : Int) :: .int .u64 (p.2 : Int) :: cels l := rfl
theorem cels_append (l m : List Sp) : cels (l ++ m) = cels l ++ cels m := by simp [cels]
theorem cels_len (l : List Sp) : (cels l).length = l.length * 2 := by
  induction l with
  | nil => rfl
  | cons p l ih => rw [cels_cons, List.length_cons, List.length_cons, ih, List.length_cons]; omega
theorem cels_take (l : List Sp) (k : Nat) : (cels l).take (k * 2) = cels (l.take k) := by
  induction l generalizing k with
  | nil => simp [cels]
  | cons p l ih =>
    cases k with
    | zero => simp [cels]
    | succ k => rw [show (k + 1) * 2 = k * 2 + 1 + 1 by omega, cels_cons, List.take_succ_cons, List.take_succ_cons, ih, List.take_succ_cons, cels_cons]
theorem cels_drop (l : List Sp) (k : Nat) : (cels l).drop (k * 2) = cels (l.drop k) := by
  induction l generalizing k with
  | nil => simp [cels]
  | cons p l ih =>
    cases k with
    | zero => simp
    | succ k => rw [show (k + 1) * 2 = k * 2 + 1 + 1 by omega, cels_cons, List.drop_succ_cons, List.drop_succ_cons, ih, List.drop_succ_cons]
theorem cels_get {l : List Sp} {i : Nat} {p : Sp} (h : l[i]? = some p) : (cels l)[i * 2]? = some (.int .u64 (p.1 : Int)) ∧ (cels l)[i * 2 + 1]? = some (.int .u64 (p.2 : Int)) := by
  induction l generalizing i with
  | nil => simp at h
  | cons q l ih =>
    cases i with
    | zero => simp at h; subst h; exact ⟨rfl, rfl⟩
    | succ i =>
      have := ih (i := i) (by simpa using h)
      rw [show (i + 1) * 2 = i * 2 + 1 + 1 by omega, cels_cons, List.getElem?_cons_succ, List.getElem?_cons_succ, List.getElem?_cons_succ, List.getElem?_cons_succ]
      exact this
theorem cels_one (l : List Sp) : ∀ v ∈ cels l, v.oneCell' = true := by
  intro v hv
  simp only [cels, List.mem_flatMap] at hv
  obtain ⟨p, _, hv⟩ := hv
  simp at hv
  rcases hv with rfl | rfl <;> rfl
/-- A piece of a row, by a name of its own. -/
theorem Rd.pc {w : World} {B n : Nat} {A : Option Addr} {l : List Sp} (h : Rd w B 2 A n (cels l)) {i : Nat} (hi : i < n) :
    ∃ (b off x y : Nat), A = some ⟨b, off, none⟩ ∧ b < B ∧ w.cell? ⟨b, off + i * 2, none⟩ = some (.int .u64 (x : Int)) ∧ w.cell? ⟨b, off + i * 2 + 1, none⟩ = some (.int .u64 (y : Int)) ∧ Hid (l[i]? = some (x, y)) := by
  obtain ⟨b, off, e, hb, hc⟩ := h.2 (by omega)
  have hl : l.length = n := by have := h.1; rw [cels_len] at this; omega
  have hg : l[i]? = some l[i] := by rw [List.getElem?_eq_getElem (by omega)]
  obtain ⟨g1, g2⟩ := cels_get hg
  exact ⟨b, off, _, _, e, hb, (hc (i * 2) (by omega)).trans g1, (Nat.add_assoc off (i * 2) 1 ▸ hc (i * 2 + 1) (by omega)).trans g2, Lib.hid hg⟩
theorem Rd.pcLen {w : World} {B n : Nat} {A : Option Addr} {l : List Sp} (h : Rd w B 2 A n (cels l)) : l.length = n := by have := h.1; rw [cels_len] at this; omega

def cmpS (p x : Sp) : Int := if p.2 < x.1 then -1 else if x.2 < p.1 then 1 else 0
theorem cmp_any (a b f t : Nat) (w : World) : Calls Try.prog 51 #[.agg #[.int .u64 (a : Int), .int .u64 (b : Int)], .agg #[.int .u64 (f : Int), .int .u64 (t : Int)]] w fun e w' =>
    e = .returned (.int .i64 (cmpS (a, b) (f, t))) ∧ Below w.heap.size w w' := by
  unfold cmpS
  dsimp only
  by_cases h1 : b < f
  · have h1' : (b : Int) < (f : Int) := by omega
    rw [if_pos h1]
    go_enter Try.func51, Try.ntmps51
    go_wp2_with fail
    go_ret
    exact ⟨rfl, ((Below.refl _ _).alloc (Nat.le_refl _) _).alloc (by simp) _⟩
  · have h1' : ¬ (b : Int) < (f : Int) := by omega
    rw [if_neg h1]
    by_cases h2 : t < a
    · have h2' : (t : Int) < (a : Int) := by omega
      rw [if_pos h2]
      go_enter Try.func51, Try.ntmps51
      go_wp2_with fail
      go_ret
      exact ⟨rfl, ((Below.refl _ _).alloc (Nat.le_refl _) _).alloc (by simp) _⟩
    · have h2' : ¬ (t : Int) < (a : Int) := by omega
      rw [if_neg h2]
      go_enter Try.func51, Try.ntmps51
      go_wp2_with fail
      go_ret
      exact ⟨rfl, ((Below.refl _ _).alloc (Nat.le_refl _) _).alloc (by simp) _⟩
end Go.Proofs.Ytnngjbieoakanaa
