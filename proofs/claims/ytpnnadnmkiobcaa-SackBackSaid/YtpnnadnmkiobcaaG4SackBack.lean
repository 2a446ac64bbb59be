/- A region whose operations only read, and whose calls make memory but leave what is there: one walk in the order of the text. No program. -/
import Derived.Test.YtpnnadnmkiobcaaUnd
import Derived.Test.YtpnnadnmkiobcaaG1SackBack
import Derived.Test.YtpnnadnmkiobcaaG2SackBack
import Derived.Test.YtpnnadnmkiobcaaRows
import Derived.OwnWalk
import Derived.RegionTactic
import Derived.LoopTactic

namespace Go.Proofs.Ytpnnadnmkiobcaa
open Go.RowKit
set_option linter.unusedVariables false
section
variable {P : Program}
/-- The walk in the order of the text (a structure: it is not to be seen through). -/
structure WpX (P : Program) (ops : Array Oper) (w : World) (Q : Act → Prop) (l : List Oper) (a : Act) : Prop where
  out : wpQuiet P ops (fun w' => Below w.heap.size w w') Q l a
/-- What stands behind the region is asked in every world in which all is as it was. -/
theorem wp_ext {L : List Oper} {id : Nat} {Q : Exit → Act → World → Prop} {a : Act} {w : World} (hm : P.follows .mixedOrders = true) (hB : Region.lexB .any L.toArray = true)
    (h : ∀ Q' : Act → Prop, Hid (∀ a, (∀ w', Below w.heap.size w w' → Q .normal a w') → Q' a) → WpX P L.toArray w Q' L a) : (Code.region id L.toArray true).wp P Q a w :=
  wp_region_quiet (C := fun w' => Below w.heap.size w w') hm hB ((Below.refl _ _).drew) (by simpa using (h (fun a => ∀ w', Below w.heap.size w w' → Q .normal a w') fun _ h => h).out)
section
variable {ops : Array Oper} {o : Oper} {rest : List Oper} {Q : Act → Prop} {a : Act} {w : World}
theorem x_nil (h : Q a) : WpX P ops w Q [] a := ⟨wpQuiet_nil h⟩
theorem x_skip (hw : Region.wanted o (yielded ops a.tmps) = false) (h : WpX P ops w Q rest (a.put o.dst undef)) : WpX P ops w Q (o :: rest) a := ⟨qskip hw h.out⟩
theorem x_val {v : Value} (hw : Region.wanted o (yielded ops a.tmps) = true) (hv : ∀ w', Below w.heap.size w w' → (execOp a.eval o).run P w' = .ok (.value v) w') (h : WpX P ops w Q rest (a.put o.dst v)) : WpX P ops w Q (o :: rest) a :=
  ⟨qstep hw fun K hK => ⟨v, fun w' hx => by unfold Oper.quietAt; rw [hv w' hx]; exact ⟨rfl, rfl⟩, hK _ h.out⟩⟩
theorem x_load {t : TypeId} (x : Operand) (hw : Region.wanted o (yielded ops a.tmps) = true) (ho : o.op = .load t x) {b off : Nat} {v : Value} (hx : a.eval x = .pointer (some ⟨b, off, none⟩)) (hc : w.cell? ⟨b, off, none⟩ = some v)
    (hu : (match P.underlying t with | some (.struct _) | some (.array _ _) | none => false | _ => true) = true) (h : WpX P ops w Q rest (a.put o.dst v)) : WpX P ops w Q (o :: rest) a := by
  refine x_val hw (fun w' hx' => ?_) h
  have hb : b < w.heap.size := World.block_lt_of_cell? w (a := ⟨b, off, none⟩) hc
  have hc' : w'.cell? ⟨b, off, none⟩ = some v := by rw [(Ext.of hx').cell hb]; exact hc
  have hag : (isAgg t).run P w' = .ok false w' := by
    unfold isAgg
    cases hd : P.underlying t with
    | none => rw [hd] at hu; cases hu
    | some d => rw [hd] at hu; simp only [Sem.run_bind, run_underlying hd, Result.andThen_ok]; cases d <;> first | rfl | cases hu
  simp [execOp, ho, hx, Instr.loadAt, Instr.sureAddr, loadVar, hag, hc', Result.andThen]
/-- A load of a struct. -/
theorem x_loads {t : TypeId} (x : Operand) (cs : List Value) (hw : Region.wanted o (yielded ops a.tmps) = true) (ho : o.op = .load t x) {b off : Nat} (hx : a.eval x = .pointer (some ⟨b, off, none⟩)) (hc : ∀ j v, cs[j]? = some v → w.cell? ⟨b, off + j, none⟩ = some v) (h0 : 0 < cs.length)
    (hu : (match P.underlying t with | some (.struct _) | some (.array _ _) => true | _ => false) = true) (hsz : (P.info? t).map (·.size) = some cs.length) (h : WpX P ops w Q rest (a.put o.dst (.agg cs.toArray))) : WpX P ops w Q (o :: rest) a := by
  refine x_val hw (fun w' hx' => ?_) h
  have hb : b < w.heap.size := World.block_lt_of_cell? w (a := ⟨b, off + 0, none⟩) (hc 0 cs[0] (by simp))
  have hc' : ∀ j v, cs[j]? = some v → w'.cell? ((⟨b, off, none⟩ : Addr).add j) = some v := by
    intro j v hj
    rw [addr_add, (Ext.of hx').cell hb]
    exact hc j v hj
  have hag : (isAgg t).run P w' = .ok true w' := by
    unfold isAgg
    cases hd : P.underlying t with
    | none => rw [hd] at hu; cases hu
    | some d => rw [hd] at hu; simp only [Sem.run_bind, run_underlying hd, Result.andThen_ok]; cases d <;> first | rfl | cases hu
  have hl := run_loadCells_list (P := P) w' ⟨b, off, none⟩ cs hc'
  cases hq : P.info? t with
  | none => simp [hq] at hsz
  | some i =>
    have hi : i.size = cs.length := by simpa [hq] using hsz
    simp [execOp, ho, hx, Instr.loadAt, Instr.sureAddr, loadVar, hag, sizeOf, typeInfo, hq, hi, hl, Result.andThen]
/-- A call that answers this, wherever it comes. -/
theorem x_call {f : FuncId} {args : Array Value} {v : Value} (hw : Region.wanted o (yielded ops a.tmps) = true) (he : ∀ w', Below w.heap.size w w' → (execOp a.eval o).run P w' = .ok (.enter f args) w')
    (hc : ∀ w', Below w.heap.size w w' → Calls P f args w' fun e w'' => e = .returned v ∧ Below w'.heap.size w' w'') (h : WpX P ops w Q rest (a.put o.dst v)) : WpX P ops w Q (o :: rest) a :=
  ⟨qstep hw fun K hK => ⟨v, fun w' hx => by
    unfold Oper.quietAt
    rw [he w' hx]
    exact ⟨rfl, (hc w' hx).mono fun e w'' ⟨h1, h2⟩ => ⟨h1, hx.trans (h2.mono hx.size)⟩⟩, hK _ h.out⟩⟩
end
end
end Go.Proofs.Ytpnnadnmkiobcaa

/- Layer 31: pieces as cells; ahead; Right. -/
namespace Go.Proofs.Ytpnnadnmkiobcaa
open Go.RowKit
set_option linter.unusedVariables false
set_option linter.unusedSimpArgs false
abbrev Bk := Int × Int
def bkel (p : Bk) : List Value := [.int .u32 p.1, .int .u32 p.2]
def bks (l : List Bk) : List Value := l.flatMap bkel
theorem bks_cons (p : Bk) (l : List Bk) : bks (p :: l) = .int .u32 p.1 :: .int .u32 p.2 :: bks l := rfl
theorem bks_append (l m : List Bk) : bks (l ++ m) = bks l ++ bks m := by simp [bks]
theorem bks_len (l : List Bk) : (bks l).length = l.length * 2 := by
  induction l with
  | nil => rfl
  | cons p l ih => rw [bks_cons, List.length_cons, List.length_cons, ih, List.length_cons]; omega
theorem bks_get {l : List Bk} {i : Nat} {p : Bk} (h : l[i]? = some p) : (bks l)[i * 2]? = some (.int .u32 p.1) ∧ (bks l)[i * 2 + 1]? = some (.int .u32 p.2) := by
  induction l generalizing i with
  | nil => simp at h
  | cons q l ih =>
    cases i with
    | zero => simp at h; subst h; exact ⟨rfl, rfl⟩
    | succ i =>
      have := ih (i := i) (by simpa using h)
      rw [show (i + 1) * 2 = i * 2 + 1 + 1 by omega, bks_cons, List.getElem?_cons_succ, List.getElem?_cons_succ, List.getElem?_cons_succ, List.getElem?_cons_succ]
      exact this
theorem bks_one (l : List Bk) : ∀ v ∈ bks l, v.oneCell' = true := by
  intro v hv
  simp only [bks, bkel, List.mem_flatMap] at hv
  obtain ⟨p, _, hv⟩ := hv
  simp at hv
  rcases hv with rfl | rfl <;> rfl
/-- A piece of a row, by a name of its own. -/
theorem Rd.bk {w : World} {B n : Nat} {A : Option Addr} {l : List Bk} (h : Rd w B 2 A n (bks l)) {i : Nat} (hi : i < n) :
    ∃ (b off : Nat) (x y : Int), A = some ⟨b, off, none⟩ ∧ b < B ∧ w.cell? ⟨b, off + i * 2, none⟩ = some (.int .u32 x) ∧ w.cell? ⟨b, off + i * 2 + 1, none⟩ = some (.int .u32 y) ∧ Hid (l[i]? = some (x, y)) := by
  obtain ⟨b, off, e, hb, hc⟩ := h.2 (by omega)
  have hl : l.length = n := by have := h.1; rw [bks_len] at this; omega
  have hg : l[i]? = some l[i] := by rw [List.getElem?_eq_getElem (by omega)]
  obtain ⟨g1, g2⟩ := bks_get hg
  exact ⟨b, off, _, _, e, hb, (hc (i * 2) (by omega)).trans g1, (Nat.add_assoc off (i * 2) 1 ▸ hc (i * 2 + 1) (by omega)).trans g2, Lib.hid hg⟩
theorem Rd.bkLen {w : World} {B n : Nat} {A : Option Addr} {l : List Bk} (h : Rd w B 2 A n (bks l)) : l.length = n := by have := h.1; rw [bks_len] at this; omega
theorem bk_drop {l : List Bk} {k : Nat} {x : Bk} (h : l[k]? = some x) : l.drop k = x :: l.drop (k + 1) := by
  have hk : k < l.length := (List.getElem?_eq_some_iff.1 h).1
  have := (List.getElem?_eq_some_iff.1 h).2
  rw [← this, List.drop_eq_getElem_cons hk]
/-- May a piece be said behind another one? -/
def bkOk (wait last : Int) (p : Bk) : Prop := 0 < sd p.1 last ∧ 0 < sd p.2 p.1 ∧ 0 < sd p.2 wait
def bkGo (wait : Int) : Int → List Bk → Prop
  | _, [] => True
  | a, p :: l => bkOk wait a p ∧ bkGo wait p.2 l
def bkR (wait : Int) (l : List Bk) : Prop := l.length ≤ 4 ∧ bkGo wait wait l
theorem sahead_any (a b : Int) (w : World) : Calls Try.prog 22 #[.int .u32 a, .int .u32 b] w fun e w' => e = .returned (.bool (decide (0 < sd a b))) ∧ w' = w := by
  go_enter Try.func22, Try.ntmps22
  go_wp2_with fail
  refine (diff_any a b w).mono ?_
  rintro e w' ⟨rfl, rfl⟩
  go_wp2_with fail
  go_ret
  exact ⟨ret_bool rfl, rfl⟩
def BRP (wait : Int) (l : List Bk) (e : Ending) : Prop := ∃ b, e = .returned (.bool b) ∧ (b = true ↔ bkR wait l)
theorem BRP.no {wait : Int} {l : List Bk} (h : ¬ bkR wait l) : BRP wait l (.returned (.bool false)) := ⟨false, rfl, by simp [h]⟩
set_option maxRecDepth 20000 in
set_option maxHeartbeats 4000000 in
theorem sright_any (wait : Int) (A : Option Addr) (n c : Nat) (l : List Bk) (w : World) (h : Rd w w.heap.size 2 A n (bks l)) :
    Calls Try.prog 10 #[.int .u32 wait, .slice A n c] w fun e w' => BRP wait l e ∧ Below w.heap.size w w' := by
  have HO := Lib.hid h
  have HL := Lib.hid h.bkLen
  clear h
  go_enter Try.func10, Try.ntmps10
  by_cases h4 : 4 < n
  · have h4' : (4 : Int) < (n : Int) := by omega
    have HN := Lib.hid (show ¬ bkR wait l from fun h => by have := h.1; rw [HL.out] at this; omega)
    go_wp2_with fail
    go_ret
    exact ⟨BRP.no HN.out, Below.refl _ _⟩
  have h4' : ¬ (4 : Int) < (n : Int) := by omega
  have h4d : decide ((4 : Int) < (n : Int)) = false := decide_eq_false h4'
  go_wp2_with fail
  go_loopw [5, 14] (fun ev iv wr => ∃ (k : Nat) (a : Int), k ≤ n ∧ iv = .int .i64 (k : Int) ∧ ev = .int .u32 a ∧ Hid (bkGo wait wait l ↔ bkGo wait a (l.drop k)) ∧ Below w.heap.size w wr) (fun _ iv _ => n - (intOf iv).toNat)
  case atStart => exact ⟨0, wait, Nat.zero_le _, rfl, rfl, Lib.hid (by simp), Below.refl _ _⟩
  case round =>
    obtain ⟨k, a, hk, rfl, rfl, hgo, hbw⟩ := hrel
    by_cases hlt : k < n
    · have hlt' : (k : Int) < (n : Int) := by omega
      obtain ⟨b, off, x, y, rfl, hbb, p0, p1, hp⟩ := (HO.out.into hbw).bk hlt
      have HST := Lib.hid (show bkGo wait wait l ↔ bkOk wait a (x, y) ∧ bkGo wait y (l.drop (k + 1)) from by rw [hgo.out, bk_drop hp.out]; rfl)
      have hA := hbw.alloc hbw.size (.cells #[.int .u32 x, .int .u32 y] 44)
      have BA := Lib.hid hA
      clear hgo hp hA
      by_cases c1 : 0 < sd x a
      · have d1 : decide (0 < sd x a) = true := decide_eq_true c1
        by_cases c2 : 0 < sd y x
        · have d2 : decide (0 < sd y x) = true := decide_eq_true c2
          by_cases c3 : 0 < sd y wait
          · have d3 : decide (0 < sd y wait) = true := decide_eq_true c3
            have HNX := Lib.hid (show bkGo wait wait l ↔ bkGo wait y (l.drop (k + 1)) from by rw [HST.out]; exact ⟨fun h => h.2, fun h => ⟨⟨c1, c2, c3⟩, h⟩⟩)
            clear c1 c2 c3 HST
            go_wp2_with fail
            refine (sahead_any x a _).mono ?_
            rintro e w1 ⟨rfl, rfl⟩
            rw [d1]
            go_wp2_with fail
            refine (sahead_any y x _).mono ?_
            rintro e w1 ⟨rfl, rfl⟩
            rw [d2]
            go_wp2_with fail
            refine (sahead_any y wait _).mono ?_
            rintro e w1 ⟨rfl, rfl⟩
            rw [d3]
            go_wp2_with fail
            go_roundw
            case rel => exact ⟨k + 1, y, by omega, by go_num, rfl, HNX, BA.out⟩
            case measure => simp [intOf]; omega
          · have d3 : decide (0 < sd y wait) = false := decide_eq_false c3
            have HN := Lib.hid (show ¬ bkR wait l from fun h => c3 (HST.out.1 h.2).1.2.2)
            clear c1 c2 c3 HST
            go_wp2_with fail
            refine (sahead_any x a _).mono ?_
            rintro e w1 ⟨rfl, rfl⟩
            rw [d1]
            go_wp2_with fail
            refine (sahead_any y x _).mono ?_
            rintro e w1 ⟨rfl, rfl⟩
            rw [d2]
            go_wp2_with fail
            refine (sahead_any y wait _).mono ?_
            rintro e w1 ⟨rfl, rfl⟩
            rw [d3]
            go_wp2_with fail
            go_ret
            exact ⟨BRP.no HN.out, BA.out⟩
        · have d2 : decide (0 < sd y x) = false := decide_eq_false c2
          have HN := Lib.hid (show ¬ bkR wait l from fun h => c2 (HST.out.1 h.2).1.2.1)
          clear c1 c2 HST
          go_wp2_with fail
          refine (sahead_any x a _).mono ?_
          rintro e w1 ⟨rfl, rfl⟩
          rw [d1]
          go_wp2_with fail
          refine (sahead_any y x _).mono ?_
          rintro e w1 ⟨rfl, rfl⟩
          rw [d2]
          go_wp2_with fail
          go_ret
          exact ⟨BRP.no HN.out, BA.out⟩
      · have d1 : decide (0 < sd x a) = false := decide_eq_false c1
        have HN := Lib.hid (show ¬ bkR wait l from fun h => c1 (HST.out.1 h.2).1.1)
        clear c1 HST
        go_wp2_with fail
        refine (sahead_any x a _).mono ?_
        rintro e w1 ⟨rfl, rfl⟩
        rw [d1]
        go_wp2_with fail
        go_ret
        exact ⟨BRP.no HN.out, BA.out⟩
    · have hge : ¬ (k : Int) < (n : Int) := by omega
      have HF := Lib.hid (show bkR wait l from ⟨by rw [HL.out]; omega, hgo.out.2 (by rw [List.drop_of_length_le (by rw [HL.out]; omega)]; trivial)⟩)
      clear hgo
      go_wp2_with fail
      go_ret
      exact ⟨⟨true, rfl, fun _ => HF.out, fun _ => rfl⟩, hbw⟩
end Go.Proofs.Ytpnnadnmkiobcaa
