/- Package addrs: a table in memory; what is asked of it. -/
import Derived.Test.YtdcpmfodkggpeaaAdM
import Derived.Test.YtdcpmfodkggpeaaAdSl
import Derived.Test.YtdcpmfodkggpeaaBkt1
import Derived.Test.YtdcpmfodkggpeaaOrd
import Derived.Test.YtdcpmfodkggpeaaQx
import Derived.Test.YtdcpmfodkggpeaaOwnNt
import Derived.Test.YtdcpmfodkggpeaaTou
import Derived.Test.YtdcpmfodkggpeaaStm
import Derived.Deep.Cut
import Derived.LoopTactic
import Derived.Shelf.GgClosure.Gives
namespace Go.Proofs.Ytdcpmfodkggpeaa
open Go.RowKit
set_option linter.unusedVariables false
set_option linter.unusedSimpArgs false
def iz : Unit := ()
/-- A table in memory: its block, its bucket's, the slice of its offers. -/
structure TB (w : World) (B g b : Nat) (v : Value) (most paths left : Nat) (l : List (Int × Int)) : Prop where
  bg : B ≤ g
  bb : B ≤ b
  ne : g ≠ b
  hw : B ≤ w.heap.size
  blk : Blk w g 28 #[.pointer (some ⟨b, 0, none⟩), .int .i64 (most : Nat), .int .i64 (paths : Nat), v]
  bkt : Bkt w b 64 1 left
  row : Pzs w 36 B v l
/-- Of what was there nothing has turned but a table: its block, its bucket's, its row. -/
structure KT (g b : Nat) (v v' : Value) (w w' : World) : Prop where
  os : w'.os = w.os
  tape : w'.tape = w.tape
  output : w'.output = w.output
  size : w.heap.size ≤ w'.heap.size
  same : ∀ k, k < w.heap.size → k ≠ g → k ≠ b → v.ownBlock ≠ some k → w'.heap[k]? = w.heap[k]?
  new : NewOr v v' w
section
variable {w w' w2 : World} {B g b most paths left : Nat} {v v' v2 : Value} {l : List (Int × Int)}
theorem KT.refl (g b : Nat) (v : Value) (w : World) : KT g b v v w w := ⟨rfl, rfl, rfl, Nat.le_refl _, fun _ _ _ _ _ => rfl, NewOr.same rfl⟩
theorem KT.trans (h : KT g b v v' w w') (k : KT g b v' v2 w' w2) : KT g b v v2 w w2 :=
  ⟨k.os.trans h.os, k.tape.trans h.tape, k.output.trans h.output, Nat.le_trans h.size k.size, fun i hi h1 h2 h3 => by
    rw [k.same i (Nat.lt_of_lt_of_le hi h.size) h1 h2 fun e => ?_, h.same i hi h1 h2 h3]
    rcases h.new i e with h4 | h4
    · exact h3 h4
    · omega, fun i hi => by
    rcases k.new i hi with h4 | h4
    · exact h.new i h4
    · exact .inr (Nat.le_trans h.size h4)⟩
theorem KT.of (h : Below w.heap.size w w') : KT g b v v w w' := ⟨h.os, h.tape, h.output, h.size, fun k hk _ _ _ => h.block k hk, NewOr.same rfl⟩
theorem TB.below (h : TB w B g b v most paths left l) (k : KT g b v v' w w') : Below B w w' :=
  ⟨k.os, k.tape, k.output, k.size, fun i hi => k.same i (Nat.lt_of_lt_of_le hi h.hw) (by have := h.bg; omega) (by have := h.bb; omega) fun e => by have := (World.ownsRow.lt h.row i e).1; omega⟩
theorem TB.into (h : TB w B g b v most paths left l) (hb : Below w.heap.size w w') : TB w' B g b v most paths left l :=
  ⟨h.bg, h.bb, h.ne, Nat.le_trans h.hw hb.size, h.blk.below hb h.blk.lt, Blk.below h.bkt hb (Blk.lt h.bkt), h.row.below hb⟩
theorem TB.c0 (h : TB w B g b v most paths left l) : w.cell? ⟨g, 0, none⟩ = some (.pointer (some ⟨b, 0, none⟩)) := by rw [h.blk.cell]; rfl
theorem TB.c1 (h : TB w B g b v most paths left l) : w.cell? ⟨g, 1, none⟩ = some (.int .i64 (most : Nat)) := by rw [h.blk.cell]; rfl
theorem TB.c2 (h : TB w B g b v most paths left l) : w.cell? ⟨g, 2, none⟩ = some (.int .i64 (paths : Nat)) := by rw [h.blk.cell]; rfl
theorem TB.c3 (h : TB w B g b v most paths left l) : w.cell? ⟨g, 3, none⟩ = some v := by rw [h.blk.cell]; rfl
theorem TB.vform (h : TB w B g b v most paths left l) : ∃ A n c, v = .slice A n c ∧ l.length = n ∧ n ≤ c := by
  obtain ⟨A, n, c, hv, h1, _, h2, _⟩ := h.row.out
  exact ⟨A, n, c, hv, h2.out, h1⟩
theorem TB.rd {A : Option Addr} {n c : Nat} (h : TB w B g b (.slice A n c) most paths left l) : Rd w w.heap.size 2 A n (pz l) := by
  obtain ⟨A2, n2, c2, hv, _, _, _, h3⟩ := h.row.out
  injection hv with e1 e2 e3
  subst e1 e2 e3
  exact h3.out
/-- A block of another type is neither of a table's. -/
theorem KT.blk {k : Nat} {t : TypeId} {cs : Array Value} (h : KT g b v v' w w') (hT : TB w B g b v most paths left l) (hb : Blk w k t cs) (h1 : t ≠ 28) (h2 : t ≠ 65) (h3 : 36 ≠ t) : Blk w' k t cs :=
  (h.same k hb.lt (blk_nt hb hT.blk h1) (blk_nt hb hT.bkt h2) (own_nt hT.row hb h3)).trans hb
end
theorem adOwn1 : ∀ (l : List (Int × Int)), ∀ v ∈ pz l, v.oneCell' = true := pz_one
theorem ad_eq (x y z u : Int) (w : World) : (binOp .eql 36 (.agg #[.int .i64 x, .int .i64 y]) (.agg #[.int .i64 z, .int .i64 u])).run Try.prog w = .ok (.bool (decide ((x, y) = (z, u)))) w := by
  have h : (Op.equalIn 10000 36 (.agg #[.int .i64 x, .int .i64 y]) (.agg #[.int .i64 z, .int .i64 u])).run Try.prog w = .ok (decide ((x, y) = (z, u))) w := by
    rw [show (10000 : Nat) = 9999 + 1 from rfl, run_equalIn_agg w 9999 36 _ _ (by kernel_rfl) (by kernel_rfl)]
    by_cases h1 : x = z
    · by_cases h2 : y = u
      · subst h1 h2; simp [go_sem]
      · subst h1; simp [go_sem, h2]
    · simp [go_sem, h1]
  rw [run_eql_struct, h]
  rfl
set_option maxRecDepth 20000 in
set_option maxHeartbeats 4000000 in
theorem ad_may (B g b : Nat) (v : Value) (most paths left : Nat) (l : List (Int × Int)) (x y : Int) (w : World) (h : TB w B g b v most paths left l) :
    Calls Try.prog 29 #[.pointer (some ⟨g, 0, none⟩), .agg #[.int .i64 x, .int .i64 y]] w fun e w' => e = .returned (.bool (mayB paths (x, y))) ∧ Below w.heap.size w w' := by
  have K1 := Blk.new w 36 #[.int .i64 x, .int .i64 y]
  have hb1 := (Below.refl w.heap.size w).alloc (Nat.le_refl _) (.cells #[.int .i64 x, .int .i64 y] 36)
  have B1 := Lib.hid hb1
  have c2 := (h.into hb1).c2
  have a0 : (w.alloc (.cells #[.int .i64 x, .int .i64 y] 36)).cell? ⟨w.heap.size, 0, none⟩ = some (.int .i64 x) := by rw [K1.cell]; rfl
  have a1 : (w.alloc (.cells #[.int .i64 x, .int .i64 y] 36)).cell? ⟨w.heap.size, 1, none⟩ = some (.int .i64 y) := by rw [K1.cell]; rfl
  unfold mayB
  clear h hb1 K1
  by_cases h0 : 0 ≤ x
  · have d0 : decide (0 ≤ x) = true := decide_eq_true h0
    rw [d0]
    by_cases h1 : x ≤ 255
    · have d1 : decide (x ≤ 255) = true := decide_eq_true h1
      rw [d1]
      by_cases h2 : 0 ≤ y
      · have d2 : decide (0 ≤ y) = true := decide_eq_true h2
        rw [d2]
        by_cases h3 : y < (paths : Int)
        · have d3 : decide (y < (paths : Int)) = true := decide_eq_true h3
          rw [d3]
          go_enter Try.func29, Try.ntmps29
          go_upto_region 1 with fail
          refine wp_ext (by kernel_rfl) (by kernel_rfl) (fun QQ hQ => ?_)
          iterate 23 (first | (refine x_skip (by rfl) ?_; simp only [Act.put, List.setIfInBounds_toArray, List.set_cons_zero, List.set_cons_succ]) | (first | (refine x_load _ (by rfl) rfl rfl (by assumption) (by kernel_rfl) ?_; simp only [Act.put, List.setIfInBounds_toArray, List.set_cons_zero, List.set_cons_succ]) | (refine x_val (v := ?_) (by rfl) (fun w' hx => ?_) ?_; rotate_left; (focus (go_simp; (try with_reducible rfl))); (try simp only [Act.put, List.setIfInBounds_toArray, List.set_cons_zero, List.set_cons_succ]))))
          refine x_nil (hQ.out _ ?_); clear hQ QQ
          intro w3 hb
          have B3 := Lib.hid (B1.out.trans (hb.mono B1.out.size))
          clear hb
          go_wp2_with fail
          go_ret
          exact ⟨by simp, B3.out⟩
        · have d3 : decide (y < (paths : Int)) = false := decide_eq_false h3
          rw [d3]
          go_enter Try.func29, Try.ntmps29
          go_upto_region 1 with fail
          refine wp_ext (by kernel_rfl) (by kernel_rfl) (fun QQ hQ => ?_)
          iterate 23 (first | (refine x_skip (by rfl) ?_; simp only [Act.put, List.setIfInBounds_toArray, List.set_cons_zero, List.set_cons_succ]) | (first | (refine x_load _ (by rfl) rfl rfl (by assumption) (by kernel_rfl) ?_; simp only [Act.put, List.setIfInBounds_toArray, List.set_cons_zero, List.set_cons_succ]) | (refine x_val (v := ?_) (by rfl) (fun w' hx => ?_) ?_; rotate_left; (focus (go_simp; (try with_reducible rfl))); (try simp only [Act.put, List.setIfInBounds_toArray, List.set_cons_zero, List.set_cons_succ]))))
          refine x_nil (hQ.out _ ?_); clear hQ QQ
          intro w3 hb
          have B3 := Lib.hid (B1.out.trans (hb.mono B1.out.size))
          clear hb
          go_wp2_with fail
          go_ret
          exact ⟨by simp, B3.out⟩
      · have d2 : decide (0 ≤ y) = false := decide_eq_false h2
        rw [d2]
        go_enter Try.func29, Try.ntmps29
        go_upto_region 1 with fail
        refine wp_ext (by kernel_rfl) (by kernel_rfl) (fun QQ hQ => ?_)
        iterate 23 (first | (refine x_skip (by rfl) ?_; simp only [Act.put, List.setIfInBounds_toArray, List.set_cons_zero, List.set_cons_succ]) | (first | (refine x_load _ (by rfl) rfl rfl (by assumption) (by kernel_rfl) ?_; simp only [Act.put, List.setIfInBounds_toArray, List.set_cons_zero, List.set_cons_succ]) | (refine x_val (v := ?_) (by rfl) (fun w' hx => ?_) ?_; rotate_left; (focus (go_simp; (try with_reducible rfl))); (try simp only [Act.put, List.setIfInBounds_toArray, List.set_cons_zero, List.set_cons_succ]))))
        refine x_nil (hQ.out _ ?_); clear hQ QQ
        intro w3 hb
        have B3 := Lib.hid (B1.out.trans (hb.mono B1.out.size))
        clear hb
        go_wp2_with fail
        go_ret
        exact ⟨by simp, B3.out⟩
    · have d1 : decide (x ≤ 255) = false := decide_eq_false h1
      rw [d1]
      go_enter Try.func29, Try.ntmps29
      go_upto_region 1 with fail
      refine wp_ext (by kernel_rfl) (by kernel_rfl) (fun QQ hQ => ?_)
      iterate 23 (first | (refine x_skip (by rfl) ?_; simp only [Act.put, List.setIfInBounds_toArray, List.set_cons_zero, List.set_cons_succ]) | (first | (refine x_load _ (by rfl) rfl rfl (by assumption) (by kernel_rfl) ?_; simp only [Act.put, List.setIfInBounds_toArray, List.set_cons_zero, List.set_cons_succ]) | (refine x_val (v := ?_) (by rfl) (fun w' hx => ?_) ?_; rotate_left; (focus (go_simp; (try with_reducible rfl))); (try simp only [Act.put, List.setIfInBounds_toArray, List.set_cons_zero, List.set_cons_succ]))))
      refine x_nil (hQ.out _ ?_); clear hQ QQ
      intro w3 hb
      have B3 := Lib.hid (B1.out.trans (hb.mono B1.out.size))
      clear hb
      go_wp2_with fail
      go_ret
      exact ⟨by simp, B3.out⟩
  · have d0 : decide (0 ≤ x) = false := decide_eq_false h0
    rw [d0]
    go_enter Try.func29, Try.ntmps29
    go_upto_region 1 with fail
    refine wp_ext (by kernel_rfl) (by kernel_rfl) (fun QQ hQ => ?_)
    iterate 23 (first | (refine x_skip (by rfl) ?_; simp only [Act.put, List.setIfInBounds_toArray, List.set_cons_zero, List.set_cons_succ]) | (first | (refine x_load _ (by rfl) rfl rfl (by assumption) (by kernel_rfl) ?_; simp only [Act.put, List.setIfInBounds_toArray, List.set_cons_zero, List.set_cons_succ]) | (refine x_val (v := ?_) (by rfl) (fun w' hx => ?_) ?_; rotate_left; (focus (go_simp; (try with_reducible rfl))); (try simp only [Act.put, List.setIfInBounds_toArray, List.set_cons_zero, List.set_cons_succ]))))
    refine x_nil (hQ.out _ ?_); clear hQ QQ
    intro w3 hb
    have B3 := Lib.hid (B1.out.trans (hb.mono B1.out.size))
    clear hb
    go_wp2_with fail
    go_ret
    exact ⟨by simp, B3.out⟩
set_option maxRecDepth 20000 in
set_option maxHeartbeats 4000000 in
theorem ad_pl1 (id x y : Int) (k : Nat) (w : World) (hk : Blk w k 3 #[.int .i64 id]) :
    Calls Try.prog 36 #[.agg #[.int .i64 x, .int .i64 y], .pointer (some ⟨k, 0, none⟩)] w fun e w' => e = .returned (.bool (decide (x = id))) ∧ Below w.heap.size w w' := by
  have K1 := Blk.new w 36 #[.int .i64 x, .int .i64 y]
  have hb1 := (Below.refl w.heap.size w).alloc (Nat.le_refl _) (.cells #[.int .i64 x, .int .i64 y] 36)
  have B1 := Lib.hid hb1
  have c0 : (w.alloc (.cells #[.int .i64 x, .int .i64 y] 36)).cell? ⟨k, 0, none⟩ = some (.int .i64 id) := by rw [(hk.below hb1 hk.lt).cell]; rfl
  have a0 : (w.alloc (.cells #[.int .i64 x, .int .i64 y] 36)).cell? ⟨w.heap.size, 0, none⟩ = some (.int .i64 x) := by rw [K1.cell]; rfl
  clear hk hb1 K1
  by_cases h : x = id
  · have h1 : (x == id) = true := by simpa using h
    rw [decide_eq_true h]
    clear h
    go_enter Try.func36, Try.ntmps36
    go_wp2
    go_ret
    exact ⟨by simp, B1.out⟩
  · have h1 : (x == id) = false := by simpa using h
    rw [decide_eq_false h]
    clear h
    go_enter Try.func36, Try.ntmps36
    go_wp2
    go_ret
    exact ⟨by simp, B1.out⟩
/-- What is answered of a place: its number, or -1. -/
def plI (l : List (Int × Int)) (id : Int) : Int := if atI l id < l.length then (atI l id : Int) else -1
theorem plI_hit {l : List (Int × Int)} {id : Int} {k : Nat} {a : Int × Int} (ha : l[k]? = some a) (hid : a.1 = id) (hb : ∀ b ∈ l.take k, b.1 ≠ id) : plI l id = (k : Int) := by
  unfold plI
  rw [atI_of ha hid hb, if_pos (List.getElem?_eq_some_iff.1 ha).1]
theorem plI_no {l : List (Int × Int)} {id : Int} (hb : ∀ b ∈ l, b.1 ≠ id) : plI l id = -1 := by
  unfold plI
  rw [atI_none hb, if_neg (Nat.lt_irrefl _)]
theorem take_ne {l : List (Int × Int)} {k : Nat} {a : Int × Int} {P : Int × Int → Prop} (ha : l[k]? = some a) (hb : ∀ b ∈ l.take k, P b) (h : P a) : ∀ b ∈ l.take (k + 1), P b := by
  intro b hm
  rw [List.take_add_one, ha] at hm
  rcases List.mem_append.1 hm with hm | hm
  · exact hb b hm
  · have hm' : b = a := by simpa using hm
    rw [hm']
    exact h
set_option maxRecDepth 20000 in
set_option maxHeartbeats 4000000 in
theorem ad_index (A : Option Addr) (n c k0 : Nat) (id : Int) (l : List (Int × Int)) (w : World) (hr : Rd w w.heap.size 2 A n (pz l)) (hl : n ≤ 1000) (hk : Blk w k0 3 #[.int .i64 id]) :
    Calls Try.prog 35 #[.slice A n c, .func (.func 36) #[] #[.pointer (some ⟨k0, 0, none⟩)]] w fun e w' => e = .returned (.int .i64 (plI l id)) ∧ Below w.heap.size w w' := by
  have HR := Lib.hid hr
  have HN := Lib.hid hr.pzLen
  have HK := Lib.hid hk
  clear hr hk
  go_enter Try.func35, Try.ntmps35
  go_wp2_with fail
  go_loopw [8] (fun iv wr => ∃ (k : Nat) , k ≤ n ∧ iv = .int .i64 (k : Nat) ∧ Hid (Below w.heap.size w wr) ∧ Hid (∀ d ∈ l.take k, d.1 ≠ id)) (fun iv _ => n - (intOf iv).toNat)
  case atStart => exact ⟨0, Nat.zero_le _, rfl, Lib.hid (Below.refl _ _), Lib.hid (by simp)⟩
  case round =>
    obtain ⟨k, hk, rfl, BB, HA⟩ := hrel
    by_cases hlt : k < n
    · have hlt' : (k : Int) < (n : Int) := by omega
      have hk0 : ¬ (k : Int) < 0 := by omega
      obtain ⟨rb, off, x, y, hA, hrb, hx, hy, HX⟩ := HR.out.pz hlt
      subst hA
      have a0 := (BB.out.cell (p := ⟨rb, off + k * 2, none⟩) hrb).trans hx
      have a1 := (BB.out.cell (p := ⟨rb, off + k * 2 + 1, none⟩) hrb).trans hy
      have HP := Lib.hid (ad_pl1 id x y k0 wr (HK.out.below BB.out HK.out.lt))
      clear hx hy
      by_cases hid : x = id
      · rw [decide_eq_true hid] at HP
        have HI := Sh.mk (plI_hit HX.out hid HA.out)
        clear hid
        go_wp2_with fail
        refine HP.out.mono ?_
        rintro e w3 ⟨rfl, hb3⟩
        have B3 := Lib.hid (BB.out.trans (hb3.mono BB.out.size))
        clear hb3 a0 a1 HP
        go_wp2_with fail
        go_ret
        exact ⟨by rw [HI.out]; simp, B3.out⟩
      · rw [decide_eq_false hid] at HP
        have HA2 := Lib.hid (take_ne (P := fun d => d.1 ≠ id) HX.out HA.out hid)
        clear hid
        go_wp2_with fail
        refine HP.out.mono ?_
        rintro e w3 ⟨rfl, hb3⟩
        have B3 := Lib.hid (BB.out.trans (hb3.mono BB.out.size))
        clear hb3 a0 a1 HP
        go_wp2_with fail
        go_roundw
        case rel => exact ⟨k + 1, by omega, by go_num, B3, HA2⟩
        case measure => simp [intOf]; omega
    · obtain rfl : k = n := by omega
      have HI := Sh.mk (plI_no (l := l) (id := id) (by have := HA.out; rw [List.take_of_length_le (by rw [HN.out]; exact Nat.le_refl _)] at this; exact this))
      clear hlt
      go_wp2_with fail
      go_ret
      exact ⟨by rw [HI.out]; rfl, BB.out⟩
set_option maxRecDepth 20000 in
set_option maxHeartbeats 4000000 in
theorem ad_place (B g b : Nat) (v : Value) (most paths left : Nat) (l : List (Int × Int)) (id : Int) (w : World) (h : TB w B g b v most paths left l) (hl : l.length ≤ 1000) :
    Calls Try.prog 25 #[.pointer (some ⟨g, 0, none⟩), .int .i64 id] w fun e w' => e = .returned (.int .i64 (plI l id)) ∧ Below w.heap.size w w' := by
  have hmf : ∀ (fn : Fn) (first cap : Array Value) (w : World), (Instr.makeFunc fn first cap).run Try.prog w = .ok (.func fn first cap) w := fun _ _ _ _ => rfl
  obtain ⟨A, n, c, rfl, hn, _⟩ := h.vform
  have hb1 := (Below.refl w.heap.size w).alloc (Nat.le_refl _) (.cells #[.int .i64 id] 3)
  have B1 := Lib.hid hb1
  have HI := Lib.hid (ad_index A n c w.heap.size id l (w.alloc (.cells #[.int .i64 id] 3)) (h.into hb1).rd (by omega) (Blk.new _ _ _))
  have c3 := (h.into hb1).c3
  clear h hl hn hb1
  go_enter Try.func25, Try.ntmps25
  go_wp2_with fail
  refine HI.out.mono ?_
  rintro e w3 ⟨rfl, hb3⟩
  have B3 := Lib.hid (B1.out.trans (hb3.mono B1.out.size))
  clear hb3 c3 HI
  go_wp2_with fail
  go_ret
  exact ⟨rfl, B3.out⟩
/-- Is it among them? what Index says. -/
def ixP (l : List (Int × Int)) (a : Int × Int) (i : Int) : Prop := (0 ≤ i ∧ a ∈ l) ∨ (i = -1 ∧ ¬ a ∈ l)
set_option maxRecDepth 20000 in
set_option maxHeartbeats 4000000 in
theorem ad_ix (A : Option Addr) (n c : Nat) (z u : Int) (l : List (Int × Int)) (w : World) (hr : Rd w w.heap.size 2 A n (pz l)) (hl : n ≤ 1000) :
    Calls Try.prog 37 #[.slice A n c, .agg #[.int .i64 z, .int .i64 u]] w fun e w' => (∃ i, e = .returned (.int .i64 i) ∧ ixP l (z, u) i) ∧ Below w.heap.size w w' := by
  have HR := Lib.hid hr
  have HN := Lib.hid hr.pzLen
  have K0 := Lib.hid (Blk.new w 36 #[.int .i64 z, .int .i64 u])
  have B0 := Lib.hid ((Below.refl w.heap.size w).alloc (Nat.le_refl _) (.cells #[.int .i64 z, .int .i64 u] 36))
  clear hr
  go_enter Try.func37, Try.ntmps37
  go_upto_region 1 with fail
  generalize w.alloc (.cells #[.int .i64 z, .int .i64 u] 36) = w1 at K0 B0 ⊢
  obtain ⟨X, hX⟩ : ∃ X, X = w.heap.size := ⟨_, rfl⟩
  have HX0 := Sh.mk hX
  rw [← hX] at K0 ⊢
  clear hX
  go_wp2_with fail
  go_loopw [8] (fun iv wr => ∃ (k : Nat) , k ≤ n ∧ iv = .int .i64 (k : Nat) ∧ Hid (Below w.heap.size w wr) ∧ Hid (Blk wr X 36 #[.int .i64 z, .int .i64 u]) ∧ Hid (∀ d ∈ l.take k, d ≠ (z, u))) (fun iv _ => n - (intOf iv).toNat)
  case atStart => exact ⟨0, Nat.zero_le _, rfl, B0, K0, Lib.hid (by simp)⟩
  case round =>
    clear B0 K0
    obtain ⟨k, hk, rfl, BB, K0, HA⟩ := hrel
    by_cases hlt : k < n
    · have hlt' : (k : Int) < (n : Int) := by omega
      have hk0 : (0 : Int) ≤ (k : Int) := by omega
      obtain ⟨rb, off, x, y, hA, hrb, hx, hy, HX⟩ := HR.out.pz hlt
      subst hA
      have LX := Lib.hid (show ∀ j v, [Value.int .i64 x, .int .i64 y][j]? = some v → wr.cell? ⟨rb, off + k * 2 + j, none⟩ = some v from fun j v hj => by
        match j, hj with
        | 0, hj => exact ((BB.out.cell (p := ⟨rb, off + k * 2, none⟩) hrb).trans hx).trans hj
        | 1, hj => exact ((BB.out.cell (p := ⟨rb, off + k * 2 + 1, none⟩) hrb).trans hy).trans hj)
      clear hx hy
      have EQ := ad_eq z u x y
      by_cases hid : (z, u) = (x, y)
      · rw [decide_eq_true hid] at EQ
        have HI := Sh.mk (show (z, u) ∈ l by rw [hid]; exact List.mem_of_getElem? HX.out)
        clear hid
        go_wp2_with fail
        refine wp_ext (by kernel_rfl) (by kernel_rfl) (fun QQ hQ => ?_)
        refine x_loads _ [.int .i64 z, .int .i64 u] (by rfl) rfl rfl (K0.out.loads 0 _ (by rfl)) (Nat.succ_pos _) (by kernel_rfl) (by kernel_rfl) ?_; simp only [Act.put, List.setIfInBounds_toArray, List.set_cons_zero, List.set_cons_succ]
        (first | (refine x_load _ (by rfl) rfl rfl (by assumption) (by kernel_rfl) ?_; simp only [Act.put, List.setIfInBounds_toArray, List.set_cons_zero, List.set_cons_succ]) | (refine x_val (v := ?_) (by rfl) (fun w' hx => ?_) ?_; rotate_left; (focus (go_simp; (try with_reducible rfl))); (try simp only [Act.put, List.setIfInBounds_toArray, List.set_cons_zero, List.set_cons_succ])))
        (first | (refine x_load _ (by rfl) rfl rfl (by assumption) (by kernel_rfl) ?_; simp only [Act.put, List.setIfInBounds_toArray, List.set_cons_zero, List.set_cons_succ]) | (refine x_val (v := ?_) (by rfl) (fun w' hx => ?_) ?_; rotate_left; (focus (go_simp; (try with_reducible rfl))); (try simp only [Act.put, List.setIfInBounds_toArray, List.set_cons_zero, List.set_cons_succ])))
        (first | (refine x_load _ (by rfl) rfl rfl (by assumption) (by kernel_rfl) ?_; simp only [Act.put, List.setIfInBounds_toArray, List.set_cons_zero, List.set_cons_succ]) | (refine x_val (v := ?_) (by rfl) (fun w' hx => ?_) ?_; rotate_left; (focus (go_simp; (try with_reducible rfl))); (try simp only [Act.put, List.setIfInBounds_toArray, List.set_cons_zero, List.set_cons_succ])))
        refine x_loads _ [.int .i64 x, .int .i64 y] (by rfl) rfl rfl (LX.out) (Nat.succ_pos _) (by kernel_rfl) (by kernel_rfl) ?_; simp only [Act.put, List.setIfInBounds_toArray, List.set_cons_zero, List.set_cons_succ]
        (first | (refine x_load _ (by rfl) rfl rfl (by assumption) (by kernel_rfl) ?_; simp only [Act.put, List.setIfInBounds_toArray, List.set_cons_zero, List.set_cons_succ]) | (refine x_val (v := ?_) (by rfl) (fun w' hx => ?_) ?_; rotate_left; (focus (go_simp; (try with_reducible rfl))); (try simp only [Act.put, List.setIfInBounds_toArray, List.set_cons_zero, List.set_cons_succ])))
        refine x_nil (hQ.out _ ?_); clear hQ QQ
        intro w3 hb3
        have B3 := Lib.hid (BB.out.trans (hb3.mono BB.out.size))
        clear hb3
        go_wp2_with fail
        go_ret
        exact ⟨⟨_, rfl, .inl ⟨by omega, HI.out⟩⟩, B3.out⟩
      · rw [decide_eq_false hid] at EQ
        have HA2 := Lib.hid (take_ne (P := fun d => d ≠ (z, u)) HX.out HA.out (fun e => hid e.symm))
        clear hid
        go_wp2_with fail
        refine wp_ext (by kernel_rfl) (by kernel_rfl) (fun QQ hQ => ?_)
        refine x_loads _ [.int .i64 z, .int .i64 u] (by rfl) rfl rfl (K0.out.loads 0 _ (by rfl)) (Nat.succ_pos _) (by kernel_rfl) (by kernel_rfl) ?_; simp only [Act.put, List.setIfInBounds_toArray, List.set_cons_zero, List.set_cons_succ]
        (first | (refine x_load _ (by rfl) rfl rfl (by assumption) (by kernel_rfl) ?_; simp only [Act.put, List.setIfInBounds_toArray, List.set_cons_zero, List.set_cons_succ]) | (refine x_val (v := ?_) (by rfl) (fun w' hx => ?_) ?_; rotate_left; (focus (go_simp; (try with_reducible rfl))); (try simp only [Act.put, List.setIfInBounds_toArray, List.set_cons_zero, List.set_cons_succ])))
        (first | (refine x_load _ (by rfl) rfl rfl (by assumption) (by kernel_rfl) ?_; simp only [Act.put, List.setIfInBounds_toArray, List.set_cons_zero, List.set_cons_succ]) | (refine x_val (v := ?_) (by rfl) (fun w' hx => ?_) ?_; rotate_left; (focus (go_simp; (try with_reducible rfl))); (try simp only [Act.put, List.setIfInBounds_toArray, List.set_cons_zero, List.set_cons_succ])))
        (first | (refine x_load _ (by rfl) rfl rfl (by assumption) (by kernel_rfl) ?_; simp only [Act.put, List.setIfInBounds_toArray, List.set_cons_zero, List.set_cons_succ]) | (refine x_val (v := ?_) (by rfl) (fun w' hx => ?_) ?_; rotate_left; (focus (go_simp; (try with_reducible rfl))); (try simp only [Act.put, List.setIfInBounds_toArray, List.set_cons_zero, List.set_cons_succ])))
        refine x_loads _ [.int .i64 x, .int .i64 y] (by rfl) rfl rfl (LX.out) (Nat.succ_pos _) (by kernel_rfl) (by kernel_rfl) ?_; simp only [Act.put, List.setIfInBounds_toArray, List.set_cons_zero, List.set_cons_succ]
        (first | (refine x_load _ (by rfl) rfl rfl (by assumption) (by kernel_rfl) ?_; simp only [Act.put, List.setIfInBounds_toArray, List.set_cons_zero, List.set_cons_succ]) | (refine x_val (v := ?_) (by rfl) (fun w' hx => ?_) ?_; rotate_left; (focus (go_simp; (try with_reducible rfl))); (try simp only [Act.put, List.setIfInBounds_toArray, List.set_cons_zero, List.set_cons_succ])))
        refine x_nil (hQ.out _ ?_); clear hQ QQ
        intro w3 hb3
        have B3 := Lib.hid (BB.out.trans (hb3.mono BB.out.size))
        have K3 := Lib.hid (K0.out.below hb3 K0.out.lt)
        clear hb3
        go_wp2_with fail
        go_roundw
        case rel => exact ⟨k + 1, by omega, by go_num, B3, K3, HA2⟩
        case measure => simp [intOf]; omega
    · obtain rfl : k = n := by omega
      have HI := Sh.mk (show ¬ (z, u) ∈ l from fun hm => by
        have := HA.out
        rw [List.take_of_length_le (by rw [HN.out]; exact Nat.le_refl _)] at this
        exact this _ hm rfl)
      clear hlt
      go_wp2_with fail
      go_ret
      exact ⟨⟨_, rfl, .inr ⟨rfl, HI.out⟩⟩, BB.out⟩
set_option maxRecDepth 20000 in
set_option maxHeartbeats 4000000 in
theorem ad_contains (A : Option Addr) (n c : Nat) (z u : Int) (l : List (Int × Int)) (w : World) (hr : Rd w w.heap.size 2 A n (pz l)) (hl : n ≤ 1000) :
    Calls Try.prog 30 #[.slice A n c, .agg #[.int .i64 z, .int .i64 u]] w fun e w' => e = .returned (.bool (decide ((z, u) ∈ l))) ∧ Below w.heap.size w w' := by
  have hb1 := (Below.refl w.heap.size w).alloc (Nat.le_refl _) (.cells #[.int .i64 z, .int .i64 u] 36)
  have B1 := Lib.hid hb1
  have K1 := Blk.new w 36 #[.int .i64 z, .int .i64 u]
  have HI := Lib.hid (ad_ix A n c z u l (w.alloc (.cells #[.int .i64 z, .int .i64 u] 36)) ((hr.below hb1).mono hb1.size) hl)
  have a0 : (w.alloc (.cells #[.int .i64 z, .int .i64 u] 36)).cell? ⟨w.heap.size, 0, none⟩ = some (.int .i64 z) := by rw [K1.cell]; rfl
  have a1 : (w.alloc (.cells #[.int .i64 z, .int .i64 u] 36)).cell? ⟨w.heap.size, 1, none⟩ = some (.int .i64 u) := by rw [K1.cell]; rfl
  clear hr hl hb1 K1
  go_enter Try.func30, Try.ntmps30
  go_wp2_with fail
  refine HI.out.mono ?_
  rintro e w3 ⟨⟨i, rfl, hi⟩, hb3⟩
  have B3 := Lib.hid (B1.out.trans (hb3.mono B1.out.size))
  clear hb3 a0 a1 HI
  rcases hi with ⟨h0, hm⟩ | ⟨h0, hm⟩
  · have HD := Sh.mk (decide_eq_true hm)
    have h1 : decide (0 ≤ i) = true := decide_eq_true h0
    clear hm
    go_wp2_with fail
    go_ret
    exact ⟨by rw [HD.out]; simp [h0], B3.out⟩
  · have HD := Sh.mk (decide_eq_false hm)
    subst h0
    clear hm
    go_wp2_with fail
    go_ret
    exact ⟨by rw [HD.out]; simp, B3.out⟩
theorem TB.solo {w w' : World} {B g b most paths left k : Nat} {v : Value} {l : List (Int × Int)} (h : TB w B g b v most paths left l) (hk : Bkt w' b 64 1 k) (hs : Solo b w w') : TB w' B g b v most paths k l :=
  ⟨h.bg, h.bb, h.ne, by rw [hs.2.1]; exact h.hw, hs.blk h.blk h.ne, hk, own_kept h.row fun q hq => hs.2.2 q fun e => own_nt h.row h.bkt (by decide) (by rw [hq, e])⟩
theorem KT.ofb {w w' : World} {g b : Nat} {v : Value} (h : Solo b w w') : KT g b v v w w' := ⟨h.1.os, h.1.tape, h.1.output, Nat.le_of_eq h.2.1.symm, fun k _ _ h2 _ => h.2.2 k h2, NewOr.same rfl⟩
set_option maxRecDepth 20000 in
set_option maxHeartbeats 4000000 in
theorem ad_pay_no (B g b : Nat) (v : Value) (most paths left : Nat) (l : List (Int × Int)) (w : World) (h : TB w B g b v most paths left l) (hl : left < 16) :
    Calls Try.prog 31 #[.pointer (some ⟨g, 0, none⟩)] w fun e w' => e = .returned (.bool false) ∧ w' = w := by
  have c0 := h.c0
  have HL := Lib.hid (bkt_left b 64 1 left w h.bkt)
  have hl' : (left : Int) < 16 := by omega
  clear h
  go_enter Try.func31, Try.ntmps31
  go_wp2_with fail
  refine HL.out.mono ?_
  rintro e w3 ⟨rfl, hw⟩
  have hw := hw.symm
  subst hw
  go_wp2_with fail
  go_ret
  exact ⟨rfl, rfl⟩
set_option maxRecDepth 20000 in
set_option maxHeartbeats 4000000 in
theorem ad_pay_yes (B g b : Nat) (v : Value) (most paths left : Nat) (l : List (Int × Int)) (w : World) (h : TB w B g b v most paths left l) (hl : 16 ≤ left) (h64 : left ≤ 64) :
    Calls Try.prog 31 #[.pointer (some ⟨g, 0, none⟩)] w fun e w' => e = .returned (.bool true) ∧ Bkt w' b 64 1 (left - 16) ∧ Solo b w w' := by
  have c0 := h.c0
  have K0 := Lib.hid h.blk
  have NE := Lib.hid h.ne
  have HL := Lib.hid (bkt_left b 64 1 left w h.bkt)
  have HB := Lib.hid h.bkt
  have hl' : ¬ (left : Int) < 16 := by omega
  clear h
  go_enter Try.func31, Try.ntmps31
  go_wp2_with fail
  refine HL.out.mono ?_
  rintro e w3 ⟨rfl, hw⟩
  have hw := hw.symm
  subst hw
  go_wp2_with fail
  clear c0
  go_loopw [9] (fun iv wr => ∃ (k m : Nat) , k ≤ 16 ∧ m + k = left ∧ iv = .int .i64 (k : Nat) ∧ Hid (Bkt wr b 64 1 m) ∧ Hid (Solo b w wr)) (fun iv _ => 16 - (intOf iv).toNat)
  case atStart => exact ⟨0, left, Nat.zero_le _, rfl, rfl, HB, Lib.hid Solo.refl⟩
  case round =>
    clear HB
    obtain ⟨k, m, hk, hm, rfl, HB, HS⟩ := hrel
    have K1 := HS.out.blk K0.out NE.out
    have c0 : wr.cell? ⟨g, 0, none⟩ = some (.pointer (some ⟨b, 0, none⟩)) := by rw [K1.cell]; rfl
    clear K1
    by_cases hlt : k < 16
    · have hlt' : (k : Int) < 16 := by omega
      have HT := Lib.hid (bkt_take b 64 1 m wr HB.out (by omega))
      have hm1 : m - 1 + (k + 1) = left := by omega
      have HM := Sh.mk hm1
      clear hm hm1
      go_wp2_with fail
      refine HT.out.mono ?_
      rintro e w4 ⟨rfl, hb, hs⟩
      have HB4 := Lib.hid hb
      have HS4 := Lib.hid (HS.out.trans hs)
      clear hb hs HT HB HS c0
      go_wp2_with fail
      go_roundw
      case rel => exact ⟨k + 1, m - 1, by omega, HM.out, by go_num, HB4, HS4⟩
      case measure => simp [intOf]; omega
    · have hlt' : ¬ (k : Int) < 16 := by omega
      have HM := Sh.mk (show left - 16 = m by omega)
      clear hm
      go_wp2_with fail
      go_ret
      exact ⟨rfl, by rw [HM.out]; exact HB.out, HS.out⟩
end Go.Proofs.Ytdcpmfodkggpeaa
