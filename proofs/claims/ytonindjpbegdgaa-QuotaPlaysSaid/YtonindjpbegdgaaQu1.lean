/- Package quota: what its calls do. -/
import Derived.Test.YtonindjpbegdgaaQuM
import Derived.Test.YtonindjpbegdgaaTou
import Derived.Test.YtonindjpbegdgaaOrd
import Derived.Test.YtonindjpbegdgaaGhoP
import Derived.Test.YtonindjpbegdgaaGho2
import Derived.Test.YtonindjpbegdgaaPut
import Derived.Test.YtonindjpbegdgaaQx
import Derived.OwnWalk
import Derived.BigQuiet
import Derived.RegionTactic
import Derived.LoopTactic
import Derived.ChangeAlike
import Derived.Deep.Cut
namespace Go.Proofs.Ytonindjpbegdgaa
open Go.RowKit
set_option linter.unusedVariables false
set_option linter.unusedSimpArgs false
/-- Nothing of what was there has turned but two blocks. -/
structure Tw (g mb : Nat) (w w' : World) : Prop where
  os : w'.os = w.os
  tape : w'.tape = w.tape
  output : w'.output = w.output
  size : w.heap.size ≤ w'.heap.size
  same : ∀ k, k < w.heap.size → k ≠ g → k ≠ mb → w'.heap[k]? = w.heap[k]?
theorem Tw.refl (g mb : Nat) (w : World) : Tw g mb w w := ⟨rfl, rfl, rfl, Nat.le_refl _, fun _ _ _ _ => rfl⟩
theorem Tw.trans {g mb : Nat} {w w1 w2 : World} (h : Tw g mb w w1) (k : Tw g mb w1 w2) : Tw g mb w w2 :=
  ⟨k.os.trans h.os, k.tape.trans h.tape, k.output.trans h.output, Nat.le_trans h.size k.size, fun i hi a b => (k.same i (Nat.lt_of_lt_of_le hi h.size) a b).trans (h.same i hi a b)⟩
theorem Tw.of_below {g mb : Nat} {w w' : World} (h : Below w.heap.size w w') : Tw g mb w w' := ⟨h.os, h.tape, h.output, h.size, fun k hk _ _ => h.block k hk⟩
theorem Tw.of_tou {g mb : Nat} {w w' : World} (h : Tou g w w') : Tw g mb w w' := ⟨h.1.os, h.1.tape, h.1.output, h.1.size, fun k hk a _ => h.2 k hk a⟩
theorem Tw.of_map {g mb : Nat} {w w' : World} (h : w.mapTurned w' mb) : Tw g mb w w' := ⟨h.grown.os, h.grown.tape, h.grown.output, h.grown.size, fun k hk _ b => h.grown.block k hk fun e => b (by injection e)⟩
theorem Tw.below {B g mb : Nat} {w w' : World} (h : Tw g mb w w') (hB : B ≤ w.heap.size) (hg : B ≤ g) (hm : B ≤ mb) : Below B w w' := ⟨h.os, h.tape, h.output, h.size, fun k hk => h.same k (by omega) (by omega) (by omega)⟩
theorem Tw.blk {g mb k : Nat} {t : TypeId} {cs : Array Value} {w w' : World} (h : Tw g mb w w') (hb : Blk w k t cs) (hg : k ≠ g) (hm : k ≠ mb) : Blk w' k t cs := (h.same k hb.lt hg hm).trans hb
section
variable {P : Program} {w w' : World} {ops : Array Oper} {rest : List Oper} {o : Oper} {a : Act} {Q : Exit → Act → World → Prop}
theorem wpList_mapRun (hg : o.guard = none) (m x v : Operand) (t : TypeId) (hop : o.op = Op.mapUpdate t m x v) {mv key val : Value} (hm : a.eval m = mv) (hx : a.eval x = key) (hv : a.eval v = val) (hrun : (Instr.mapUpdate t mv key val).run P w = .ok () w') (h : wpList P ops Q rest (a.put o.dst undef) w') : wpList P ops Q (o :: rest) a w := by
  refine wpList_plain hg fun K' hK' => ?_
  unfold Oper.wp
  simp [execOp, hop, hm, hx, hv, hrun, Result.andThen]
  exact hK' _ _ h
end
structure PoolW (w : World) (g mb all each : Nat) (L : Ql) : Prop where
  blk : Blk w g 50 #[.int .i64 (all : Nat), .int .i64 (each : Nat), .int .i64 (usedQ L : Nat), .map (some mb)]
  map : MapQ w mb L
theorem MapQ.ne {w : World} {b g : Nat} {L : Ql} {t : TypeId} {cs : Array Value} (h : MapQ w b L) (hb : Blk w g t cs) : g ≠ b := by
  rintro rfl
  obtain ⟨D, ⟨es, cl, hm, _⟩, _⟩ := h
  unfold Blk at hb
  rw [hb] at hm
  cases hm
structure QB (all each : Nat) (L : Ql) : Prop where
  ma : all ≤ 1073741824
  me : each ≤ 1073741824
  used : usedQ L ≤ all
  own : ∀ id, ofQ L id ≤ each
  len : L.length ≤ 8000
theorem PoolW.into {w w' : World} {g mb all each : Nat} {L : Ql} (h : PoolW w g mb all each L) (hb : Below w.heap.size w w') : PoolW w' g mb all each L := ⟨Blk.below h.blk hb h.blk.lt, h.map.same (hb.block _ h.map.lt)⟩
theorem qubound_any (n : Int) (w : World) (hn : (Lit.int .i64 n).wf = true) : Calls Try.prog 21 #[.int .i64 n] w fun e w' => e = .returned (.int .i64 (clN 0 1073741824 n : Nat)) ∧ w' = w := by
  by_cases h0 : n < 0
  · rw [clN_lo (by simpa using h0)]
    have h1 : max n 0 = 0 := by omega
    go_enter Try.func21, Try.ntmps21
    go_wp2
    go_ret
    exact ⟨ret_int (by omega), rfl⟩
  by_cases h4 : 1073741824 < n
  · rw [clN_hi (by simpa using h0) h4]
    go_enter Try.func21, Try.ntmps21
    go_wp2
    go_ret
    exact ⟨ret_int (by omega), rfl⟩
  · rw [clN_in (by simpa using h0) h4]
    go_enter Try.func21, Try.ntmps21
    go_wp2
    go_ret
    exact ⟨ret_int (by omega), rfl⟩
set_option maxRecDepth 20000 in
set_option maxHeartbeats 4000000 in
theorem qu_new (a b : Int) (w : World) (ha : (Lit.int .i64 a).wf = true) (hb : (Lit.int .i64 b).wf = true) :
    Calls Try.prog 5 #[.int .i64 a, .int .i64 b] w fun e w' => e = .returned (.pointer (some ⟨w.heap.size + 1, 0, none⟩)) ∧ PoolW w' (w.heap.size + 1) w.heap.size (clN 0 1073741824 a) (clN 0 1073741824 b) [] ∧ Below w.heap.size w w' := by
  have hmk : (Instr.makeMap 48 none).run Try.prog w = .ok (.map (some w.heap.size)) (w.alloc (.map #[] 0)) := by kernel_rfl
  have CA := Lib.hid (qubound_any a w ha)
  have CB := Lib.hid (qubound_any b w hb)
  obtain ⟨x, hx⟩ : ∃ x, x = clN 0 1073741824 a := ⟨_, rfl⟩
  obtain ⟨y, hy⟩ : ∃ y, y = clN 0 1073741824 b := ⟨_, rfl⟩
  rw [← hx] at CA ⊢
  rw [← hy] at CB ⊢
  clear hx hy ha hb
  go_enter Try.func5, Try.ntmps5
  go_wp2_with fail
  refine CA.out.mono ?_
  rintro e w1 ⟨rfl, rfl⟩
  go_wp2_with fail
  refine CB.out.mono ?_
  rintro e w2 ⟨rfl, rfl⟩
  go_wp2_with fail
  go_ret
  have hsz : (w2.alloc (.map #[] 0)).heap.size = w2.heap.size + 1 := by simp
  have hb1 := (Below.refl w2.heap.size w2).alloc (Nat.le_refl _) (.map #[] 0)
  have hk := Blk.new (w2.alloc (.map #[] 0)) 50 #[.int .i64 (x : Nat), .int .i64 (y : Nat), .int .i64 0, .map (some w2.heap.size)]
  rw [hsz] at hk
  have hb2 := (Below.refl (w2.alloc (.map #[] 0)).heap.size (w2.alloc (.map #[] 0))).alloc (Nat.le_refl _) (.cells #[.int .i64 (x : Nat), .int .i64 (y : Nat), .int .i64 0, .map (some w2.heap.size)] 50)
  exact ⟨rfl, ⟨hk, (MapQ.made w2).same (hb2.block w2.heap.size (by rw [hsz]; omega))⟩, hb1.trans (hb2.mono hb1.size)⟩
set_option maxRecDepth 20000 in
set_option maxHeartbeats 4000000 in
theorem qu_of (g mb all each : Nat) (L : Ql) (id : Int) (w : World) (h : PoolW w g mb all each L) (hi : I64 id) :
    Calls Try.prog 15 #[.pointer (some ⟨g, 0, none⟩), .int .i64 id] w fun e w' => e = .returned (.int .i64 (ofQ L id : Nat)) ∧ w' = w := by
  have c3 : w.cell? ⟨g, 3, none⟩ = some (.map (some mb)) := by rw [h.blk.cell]; rfl
  have hlk := h.map.look hi
  clear h hi
  go_enter Try.func15, Try.ntmps15
  go_wp2_with fail
  go_ret
  exact ⟨rfl, rfl⟩
theorem qu_used (g mb all each : Nat) (L : Ql) (w : World) (h : PoolW w g mb all each L) :
    Calls Try.prog 16 #[.pointer (some ⟨g, 0, none⟩)] w fun e w' => e = .returned (.int .i64 (usedQ L : Nat)) ∧ w' = w := by
  have c2 : w.cell? ⟨g, 2, none⟩ = some (.int .i64 (usedQ L : Nat)) := by rw [h.blk.cell]; rfl
  clear h
  go_enter Try.func16, Try.ntmps16
  go_wp2_with fail
  go_ret
  exact ⟨rfl, rfl⟩
theorem qu_owners (g mb all each : Nat) (L : Ql) (w : World) (h : PoolW w g mb all each L) :
    Calls Try.prog 18 #[.pointer (some ⟨g, 0, none⟩)] w fun e w' => e = .returned (.int .i64 (L.length : Nat)) ∧ w' = w := by
  have c3 : w.cell? ⟨g, 3, none⟩ = some (.map (some mb)) := by rw [h.blk.cell]; rfl
  have hl := fun ty => h.map.len ty
  clear h
  go_enter Try.func18, Try.ntmps18
  go_wp2_with fail
  go_ret
  exact ⟨rfl, rfl⟩
set_option maxRecDepth 20000 in
set_option maxHeartbeats 4000000 in
theorem qu_left (g mb all each : Nat) (L : Ql) (id : Int) (w : World) (h : PoolW w g mb all each L) (hq : QB all each L) (hi : I64 id) :
    Calls Try.prog 25 #[.pointer (some ⟨g, 0, none⟩), .int .i64 id] w fun e w' => e = .returned (.int .i64 (each - ofQ L id : Nat)) ∧ Below w.heap.size w w' := by
  have HO : Hid (∀ w', Below w.heap.size w w' → Calls Try.prog 15 #[.pointer (some ⟨g, 0, none⟩), .int .i64 id] w' fun e w'' => e = .returned (.int .i64 (ofQ L id : Nat)) ∧ Below w'.heap.size w' w'') := Lib.hid fun w' hb => (qu_of g mb all each L id w' (h.into hb) hi).mono (by rintro e w'' ⟨rfl, rfl⟩; exact ⟨rfl, Below.refl _ _⟩)
  obtain ⟨v, hv⟩ : ∃ v, v = ofQ L id := ⟨_, rfl⟩
  have hvl := hq.own id
  have hel := hq.me
  rw [← hv] at HO hvl ⊢
  obtain ⟨d, hd⟩ : ∃ d, d = each - v := ⟨_, rfl⟩
  rw [← hd]
  have hdi : (each : Int) - (v : Int) = (d : Nat) := by omega
  have hwd : IntKind.i64.wrap (d : Int) = (d : Nat) := by rw [IntKind.wrap_i64]; omega
  obtain ⟨u, hu⟩ : ∃ u, u = usedQ L := ⟨_, rfl⟩
  have H := Lib.hid h.blk
  rw [← hu] at H
  clear h hq hi hv hvl hel hd hu
  go_enter Try.func25, Try.ntmps25
  go_upto_region 1 with fail
  refine GH.wp_ghl2 (M := false) 9 ((GH.SP.eq (.pointer (some ⟨g, 0, none⟩))) :: (GH.SP.eq (.pointer (some ⟨g, 0, none⟩))) :: (GH.SP.eq (.pointer (some ⟨g, 1, none⟩))) :: (GH.SP.eq (.int .i64 (each : Nat))) :: (GH.SP.eq (.pointer (some ⟨g, 0, none⟩))) :: (GH.SP.eq (.int .i64 id)) :: (GH.SP.eq (.int .i64 (v : Nat))) :: (GH.SP.eq (.int .i64 (d : Nat))) :: (GH.SP.eq (.int .i64 (d : Nat))) :: []) (none :: none :: none :: none :: (some 8) :: (some 0) :: (some 1) :: (some 2) :: (some 3) :: (some 4) :: (some 5) :: (some 6) :: (some 7) :: []) [5, 6, 7, 8, 9, 10, 11, 12, 4] (by rfl) (by kernel_rfl) (by kernel_rfl) ?_ ?_ ?_
  · intro S jx v hjx
    match jx, hjx with
    | 0, _ => rfl
    | 1, _ => rfl
    | 2, _ => rfl
    | 3, _ => rfl
    | 4, _ => rfl
    | 5, _ => rfl
    | 6, _ => rfl
    | 7, _ => rfl
    | 8, _ => rfl
    | nx + 9, hjx => omega
  · intro jx hjx S w' hb hd
    match jx, hjx, hd with
    | 0, _, hd =>
      simp only [GH.mkL, List.getD_cons_succ, List.getD_cons_zero]
      clear hd
      refine GH.st_eq (by rfl) ?_
      go_simp
      (try with_reducible rfl)
    | 1, _, hd =>
      simp only [GH.mkL, List.getD_cons_succ, List.getD_cons_zero]
      have d0 : S 0 = .pointer (some ⟨g, 0, none⟩) := (hd 0 (by kernel_rfl)).2
      rw [d0]
      clear d0
      clear hd
      refine GH.st_eq (by rfl) ?_
      go_simp
      (try with_reducible rfl)
    | 2, _, hd =>
      simp only [GH.mkL, List.getD_cons_succ, List.getD_cons_zero]
      have d1 : S 1 = .pointer (some ⟨g, 0, none⟩) := (hd 1 (by kernel_rfl)).2
      rw [d1]
      clear d1
      clear hd
      refine GH.st_eq (by rfl) ?_
      go_simp
      (try with_reducible rfl)
    | 3, _, hd =>
      simp only [GH.mkL, List.getD_cons_succ, List.getD_cons_zero]
      have d2 : S 2 = .pointer (some ⟨g, 1, none⟩) := (hd 2 (by kernel_rfl)).2
      rw [d2]
      clear d2
      clear hd
      exact GH.st_load _ (by rfl) rfl rfl (((H.out.below hb.below H.out.lt)).cell 1) (by kernel_rfl)
    | 4, _, hd =>
      simp only [GH.mkL, List.getD_cons_succ, List.getD_cons_zero]
      clear hd
      refine GH.st_eq (by rfl) ?_
      go_simp
      (try with_reducible rfl)
    | 5, _, hd =>
      simp only [GH.mkL, List.getD_cons_succ, List.getD_cons_zero]
      clear hd
      refine GH.st_eq (by rfl) ?_
      go_simp
      (try with_reducible rfl)
    | 6, _, hd =>
      simp only [GH.mkL, List.getD_cons_succ, List.getD_cons_zero]
      have d4 : S 4 = .pointer (some ⟨g, 0, none⟩) := (hd 4 (by kernel_rfl)).2
      rw [d4]
      clear d4
      have d5 : S 5 = .int .i64 id := (hd 5 (by kernel_rfl)).2
      rw [d5]
      clear d5
      clear hd
      refine GH.st_call (by rfl) hb.below.size (by go_simp) ((HO.out w' hb.below).mono ?_)
      rintro e w9 ⟨rfl, hb9⟩
      exact ⟨_, rfl, hb9, rfl⟩
    | 7, _, hd =>
      simp only [GH.mkL, List.getD_cons_succ, List.getD_cons_zero]
      have d3 : S 3 = .int .i64 (each : Nat) := (hd 3 (by kernel_rfl)).2
      rw [d3]
      clear d3
      have d6 : S 6 = .int .i64 (v : Nat) := (hd 6 (by kernel_rfl)).2
      rw [d6]
      clear d6
      clear hd
      refine GH.st_eq (by rfl) ?_
      go_simp
      (try simp only [hdi, hwd])
      (try with_reducible rfl)
    | 8, _, hd =>
      simp only [GH.mkL, List.getD_cons_succ, List.getD_cons_zero]
      have d0 : S 0 = .pointer (some ⟨g, 0, none⟩) := (hd 0 (by kernel_rfl)).2
      rw [d0]
      clear d0
      have d1 : S 1 = .pointer (some ⟨g, 0, none⟩) := (hd 1 (by kernel_rfl)).2
      rw [d1]
      clear d1
      have d2 : S 2 = .pointer (some ⟨g, 1, none⟩) := (hd 2 (by kernel_rfl)).2
      rw [d2]
      clear d2
      have d3 : S 3 = .int .i64 (each : Nat) := (hd 3 (by kernel_rfl)).2
      rw [d3]
      clear d3
      have d4 : S 4 = .pointer (some ⟨g, 0, none⟩) := (hd 4 (by kernel_rfl)).2
      rw [d4]
      clear d4
      have d5 : S 5 = .int .i64 id := (hd 5 (by kernel_rfl)).2
      rw [d5]
      clear d5
      have d6 : S 6 = .int .i64 (v : Nat) := (hd 6 (by kernel_rfl)).2
      rw [d6]
      clear d6
      have d7 : S 7 = .int .i64 (d : Nat) := (hd 7 (by kernel_rfl)).2
      rw [d7]
      clear d7
      clear hd
      refine GH.st_eq (by rfl) ?_
      go_simp
      (try with_reducible rfl)
    | nx + 9, hjx, _ => omega
  intro S w' hb hG
  simp only [GH.mkL, List.drop_succ_cons, List.drop_zero]
  have d8 : S 8 = .int .i64 (d : Nat) := hG 8 (by omega)
  rw [d8]
  clear d8
  clear hG
  have HB := Lib.hid hb.below
  refine wpList_nil ?_
  go_wp2_with fail
  go_ret
  exact ⟨rfl, HB.out⟩
set_option maxRecDepth 20000 in
set_option maxHeartbeats 4000000 in
theorem qu_set (g mb all each : Nat) (L : Ql) (id : Int) (n : Nat) (w : World) (h : PoolW w g mb all each L) (hq : QB all each L) (hi : I64 id) (hn : n ≤ 4294967296) :
    Calls Try.prog 24 #[.pointer (some ⟨g, 0, none⟩), .int .i64 id, .int .i64 (n : Nat)] w fun e w' => e = .returned (.tuple #[]) ∧ PoolW w' g mb all each (setQ L id n) ∧ Tw g mb w w' := by
  have HO : Hid (∀ w', Below w.heap.size w w' → Calls Try.prog 15 #[.pointer (some ⟨g, 0, none⟩), .int .i64 id] w' fun e w'' => e = .returned (.int .i64 (ofQ L id : Nat)) ∧ Below w'.heap.size w' w'') := Lib.hid fun w' hb => (qu_of g mb all each L id w' (h.into hb) hi).mono (by rintro e w'' ⟨rfl, rfl⟩; exact ⟨rfl, Below.refl _ _⟩)
  obtain ⟨v, hv⟩ : ∃ v, v = ofQ L id := ⟨_, rfl⟩
  have hvl := hq.own id
  have hel := hq.me
  have hul := hq.used
  have hal := hq.ma
  have hus := usedQ_setQ h.map.qd id n
  have hlen := hq.len
  rw [← hv] at HO hvl hus
  obtain ⟨u, hu⟩ : ∃ u, u = usedQ L := ⟨_, rfl⟩
  obtain ⟨u2, hu2⟩ : ∃ u2, u2 = usedQ (setQ L id n) := ⟨_, rfl⟩
  have HU2 := Lib.hid hu2
  obtain ⟨d, hd⟩ : ∃ d : Int, d = (n : Int) - (v : Int) := ⟨_, rfl⟩
  rw [← hu] at hus hul
  rw [← hu2] at hus
  have hdi : (n : Int) - (v : Int) = d := hd.symm
  have hui : (u : Int) + d = (u2 : Nat) := by omega
  have hwd : IntKind.i64.wrap d = d := by rw [IntKind.wrap_i64]; omega
  have hwu : IntKind.i64.wrap (u2 : Int) = (u2 : Nat) := by rw [IntKind.wrap_i64]; omega
  have H := Lib.hid h.blk
  rw [← hu] at H
  have HM := Lib.hid h.map
  have HI := Lib.hid hi
  have HLN := Lib.hid (show L.length < 8999 by omega)
  have HNE := Lib.hid (h.map.ne h.blk)
  clear h hq hi hv hvl hel hu hu2 hd hul hal hus hlen
  go_enter Try.func24, Try.ntmps24
  go_upto_region 0 with fail
  refine GH.wp_ghl2 (M := false) 12 ((GH.SP.eq (.pointer (some ⟨g, 0, none⟩))) :: (GH.SP.eq (.pointer (some ⟨g, 0, none⟩))) :: (GH.SP.eq (.pointer (some ⟨g, 2, none⟩))) :: (GH.SP.eq (.int .i64 (u : Nat))) :: (GH.SP.eq (.int .i64 (n : Nat))) :: (GH.SP.eq (.pointer (some ⟨g, 0, none⟩))) :: (GH.SP.eq (.int .i64 id)) :: (GH.SP.eq (.int .i64 (v : Nat))) :: (GH.SP.eq (.int .i64 d)) :: (GH.SP.eq (.int .i64 (u2 : Nat))) :: (GH.SP.eq (.pointer (some ⟨g, 0, none⟩))) :: (GH.SP.eq (.pointer (some ⟨g, 2, none⟩))) :: []) (none :: none :: none :: none :: none :: none :: (some 0) :: (some 1) :: (some 2) :: (some 3) :: (some 4) :: (some 5) :: (some 6) :: (some 7) :: (some 8) :: (some 9) :: (some 10) :: (some 11) :: none :: none :: none :: none :: none :: none :: none :: none :: none :: none :: none :: none :: none :: []) [6, 7, 8, 9, 10, 11, 12, 13, 14, 15, 16, 17] (by rfl) (by kernel_rfl) (by kernel_rfl) ?_ ?_ ?_
  · intro S jx v hjx
    match jx, hjx with
    | 0, _ => rfl
    | 1, _ => rfl
    | 2, _ => rfl
    | 3, _ => rfl
    | 4, _ => rfl
    | 5, _ => rfl
    | 6, _ => rfl
    | 7, _ => rfl
    | 8, _ => rfl
    | 9, _ => rfl
    | 10, _ => rfl
    | 11, _ => rfl
    | nx + 12, hjx => omega
  · intro jx hjx S w' hb hd
    match jx, hjx, hd with
    | 0, _, hd =>
      simp only [GH.mkL, List.getD_cons_succ, List.getD_cons_zero]
      clear hd
      refine GH.st_eq (by rfl) ?_
      go_simp
      (try with_reducible rfl)
    | 1, _, hd =>
      simp only [GH.mkL, List.getD_cons_succ, List.getD_cons_zero]
      have d0 : S 0 = .pointer (some ⟨g, 0, none⟩) := (hd 0 (by kernel_rfl)).2
      rw [d0]
      clear d0
      clear hd
      refine GH.st_eq (by rfl) ?_
      go_simp
      (try with_reducible rfl)
    | 2, _, hd =>
      simp only [GH.mkL, List.getD_cons_succ, List.getD_cons_zero]
      have d1 : S 1 = .pointer (some ⟨g, 0, none⟩) := (hd 1 (by kernel_rfl)).2
      rw [d1]
      clear d1
      clear hd
      refine GH.st_eq (by rfl) ?_
      go_simp
      (try with_reducible rfl)
    | 3, _, hd =>
      simp only [GH.mkL, List.getD_cons_succ, List.getD_cons_zero]
      have d2 : S 2 = .pointer (some ⟨g, 2, none⟩) := (hd 2 (by kernel_rfl)).2
      rw [d2]
      clear d2
      clear hd
      exact GH.st_load _ (by rfl) rfl rfl (((H.out.below hb.below H.out.lt)).cell 2) (by kernel_rfl)
    | 4, _, hd =>
      simp only [GH.mkL, List.getD_cons_succ, List.getD_cons_zero]
      clear hd
      refine GH.st_eq (by rfl) ?_
      go_simp
      (try with_reducible rfl)
    | 5, _, hd =>
      simp only [GH.mkL, List.getD_cons_succ, List.getD_cons_zero]
      clear hd
      refine GH.st_eq (by rfl) ?_
      go_simp
      (try with_reducible rfl)
    | 6, _, hd =>
      simp only [GH.mkL, List.getD_cons_succ, List.getD_cons_zero]
      clear hd
      refine GH.st_eq (by rfl) ?_
      go_simp
      (try with_reducible rfl)
    | 7, _, hd =>
      simp only [GH.mkL, List.getD_cons_succ, List.getD_cons_zero]
      have d5 : S 5 = .pointer (some ⟨g, 0, none⟩) := (hd 5 (by kernel_rfl)).2
      rw [d5]
      clear d5
      have d6 : S 6 = .int .i64 id := (hd 6 (by kernel_rfl)).2
      rw [d6]
      clear d6
      clear hd
      refine GH.st_call (by rfl) hb.below.size (by go_simp) ((HO.out w' hb.below).mono ?_)
      rintro e w9 ⟨rfl, hb9⟩
      exact ⟨_, rfl, hb9, rfl⟩
    | 8, _, hd =>
      simp only [GH.mkL, List.getD_cons_succ, List.getD_cons_zero]
      have d4 : S 4 = .int .i64 (n : Nat) := (hd 4 (by kernel_rfl)).2
      rw [d4]
      clear d4
      have d7 : S 7 = .int .i64 (v : Nat) := (hd 7 (by kernel_rfl)).2
      rw [d7]
      clear d7
      clear hd
      refine GH.st_eq (by rfl) ?_
      go_simp
      (try simp only [hdi, hwd])
      (try with_reducible rfl)
    | 9, _, hd =>
      simp only [GH.mkL, List.getD_cons_succ, List.getD_cons_zero]
      have d3 : S 3 = .int .i64 (u : Nat) := (hd 3 (by kernel_rfl)).2
      rw [d3]
      clear d3
      have d8 : S 8 = .int .i64 d := (hd 8 (by kernel_rfl)).2
      rw [d8]
      clear d8
      clear hd
      refine GH.st_eq (by rfl) ?_
      go_simp
      (try simp only [hui, hwu])
      (try with_reducible rfl)
    | 10, _, hd =>
      simp only [GH.mkL, List.getD_cons_succ, List.getD_cons_zero]
      have d0 : S 0 = .pointer (some ⟨g, 0, none⟩) := (hd 0 (by kernel_rfl)).2
      rw [d0]
      clear d0
      have d1 : S 1 = .pointer (some ⟨g, 0, none⟩) := (hd 1 (by kernel_rfl)).2
      rw [d1]
      clear d1
      have d2 : S 2 = .pointer (some ⟨g, 2, none⟩) := (hd 2 (by kernel_rfl)).2
      rw [d2]
      clear d2
      have d3 : S 3 = .int .i64 (u : Nat) := (hd 3 (by kernel_rfl)).2
      rw [d3]
      clear d3
      have d4 : S 4 = .int .i64 (n : Nat) := (hd 4 (by kernel_rfl)).2
      rw [d4]
      clear d4
      have d5 : S 5 = .pointer (some ⟨g, 0, none⟩) := (hd 5 (by kernel_rfl)).2
      rw [d5]
      clear d5
      have d6 : S 6 = .int .i64 id := (hd 6 (by kernel_rfl)).2
      rw [d6]
      clear d6
      have d7 : S 7 = .int .i64 (v : Nat) := (hd 7 (by kernel_rfl)).2
      rw [d7]
      clear d7
      have d8 : S 8 = .int .i64 d := (hd 8 (by kernel_rfl)).2
      rw [d8]
      clear d8
      have d9 : S 9 = .int .i64 (u2 : Nat) := (hd 9 (by kernel_rfl)).2
      rw [d9]
      clear d9
      clear hd
      refine GH.st_eq (by rfl) ?_
      go_simp
      (try with_reducible rfl)
    | 11, _, hd =>
      simp only [GH.mkL, List.getD_cons_succ, List.getD_cons_zero]
      have d0 : S 0 = .pointer (some ⟨g, 0, none⟩) := (hd 0 (by kernel_rfl)).2
      rw [d0]
      clear d0
      have d1 : S 1 = .pointer (some ⟨g, 0, none⟩) := (hd 1 (by kernel_rfl)).2
      rw [d1]
      clear d1
      have d2 : S 2 = .pointer (some ⟨g, 2, none⟩) := (hd 2 (by kernel_rfl)).2
      rw [d2]
      clear d2
      have d3 : S 3 = .int .i64 (u : Nat) := (hd 3 (by kernel_rfl)).2
      rw [d3]
      clear d3
      have d4 : S 4 = .int .i64 (n : Nat) := (hd 4 (by kernel_rfl)).2
      rw [d4]
      clear d4
      have d5 : S 5 = .pointer (some ⟨g, 0, none⟩) := (hd 5 (by kernel_rfl)).2
      rw [d5]
      clear d5
      have d6 : S 6 = .int .i64 id := (hd 6 (by kernel_rfl)).2
      rw [d6]
      clear d6
      have d7 : S 7 = .int .i64 (v : Nat) := (hd 7 (by kernel_rfl)).2
      rw [d7]
      clear d7
      have d8 : S 8 = .int .i64 d := (hd 8 (by kernel_rfl)).2
      rw [d8]
      clear d8
      have d9 : S 9 = .int .i64 (u2 : Nat) := (hd 9 (by kernel_rfl)).2
      rw [d9]
      clear d9
      have d10 : S 10 = .pointer (some ⟨g, 0, none⟩) := (hd 10 (by kernel_rfl)).2
      rw [d10]
      clear d10
      clear hd
      refine GH.st_eq (by rfl) ?_
      go_simp
      (try with_reducible rfl)
    | nx + 12, hjx, _ => omega
  intro S w' hb hG
  simp only [GH.mkL, List.drop_succ_cons, List.drop_zero]
  have d9 : S 9 = .int .i64 (u2 : Nat) := hG 9 (by omega)
  rw [d9]
  clear d9
  have d11 : S 11 = .pointer (some ⟨g, 2, none⟩) := hG 11 (by omega)
  rw [d11]
  clear d11
  clear hG
  have KF := H.out.below hb.below H.out.lt
  have f2 := KF.frozen 2
  have c2 : w'.cell? ⟨g, 2, none⟩ = some (.int .i64 (u : Nat)) := by rw [KF.cell]; rfl
  have HKF := Lib.hid KF
  have HM1 := Lib.hid (HM.out.same (hb.below.block _ HM.out.lt))
  have T1 := Lib.hid (Tou.of hb.below (Nat.le_of_lt H.out.lt))
  clear KF hb
  go_upto_region 1 with fail
  have H2 := Lib.hid (Blk.set HKF.out 2 (.int .i64 (u2 : Nat)))
  have hso : Solo g w' (w'.setCell ⟨g, 2, none⟩ (.int .i64 (u2 : Nat))) := Solo.refl.setCell 2 _
  have HM2 := Lib.hid (HM1.out.same (hso.2.2 mb (fun e => HNE.out e.symm)))
  have T2 := Lib.hid (Tw.of_tou (mb := mb) (T1.out.solo hso))
  clear c2 f2 hso HM1 T1 HKF HM
  generalize w'.setCell ⟨g, 2, none⟩ (.int .i64 (u2 : Nat)) = w2 at H2 HM2 T2 ⊢
  have H3 := Lib.hid (show Blk w2 g 50 #[.int .i64 (all : Nat), .int .i64 (each : Nat), .int .i64 (u2 : Nat), .map (some mb)] from H2.out)
  have c3 : w2.cell? ⟨g, 3, none⟩ = some (.map (some mb)) := by rw [H3.out.cell]; rfl
  clear H2 H hwd hwu hdi hui HO
  by_cases h0 : n = 0
  · subst h0
    obtain ⟨w3, hrun, hm3, ht3⟩ := HM2.out.drop HI.out 0
    have HM3 := Lib.hid hm3
    have HT3 := Lib.hid ht3
    clear hm3 ht3
    go_wp2_with fail
    refine bodyPost_ret (v := .tuple #[]) (by kernel_rfl) rfl ?_
    have hk := (Tw.of_map (g := g) HT3.out)
    refine ⟨rfl, ⟨?_, HM3.out⟩, T2.out.trans hk⟩
    rw [← HU2.out]
    exact (HT3.out.grown.block g H3.out.lt fun e => HNE.out (by injection e)).trans H3.out
  · have h0' : ¬ (n : Int) = 0 := by omega
    obtain ⟨w3, hrun, hm3, ht3⟩ := HM2.out.store HI.out n (by omega) HLN.out
    have HM3 := Lib.hid hm3
    have HT3 := Lib.hid ht3
    clear hm3 ht3 h0
    go_wp2_with (refine wpList_mapRun rfl _ _ _ _ rfl rfl rfl rfl hrun ?_)
    go_wp2_with fail
    go_end0
    have hk := (Tw.of_map (g := g) HT3.out)
    refine ⟨rfl, ⟨?_, HM3.out⟩, T2.out.trans hk⟩
    rw [← HU2.out]
    exact (HT3.out.grown.block g H3.out.lt fun e => HNE.out (by injection e)).trans H3.out
end Go.Proofs.Ytonindjpbegdgaa
