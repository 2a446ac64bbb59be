/- Package slices at []spans.Span: Clone, Delete, Insert, Replace of one. -/
import Derived.Test.YtnngjbieoakanaaG11InletTwice
import Derived.Test.YtnngjbieoakanaaRows
import Derived.OwnWalk
import Derived.RegionTactic
import Derived.LoopTactic
import Derived.StillTailTactics
import Derived.Laws.Externs
import Derived.WalkSpells

namespace Go.Proofs.Ytnngjbieoakanaa
open Go.RowKit
set_option linter.unusedVariables false
theorem spnEl : El Try.prog 57 71 (.agg #[.int .u64 0, .int .u64 0]) 2 16 := ⟨Try.underlying57, by kernel_rfl, rfl, by omega, by omega⟩
theorem spnZ1 : ∀ v ∈ ((.agg #[.int .u64 0, .int .u64 0]) : Value).cells.toList, v.oneCell' = true := by
  intro v hv
  simp [Value.cells] at hv
  first | (subst hv; rfl) | (rcases hv with rfl | rfl <;> rfl) | (rcases hv with rfl | rfl | rfl <;> rfl) | (rcases hv with rfl | rfl | rfl | rfl <;> rfl) | (rcases hv with rfl | rfl | rfl | rfl | rfl <;> rfl)
theorem spnClone (A : Option Addr) (n c B : Nat) (xs : List Value) (w : World) (h : Rd w B 2 A n xs) (hB : B ≤ w.heap.size) (h1 : ∀ v ∈ xs, v.oneCell' = true) (hn : n ≤ 1000000) :
    Calls Try.prog 39 #[.slice A n c] w fun e w' => ∃ v, e = .returned v ∧ w'.ownsRow w.heap.size 71 2 v n xs ∧ Below w.heap.size w w' := by
  have HR := Lib.hid h
  have H1 := Lib.hid h1
  have HL := Lib.hid h.len
  clear h h1
  have hnil := fun (w : World) (A : Option Addr) (n c n' c' : Nat) => Lib.run_eql_slice_nil w 57 71 A n c n' c' Try.underlying57
  cases A with
  | none =>
    have h0 : n = 0 := by
      rcases Nat.eq_zero_or_pos n with h | h
      · exact h
      · obtain ⟨_, _, e, _⟩ := HR.out.2 h; cases e
    subst h0
    have hx : xs = [] := List.eq_nil_of_length_eq_zero (by rw [HL.out, Nat.zero_mul])
    subst hx
    clear HR H1 HL
    go_enter Try.func39, Try.ntmps39
    go_wp2_with fail
    go_ret
    exact ⟨_, rfl, World.ownsRow_nil _ _ _ _, Below.refl _ _⟩
  | some ad =>
    have hroom : (0 + n) * 16 ≤ room := room_ge (by omega)
    have hown : (w.alloc (.cells #[] 71)).ownsRow w.heap.size 71 2 (.slice (some ⟨w.heap.size, 0, none⟩) 0 0) 0 [] := World.ownsRow_made w #[] 0 (Nat.le_refl _) (Nat.zero_le _) (by simp)
    have hb0 : Below w.heap.size w (w.alloc (.cells #[] 71)) := (Below.refl _ _).alloc (Nat.le_refl _) _
    have HO := Lib.hid hown
    have HB0 := Lib.hid hb0
    have HB := Lib.hid hB
    clear hown hb0 hB
    go_enter Try.func39, Try.ntmps39
    go_wp2_with (refine app spnEl rfl (.tmp 5) (.tmp 6) rfl rfl HO.out rfl (HR.out.alloc HB.out _) H1.out hroom (by simp) ?_)
    intro v' w1 ho hg hb
    have HO1 := Lib.hid ho
    clear ho hg
    go_wp2
    go_ret
    exact ⟨_, rfl, HO1.out, HB0.out.trans hb⟩
/-- Cells that are part of a row. -/
theorem spnone {L : List Value} {k : Nat} (h : ∀ v ∈ L.take k, v.oneCell' = true) (j : Nat) : ∀ v ∈ (L.take k).drop j, v.oneCell' = true := fun v hv => h v (List.mem_of_mem_drop hv)
set_option maxRecDepth 20000 in
set_option maxHeartbeats 1000000 in
theorem spnDelete (v : Value) (n i j B : Nat) (xs : List Value) (w : World) (h : w.ownsRow B 71 2 v n xs) (h1 : ∀ v ∈ xs, v.oneCell' = true) (hn : n ≤ 1000000) (hij : i ≤ j) (hjn : j ≤ n) :
    Calls Try.prog 57 #[v, .int .i64 (i : Int), .int .i64 (j : Int)] w fun e w' => ∃ v', e = .returned v' ∧ w'.ownsRow B 71 2 v' (n - (j - i)) (xs.take (i * 2) ++ xs.drop (j * 2)) ∧ w.grownBy w' v.ownBlock ∧ v'.ownBlock = v.ownBlock ∧ w'.heap.size = w.heap.size := by
  by_cases he : i = j
  · subst he
    obtain ⟨A, c, rfl, hnc, hcm, hr⟩ := own_form h
    unfold maxLen at hcm
    have e1 : n - (i - i) = n := by omega
    rw [e1, List.take_append_drop]
    have hc1 := run_cut_lhm spnEl A n c i i n (Nat.le_refl _) hjn hnc
    have hu : Try.prog.underlying 57 = some (.slice (Try.prog.elem 57)) := by unfold Program.elem; rw [Try.underlying57]
    have hc2 : ∀ w, (Instr.sliceAt 57 (.slice A n c) (some (.int .i64 (i : Int))) (some (.int .i64 (i : Int))) (some (.int .i64 (n : Int)))).run Try.prog w = _ := fun w => (run_sliceAt_slice w _ _ _ _ _ hu).trans (hc1 w)
    have HO := Lib.hid h
    clear h h1 hu
    generalize cutA A n i 2 = X at hc1 hc2
    go_enter Try.func57, Try.ntmps57
    go_wp2_with fail
    go_ret
    exact ⟨_, rfl, HO.out, grownBy_refl _ _, rfl, rfl⟩
  · have hlt : i < j := by omega
    rcases own_open h with ⟨_, h0, _⟩ | ⟨g, c, L, rfl, hBg, hb, hnc, hcm, hl, hx⟩
    · omega
    have hcm' := hcm
    unfold maxLen at hcm
    have hne : ((i : Int) == (j : Int)) = false := by simpa using (show ¬ (i : Int) = (j : Int) by omega)
    have hne' : ¬ (i : Int) = (j : Int) := by omega
    have hu : Try.prog.underlying 57 = some (.slice (Try.prog.elem 57)) := by unfold Program.elem; rw [Try.underlying57]
    have hc1 := run_cut_lhm spnEl (some ⟨g, 0, none⟩) n c i j n hij hjn hnc
    have hc2 : ∀ w, (Instr.sliceAt 57 (.slice (some ⟨g, 0, none⟩) n c) (some (.int .i64 (i : Int))) (some (.int .i64 (j : Int))) (some (.int .i64 (n : Int)))).run Try.prog w = _ := fun w => (run_sliceAt_slice w _ _ _ _ _ hu).trans (hc1 w)
    have hc3 := run_cut_h spnEl (some ⟨g, 0, none⟩) n c i (by omega)
    have hc4 : ∀ w, (Instr.sliceAt 57 (.slice (some ⟨g, 0, none⟩) n c) none (some (.int .i64 (i : Int))) none).run Try.prog w = _ := fun w => (run_sliceAt_slice w _ _ _ _ _ hu).trans (hc3 w)
    have hc5 := run_cut_l spnEl (some ⟨g, 0, none⟩) n c j hjn
    have hc6 : ∀ w, (Instr.sliceAt 57 (.slice (some ⟨g, 0, none⟩) n c) (some (.int .i64 (j : Int))) none none).run Try.prog w = _ := fun w => (run_sliceAt_slice w _ _ _ _ _ hu).trans (hc5 w)
    obtain ⟨k, hk⟩ : ∃ k, k = i + (n - j) := ⟨_, rfl⟩
    have hkn : k < n := by omega
    have hkk : n - (j - i) = k := by omega
    have hc7 := run_cut_lh spnEl (some ⟨g, 0, none⟩) k c k n (by omega) hnc
    have hc8 : ∀ w, (Instr.sliceAt 57 (.slice (some ⟨g, 0, none⟩) k c) (some (.int .i64 (k : Int))) (some (.int .i64 (n : Int))) none).run Try.prog w = _ := fun w => (run_sliceAt_slice w _ _ _ _ _ hu).trans (hc7 w)
    have HC := Lib.hid (show (0 < n - j → cutA (some ⟨g, 0, none⟩) c j 2 = some ⟨g, j * 2, none⟩) ∧ (0 < n - k → cutA (some ⟨g, 0, none⟩) c k 2 = some ⟨g, k * 2, none⟩) from ⟨fun _ => by rw [cutA_pos (by omega), Nat.zero_add], fun _ => by rw [cutA_pos (by omega), Nat.zero_add]⟩)
    have hcs : ((L.drop (j * 2)).take ((n - j) * 2)) = xs.drop (j * 2) := by
      rw [← hx, List.drop_take]
      congr 1
      omega
    have hcl : (xs.drop (j * 2)).length = (n - j) * 2 := by rw [List.length_drop, own_len h, Nat.sub_mul]
    have hfit : i * 2 + (xs.drop (j * 2)).length ≤ L.length := by rw [hcl, hl]; omega
    have hfit2 : k * 2 + (n - k) * 2 ≤ (splv L (i * 2) (xs.drop (j * 2))).length := by rw [splv_len hfit, hl]; omega
    have hrow := fun zs (hz : zs.length = (n - k) * 2) => del_row (zs := zs) hl hx hij hjn hnc (by rw [hz]; congr 1; omega)
    have hL2 := splv_len hfit
    rw [hkk] at hrow ⊢
    have h1d : ∀ v ∈ xs.drop (j * 2), v.oneCell' = true := fun v hv => h1 v (List.mem_of_mem_drop hv)
    have HB := Lib.hid hb
    have HX := Lib.hid hcs
    have HL := Lib.hid hcl
    have HF := Lib.hid hfit
    have HF2 := Lib.hid hfit2
    have HRW := Lib.hid hrow
    have H1 := Lib.hid h1d
    have HLL := Lib.hid hl
    have HL2 := Lib.hid hL2
    have HCM := Lib.hid hcm'
    have HK := Lib.hid hk
    have HKK := Lib.hid hkk
    clear h h1 hb hcs hcl hfit hfit2 hrow h1d hl hx hu hL2 hcm' hk hkk he
    generalize cutA (some ⟨g, 0, none⟩) n i 2 = X1 at hc1 hc2
    generalize cutA (some ⟨g, 0, none⟩) c j 2 = X2 at hc5 hc6 HC
    generalize cutA (some ⟨g, 0, none⟩) c k 2 = X3 at hc7 hc8 HC
    generalize hys : xs.drop (j * 2) = ys at HX HL HF HF2 HRW H1 HL2
    have HYS := Lib.hid hys
    clear hys
    go_enter Try.func57, Try.ntmps57
    go_wp2_with fail
    refine wp_region_still_tail 6 (by kernel_rfl) (by kernel_rfl) ?_
    simp only [List.take_succ_cons, List.take_zero, List.drop_succ_cons, List.drop_zero]
    repeat still_step
    refine wpStill_nil ?_
    change wpList _ _ _ _ _ w.drew
    refine appB spnEl rfl (.tmp 22) (.tmp 25) rfl rfl rfl (L := L) HB.out.drew HL.out (fun h0 => ⟨_, HC.out.1 h0, fun q u hq => blk_cells (w := w.drew) HB.out.drew q u (by rw [HX.out]; exact hq)⟩) (by omega) HF.out H1.out ?_
    rw [← HK.out]
    intro w1 hb1 hs1
    have HB1 := Lib.hid hb1
    have HS1 := Lib.hid hs1
    clear hb1 hs1 HB
    go_wp2_with (refine clrB spnEl spnZ1 rfl (.tmp 31) rfl rfl HB1.out HC.out.2 HF2.out ?_)
    intro w2 zs hz hb2 hs2
    have HB2 := Lib.hid hb2
    have HS2 := Lib.hid hs2
    have HZ := Lib.hid hz
    clear hb2 hs2 hz HB1
    go_wp2
    go_ret
    refine ⟨_, rfl, ?_, ?_, rfl, ?_⟩
    · refine own_shut hBg HB2.out (by omega) HCM.out ?_ ?_
      · rw [splv_len (by rw [HZ.out]; exact HF2.out), HL2.out, HLL.out]
      · exact HRW.out zs HZ.out
    · exact grownBy_trans (grownBy_drew (grownBy_refl w _)) (grownBy_trans HS1.out.grownBy HS2.out.grownBy)
    · rw [HS2.out.2.1, HS1.out.2.1]; rfl
theorem spnOver (g vb off vc lb cb : Nat) (L y : List Value) (w : World) (hb : Blk w g 71 L.toArray) (hv : Blk w vb 71 y.toArray) (hne : vb ≠ g) (hL : L.length ≠ 0) :
    (callFunc 53 #[.slice (some ⟨vb, 0, none⟩) 1 vc, .slice (some ⟨g, off, none⟩) lb cb]).run Try.prog w = .ok (.value (.bool false)) w := by
  rw [run_callFunc_extern Try.func53 (by kernel_rfl) (by kernel_rfl) (by kernel_rfl) (e := Extern.SlicesOverlaps.overlaps #[57, 57] #[4]) (by kernel_rfl)]
  have hz : ∀ w, (Go.sizeOf 71).run Try.prog w = .ok 2 w := fun w => by kernel_rfl
  rw [Lib.run_overlaps_apart w 57 4 71 Try.underlying57 2 hz ⟨vb, 0, none⟩ ⟨g, off, none⟩ 1 vc lb cb hne _ _ _ _ hv.shape hb.shape (by simpa using hL) (hv.frozen 0) (hv.frozen _)]
  rfl
set_option maxRecDepth 20000 in
set_option maxHeartbeats 1000000 in
theorem spnInsEnd (v : Value) (n B vb vc : Nat) (xs y : List Value) (w : World) (h : w.ownsRow B 71 2 v n xs) (hn : n ≤ 1000000) (hv : Blk w vb 71 y.toArray) (hy : y.length = 2) (hy1 : ∀ v ∈ y, v.oneCell' = true) (hB : B ≤ w.heap.size) :
    Calls Try.prog 52 #[v, .int .i64 (n : Int), .slice (some ⟨vb, 0, none⟩) 1 vc] w fun e w' => ∃ v', e = .returned v' ∧ w'.ownsRow B 71 2 v' (n + 1) (xs ++ y) ∧ w.grownBy w' v.ownBlock ∧ NewOr v v' w := by
  have HO := Lib.hid h
  obtain ⟨A, c, rfl, hnc, hcm, hr⟩ := own_form h
  unfold maxLen at hcm
  have hc1 := run_cut_l spnEl A n c n (Nat.le_refl _)
  have hu : Try.prog.underlying 57 = some (.slice (Try.prog.elem 57)) := by unfold Program.elem; rw [Try.underlying57]
  have hc2 : ∀ w, (Instr.sliceAt 57 (.slice A n c) (some (.int .i64 (n : Int))) none none).run Try.prog w = _ := fun w => (run_sliceAt_slice w _ _ _ _ _ hu).trans (hc1 w)
  have HV := Lib.hid (hv.rd hy)
  have HY := Lib.hid hy1
  have HB := Lib.hid hB
  have hroom : (n + 1) * 16 ≤ room := room_ge (by omega)
  clear h hr hv hy hy1 hu hB
  generalize cutA A c n 2 = X at hc1 hc2
  go_enter Try.func52, Try.ntmps52
  go_wp2_with (at_builtin; refine app2 spnEl rfl (.tmp 23) (.tmp 24) rfl rfl HO.out Nat.one_pos rfl HV.out HY.out hroom HB.out ?_)
  intro v' w1 ho hg hb
  have HO1 := Lib.hid ho
  have HG := Lib.hid hg
  have HNO := Lib.hid hb
  clear ho hg hb
  go_wp2
  go_ret
  exact ⟨_, rfl, HO1.out, HG.out, HNO.out⟩
set_option maxRecDepth 20000 in
set_option maxHeartbeats 1000000 in
theorem spnInsRoom (g c n i B vb vc : Nat) (L xs y : List Value) (w : World) (hBg : B ≤ g) (hb : Blk w g 71 L.toArray) (hnc : n + 1 ≤ c) (hcm : c ≤ maxLen) (hl : L.length = c * 2) (hx : L.take (n * 2) = xs) (h1 : ∀ v ∈ xs, v.oneCell' = true) (hn : n ≤ 1000000) (hin : i < n)
    (hv : Blk w vb 71 y.toArray) (hy : y.length = 2) (hy1 : ∀ v ∈ y, v.oneCell' = true) (hne : vb ≠ g) :
    Calls Try.prog 52 #[.slice (some ⟨g, 0, none⟩) n c, .int .i64 (i : Int), .slice (some ⟨vb, 0, none⟩) 1 vc] w fun e w' => ∃ v', e = .returned v' ∧ w'.ownsRow B 71 2 v' (n + 1) (xs.take (i * 2) ++ y ++ xs.drop (i * 2)) ∧ w.grownBy w' (some g) ∧ NewOr (.slice (some ⟨g, 0, none⟩) n c) v' w := by
  have hcm' := hcm
  unfold maxLen at hcm
  have hu : Try.prog.underlying 57 = some (.slice (Try.prog.elem 57)) := by unfold Program.elem; rw [Try.underlying57]
  have hne1 : ¬ (i : Int) = (n : Int) := by omega
  have hne2 : ((i : Int) == (n : Int)) = false := by simpa using hne1
  have hc1 := run_cut_l spnEl (some ⟨g, 0, none⟩) n c i (by omega)
  have hc2 : ∀ w, (Instr.sliceAt 57 (.slice (some ⟨g, 0, none⟩) n c) (some (.int .i64 (i : Int))) none none).run Try.prog w = _ := fun w => (run_sliceAt_slice w _ _ _ _ _ hu).trans (hc1 w)
  have e1 : (n : Int) + 1 = ((n + 1 : Nat) : Int) := by omega
  have e2 : (i : Int) + 1 = ((i + 1 : Nat) : Int) := by omega
  obtain ⟨m, hm⟩ : ∃ m, m = n + 1 := ⟨_, rfl⟩
  obtain ⟨j, hj⟩ : ∃ j, j = i + 1 := ⟨_, rfl⟩
  rw [← hm] at e1
  rw [← hj] at e2
  have hc3 := run_cut_h spnEl (some ⟨g, 0, none⟩) n c m (by omega)
  have hc4 : ∀ w, (Instr.sliceAt 57 (.slice (some ⟨g, 0, none⟩) n c) none (some (.int .i64 (m : Int))) none).run Try.prog w = _ := fun w => (run_sliceAt_slice w _ _ _ _ _ hu).trans (hc3 w)
  have hc5 := run_cut_l spnEl (some ⟨g, 0, none⟩) m c j (by omega)
  have hc6 : ∀ w, (Instr.sliceAt 57 (.slice (some ⟨g, 0, none⟩) m c) (some (.int .i64 (j : Int))) none none).run Try.prog w = _ := fun w => (run_sliceAt_slice w _ _ _ _ _ hu).trans (hc5 w)
  have hc7 := run_cut_l spnEl (some ⟨g, 0, none⟩) m c i (by omega)
  have hc8 : ∀ w, (Instr.sliceAt 57 (.slice (some ⟨g, 0, none⟩) m c) (some (.int .i64 (i : Int))) none none).run Try.prog w = _ := fun w => (run_sliceAt_slice w _ _ _ _ _ hu).trans (hc7 w)
  rw [cutA_pos (by omega), Nat.zero_add] at hc5 hc6 hc7 hc8
  have hov := fun lb cb => spnOver g vb (j * 2) vc lb cb L y w hb hv hne (by rw [hl]; omega)
  have hxl : xs.length = n * 2 := by rw [← hx, List.length_take, hl]; omega
  have hcs : ((L.drop (i * 2)).take ((n - i) * 2)) = xs.drop (i * 2) := by
    rw [← hx, List.drop_take]
    congr 1
    omega
  have hcl : (xs.drop (i * 2)).length = (n - i) * 2 := by rw [List.length_drop, hxl, Nat.sub_mul]
  have hfit : j * 2 + (xs.drop (i * 2)).length ≤ L.length := by rw [hcl, hl]; omega
  have hL1 := splv_len hfit
  have hfit2 : i * 2 + y.length ≤ (splv L (j * 2) (xs.drop (i * 2))).length := by rw [hL1, hy, hl]; omega
  have hL2 := splv_len hfit2
  have hrow := ins_row (y := y) hl hx (Nat.le_of_lt hin) hnc hy
  rw [← hm, ← hj] at hrow
  rw [← hm]
  have h1d : ∀ v ∈ xs.drop (i * 2), v.oneCell' = true := fun v hv => h1 v (List.mem_of_mem_drop hv)
  have hw1 : IntKind.i64.wrap ((i : Int) + 1) = (j : Int) := by rw [e2]; exact IntWalk.i64_in _ (by omega)
  have hw2 : IntKind.i64.wrap (j : Int) = (j : Int) := IntWalk.i64_in _ (by omega)
  have hmin1 : min (m - i) (m - j) = n - i := by omega
  have hmin2 : min 1 (m - i) = 1 := by omega
  have HM1 := Lib.hid hmin1
  have HM2 := Lib.hid hmin2
  have HB := Lib.hid hb
  have HV := Lib.hid hv
  have HY := Lib.hid hy
  have HY1 := Lib.hid hy1
  have HX := Lib.hid hcs
  have HL := Lib.hid hcl
  have HF := Lib.hid hfit
  have HF2 := Lib.hid hfit2
  have HL1 := Lib.hid hL1
  have HL2 := Lib.hid hL2
  have HLL := Lib.hid hl
  have HRW := Lib.hid hrow
  have H1 := Lib.hid h1d
  have HCM := Lib.hid hcm'
  have hmc : m ≤ c := by omega
  have hjm : j ≤ m := by omega
  have him : i < m := by omega
  clear hb hv hy hy1 hcs hcl hfit hfit2 hL1 hL2 hl hrow h1d hcm' hmin1 hmin2 hx hxl h1 hu hm hj
  generalize cutA (some ⟨g, 0, none⟩) c i 2 = X1 at hc1 hc2
  generalize hys : xs.drop (i * 2) = ys at HX HL HF HF2 HL1 HL2 HRW H1
  have HYS := Lib.hid hys
  clear hys
  go_enter Try.func52, Try.ntmps52
  go_wp2_with (simp only [hov])
  refine wp_region_still_tail 8 (by kernel_rfl) (by kernel_rfl) ?_
  simp only [List.take_succ_cons, List.take_zero, List.drop_succ_cons, List.drop_zero]
  repeat still_step
  refine wpStill_nil ?_
  change wpList _ _ _ _ _ w.drew
  refine cpyB spnEl rfl (.tmp 73) (.tmp 76) rfl rfl rfl (g := g) (off := j * 2) (L := L) (cs := ys) HB.out.drew (fun _ => rfl) (by rw [HM1.out]; exact HL.out) (fun h0 => ⟨_, rfl, fun q u hq => blk_cells (w := w.drew) HB.out.drew q u (by rw [HX.out]; exact hq)⟩) HF.out H1.out ?_
  intro w1 hb1 hs1
  have HB1 := Lib.hid hb1
  have HS1 := Lib.hid hs1
  have HV1 := Lib.hid (hs1.blk HV.out.drew hne)
  clear hb1 hs1 HB HV
  go_wp2_with (refine cpyB spnEl rfl (.tmp 80) (.tmp 81) rfl rfl rfl (cs := y) HB1.out (fun _ => rfl) (by rw [HM2.out, Nat.one_mul]; exact HY.out) (fun h0 => ⟨_, rfl, fun q u hq => ?_⟩) HF2.out HY1.out ?_)
  · rw [addr_add, HV1.out.cell]
    simpa using hq
  intro w2 hb2 hs2
  have HB2 := Lib.hid hb2
  have HS2 := Lib.hid hs2
  clear hb2 hs2 HB1
  go_wp2
  go_ret
  refine ⟨_, rfl, ?_, ?_, NewOr.same rfl⟩
  · refine own_shut hBg HB2.out hmc HCM.out ?_ HRW.out
    rw [HL2.out, HL1.out, HLL.out]
  · exact grownBy_trans (grownBy_drew (grownBy_refl w _)) (grownBy_trans HS1.out.grownBy HS2.out.grownBy)
set_option maxRecDepth 20000 in
set_option maxHeartbeats 1000000 in
theorem spnInsGrow (g c n i B vb vc : Nat) (L xs y : List Value) (w : World) (hBw : B ≤ w.heap.size) (hb : Blk w g 71 L.toArray) (hnc : n ≤ c) (hcn : c < n + 1) (hl : L.length = c * 2) (hx : L.take (n * 2) = xs) (h1 : ∀ v ∈ xs, v.oneCell' = true) (hn : n ≤ 900000) (hin : i < n)
    (hv : Blk w vb 71 y.toArray) (hy : y.length = 2) (hy1 : ∀ v ∈ y, v.oneCell' = true) :
    Calls Try.prog 52 #[.slice (some ⟨g, 0, none⟩) n c, .int .i64 (i : Int), .slice (some ⟨vb, 0, none⟩) 1 vc] w fun e w' => ∃ v', e = .returned v' ∧ w'.ownsRow B 71 2 v' (n + 1) (xs.take (i * 2) ++ y ++ xs.drop (i * 2)) ∧ w.grownBy w' (some g) ∧ NewOr (.slice (some ⟨g, 0, none⟩) n c) v' w := by
  have hu : Try.prog.underlying 57 = some (.slice (Try.prog.elem 57)) := by unfold Program.elem; rw [Try.underlying57]
  have hne1 : ¬ (i : Int) = (n : Int) := by omega
  have hne2 : ((i : Int) == (n : Int)) = false := by simpa using hne1
  have hc1 := run_cut_l spnEl (some ⟨g, 0, none⟩) n c i (by omega)
  have hc2 : ∀ w, (Instr.sliceAt 57 (.slice (some ⟨g, 0, none⟩) n c) (some (.int .i64 (i : Int))) none none).run Try.prog w = _ := fun w => (run_sliceAt_slice w _ _ _ _ _ hu).trans (hc1 w)
  rw [cutA_pos (by omega), Nat.zero_add] at hc1 hc2
  have hc3 := run_cut_h spnEl (some ⟨g, 0, none⟩) n c i (by omega)
  have hc4 : ∀ w, (Instr.sliceAt 57 (.slice (some ⟨g, 0, none⟩) n c) none (some (.int .i64 (i : Int))) none).run Try.prog w = _ := fun w => (run_sliceAt_slice w _ _ _ _ _ hu).trans (hc3 w)
  obtain ⟨k, hk⟩ : ∃ k, k = n + 1 - i := ⟨_, rfl⟩
  have e1 : (n : Int) + 1 - (i : Int) = (k : Int) := by omega
  have hik : i + k = n + 1 := by omega
  have hk0 : 0 < k := by omega
  obtain ⟨m, hm⟩ : ∃ m, m = n + 1 := ⟨_, rfl⟩
  obtain ⟨j, hj⟩ : ∃ j, j = i + 1 := ⟨_, rfl⟩
  have e2 : (i : Int) + 1 = (j : Int) := by omega
  have hw1 : IntKind.i64.wrap ((i : Int) + 1) = (j : Int) := by rw [e2]; exact IntWalk.i64_in _ (by omega)
  have hw2 : IntKind.i64.wrap (j : Int) = (j : Int) := IntWalk.i64_in _ (by omega)
  have hxl : xs.length = n * 2 := by rw [← hx, List.length_take, hl]; omega
  have hcs : ((L.drop (i * 2)).take ((n - i) * 2)) = xs.drop (i * 2) := by
    rw [← hx, List.drop_take]
    congr 1
    omega
  have hcl : (xs.drop (i * 2)).length = (n - i) * 2 := by rw [List.length_drop, hxl, Nat.sub_mul]
  have h1d : ∀ v ∈ xs.drop (i * 2), v.oneCell' = true := fun v hv => h1 v (List.mem_of_mem_drop hv)
  have hrow := fun c' zs (hz : zs.length = (c' - i) * 2) (hc' : n + 1 ≤ c') => ins_new (y := y) (zs := zs) hx hxl hz (Nat.le_of_lt hin) hc' hy
  have hli : i * 2 ≤ L.length := by rw [hl]; omega
  have HB := Lib.hid hb
  have HV := Lib.hid hv
  have HY := Lib.hid hy
  have HY1 := Lib.hid hy1
  have HX := Lib.hid hcs
  have HL := Lib.hid hcl
  have HRW := Lib.hid hrow
  have H1 := Lib.hid h1d
  have HIK := Lib.hid hik
  have HMM := Lib.hid hm
  have HJ := Lib.hid hj
  have hjm : j ≤ m := by omega
  have him : i < m := by omega
  have hcm1 : c < i + k := by omega
  have hik1 : i + k ≤ 900001 := by omega
  have hbv := hb.lt
  have hvv := hv.lt
  clear hb hv hy hy1 hcs hcl hrow h1d hx h1 hu hm hj hk hxl hl hik
  generalize hys : xs.drop (i * 2) = ys at HX HL HRW H1
  have HYS := Lib.hid hys
  clear hys
  go_enter Try.func52, Try.ntmps52
  go_wp2_with (refine zapB spnEl rfl (.tmp 34) (.tmp 39) Try.underlying3 rfl rfl rfl HB.out hli hk0 hcm1 (by omega) (by omega) (by omega) ?_)
  intro w1 c' zs hzl hc' hcm hb1 hbel hsz
  rw [HIK.out, ← HMM.out] at hc' ⊢
  obtain ⟨G, hG⟩ : ∃ G, G = w.heap.size := ⟨_, rfl⟩
  rw [← hG] at hb1 hbel hsz hbv hvv ⊢
  have hL0 : (L.take (i * 2) ++ zs).length = c' * 2 := by
    rw [List.length_append, List.length_take, hzl, Nat.min_eq_left hli, ← Nat.add_mul]
    congr 1
    omega
  have hfit : i * 2 + y.length ≤ (L.take (i * 2) ++ zs).length := by rw [hL0, HY.out]; omega
  have hL1 := splv_len hfit
  have hfit2 : j * 2 + ys.length ≤ (splv (L.take (i * 2) ++ zs) (i * 2) y).length := by rw [hL1, hL0, HL.out]; have := HMM.out; have := HJ.out; omega
  have hL2 := splv_len hfit2
  have hrow := HRW.out c' zs hzl (by rw [← HMM.out]; exact hc')
  rw [← HMM.out, ← HJ.out] at hrow
  have hu : Try.prog.underlying 57 = some (.slice (Try.prog.elem 57)) := by unfold Program.elem; rw [Try.underlying57]
  have hd1 := run_cut_l spnEl (some ⟨G, 0, none⟩) m c' i (by omega)
  have hd2 : ∀ w, (Instr.sliceAt 57 (.slice (some ⟨G, 0, none⟩) m c') (some (.int .i64 (i : Int))) none none).run Try.prog w = _ := fun w => (run_sliceAt_slice w _ _ _ _ _ hu).trans (hd1 w)
  have hd3 := run_cut_l spnEl (some ⟨G, 0, none⟩) m c' j (by omega)
  have hd4 : ∀ w, (Instr.sliceAt 57 (.slice (some ⟨G, 0, none⟩) m c') (some (.int .i64 (j : Int))) none none).run Try.prog w = _ := fun w => (run_sliceAt_slice w _ _ _ _ _ hu).trans (hd3 w)
  rw [cutA_pos (by omega), Nat.zero_add] at hd1 hd2
  have HA := Lib.hid (show 0 < n - i → cutA (some ⟨G, 0, none⟩) c' j 2 = some ⟨G, j * 2, none⟩ from fun _ => by rw [cutA_pos (by have := HMM.out; have := HJ.out; omega), Nat.zero_add])
  have hmin1 : min 1 (m - i) = 1 := by omega
  have hmin2 : min (n - i) (m - j) = n - i := by have := HMM.out; have := HJ.out; omega
  have HM1 := Lib.hid hmin1
  have HM2 := Lib.hid hmin2
  generalize cutA (some ⟨G, 0, none⟩) c' j 2 = X at hd3 hd4 HA
  have HB1 := Lib.hid hb1
  have HBold := Lib.hid (HB.out.below hbel hbv)
  have HV1 := Lib.hid (HV.out.below hbel hvv)
  have HBEL := Lib.hid hbel
  have HF := Lib.hid hfit
  have HF2 := Lib.hid hfit2
  have HL0 := Lib.hid hL0
  have HL1 := Lib.hid hL1
  have HL2 := Lib.hid hL2
  have HR := Lib.hid hrow
  have HCM := Lib.hid hcm
  have HSZ := Lib.hid hsz
  have HG := Lib.hid hG
  unfold maxLen at hcm
  have hgG : g ≠ G := by omega
  have hvG : vb ≠ G := by omega
  clear hb1 hbel hfit hfit2 hL0 hL1 hL2 hrow hsz hG hmin1 hmin2 hu hzl HRW
  go_wp2_with (refine cpyB spnEl rfl (.tmp 43) (.tmp 44) rfl rfl rfl (cs := y) HB1.out (fun _ => rfl) (by rw [HM1.out, Nat.one_mul]; exact HY.out) (fun h0 => ⟨_, rfl, fun q u hq => ?_⟩) HF.out HY1.out ?_)
  · rw [addr_add, HV1.out.cell]
    simpa using hq
  intro w2 hb2 hs2
  have HB2 := Lib.hid hb2
  have HS2 := Lib.hid hs2
  have HBold2 := Lib.hid (hs2.blk HBold.out hgG)
  clear hb2 hs2 HB1 HBold HV1
  go_wp2_with fail
  refine wp_region_still_tail 8 (by kernel_rfl) (by kernel_rfl) ?_
  simp only [List.take_succ_cons, List.take_zero, List.drop_succ_cons, List.drop_zero]
  repeat still_step
  refine wpStill_nil ?_
  change wpList _ _ _ _ _ w2.drew
  refine cpyB spnEl rfl (.tmp 50) (.tmp 53) rfl rfl rfl (off := j * 2) (cs := ys) HB2.out.drew (fun h0 => HA.out (by omega)) (by rw [HM2.out]; exact HL.out) (fun h0 => ⟨_, rfl, fun q u hq => blk_cells (w := w2.drew) HBold2.out.drew q u (by rw [HX.out]; exact hq)⟩) HF2.out H1.out ?_
  intro w3 hb3 hs3
  have HB3 := Lib.hid hb3
  have HS3 := Lib.hid hs3
  clear hb3 hs3 HB2
  go_wp2
  go_ret
  refine ⟨_, rfl, ?_, ?_, NewOr.new (g := G) rfl (by have := HG.out; omega)⟩
  · have hBG : B ≤ G := by have := HG.out; omega
    have hown := own_shut (sz := 2) (n := m) hBG HB3.out hc' HCM.out (by rw [HL2.out, HL1.out, HL0.out]) HR.out
    rw [← HMM.out]
    exact hown
  · have k1 : w.grownBy w1 (some g) := ⟨HBEL.out.os, HBEL.out.tape, HBEL.out.output, by rw [HSZ.out, HG.out]; omega, fun q hq _ => HBEL.out.block q (by rw [HG.out]; exact hq)⟩
    exact grownBy_new k1 (grownBy_trans HS2.out.grownBy (grownBy_trans (grownBy_drew (grownBy_refl w2 _)) HS3.out.grownBy)) fun q hq => by injection hq with hq; rw [← hq, HG.out]; exact Nat.le_refl _
/-- Insert of one element. -/
theorem spnInsert (v : Value) (n i B vb vc : Nat) (xs y : List Value) (w : World) (h : w.ownsRow B 71 2 v n xs) (h1 : ∀ v ∈ xs, v.oneCell' = true) (hn : n ≤ 900000) (hin : i ≤ n) (hv : Blk w vb 71 y.toArray) (hy : y.length = 2) (hy1 : ∀ v ∈ y, v.oneCell' = true) (hvb : ∀ g, v.ownBlock = some g → vb ≠ g) (hB : B ≤ w.heap.size) :
    Calls Try.prog 52 #[v, .int .i64 (i : Int), .slice (some ⟨vb, 0, none⟩) 1 vc] w fun e w' => ∃ v', e = .returned v' ∧ w'.ownsRow B 71 2 v' (n + 1) (xs.take (i * 2) ++ y ++ xs.drop (i * 2)) ∧ w.grownBy w' v.ownBlock ∧ NewOr v v' w := by
  by_cases he : i = n
  · subst he
    refine (spnInsEnd v i B vb vc xs y w h (by omega) hv hy hy1 hB).mono ?_
    rintro e w' ⟨v', rfl, ho, hg, hno⟩
    refine ⟨v', rfl, ?_, hg, hno⟩
    rw [List.take_of_length_le (by rw [own_len h]; exact Nat.le_refl _), List.drop_of_length_le (by rw [own_len h]; exact Nat.le_refl _), List.append_nil]
    exact ho
  · have hlt : i < n := by omega
    rcases own_open h with ⟨_, h0, _⟩ | ⟨g, c, L, rfl, hBg, hb, hnc, hcm, hl, hx⟩
    · omega
    · by_cases hr : n + 1 ≤ c
      · exact spnInsRoom g c n i B vb vc L xs y w hBg hb hr hcm hl hx h1 (by omega) hlt hv hy hy1 (hvb g rfl)
      · exact spnInsGrow g c n i B vb vc L xs y w hB hb hnc (by omega) hl hx h1 hn hlt hv hy hy1
end Go.Proofs.Ytnngjbieoakanaa
