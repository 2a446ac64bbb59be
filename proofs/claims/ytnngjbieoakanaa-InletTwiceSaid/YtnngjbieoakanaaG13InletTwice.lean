/- Package slices at []spans.Span: Replace by one. -/
import Derived.Test.YtnngjbieoakanaaG12InletTwice
import Derived.Test.YtnngjbieoakanaaG8InletTwice

namespace Go.Proofs.Ytnngjbieoakanaa
open Go.RowKit
set_option linter.unusedVariables false
set_option maxRecDepth 20000 in
set_option maxHeartbeats 1000000 in
theorem spnRepEq (v : Value) (n i B vb vc : Nat) (xs y : List Value) (w : World) (h : w.ownsRow B 71 2 v n xs) (h1 : ∀ v ∈ xs, v.oneCell' = true) (hn : n ≤ 900000) (hin : i ≤ n) (hv : Blk w vb 71 y.toArray) (hy : y.length = 2) (hy1 : ∀ v ∈ y, v.oneCell' = true) (hvb : ∀ g, v.ownBlock = some g → vb ≠ g) (hB : B ≤ w.heap.size) :
    Calls Try.prog 44 #[v, .int .i64 (i : Int), .int .i64 (i : Int), .slice (some ⟨vb, 0, none⟩) 1 vc] w fun e w' => ∃ v', e = .returned v' ∧ w'.ownsRow B 71 2 v' (n + 1) (xs.take (i * 2) ++ y ++ xs.drop (i * 2)) ∧ w.grownBy w' v.ownBlock ∧ NewOr v v' w := by
  have HI := Lib.hid (spnInsert v n i B vb vc xs y w h h1 hn hin hv hy hy1 hvb hB)
  obtain ⟨A, c, rfl, hnc, hcm, hr⟩ := own_form h
  unfold maxLen at hcm
  have hc1 := run_cut_lh spnEl A n c i i (Nat.le_refl _) (by omega)
  have hu : Try.prog.underlying 57 = some (.slice (Try.prog.elem 57)) := by unfold Program.elem; rw [Try.underlying57]
  have hc2 : ∀ w, (Instr.sliceAt 57 (.slice A n c) (some (.int .i64 (i : Int))) (some (.int .i64 (i : Int))) none).run Try.prog w = _ := fun w => (run_sliceAt_slice w _ _ _ _ _ hu).trans (hc1 w)
  clear h hr hv hy hy1 hu hB h1 hvb
  generalize cutA A c i 2 = X at hc1 hc2
  go_enter Try.func44, Try.ntmps44
  go_wp2_with fail
  refine HI.out.mono ?_
  rintro e w1 ⟨v', rfl, ho, hg, hno⟩
  have HO := Lib.hid ho
  have HG := Lib.hid hg
  have HNO := Lib.hid hno
  clear ho hg HI hno
  go_wp2_with fail
  go_ret
  exact ⟨_, rfl, HO.out, HG.out, HNO.out⟩
set_option maxRecDepth 20000 in
set_option maxHeartbeats 1000000 in
theorem spnRepEnd (g c n i B vb vc : Nat) (L xs y : List Value) (w : World) (hBg : B ≤ g) (hb : Blk w g 71 L.toArray) (hnc : n ≤ c) (hcm : c ≤ maxLen) (hl : L.length = c * 2) (hx : L.take (n * 2) = xs) (hn : n ≤ 900000) (hin : i < n)
    (hv : Blk w vb 71 y.toArray) (hy : y.length = 2) (hy1 : ∀ v ∈ y, v.oneCell' = true) :
    Calls Try.prog 44 #[.slice (some ⟨g, 0, none⟩) n c, .int .i64 (i : Int), .int .i64 (n : Int), .slice (some ⟨vb, 0, none⟩) 1 vc] w fun e w' => ∃ v', e = .returned v' ∧ w'.ownsRow B 71 2 v' (i + 1) (xs.take (i * 2) ++ y) ∧ w.grownBy w' (some g) ∧ NewOr (.slice (some ⟨g, 0, none⟩) n c) v' w := by
  have hcm' := hcm
  unfold maxLen at hcm
  have hu : Try.prog.underlying 57 = some (.slice (Try.prog.elem 57)) := by unfold Program.elem; rw [Try.underlying57]
  have hne1 : ¬ (i : Int) = (n : Int) := by omega
  have hne2 : ((i : Int) == (n : Int)) = false := by simpa using hne1
  obtain ⟨j, hj⟩ : ∃ j, j = i + 1 := ⟨_, rfl⟩
  have hc1 := run_cut_lh spnEl (some ⟨g, 0, none⟩) n c i n (by omega) hnc
  have hc2 : ∀ w, (Instr.sliceAt 57 (.slice (some ⟨g, 0, none⟩) n c) (some (.int .i64 (i : Int))) (some (.int .i64 (n : Int))) none).run Try.prog w = _ := fun w => (run_sliceAt_slice w _ _ _ _ _ hu).trans (hc1 w)
  have hc3 := run_cut_h spnEl (some ⟨g, 0, none⟩) n c i (by omega)
  have hc4 : ∀ w, (Instr.sliceAt 57 (.slice (some ⟨g, 0, none⟩) n c) none (some (.int .i64 (i : Int))) none).run Try.prog w = _ := fun w => (run_sliceAt_slice w _ _ _ _ _ hu).trans (hc3 w)
  have hc5 := run_cut_l spnEl (some ⟨g, 0, none⟩) n c j (by omega)
  have hc6 : ∀ w, (Instr.sliceAt 57 (.slice (some ⟨g, 0, none⟩) n c) (some (.int .i64 (j : Int))) none none).run Try.prog w = _ := fun w => (run_sliceAt_slice w _ _ _ _ _ hu).trans (hc5 w)
  have HC := Lib.hid (show 0 < n - j → cutA (some ⟨g, 0, none⟩) c j 2 = some ⟨g, j * 2, none⟩ from fun _ => by rw [cutA_pos (by omega), Nat.zero_add])
  have hxi : L.take (i * 2) = xs.take (i * 2) := by rw [← hx, List.take_take]; congr 1; omega
  have hfit : i * 2 + y.length ≤ L.length := by rw [hy, hl]; omega
  have hL1 := splv_len hfit
  have hfit2 : j * 2 + (n - j) * 2 ≤ (splv L (i * 2) y).length := by rw [hL1, hl]; omega
  have hrow : (splv L (i * 2) y).take (j * 2) = xs.take (i * 2) ++ y := by
    unfold splv
    rw [hxi]
    exact List.take_left' (by rw [List.length_append, ← hxi, List.length_take, hy, hl]; omega)
  have hrow2 : ∀ zs, (splv (splv L (i * 2) y) (j * 2) zs).take (j * 2) = xs.take (i * 2) ++ y := by
    intro zs
    rw [show splv (splv L (i * 2) y) (j * 2) zs = (splv L (i * 2) y).take (j * 2) ++ zs ++ (splv L (i * 2) y).drop (j * 2 + zs.length) from rfl]
    rw [List.append_assoc, List.take_append_of_le_length (by rw [List.length_take, hL1, hl]; omega), List.take_take, Nat.min_self, hrow]
  have HB := Lib.hid hb
  have HV := Lib.hid hv
  have HY := Lib.hid hy
  have HY1 := Lib.hid hy1
  have HF := Lib.hid hfit
  have HF2 := Lib.hid hfit2
  have HL1 := Lib.hid hL1
  have HLL := Lib.hid hl
  have HRW := Lib.hid hrow
  have HRW2 := Lib.hid hrow2
  have HCM := Lib.hid hcm'
  have HJ := Lib.hid hj
  have hjn : j ≤ n := by omega
  have hji : i < j := by omega
  have hic : i + 1 ≤ c := by omega
  clear hb hv hy hy1 hfit hfit2 hL1 hl hrow hrow2 hcm' hx hxi hu hj
  generalize cutA (some ⟨g, 0, none⟩) c i 2 = X1 at hc1 hc2
  generalize cutA (some ⟨g, 0, none⟩) c j 2 = X2 at hc5 hc6 HC
  by_cases hjn' : j < n
  · have hjn2 : (j : Int) < (n : Int) := by omega
    go_enter Try.func44, Try.ntmps44
    go_wp2_with (refine appB spnEl rfl (.tmp 32) (.tmp 33) rfl rfl rfl (cs := y) HB.out (by rw [Nat.one_mul]; exact HY.out) (fun h0 => ⟨_, rfl, fun q u hq => Blk.at0 HV.out q u hq⟩) hic HF.out HY1.out ?_)
    rw [← HJ.out]
    intro w1 hb1 hs1
    have HB1 := Lib.hid hb1
    have HS1 := Lib.hid hs1
    clear hb1 hs1 HB HV
    go_wp2_with (refine clrB spnEl spnZ1 rfl (.tmp 43) rfl rfl HB1.out HC.out HF2.out ?_)
    intro w2 zs hz hb2 hs2
    have HB2 := Lib.hid hb2
    have HS2 := Lib.hid hs2
    have HZ := Lib.hid hz
    clear hb2 hs2 hz HB1
    go_wp2
    go_ret
    refine ⟨_, rfl, ?_, ?_, NewOr.same rfl⟩
    · have hown := own_shut (sz := 2) (n := j) hBg HB2.out (by omega) HCM.out (by rw [splv_len (by rw [HZ.out]; exact HF2.out), HL1.out, HLL.out]) (HRW2.out zs)
      rw [← HJ.out]
      exact hown
    · exact grownBy_trans HS1.out.grownBy HS2.out.grownBy
  · have hjn2 : ¬ (j : Int) < (n : Int) := by omega
    go_enter Try.func44, Try.ntmps44
    go_wp2_with (refine appB spnEl rfl (.tmp 32) (.tmp 33) rfl rfl rfl (cs := y) HB.out (by rw [Nat.one_mul]; exact HY.out) (fun h0 => ⟨_, rfl, fun q u hq => Blk.at0 HV.out q u hq⟩) hic HF.out HY1.out ?_)
    rw [← HJ.out]
    intro w1 hb1 hs1
    have HB1 := Lib.hid hb1
    have HS1 := Lib.hid hs1
    clear hb1 hs1 HB HV
    go_wp2
    go_ret
    refine ⟨_, rfl, ?_, ?_, NewOr.same rfl⟩
    · have hown := own_shut (sz := 2) (n := j) hBg HB1.out (by omega) HCM.out (by rw [HL1.out, HLL.out]) HRW.out
      rw [← HJ.out]
      exact hown
    · exact HS1.out.grownBy
set_option maxRecDepth 20000 in
set_option maxHeartbeats 2000000 in
theorem spnRepMid (g c n i j B vb vc : Nat) (L xs y : List Value) (w : World) (hBg : B ≤ g) (hb : Blk w g 71 L.toArray) (hnc : n ≤ c) (hcm : c ≤ maxLen) (hl : L.length = c * 2) (hx : L.take (n * 2) = xs) (h1 : ∀ v ∈ xs, v.oneCell' = true) (hn : n ≤ 900000) (hij : i < j) (hjn : j < n)
    (hv : Blk w vb 71 y.toArray) (hy : y.length = 2) (hy1 : ∀ v ∈ y, v.oneCell' = true) :
    Calls Try.prog 44 #[.slice (some ⟨g, 0, none⟩) n c, .int .i64 (i : Int), .int .i64 (j : Int), .slice (some ⟨vb, 0, none⟩) 1 vc] w fun e w' => ∃ v', e = .returned v' ∧ w'.ownsRow B 71 2 v' (i + 1 + (n - j)) (xs.take (i * 2) ++ y ++ xs.drop (j * 2)) ∧ w.grownBy w' (some g) ∧ NewOr (.slice (some ⟨g, 0, none⟩) n c) v' w := by
  have hcm' := hcm
  unfold maxLen at hcm
  have hu : Try.prog.underlying 57 = some (.slice (Try.prog.elem 57)) := by unfold Program.elem; rw [Try.underlying57]
  have hne1 : ¬ (i : Int) = (j : Int) := by omega
  have hne2 : ((i : Int) == (j : Int)) = false := by simpa using hne1
  have hne3 : ¬ (j : Int) = (n : Int) := by omega
  have hne4 : ((j : Int) == (n : Int)) = false := by simpa using hne3
  obtain ⟨k, hk⟩ : ∃ k, k = i + 1 := ⟨_, rfl⟩
  obtain ⟨m, hm⟩ : ∃ m, m = i + 1 + (n - j) := ⟨_, rfl⟩
  obtain ⟨d, hd⟩ : ∃ d, d = n - j := ⟨_, rfl⟩
  have ek : (i : Int) + 1 = (k : Int) := by omega
  have em : (k : Int) + (d : Int) = (m : Int) := by omega
  have wk1 : IntKind.i64.wrap ((i : Int) + 1) = (k : Int) := by rw [ek]; exact IntWalk.i64_in _ (by omega)
  have wk2 : IntKind.i64.wrap (k : Int) = (k : Int) := IntWalk.i64_in _ (by omega)
  have wm1 : IntKind.i64.wrap ((k : Int) + (d : Int)) = (m : Int) := by rw [em]; exact IntWalk.i64_in _ (by omega)
  have wm2 : IntKind.i64.wrap (m : Int) = (m : Int) := IntWalk.i64_in _ (by omega)
  have hc1 := run_cut_lh spnEl (some ⟨g, 0, none⟩) n c i j (by omega) (by omega)
  have hc2 : ∀ w, (Instr.sliceAt 57 (.slice (some ⟨g, 0, none⟩) n c) (some (.int .i64 (i : Int))) (some (.int .i64 (j : Int))) none).run Try.prog w = _ := fun w => (run_sliceAt_slice w _ _ _ _ _ hu).trans (hc1 w)
  have hc3 := run_cut_h spnEl (some ⟨g, 0, none⟩) n c i (by omega)
  have hc4 : ∀ w, (Instr.sliceAt 57 (.slice (some ⟨g, 0, none⟩) n c) none (some (.int .i64 (i : Int))) none).run Try.prog w = _ := fun w => (run_sliceAt_slice w _ _ _ _ _ hu).trans (hc3 w)
  have hc5 := run_cut_l spnEl (some ⟨g, 0, none⟩) n c j (by omega)
  have hc6 : ∀ w, (Instr.sliceAt 57 (.slice (some ⟨g, 0, none⟩) n c) (some (.int .i64 (j : Int))) none none).run Try.prog w = _ := fun w => (run_sliceAt_slice w _ _ _ _ _ hu).trans (hc5 w)
  rw [cutA_pos (by omega), Nat.zero_add, ← hd] at hc5 hc6
  have hc7 := run_cut_h spnEl (some ⟨g, 0, none⟩) n c m (by omega)
  have hc8 : ∀ w, (Instr.sliceAt 57 (.slice (some ⟨g, 0, none⟩) n c) none (some (.int .i64 (m : Int))) none).run Try.prog w = _ := fun w => (run_sliceAt_slice w _ _ _ _ _ hu).trans (hc7 w)
  have hc9 := run_cut_l spnEl (some ⟨g, 0, none⟩) m c i (by omega)
  have hc10 : ∀ w, (Instr.sliceAt 57 (.slice (some ⟨g, 0, none⟩) m c) (some (.int .i64 (i : Int))) none none).run Try.prog w = _ := fun w => (run_sliceAt_slice w _ _ _ _ _ hu).trans (hc9 w)
  have hc11 := run_cut_l spnEl (some ⟨g, 0, none⟩) m c k (by omega)
  have hc12 : ∀ w, (Instr.sliceAt 57 (.slice (some ⟨g, 0, none⟩) m c) (some (.int .i64 (k : Int))) none none).run Try.prog w = _ := fun w => (run_sliceAt_slice w _ _ _ _ _ hu).trans (hc11 w)
  have hc13 := run_cut_l spnEl (some ⟨g, 0, none⟩) n c m (by omega)
  have hc14 : ∀ w, (Instr.sliceAt 57 (.slice (some ⟨g, 0, none⟩) n c) (some (.int .i64 (m : Int))) none none).run Try.prog w = _ := fun w => (run_sliceAt_slice w _ _ _ _ _ hu).trans (hc13 w)
  rw [cutA_pos (by omega), Nat.zero_add] at hc9 hc10 hc11 hc12
  have HC := Lib.hid (show 0 < n - m → cutA (some ⟨g, 0, none⟩) c m 2 = some ⟨g, m * 2, none⟩ from fun _ => by rw [cutA_pos (by omega), Nat.zero_add])
  have hxl : xs.length = n * 2 := by rw [← hx, List.length_take, hl]; omega
  have hcl : (xs.drop (j * 2)).length = d * 2 := by rw [List.length_drop, hxl, hd, Nat.sub_mul]
  have hfit : i * 2 + y.length ≤ L.length := by rw [hy, hl]; omega
  have hL1 := splv_len hfit
  have hfit2 : k * 2 + (xs.drop (j * 2)).length ≤ (splv L (i * 2) y).length := by rw [hL1, hcl, hl]; omega
  have hL2 := splv_len hfit2
  have hfit3 : m * 2 + (n - m) * 2 ≤ (splv (splv L (i * 2) y) (k * 2) (xs.drop (j * 2))).length := by rw [hL2, hL1, hl]; omega
  have hcs : (((splv L (i * 2) y).drop (j * 2)).take (d * 2)) = xs.drop (j * 2) := by
    have h2 : (splv L (i * 2) y).drop (j * 2) = L.drop (j * 2) := by
      apply List.ext_getElem?
      intro q
      rw [List.getElem?_drop, List.getElem?_drop, splv_get hfit, if_neg (by rw [hy]; omega)]
    rw [h2, ← hx, List.drop_take]
    congr 1
    omega
  have hrow := fun zs => rep_row (zs := zs) hl hx (show i + 1 ≤ j by omega) (Nat.le_of_lt hjn) hnc hy
  rw [← hm, ← hk] at hrow
  rw [← hm]
  have h1d : ∀ v ∈ xs.drop (j * 2), v.oneCell' = true := fun v hv => h1 v (List.mem_of_mem_drop hv)
  have HM1 := Lib.hid (show min 1 (m - i) = 1 by omega)
  have HM2 := Lib.hid (show min d (m - k) = d by omega)
  have HB := Lib.hid hb
  have HV := Lib.hid hv
  have HY := Lib.hid hy
  have HY1 := Lib.hid hy1
  have HX := Lib.hid hcs
  have HL := Lib.hid hcl
  have HF := Lib.hid hfit
  have HF2 := Lib.hid hfit2
  have HF3 := Lib.hid hfit3
  have HL1 := Lib.hid hL1
  have HL2 := Lib.hid hL2
  have HLL := Lib.hid hl
  have HRW := Lib.hid hrow
  have H1 := Lib.hid h1d
  have HCM := Lib.hid hcm'
  have hkj : k ≤ j := by omega
  have hkj' : (k : Int) ≤ (j : Int) := by omega
  have hmn : m ≤ n := by omega
  have hmc : m ≤ c := by omega
  have hmc' : (m : Int) ≤ (c : Int) := by omega
  have hkm : k ≤ m := by omega
  have him : i < m := by omega
  clear hb hv hy hy1 hcs hcl hfit hfit2 hfit3 hL1 hL2 hl hrow h1d hcm' hx hxl h1 hu hm hk hd
  generalize cutA (some ⟨g, 0, none⟩) c i 2 = X1 at hc1 hc2
  generalize cutA (some ⟨g, 0, none⟩) c m 2 = X2 at hc13 hc14 HC
  generalize hys : xs.drop (j * 2) = ys at HX HL HF2 HF3 HL2 HRW H1
  have HYS := Lib.hid hys
  clear hys
  go_enter Try.func44, Try.ntmps44
  go_wp2_with fail
  refine wp_ext (by kernel_rfl) (by kernel_rfl) (fun QQ hQ => ?_)
  (first | (refine x_load _ (by rfl) rfl rfl (by assumption) (by kernel_rfl) ?_; simp only [Act.put, List.setIfInBounds_toArray, List.set_cons_zero, List.set_cons_succ]) | (refine x_val (v := ?_) (by rfl) (fun w' hx => ?_) ?_; rotate_left; (focus (go_simp; (try with_reducible rfl))); (try simp only [Act.put, List.setIfInBounds_toArray, List.set_cons_zero, List.set_cons_succ])))
  (first | (refine x_load _ (by rfl) rfl rfl (by assumption) (by kernel_rfl) ?_; simp only [Act.put, List.setIfInBounds_toArray, List.set_cons_zero, List.set_cons_succ]) | (refine x_val (v := ?_) (by rfl) (fun w' hx => ?_) ?_; rotate_left; (focus (go_simp; (try with_reducible rfl))); (try simp only [Act.put, List.setIfInBounds_toArray, List.set_cons_zero, List.set_cons_succ])))
  (first | (refine x_load _ (by rfl) rfl rfl (by assumption) (by kernel_rfl) ?_; simp only [Act.put, List.setIfInBounds_toArray, List.set_cons_zero, List.set_cons_succ]) | (refine x_val (v := ?_) (by rfl) (fun w' hx => ?_) ?_; rotate_left; (focus (go_simp; (try with_reducible rfl))); (try simp only [Act.put, List.setIfInBounds_toArray, List.set_cons_zero, List.set_cons_succ])))
  (first | (refine x_load _ (by rfl) rfl rfl (by assumption) (by kernel_rfl) ?_; simp only [Act.put, List.setIfInBounds_toArray, List.set_cons_zero, List.set_cons_succ]) | (refine x_val (v := ?_) (by rfl) (fun w' hx => ?_) ?_; rotate_left; (focus (go_simp; (try with_reducible rfl))); (try simp only [Act.put, List.setIfInBounds_toArray, List.set_cons_zero, List.set_cons_succ])))
  (first | (refine x_load _ (by rfl) rfl rfl (by assumption) (by kernel_rfl) ?_; simp only [Act.put, List.setIfInBounds_toArray, List.set_cons_zero, List.set_cons_succ]) | (refine x_val (v := ?_) (by rfl) (fun w' hx => ?_) ?_; rotate_left; (focus (go_simp; (try with_reducible rfl))); (try simp only [Act.put, List.setIfInBounds_toArray, List.set_cons_zero, List.set_cons_succ])))
  (first | (refine x_load _ (by rfl) rfl rfl (by assumption) (by kernel_rfl) ?_; simp only [Act.put, List.setIfInBounds_toArray, List.set_cons_zero, List.set_cons_succ]) | (refine x_val (v := ?_) (by rfl) (fun w' hx => ?_) ?_; rotate_left; (focus (go_simp; (try with_reducible rfl))); (try simp only [Act.put, List.setIfInBounds_toArray, List.set_cons_zero, List.set_cons_succ])))
  (first | (refine x_load _ (by rfl) rfl rfl (by assumption) (by kernel_rfl) ?_; simp only [Act.put, List.setIfInBounds_toArray, List.set_cons_zero, List.set_cons_succ]) | (refine x_val (v := ?_) (by rfl) (fun w' hx => ?_) ?_; rotate_left; (focus (go_simp; (try with_reducible rfl))); (try simp only [Act.put, List.setIfInBounds_toArray, List.set_cons_zero, List.set_cons_succ])))
  (first | (refine x_load _ (by rfl) rfl rfl (by assumption) (by kernel_rfl) ?_; simp only [Act.put, List.setIfInBounds_toArray, List.set_cons_zero, List.set_cons_succ]) | (refine x_val (v := ?_) (by rfl) (fun w' hx => ?_) ?_; rotate_left; (focus (go_simp; (try with_reducible rfl))); (try simp only [Act.put, List.setIfInBounds_toArray, List.set_cons_zero, List.set_cons_succ])))
  (first | (refine x_load _ (by rfl) rfl rfl (by assumption) (by kernel_rfl) ?_; simp only [Act.put, List.setIfInBounds_toArray, List.set_cons_zero, List.set_cons_succ]) | (refine x_val (v := ?_) (by rfl) (fun w' hx => ?_) ?_; rotate_left; (focus (go_simp; (try with_reducible rfl))); (try simp only [Act.put, List.setIfInBounds_toArray, List.set_cons_zero, List.set_cons_succ])))
  (first | (refine x_load _ (by rfl) rfl rfl (by assumption) (by kernel_rfl) ?_; simp only [Act.put, List.setIfInBounds_toArray, List.set_cons_zero, List.set_cons_succ]) | (refine x_val (v := ?_) (by rfl) (fun w' hx => ?_) ?_; rotate_left; (focus (go_simp; (try with_reducible rfl))); (try simp only [Act.put, List.setIfInBounds_toArray, List.set_cons_zero, List.set_cons_succ])))
  (first | (refine x_load _ (by rfl) rfl rfl (by assumption) (by kernel_rfl) ?_; simp only [Act.put, List.setIfInBounds_toArray, List.set_cons_zero, List.set_cons_succ]) | (refine x_val (v := ?_) (by rfl) (fun w' hx => ?_) ?_; rotate_left; (focus (go_simp; (try with_reducible rfl))); (try simp only [Act.put, List.setIfInBounds_toArray, List.set_cons_zero, List.set_cons_succ])))
  (first | (refine x_load _ (by rfl) rfl rfl (by assumption) (by kernel_rfl) ?_; simp only [Act.put, List.setIfInBounds_toArray, List.set_cons_zero, List.set_cons_succ]) | (refine x_val (v := ?_) (by rfl) (fun w' hx => ?_) ?_; rotate_left; (focus (go_simp; (try with_reducible rfl))); (try simp only [Act.put, List.setIfInBounds_toArray, List.set_cons_zero, List.set_cons_succ])))
  (first | (refine x_load _ (by rfl) rfl rfl (by assumption) (by kernel_rfl) ?_; simp only [Act.put, List.setIfInBounds_toArray, List.set_cons_zero, List.set_cons_succ]) | (refine x_val (v := ?_) (by rfl) (fun w' hx => ?_) ?_; rotate_left; (focus (go_simp; (try with_reducible rfl))); (try simp only [Act.put, List.setIfInBounds_toArray, List.set_cons_zero, List.set_cons_succ])))
  refine x_nil (hQ.out _ ?_); clear hQ QQ
  intro w1 hbel
  have HB1 := Lib.hid (HB.out.below hbel HB.out.lt)
  have HV1 := Lib.hid (HV.out.below hbel HV.out.lt)
  have k1 : w.grownBy w1 (some g) := ⟨hbel.os, hbel.tape, hbel.output, hbel.size, fun q hq _ => hbel.block q hq⟩
  have K1 := Lib.hid k1
  clear hbel k1 HB HV
  go_wp2_with (refine cpyB spnEl rfl (.tmp 95) (.tmp 96) rfl rfl rfl (cs := y) HB1.out (fun _ => rfl) (by rw [HM1.out, Nat.one_mul]; exact HY.out) (fun h0 => ⟨_, rfl, fun q u hq => Blk.at0 HV1.out q u hq⟩) HF.out HY1.out ?_)
  intro w2 hb2 hs2
  have HB2 := Lib.hid hb2
  have HS2 := Lib.hid hs2
  clear hb2 hs2 HB1 HV1
  go_wp2_with fail
  refine wp_region_still_tail 9 (by kernel_rfl) (by kernel_rfl) ?_
  simp only [List.take_succ_cons, List.take_zero, List.drop_succ_cons, List.drop_zero]
  repeat still_step
  refine wpStill_nil ?_
  change wpList _ _ _ _ _ w2.drew
  refine cpyB spnEl rfl (.tmp 103) (.tmp 106) rfl rfl rfl (cs := ys) HB2.out.drew (fun h0 => rfl) (by rw [HM2.out]; exact HL.out) (fun h0 => ⟨_, rfl, fun q u hq => blk_cells (w := w2.drew) HB2.out.drew q u (by rw [HX.out]; exact hq)⟩) HF2.out H1.out ?_
  intro w3 hb3 hs3
  have HB3 := Lib.hid hb3
  have HS3 := Lib.hid hs3
  clear hb3 hs3 HB2
  go_wp2_with (refine clrB spnEl spnZ1 rfl (.tmp 110) rfl rfl HB3.out HC.out HF3.out ?_)
  intro w4 zs hz hb4 hs4
  have HB4 := Lib.hid hb4
  have HS4 := Lib.hid hs4
  have HZ := Lib.hid hz
  clear hb4 hs4 hz HB3
  go_wp2
  go_ret
  refine ⟨_, rfl, ?_, ?_, NewOr.same rfl⟩
  · have hown := own_shut (sz := 2) (n := m) hBg HB4.out (by omega) HCM.out (by rw [splv_len (by rw [HZ.out]; exact HF3.out), HL2.out, HL1.out, HLL.out]) (HRW.out zs)
    exact hown
  · exact grownBy_trans K1.out (grownBy_trans HS2.out.grownBy (grownBy_trans (grownBy_drew (grownBy_refl w2 _)) (grownBy_trans HS3.out.grownBy HS4.out.grownBy)))
/-- Replace of some by one. -/
theorem spnReplace (v : Value) (n i j B vb vc : Nat) (xs y : List Value) (w : World) (h : w.ownsRow B 71 2 v n xs) (h1 : ∀ v ∈ xs, v.oneCell' = true) (hn : n ≤ 900000) (hij : i ≤ j) (hjn : j ≤ n) (hv : Blk w vb 71 y.toArray) (hy : y.length = 2) (hy1 : ∀ v ∈ y, v.oneCell' = true) (hvb : ∀ g, v.ownBlock = some g → vb ≠ g) (hB : B ≤ w.heap.size) :
    Calls Try.prog 44 #[v, .int .i64 (i : Int), .int .i64 (j : Int), .slice (some ⟨vb, 0, none⟩) 1 vc] w fun e w' => ∃ v', e = .returned v' ∧ w'.ownsRow B 71 2 v' (i + 1 + (n - j)) (xs.take (i * 2) ++ y ++ xs.drop (j * 2)) ∧ w.grownBy w' v.ownBlock ∧ NewOr v v' w := by
  by_cases he : i = j
  · subst he
    have := spnRepEq v n i B vb vc xs y w h h1 hn hjn hv hy hy1 hvb hB
    rwa [show i + 1 + (n - i) = n + 1 by omega]
  · rcases own_open h with ⟨_, h0, _⟩ | ⟨g, c, L, rfl, hBg, hb, hnc, hcm, hl, hx⟩
    · omega
    · by_cases hr : j = n
      · subst hr
        have := spnRepEnd g c j i B vb vc L xs y w hBg hb hnc hcm hl hx hn (by omega) hv hy hy1
        rw [show i + 1 + (j - j) = i + 1 by omega, List.drop_of_length_le (by rw [own_len h]; exact Nat.le_refl _), List.append_nil]
        exact this
      · exact spnRepMid g c n i j B vb vc L xs y w hBg hb hnc hcm hl hx h1 hn (by omega) (by omega) hv hy hy1
end Go.Proofs.Ytnngjbieoakanaa
