/- Layer 11: the law BucketPlays answers true, and nothing that was there has turned. -/
import Derived.Test.YtkekmcolekomjaaBkt2
import Derived.Test.YtkekmcolekomjaaOrd
namespace Go.Proofs.Ytkekmcolekomjaa
open Go.RowKit
set_option linter.unusedVariables false
set_option linter.unusedSimpArgs false
set_option maxRecDepth 20000 in
theorem alive11 (w : World) : Calls Try.prog 14 #[] w fun e w' => e = .returned (.bool true) ∧ Below w.heap.size w w' := by
  go_enter Try.func14, Try.ntmps14
  go_wp2_with fail
  refine (bkt_new 2 1 w (by decide) (by decide)).mono ?_
  rintro e w1 ⟨rfl, h1, hb1⟩
  have H1 := Lib.hid (show Bkt w1 w.heap.size 2 1 2 from h1)
  have B1 := Lib.hid hb1
  clear h1 hb1
  go_wp2_with fail
  refine (bkt_take w.heap.size 2 1 2 w1 H1.out (by omega)).mono ?_
  rintro e w2 ⟨rfl, h2, hs2⟩
  have H2 := Lib.hid (show Bkt w2 w.heap.size 2 1 1 from h2)
  have B2 := Lib.hid (B1.out.trans hs2.1)
  clear h2 hs2
  go_wp2_with fail
  refine (bkt_take w.heap.size 2 1 1 w2 H2.out (by omega)).mono ?_
  rintro e w3 ⟨rfl, h3, hs3⟩
  have H3 := Lib.hid (show Bkt w3 w.heap.size 2 1 0 from h3)
  have B3 := Lib.hid (B2.out.trans hs3.1)
  clear h3 hs3
  go_wp2_with fail
  refine (bkt_take w.heap.size 2 1 0 w3 H3.out (by omega)).mono ?_
  rintro e w4 ⟨rfl, h4, hs4⟩
  have H4 := Lib.hid (show Bkt w4 w.heap.size 2 1 0 from h4)
  have B4 := Lib.hid (B3.out.trans hs4.1)
  clear h4 hs4
  go_wp2_with fail
  refine (bkt_tick w.heap.size 2 1 0 1 w4 H4.out (by omega) (by omega) (by decide)).mono ?_
  rintro e w5 ⟨rfl, h5, hs5⟩
  have H5 := Lib.hid (show Bkt w5 w.heap.size 2 1 1 from h5)
  have B5 := Lib.hid (B4.out.trans hs5.1)
  clear h5 hs5
  go_wp2_with fail
  refine (bkt_left w.heap.size 2 1 1 w5 H5.out).mono ?_
  rintro e w6 ⟨rfl, rfl⟩
  go_wp2_with fail
  refine (bkt_take w.heap.size 2 1 1 w6 H5.out (by omega)).mono ?_
  rintro e w7 ⟨rfl, h7, hs7⟩
  have B7 := Lib.hid (B5.out.trans hs7.1)
  clear h7 hs7
  go_wp2_with fail
  go_ret
  exact ⟨rfl, B7.out⟩
set_option maxRecDepth 20000 in
set_option maxHeartbeats 2000000 in
theorem bucketPlays_walk (b r : Int) (A : Option Addr) (n c : Nat) (l : List Int) (w : World) (hb : (Lit.int .i64 b).wf = true) (hrr : (Lit.int .i64 r).wf = true) (hr : Rd w w.heap.size 1 A n (zs .i64 l)) (hnc : n ≤ c) (hmax : c ≤ maxLen) (hl : ∀ x ∈ l, -9223372036854775808 ≤ x ∧ x < 9223372036854775808) :
    Calls Try.prog 3 #[.int .i64 b, .int .i64 r, .slice A n c] w fun e w' => e = .returned (.bool true) ∧ Below w.heap.size w w' := by
  have HR := Lib.hid hr; have HL := Lib.hid hl
  have hbu := bdN_le b
  have hra := bdN_le r
  have HBN := bkt_new b r w hb hrr
  have HRN := fun w => rbkt_new b r w hb hrr
  obtain ⟨bu, hb0⟩ : ∃ bu, bu = bdN b := ⟨_, rfl⟩
  obtain ⟨ra, hr0⟩ : ∃ ra, ra = bdN r := ⟨_, rfl⟩
  rw [← hb0, ← hr0] at HBN
  have HRN : Hid (∀ w, Calls Try.prog 8 #[.int .i64 b, .int .i64 r] w fun e w' => e = .returned (bkv bu ra bu) ∧ Below w.heap.size w w') := Lib.hid (by rw [hb0, hr0]; exact HRN)
  rw [← hb0] at hbu
  rw [← hr0] at hra
  replace HBN := Lib.hid HBN
  clear hb0 hr0 hb hrr
  unfold maxLen at hmax
  clear hr hl
  go_enter Try.func3, Try.ntmps3
  go_wp2_with fail
  refine HBN.out.mono ?_
  rintro e w1 ⟨rfl, h1, hb1⟩
  have H1 := Lib.hid h1
  have B1 := Lib.hid hb1
  clear h1 hb1
  by_cases hn : 1000 < n
  · go_wp2_with fail
    go_ret
    exact ⟨rfl, B1.out⟩
  have hn2 : n ≤ 1000 := by omega
  clear hn
  go_wp2_with fail
  refine (HRN.out w1).mono ?_
  rintro e w2 ⟨rfl, hb2⟩
  have H2 := Lib.hid (Blk.below H1.out hb2 (Blk.lt H1.out))
  have B2 := Lib.hid (B1.out.trans (hb2.mono B1.out.size))
  have HGX := Lib.hid (Nat.lt_of_lt_of_le (Blk.lt H1.out) hb2.size)
  clear hb2 H1 B1 HBN HRN
  unfold bkv
  go_upto_region 5 with fail
  have hbA := (Below.refl w2.heap.size w2).alloc (Nat.le_refl _) (.cells #[.int .i64 (bu : Nat), .int .i64 (ra : Nat), .int .i64 (bu : Nat)] 26)
  have H3 := Lib.hid (H2.out.below hbA (Blk.lt H2.out))
  have B3 := Lib.hid (B2.out.trans (hbA.mono B2.out.size))
  have X3 := Lib.hid (Blk.new w2 26 #[.int .i64 (bu : Nat), .int .i64 (ra : Nat), .int .i64 (bu : Nat)])
  obtain ⟨xb, hxb⟩ : ∃ x, x = w2.heap.size := ⟨_, rfl⟩
  rw [← hxb] at X3 HGX ⊢
  generalize w2.alloc (.cells #[.int .i64 (bu : Nat), .int .i64 (ra : Nat), .int .i64 (bu : Nat)] 26) = w3 at H3 B3 X3 ⊢
  clear hxb hbA H2 B2
  go_wp2_with fail
  go_loopw [9] (fun iv wr => ∃ (i left : Nat), i ≤ n ∧ iv = .int .i64 (i : Nat) ∧ left ≤ 4096 ∧ Hid (Bkt wr w.heap.size bu ra left) ∧ Hid (Blk wr xb 26 #[.int .i64 (bu : Nat), .int .i64 (ra : Nat), .int .i64 (left : Nat)]) ∧ Hid (Below w.heap.size w wr)) (fun iv _ => n - (intOf iv).toNat)
  case atStart => exact ⟨0, bu, Nat.zero_le _, rfl, hbu, H3, X3, B3⟩
  case round =>
    clear H3 X3 B3
    obtain ⟨i, left, hi, rfl, hleft, HH, HX, BB⟩ := hrel
    by_cases hlt : i < n
    · have hlt' : (i : Int) < (n : Int) := by omega
      obtain ⟨ab, ao, x, rfl, hab, q0, hx⟩ := (HR.out.below BB.out).nthz hlt
      have hxw : (Lit.int .i64 x).wf = true := WalkArith.wf_i64 (by have := HL.out _ (List.mem_of_getElem? hx.out); omega)
      have HXW := Lib.hid hxw
      clear hxw
      obtain ⟨x0, x1, x2⟩ := ptc3 HX.out
      by_cases hneg : x < 0
      · go_wp2_with fail
        refine (rbkt_take bu ra left wr hleft).mono ?_
        rintro e w4 ⟨rfl, hb4⟩
        unfold bkv
        have H4 := Lib.hid (Blk.below HH.out hb4 (Blk.lt HH.out))
        have X4 := Lib.hid (HX.out.below hb4 (Blk.lt HX.out))
        have B4 := Lib.hid (BB.out.trans (hb4.mono BB.out.size))
        clear hb4 HH HX BB x0 x1 x2 q0
        obtain ⟨x0, x1, x2⟩ := ptc3 X4.out
        have f0 := X4.out.frozen 0
        have f1 := X4.out.frozen 1
        have f2 := X4.out.frozen 2
        go_upto_region 11 with fail
        have X5 := Lib.hid (pt3 (.int .i64 (bu : Nat)) (.int .i64 (ra : Nat)) (.int .i64 ((left - 1 : Nat) : Int)) X4.out)
        have hs5 : Solo xb w4 (ptw3 w4 xb (.int .i64 (bu : Nat)) (.int .i64 (ra : Nat)) (.int .i64 ((left - 1 : Nat) : Int))) := pts3 _ _ _
        have H5 := Lib.hid (hs5.blk H4.out (Nat.ne_of_lt HGX.out))
        have B5 := Lib.hid (B4.out.trans (hs5.1.mono (Nat.le_of_lt HGX.out)))
        unfold ptw3 at X5 H5 B5
        clear x0 x1 x2 f0 f1 f2 hs5 H4 X4 B4
        generalize ((w4.setCell ⟨xb, 0, none⟩ (.int .i64 (bu : Nat))).setCell ⟨xb, 1, none⟩ (.int .i64 (ra : Nat))).setCell ⟨xb, 2, none⟩ (.int .i64 ((left - 1 : Nat) : Int)) = w5 at X5 H5 B5 ⊢
        go_wp2_with fail
        refine (bkt_take w.heap.size bu ra left w5 H5.out hleft).mono ?_
        rintro e w7 ⟨rfl, h7, hs7⟩
        have H7 := Lib.hid h7
        have X7 := Lib.hid (hs7.blk X5.out (Nat.ne_of_gt HGX.out))
        have B7 := Lib.hid (B5.out.trans hs7.1)
        clear h7 hs7 H5 X5 B5
        obtain ⟨y0, y1, y2⟩ := ptc3 X7.out
        have HLF := Lib.hid (show left - 1 ≤ 4096 by omega)
        cases decide (0 < left)
        · go_wp2_with fail
          refine wp_ord [(0, .pure), (2, .pure), (3, .read), (1, .sole), (4, .pure)] [] (by kernel_rfl) (by kernel_rfl) (fun QQ hQ wd hwd => ?_); simp only [List.map_cons, List.map_nil, List.getD_cons_zero, List.getD_cons_succ]
          have hD : Below w7.heap.size w7 wd := by rw [hwd.out]; exact (Below.refl _ _).drew
          have HD : Hid (Bkt wd w.heap.size bu ra (left - 1)) := Lib.hid (Blk.below H7.out hD (Blk.lt H7.out))
          have XD := Lib.hid (X7.out.below hD (Blk.lt X7.out))
          have BD := Lib.hid (B7.out.trans (hD.mono B7.out.size))
          obtain ⟨v0, v1, v2⟩ := ptc3 XD.out
          clear hD hwd H7 X7 B7 y0 y1 y2
          (refine o_pure (v := ?_) (by rfl) (fun w' => ?_) ?_; rotate_left; (focus (go_simp; (try with_reducible rfl))); (try simp only [Act.put, List.setIfInBounds_toArray, List.set_cons_zero, List.set_cons_succ]))
          (refine o_pure (v := ?_) (by rfl) (fun w' => ?_) ?_; rotate_left; (focus (go_simp; (try with_reducible rfl))); (try simp only [Act.put, List.setIfInBounds_toArray, List.set_cons_zero, List.set_cons_succ]))
          (refine o_load _ (by rfl) rfl rfl (by assumption) (by kernel_rfl) ?_; simp only [Act.put, List.setIfInBounds_toArray, List.set_cons_zero, List.set_cons_succ])
          refine o_sole (fun K hK => ?_)
          go_wp2_with fail
          refine (bkt_left w.heap.size bu ra (left - 1) wd HD.out).mono ?_
          rintro e w8 ⟨rfl, rfl⟩
          go_wp2_with fail
          refine hK _ _ (fun _ => Ext.of (Below.refl _ _)) ?_; clear hK K
          (refine o_pure (v := ?_) (by rfl) (fun w' => ?_) ?_; rotate_left; (focus (go_simp; (try with_reducible rfl))); (try simp only [Act.put, List.setIfInBounds_toArray, List.set_cons_zero, List.set_cons_succ]))
          refine o_nil (hQ.out _ _ ?_); clear hQ QQ
          go_wp2_with fail
          go_roundw
          case rel => exact ⟨i + 1, (left - 1), by omega, by go_num, HLF.out, HD, XD, BD⟩
          case measure => simp [intOf]; omega
        · go_wp2_with fail
          refine wp_ord [(0, .pure), (2, .pure), (3, .read), (1, .sole), (4, .pure)] [] (by kernel_rfl) (by kernel_rfl) (fun QQ hQ wd hwd => ?_); simp only [List.map_cons, List.map_nil, List.getD_cons_zero, List.getD_cons_succ]
          have hD : Below w7.heap.size w7 wd := by rw [hwd.out]; exact (Below.refl _ _).drew
          have HD : Hid (Bkt wd w.heap.size bu ra (left - 1)) := Lib.hid (Blk.below H7.out hD (Blk.lt H7.out))
          have XD := Lib.hid (X7.out.below hD (Blk.lt X7.out))
          have BD := Lib.hid (B7.out.trans (hD.mono B7.out.size))
          obtain ⟨v0, v1, v2⟩ := ptc3 XD.out
          clear hD hwd H7 X7 B7 y0 y1 y2
          (refine o_pure (v := ?_) (by rfl) (fun w' => ?_) ?_; rotate_left; (focus (go_simp; (try with_reducible rfl))); (try simp only [Act.put, List.setIfInBounds_toArray, List.set_cons_zero, List.set_cons_succ]))
          (refine o_pure (v := ?_) (by rfl) (fun w' => ?_) ?_; rotate_left; (focus (go_simp; (try with_reducible rfl))); (try simp only [Act.put, List.setIfInBounds_toArray, List.set_cons_zero, List.set_cons_succ]))
          (refine o_load _ (by rfl) rfl rfl (by assumption) (by kernel_rfl) ?_; simp only [Act.put, List.setIfInBounds_toArray, List.set_cons_zero, List.set_cons_succ])
          refine o_sole (fun K hK => ?_)
          go_wp2_with fail
          refine (bkt_left w.heap.size bu ra (left - 1) wd HD.out).mono ?_
          rintro e w8 ⟨rfl, rfl⟩
          go_wp2_with fail
          refine hK _ _ (fun _ => Ext.of (Below.refl _ _)) ?_; clear hK K
          (refine o_pure (v := ?_) (by rfl) (fun w' => ?_) ?_; rotate_left; (focus (go_simp; (try with_reducible rfl))); (try simp only [Act.put, List.setIfInBounds_toArray, List.set_cons_zero, List.set_cons_succ]))
          refine o_nil (hQ.out _ _ ?_); clear hQ QQ
          go_wp2_with fail
          go_roundw
          case rel => exact ⟨i + 1, (left - 1), by omega, by go_num, HLF.out, HD, XD, BD⟩
          case measure => simp [intOf]; omega
      · obtain ⟨k, rfl⟩ : ∃ k : Nat, x = (k : Int) := ⟨x.toNat, by omega⟩
        go_wp2_with fail
        refine (bkt_tick w.heap.size bu ra left k wr HH.out hleft hra HXW.out).mono ?_
        rintro e w4 ⟨rfl, h4, ht4⟩
        have H4 := Lib.hid h4
        have X4 := Lib.hid (show Blk w4 xb _ _ from (ht4.2 xb HX.out.lt (Nat.ne_of_gt HGX.out)).trans HX.out)
        have B4 := Lib.hid (BB.out.trans ht4.1)
        have q4 := (ht4.1.cell (p := ⟨ab, ao + i, none⟩) hab).trans q0
        obtain ⟨t, htt⟩ : ∃ t, t = tickN left (bdN k) ra bu := ⟨_, rfl⟩
        have HLF := Lib.hid (show t ≤ 4096 from by rw [htt]; exact Nat.le_trans (tickN_le _ _ _ _) hbu)
        have HTT := Lib.hid htt
        rw [← htt] at H4
        clear h4 ht4 HH HX BB x0 x1 x2 q0 htt
        obtain ⟨x0, x1, x2⟩ := ptc3 X4.out
        go_wp2_with fail
        refine wp_ord [(0, .read), (1, .pure), (2, .pure), (3, .pure), (4, .read), (5, .sole), (6, .sole)] [6] (by kernel_rfl) (by kernel_rfl) (fun QQ hQ wd hwd => ?_); simp only [List.map_cons, List.map_nil, List.getD_cons_zero, List.getD_cons_succ]
        have hD : Below w4.heap.size w4 wd := by rw [hwd.out]; exact (Below.refl _ _).drew
        have HD : Hid (Bkt wd w.heap.size bu ra t) := Lib.hid (Blk.below H4.out hD (Blk.lt H4.out))
        have XD := Lib.hid (X4.out.below hD (Blk.lt X4.out))
        have BD := Lib.hid (B4.out.trans (hD.mono B4.out.size))
        have qd : wd.cell? ⟨ab, ao + i, none⟩ = some (.int .i64 (k : Int)) := (hD.cell (p := ⟨ab, ao + i, none⟩) (Nat.lt_of_lt_of_le hab B4.out.size)).trans q4
        clear hD hwd H4 X4 B4 q4 x0 x1 x2
        (refine o_loads _ [.int .i64 (bu : Nat), .int .i64 (ra : Nat), .int .i64 (left : Nat)] (by rfl) rfl rfl (XD.out.loads 0 [.int .i64 (bu : Nat), .int .i64 (ra : Nat), .int .i64 (left : Nat)] rfl) (Nat.succ_pos _) (by kernel_rfl) (by kernel_rfl) ?_; simp only [Act.put, List.setIfInBounds_toArray, List.set_cons_zero, List.set_cons_succ])
        (refine o_pure (v := ?_) (by rfl) (fun w' => ?_) ?_; rotate_left; (focus (go_simp; (try with_reducible rfl))); (try simp only [Act.put, List.setIfInBounds_toArray, List.set_cons_zero, List.set_cons_succ]))
        (refine o_pure (v := ?_) (by rfl) (fun w' => ?_) ?_; rotate_left; (focus (go_simp; (try with_reducible rfl))); (try simp only [Act.put, List.setIfInBounds_toArray, List.set_cons_zero, List.set_cons_succ]))
        (refine o_pure (v := ?_) (by rfl) (fun w' => ?_) ?_; rotate_left; (focus (go_simp; (try with_reducible rfl))); (try simp only [Act.put, List.setIfInBounds_toArray, List.set_cons_zero, List.set_cons_succ]))
        (refine o_load _ (by rfl) rfl rfl (by assumption) (by kernel_rfl) ?_; simp only [Act.put, List.setIfInBounds_toArray, List.set_cons_zero, List.set_cons_succ])
        refine o_sole (fun K hK => ?_)
        go_wp2_with fail
        refine (rbkt_tick bu ra left k wd hleft hra HXW.out).mono ?_
        rintro e w5 ⟨rfl, hb5⟩
        rw [← HTT.out]
        unfold bkv
        have H5 := Lib.hid (Blk.below HD.out hb5 (Blk.lt HD.out))
        have X5 := Lib.hid (XD.out.below hb5 (Blk.lt XD.out))
        have B5 := Lib.hid (BD.out.trans (hb5.mono BD.out.size))
        have HB5 := Lib.hid hb5
        clear hb5 HD XD BD qd
        go_wp2_with fail
        refine hK _ _ (fun _ => Ext.of HB5.out) ?_; clear hK K
        obtain ⟨x0, x1, x2⟩ := ptc3 X5.out
        have f0 := X5.out.frozen 0
        have f1 := X5.out.frozen 1
        have f2 := X5.out.frozen 2
        refine o_sole (fun K hK => ?_)
        go_wp2_with fail
        refine hK _ _ (fun h => by cases h) ?_; clear hK K
        refine o_nil (hQ.out _ _ ?_); clear hQ QQ
        have X7 := Lib.hid (pt3 (.int .i64 (bu : Nat)) (.int .i64 (ra : Nat)) (.int .i64 (t : Nat)) X5.out)
        have hs5 : Solo xb w5 (ptw3 w5 xb (.int .i64 (bu : Nat)) (.int .i64 (ra : Nat)) (.int .i64 (t : Nat))) := pts3 _ _ _
        have H7 := Lib.hid (hs5.blk H5.out (Nat.ne_of_lt HGX.out))
        have B7 := Lib.hid (B5.out.trans (hs5.1.mono (Nat.le_of_lt HGX.out)))
        unfold ptw3 at X7 H7 B7
        clear x0 x1 x2 f0 f1 f2 hs5 H5 X5 B5 HB5
        generalize ((w5.setCell ⟨xb, 0, none⟩ (.int .i64 (bu : Nat))).setCell ⟨xb, 1, none⟩ (.int .i64 (ra : Nat))).setCell ⟨xb, 2, none⟩ (.int .i64 (t : Nat)) = w7 at X7 H7 B7 ⊢
        obtain ⟨y0, y1, y2⟩ := ptc3 X7.out
        go_wp2_with fail
        refine wp_ord [(0, .pure), (2, .pure), (3, .read), (1, .sole), (4, .pure)] [] (by kernel_rfl) (by kernel_rfl) (fun QQ hQ wd hwd => ?_); simp only [List.map_cons, List.map_nil, List.getD_cons_zero, List.getD_cons_succ]
        have hD : Below w7.heap.size w7 wd := by rw [hwd.out]; exact (Below.refl _ _).drew
        have HD : Hid (Bkt wd w.heap.size bu ra (t)) := Lib.hid (Blk.below H7.out hD (Blk.lt H7.out))
        have XD := Lib.hid (X7.out.below hD (Blk.lt X7.out))
        have BD := Lib.hid (B7.out.trans (hD.mono B7.out.size))
        obtain ⟨v0, v1, v2⟩ := ptc3 XD.out
        clear hD hwd H7 X7 B7 y0 y1 y2
        (refine o_pure (v := ?_) (by rfl) (fun w' => ?_) ?_; rotate_left; (focus (go_simp; (try with_reducible rfl))); (try simp only [Act.put, List.setIfInBounds_toArray, List.set_cons_zero, List.set_cons_succ]))
        (refine o_pure (v := ?_) (by rfl) (fun w' => ?_) ?_; rotate_left; (focus (go_simp; (try with_reducible rfl))); (try simp only [Act.put, List.setIfInBounds_toArray, List.set_cons_zero, List.set_cons_succ]))
        (refine o_load _ (by rfl) rfl rfl (by assumption) (by kernel_rfl) ?_; simp only [Act.put, List.setIfInBounds_toArray, List.set_cons_zero, List.set_cons_succ])
        refine o_sole (fun K hK => ?_)
        go_wp2_with fail
        refine (bkt_left w.heap.size bu ra t wd HD.out).mono ?_
        rintro e w8 ⟨rfl, rfl⟩
        go_wp2_with fail
        refine hK _ _ (fun _ => Ext.of (Below.refl _ _)) ?_; clear hK K
        (refine o_pure (v := ?_) (by rfl) (fun w' => ?_) ?_; rotate_left; (focus (go_simp; (try with_reducible rfl))); (try simp only [Act.put, List.setIfInBounds_toArray, List.set_cons_zero, List.set_cons_succ]))
        refine o_nil (hQ.out _ _ ?_); clear hQ QQ
        go_wp2_with fail
        go_roundw
        case rel => exact ⟨i + 1, t, by omega, by go_num, HLF.out, HD, XD, BD⟩
        case measure => simp [intOf]; omega
    · obtain rfl : i = n := by omega
      go_wp2_with fail
      refine (alive11 wr).mono ?_
      rintro e w9 ⟨rfl, hb9⟩
      have B9 := Lib.hid (BB.out.trans (hb9.mono BB.out.size))
      go_wp2_with fail
      go_ret
      exact ⟨rfl, B9.out⟩
end Go.Proofs.Ytkekmcolekomjaa
