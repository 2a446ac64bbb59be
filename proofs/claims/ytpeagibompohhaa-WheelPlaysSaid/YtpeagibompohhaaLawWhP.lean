/- Layer 29: the law WheelPlays answers true, and nothing that was there has turned. -/
import Derived.Test.YtpeagibompohhaaWhP0
namespace Go.Proofs.Ytpeagibompohhaa
open Go.RowKit
set_option linter.unusedVariables false
set_option linter.unusedSimpArgs false
set_option maxRecDepth 20000 in
set_option maxHeartbeats 8000000 in
theorem wheelPlays_walk (most : Int) (A : Option Addr) (n c : Nat) (l : List Tr) (w : World) (hm : (Lit.int .i64 most).wf = true) (hr : Rd w w.heap.size 3 A n (trs l)) (hnc : n ≤ c) (hmax : c ≤ maxLen) (hok : ∀ p ∈ l, okTr p) :
    Calls Try.prog 3 #[.int .i64 most, .slice A n c] w fun e w' => e = .returned (.bool true) ∧ Below w.heap.size w w' := by
  have HR := Lib.hid hr
  have HOK := Lib.hid hok
  unfold maxLen at hmax
  have hmi : I64 most := by have := bounds_i64 hm; unfold I64; omega
  clear hr hok hm
  by_cases hn : 60 < n
  · have hn2 : (60 : Int) < (n : Int) := by omega
    go_enter Try.func3, Try.ntmps3
    go_wp2_with fail
    go_ret
    exact ⟨rfl, Below.refl _ _⟩
  have hn2 : ¬ (60 : Int) < (n : Int) := by omega
  have hn60 : n ≤ 60 := by omega
  go_enter Try.func3, Try.ntmps3
  go_wp2_with fail
  refine (wnewI most w hmi).mono ?_
  rintro e w1 ⟨g, mb, sl1, rfl, hmb, h1, hb1⟩
  obtain ⟨M, hM⟩ : ∃ M, M = mostN most := ⟨_, rfl⟩
  have HRN := Lib.hid (rnew_any most w1)
  rw [← hM] at h1 HRN
  have H1 := Lib.hid h1
  have B1 := Lib.hid hb1
  clear h1 hb1 hn hn2 hM
  obtain ⟨B, hB⟩ : ∃ B, B = w.heap.size := ⟨_, rfl⟩
  rw [← hB] at H1 B1 hmb
  have HBB := Lib.hid hB
  clear hB
  go_wp2_with fail
  refine HRN.out.mono ?_
  rintro e w2 ⟨rfl, hb2⟩
  have H2 := Lib.hid (H1.out.into hb2)
  have B2 := Lib.hid (B1.out.trans (hb2.mono (by rw [HBB.out]; exact B1.out.size)))
  clear hb2 H1 B1 HRN
  go_upto_region 7 with fail
  have hA := (Below.refl w2.heap.size w2).alloc (Nat.le_refl _) (.cells #[.int .i64 0, .int .i64 (M : Nat), .slice none 0 0] 27)
  have X3 := Lib.hid (Blk.new w2 27 #[.int .i64 0, .int .i64 (M : Nat), .slice none 0 0])
  have H3 := Lib.hid (H2.out.into hA)
  have B3 := Lib.hid (B2.out.trans (hA.mono (by rw [HBB.out]; exact B2.out.size)))
  obtain ⟨xb, hxb⟩ : ∃ x, x = w2.heap.size := ⟨_, rfl⟩
  have hBx : B ≤ xb := by rw [hxb, HBB.out]; exact B2.out.size
  rw [← hxb] at X3 ⊢
  generalize (w2.alloc (.cells #[.int .i64 0, .int .i64 (M : Nat), .slice none 0 0] 27)) = w3 at X3 H3 B3 ⊢
  clear hA hxb H2 B2
  go_wp2_with fail
  go_loopw [7] (fun iv wr => ∃ (i now : Nat) (sl : List Value) (L : List Tm) (v : Value), i ≤ n ∧ iv = .int .i64 (i : Nat) ∧ now ≤ 300 * i ∧ Hid (WA wr g B mb M now sl L) ∧ Hid (Blk wr xb 27 #[.int .i64 (now : Nat), .int .i64 (M : Nat), v]) ∧ Hid (TOwn wr B v L) ∧ Hid (Below B w wr)) (fun iv _ => n - (intOf iv).toNat)
  case atStart => exact ⟨0, 0, sl1, [], .slice none 0 0, Nat.zero_le _, rfl, by omega, H3, X3, Lib.hid (World.ownsRow_nil _ _ _ _), B3⟩
  case round =>
    clear H3 X3 B3
    obtain ⟨i, now, sl, L, v, hi, rfl, hnow, HW, HX, HT, BB⟩ := hrel
    by_cases hlt : i < n
    case neg =>
      have hie : i = n := by omega
      subst hie
      clear HW HX HT
      go_wp2_with fail
      refine (alive29 wr).mono ?_
      rintro e w9 ⟨rfl, hb9⟩
      have B9 := Lib.hid (BB.out.trans (hb9.mono (by rw [HBB.out]; exact BB.out.size)))
      clear hb9
      go_wp2_with fail
      go_ret
      exact ⟨rfl, by rw [← HBB.out]; exact B9.out⟩
    have hlt' : (i : Int) < (n : Int) := by omega
    have hnow2 : now ≤ 18000 := by omega
    obtain ⟨ab, ao, kd, id, nn, hA, hab, HE, hx⟩ := (HR.out.below (by rw [← HBB.out]; exact BB.out)).tr hlt
    subst hA
    have hid : I64 id := by have := (HOK.out _ (List.mem_of_getElem? hx.out)).2.1; unfold I64; simp at this; omega
    have xl0 := HE.out 0 _ rfl
    have xl1 := HE.out 1 _ rfl
    have xl2 := HE.out 2 _ rfl
    simp only [Nat.add_zero] at xl0
    clear hx
    go_upto_region 13 with fail
    clear xl0 xl1 xl2 HE
    have hA := (Below.refl wr.heap.size wr).alloc (Nat.le_refl _) (.cells #[.int .i64 kd, .int .i64 id, .int .i64 nn] 30)
    have O2 := Lib.hid (Blk.new wr 30 #[.int .i64 kd, .int .i64 id, .int .i64 nn])
    have W2 := Lib.hid (HW.out.into hA)
    have X2 := Lib.hid (HX.out.below hA HX.out.lt)
    have T2 : Hid (TOwn (wr.alloc (.cells #[.int .i64 kd, .int .i64 id, .int .i64 nn] 30)) B v L) := Lib.hid (own_below HT.out hA fun k hk => (HT.out.lt k hk).2)
    have B2 := Lib.hid (BB.out.trans (hA.mono (by rw [HBB.out]; exact BB.out.size)))
    obtain ⟨ob, hob⟩ : ∃ x, x = wr.heap.size := ⟨_, rfl⟩
    have hox : ob ≠ xb := by have := HX.out.lt; omega
    rw [← hob] at O2 ⊢
    generalize (wr.alloc (.cells #[.int .i64 kd, .int .i64 id, .int .i64 nn] 30)) = w2 at O2 W2 X2 T2 B2 ⊢
    clear hA hob HW HX HT BB
    obtain ⟨y0, y1, y2⟩ := ptc3 O2.out
    go_upto_region 17 with fail
    generalize (wrap64 (kd.tmod 6 + 6)).tmod 6 = q
    clear y0
    obtain ⟨x0, x1, x2⟩ := ptc3 X2.out
    obtain ⟨A2, c2, rfl, hnc2, hcm2, hrd2⟩ := own_form T2.out
    have hl2 : L.length ≤ 4096 := Nat.le_trans W2.out.len W2.out.most
    obtain ⟨m, hm⟩ : ∃ m, m = L.length := ⟨_, rfl⟩
    have HM := Lib.hid hm
    have HRD := Lib.hid hrd2
    rw [← hm] at HRD hnc2 hl2 x2
    have T2 : Hid (TOwn w2 B (.slice A2 m c2) L) := Lib.hid (by rw [HM.out]; exact T2.out)
    have X2 : Hid (Blk w2 xb 27 #[.int .i64 (now : Nat), .int .i64 (M : Nat), .slice A2 m c2]) := Lib.hid (by rw [HM.out]; exact X2.out)
    clear hm hrd2
    by_cases hq3 : q = 3
    · subst hq3
      go_wp2_with fail
      refine (rcancel_any A2 m c2 w2.heap.size now M L id w2 HRD.out (by omega) (Nat.le_refl _)).mono ?_
      rintro e w3 ⟨v3, rfl, ho3, hb3⟩
      have W3 := Lib.hid (W2.out.into hb3)
      have X3 := Lib.hid (X2.out.below hb3 X2.out.lt)
      have O3 := Lib.hid (O2.out.below hb3 O2.out.lt)
      have B3 := Lib.hid (B2.out.trans (hb3.mono (by rw [HBB.out]; exact B2.out.size)))
      have T3 : Hid (TOwn w3 B v3 (rmL L id)) := Lib.hid (own_mono ho3 (by rw [HBB.out]; exact B2.out.size))
      obtain ⟨A5, c5, rfl, hnc5, hcm5, _⟩ := own_form T3.out
      obtain ⟨m5, hm5⟩ : ∃ z9, z9 = (rmL L id).length := ⟨_, rfl⟩
      have HM5 := Lib.hid hm5
      rw [← hm5] at T3 hnc5 ⊢
      clear hm5 ho3 hb3 W2 X2 T2 O2 B2 x0 x1 x2 y1 y2
      obtain ⟨x0, x1, x2⟩ := ptc3 X3.out
      have f0 := X3.out.frozen 0
      have f1 := X3.out.frozen 1
      have f2 := X3.out.frozen 2
      go_upto_region 19 with fail
      have hs4 : Solo xb w3 (((w3.setCell ⟨xb, 0, none⟩ (.int .i64 (now : Nat))).setCell ⟨xb, 1, none⟩ (.int .i64 (M : Nat))).setCell ⟨xb, 2, none⟩ (.slice A5 m5 c5)) := (((Solo.refl (g := xb) (w := w3)).setCell 0 (.int .i64 (now : Nat))).setCell 1 (.int .i64 (M : Nat))).setCell 2 (.slice A5 m5 c5)
      have X4 := Lib.hid (show Blk (((w3.setCell ⟨xb, 0, none⟩ (.int .i64 (now : Nat))).setCell ⟨xb, 1, none⟩ (.int .i64 (M : Nat))).setCell ⟨xb, 2, none⟩ (.slice A5 m5 c5)) xb 27 #[.int .i64 (now : Nat), .int .i64 (M : Nat), .slice A5 m5 c5] from ((X3.out.set 0 (.int .i64 (now : Nat))).set 1 (.int .i64 (M : Nat))).set 2 (.slice A5 m5 c5))
      have W4 := Lib.hid (W3.out.solo hs4 X3.out (by decide) (by decide))
      have O4 := Lib.hid (hs4.blk O3.out hox)
      have T4 : Hid (TOwn (((w3.setCell ⟨xb, 0, none⟩ (.int .i64 (now : Nat))).setCell ⟨xb, 1, none⟩ (.int .i64 (M : Nat))).setCell ⟨xb, 2, none⟩ (.slice A5 m5 c5)) B (.slice A5 m5 c5) (rmL L id)) := Lib.hid (own_kept T3.out fun k hk => hs4.2.2 k fun e => by subst e; exact own_nw T3.out X3.out (by decide) hk)
      have B4 := Lib.hid (B3.out.trans (hs4.1.mono hBx))
      clear hs4 x0 x1 x2 f0 f1 f2 W3 X3 T3 O3 B3
      generalize (((w3.setCell ⟨xb, 0, none⟩ (.int .i64 (now : Nat))).setCell ⟨xb, 1, none⟩ (.int .i64 (M : Nat))).setCell ⟨xb, 2, none⟩ (.slice A5 m5 c5)) = w4 at W4 X4 T4 O4 B4 ⊢
      obtain ⟨y0, y1, y2⟩ := ptc3 O4.out
      go_wp2_with fail
      refine (wcancelI g B mb M now id sl L w4 W4.out (by omega) hid).mono ?_
      rintro e w5 ⟨rfl, sl5, h5, hk5⟩
      have W5 := Lib.hid h5
      have X5 : Hid (Blk w5 xb 27 _) := Lib.hid ((W4.out.far hk5 X4.out (by decide) (by decide)).trans X4.out)
      have O5 : Hid (Blk w5 ob 30 _) := Lib.hid ((W4.out.far hk5 O4.out (by decide) (by decide)).trans O4.out)
      have T5 := Lib.hid (T4.out.far W4.out hk5)
      have B5 := Lib.hid (B4.out.trans (W4.out.below hk5 hmb))
      clear h5 hk5 W4 X4 T4 O4 B4 y0 y1 y2
      have hmm5 : m5 ≤ 4096 := by rw [HM5.out]; exact Nat.le_trans W5.out.len W5.out.most
      have HDU5 := Lib.hid W5.out.due
      have HON5 := Lib.hid (W5.out.one id)
      obtain ⟨dA, dB, hdv⟩ := due_val (rmL L id) (now) id HON5.out
      obtain ⟨nA, nB, hnv⟩ := next_val (rmL L id) (now)
      have HDV := Lib.hid hdv
      have HNV := Lib.hid hnv
      clear hdv hnv
      obtain ⟨y0, y1, y2⟩ := ptc3 O5.out
      go_wp2_with fail
      refine (wdueU g B mb M (now) id sl5 (rmL L id) w5 W5.out (by omega) hid).mono ?_
      rintro e w6 ⟨hp6, hb6⟩
      obtain rfl := HDV.out e hp6
      clear hp6 y0 y1 y2
      have W6 := Lib.hid (W5.out.into hb6)
      have X6 := Lib.hid (X5.out.below hb6 X5.out.lt)
      have T6 : Hid (TOwn w6 B (.slice A5 m5 c5) (rmL L id)) := Lib.hid (own_below T5.out hb6 fun k hk => (T5.out.lt k hk).2)
      have O6 := Lib.hid (O5.out.below hb6 O5.out.lt)
      have B6 := Lib.hid (B5.out.trans (hb6.mono (by rw [HBB.out]; exact B5.out.size)))
      clear hb6 W5 X5 T5 O5 B5
      obtain ⟨y0, y1, y2⟩ := ptc3 O6.out
      obtain ⟨x0, x1, x2⟩ := ptc3 X6.out
      go_wp2_with fail
      refine (rdueU A5 m5 c5 w6.heap.size (now) M (rmL L id) id w6 T6.out.rd.1 (by omega) (Nat.le_refl _) (by omega) HDU5.out HON5.out).mono ?_
      rintro e w7 ⟨hp7, hb7⟩
      obtain rfl := HDV.out e hp7
      clear hp7 x0 x1 x2 y0 y1 y2
      have W7 := Lib.hid (W6.out.into hb7)
      have X7 := Lib.hid (X6.out.below hb7 X6.out.lt)
      have T7 : Hid (TOwn w7 B (.slice A5 m5 c5) (rmL L id)) := Lib.hid (own_below T6.out hb7 fun k hk => (T6.out.lt k hk).2)
      have O7 := Lib.hid (O6.out.below hb7 O6.out.lt)
      have B7 := Lib.hid (B6.out.trans (hb7.mono (by rw [HBB.out]; exact B6.out.size)))
      clear hb7 W6 X6 T6 O6 B6
      go_wp2_with fail
      refine (wnextI g B mb M (now) sl5 (rmL L id) w7 W7.out (by omega)).mono ?_
      rintro e w8 ⟨hp8, hb8⟩
      obtain rfl := HNV.out e hp8
      clear hp8
      have W8 := Lib.hid (W7.out.into hb8)
      have X8 := Lib.hid (X7.out.below hb8 X7.out.lt)
      have T8 : Hid (TOwn w8 B (.slice A5 m5 c5) (rmL L id)) := Lib.hid (own_below T7.out hb8 fun k hk => (T7.out.lt k hk).2)
      have O8 := Lib.hid (O7.out.below hb8 O7.out.lt)
      have B8 := Lib.hid (B7.out.trans (hb8.mono (by rw [HBB.out]; exact B7.out.size)))
      clear hb8 W7 X7 T7 O7 B7
      obtain ⟨x0, x1, x2⟩ := ptc3 X8.out
      go_wp2_with fail
      refine (rnext_any A5 m5 c5 w8.heap.size (now) M (rmL L id) w8 T8.out.rd.1 (by omega) (Nat.le_refl _) (by omega) HDU5.out).mono ?_
      rintro e w9 ⟨hp9, hb9⟩
      obtain rfl := HNV.out e hp9
      clear hp9 x0 x1 x2
      have W9 := Lib.hid (W8.out.into hb9)
      have X9 := Lib.hid (X8.out.below hb9 X8.out.lt)
      have T9 : Hid (TOwn w9 B (.slice A5 m5 c5) (rmL L id)) := Lib.hid (own_below T8.out hb9 fun k hk => (T8.out.lt k hk).2)
      have O9 := Lib.hid (O8.out.below hb9 O8.out.lt)
      have B9 := Lib.hid (B8.out.trans (hb9.mono (by rw [HBB.out]; exact B8.out.size)))
      clear hb9 W8 X8 T8 O8 B8
      go_wp2_with fail
      refine wp_ord [(0, .pure), (1, .pure), (2, .pure), (3, .pure), (4, .pure), (5, .pure), (6, .pure), (7, .pure), (8, .pure), (9, .pure), (10, .pure), (11, .pure), (12, .pure), (13, .pure), (14, .pure), (15, .pure), (16, .pure), (17, .pure), (18, .pure), (19, .pure), (21, .pure), (22, .read), (20, .sole), (23, .pure), (24, .pure), (25, .pure), (26, .pure), (28, .pure), (29, .read), (30, .pure), (27, .sole), (31, .pure), (32, .pure)] [] (by kernel_rfl) (by kernel_rfl) (fun QQ hQ wd hwd => ?_); simp only [List.map_cons, List.map_nil, List.getD_cons_zero, List.getD_cons_succ]
      have hD : Below w9.heap.size w9 wd := by rw [hwd.out]; exact (Below.refl _ _).drew
      have Wd := Lib.hid (W9.out.into hD)
      have Xd := Lib.hid (X9.out.below hD X9.out.lt)
      have Td : Hid (TOwn wd B (.slice A5 m5 c5) (rmL L id)) := Lib.hid (own_below T9.out hD fun k hk => (T9.out.lt k hk).2)
      have Bd := Lib.hid (B9.out.trans (hD.mono (by rw [HBB.out]; exact B9.out.size)))
      have HLN := Lib.hid (wlenI g B mb M (now) sl5 (rmL L id) wd Wd.out)
      rw [← HM5.out] at HLN
      have HNO := Lib.hid (wnowI g B mb M (now) sl5 (rmL L id) wd Wd.out)
      clear hD hwd W9 X9 T9 O9 B9
      obtain ⟨x0, x1, x2⟩ := ptc3 Xd.out
      iterate 21 (refine o_pure (v := ?_) (by rfl) (fun w' => ?_) ?_; rotate_left; (focus (go_simp; (try with_reducible rfl); (try (rw [if_pos (by omega)]; (try with_reducible rfl))))); (try simp only [Act.put, List.setIfInBounds_toArray, List.set_cons_zero, List.set_cons_succ]))
      (refine o_load _ (by rfl) rfl rfl (by assumption) (by kernel_rfl) ?_; simp only [Act.put, List.setIfInBounds_toArray, List.set_cons_zero, List.set_cons_succ])
      refine o_sole (fun K hK => ?_)
      go_wp2_with fail
      refine HNO.out.mono ?_
      rintro e wz ⟨rfl, rfl⟩
      go_wp2_with fail
      refine hK _ _ (fun _ => Ext.of (Below.refl _ _)) ?_; clear hK K
      iterate 4 (refine o_pure (v := ?_) (by rfl) (fun w' => ?_) ?_; rotate_left; (focus (go_simp; (try with_reducible rfl); (try (rw [if_pos (by omega)]; (try with_reducible rfl))))); (try simp only [Act.put, List.setIfInBounds_toArray, List.set_cons_zero, List.set_cons_succ]))
      (refine o_pure (v := ?_) (by rfl) (fun w' => ?_) ?_; rotate_left; (focus (go_simp; (try with_reducible rfl); (try (rw [if_pos (by omega)]; (try with_reducible rfl))))); (try simp only [Act.put, List.setIfInBounds_toArray, List.set_cons_zero, List.set_cons_succ]))
      (refine o_load _ (by rfl) rfl rfl (by assumption) (by kernel_rfl) ?_; simp only [Act.put, List.setIfInBounds_toArray, List.set_cons_zero, List.set_cons_succ])
      (refine o_pure (v := ?_) (by rfl) (fun w' => ?_) ?_; rotate_left; (focus (go_simp; (try with_reducible rfl); (try (rw [if_pos (by omega)]; (try with_reducible rfl))))); (try simp only [Act.put, List.setIfInBounds_toArray, List.set_cons_zero, List.set_cons_succ]))
      refine o_sole (fun K hK => ?_)
      go_wp2_with fail
      refine HLN.out.mono ?_
      rintro e wz ⟨rfl, rfl⟩
      go_wp2_with fail
      refine hK _ _ (fun _ => Ext.of (Below.refl _ _)) ?_; clear hK K
      (refine o_pure (v := ?_) (by rfl) (fun w' => ?_) ?_; rotate_left; (focus (go_simp; (try with_reducible rfl); (try (rw [if_pos (by omega)]; (try with_reducible rfl))))); (try simp only [Act.put, List.setIfInBounds_toArray, List.set_cons_zero, List.set_cons_succ]))
      (refine o_pure (v := ?_) (by rfl) (fun w' => ?_) ?_; rotate_left; (focus (go_simp; (try with_reducible rfl); (try (rw [if_pos (by omega)]; (try with_reducible rfl))))); (try simp only [Act.put, List.setIfInBounds_toArray, List.set_cons_zero, List.set_cons_succ]))
      refine o_nil (hQ.out _ _ ?_); clear hQ QQ
      clear x0 x1 x2 HNO HLN
      go_wp2_with fail
      go_roundw
      case rel => exact ⟨i + 1, now, sl5, rmL L id, .slice A5 m5 c5, by omega, by go_num, by omega, Wd, Xd, Td, Bd⟩
      case measure => simp [intOf]; omega
    by_cases hq4 : q = 4
    · subst hq4
      go_wp2_with fail
      clear x0 x1 x2 y1 y2 HRD
      go_loopw [10, 11] (fun dv kv wk => ∃ (k nw : Nat) (sl5 : List Value) (L5 : List Tm) (A5 : Option Addr) (m5 c5 : Nat), k ≤ 300 ∧ kv = .int .i64 (k : Nat) ∧ nw = now + k ∧ Hid (m5 = L5.length) ∧ Hid (WA wk g B mb M nw sl5 L5) ∧ Hid (Blk wk xb 27 #[.int .i64 (nw : Nat), .int .i64 (M : Nat), .slice A5 m5 c5]) ∧ Hid (TOwn wk B (.slice A5 m5 c5) L5) ∧ Hid (Blk wk ob 30 #[.int .i64 kd, .int .i64 id, .int .i64 nn]) ∧ Hid (Below B w wk)) (fun _ kv _ => 300 - (intOf kv).toNat)
      case atStart => exact ⟨0, now, sl, L, A2, m, c2, by omega, rfl, rfl, HM, W2, X2, T2, O2, B2⟩
      case round =>
        clear W2 X2 T2 O2 B2
        obtain ⟨k, nw, sl5, L5, A5, m5, c5, hk, rfl, hnw, HM5, W5, X5, T5, O5, B5⟩ := hrel
        have hmm5 : m5 ≤ 4096 := by rw [HM5.out]; exact Nat.le_trans W5.out.len W5.out.most
        have HNW := Lib.hid hnw
        have hnwb : nw ≤ 300 * i + 300 := by omega
        clear hnw
        generalize wr = w5 at W5 X5 T5 O5 B5 ⊢
        obtain ⟨y0, y1, y2⟩ := ptc3 O5.out
        obtain ⟨x0, x1, x2⟩ := ptc3 X5.out
        by_cases hk3 : k < 300
        · have hk3' : (k : Int) < 300 := by omega
          by_cases hkn : (k : Int) < nn
          · obtain ⟨nw1, hnw1⟩ : ∃ x, x = nw + 1 := ⟨_, rfl⟩
            have HN1 := Lib.hid hnw1
            have e1 : m5 ≤ 5000 := by omega
            have e2 : nw ≤ 4000000000 := by omega
            have RT := Lib.hid (rtick_any A5 m5 c5 w5.heap.size nw nw1 M L5 w5 T5.out.rd.1 e1 (Nat.le_refl _) e2 hnw1)
            clear hnw1
            go_wp2_with fail
            refine RT.out.mono ?_
            rintro e w3 ⟨v3, d3, rfl, ho3, hz3, hb3⟩
            clear RT x0 x1 x2 y0 y1 y2
            have W3 := Lib.hid (W5.out.into hb3)
            have X3 := Lib.hid (X5.out.below hb3 X5.out.lt)
            have O3 := Lib.hid (O5.out.below hb3 O5.out.lt)
            have B3 := Lib.hid (B5.out.trans (hb3.mono (by rw [HBB.out]; exact B5.out.size)))
            have T3 : Hid (TOwn w3 B v3 (leftL L5 nw1)) := Lib.hid (own_mono ho3 (by rw [HBB.out]; exact B5.out.size))
            have Z3 := Lib.hid hz3
            obtain ⟨A6, c6, rfl, hnc6, hcm6, _⟩ := own_form T3.out
            obtain ⟨m6, hm6⟩ : ∃ k, k = (leftL L5 nw1).length := ⟨_, rfl⟩
            have HM6 := Lib.hid hm6
            rw [← hm6] at T3 hnc6 ⊢
            obtain ⟨D3, n3, e3, rfl, hnc3, hln3, _⟩ := Z3.out.out
            have hn3 : n3 ≤ 4096 := by have h1 := hln3.out; rw [sortI_len] at h1; have := dueL_le L5 nw1; have := HM5.out; omega
            clear hm6 ho3 hz3 hb3 X5 T5 O5 B5
            obtain ⟨x0, x1, x2⟩ := ptc3 X3.out
            have f0 := X3.out.frozen 0
            have f1 := X3.out.frozen 1
            have f2 := X3.out.frozen 2
            go_upto_region 27 with fail
            have hs4 : Solo xb w3 (((w3.setCell ⟨xb, 0, none⟩ (.int .i64 (nw1 : Nat))).setCell ⟨xb, 1, none⟩ (.int .i64 (M : Nat))).setCell ⟨xb, 2, none⟩ (.slice A6 m6 c6)) := (((Solo.refl (g := xb) (w := w3)).setCell 0 (.int .i64 (nw1 : Nat))).setCell 1 (.int .i64 (M : Nat))).setCell 2 (.slice A6 m6 c6)
            have X4 := Lib.hid (show Blk (((w3.setCell ⟨xb, 0, none⟩ (.int .i64 (nw1 : Nat))).setCell ⟨xb, 1, none⟩ (.int .i64 (M : Nat))).setCell ⟨xb, 2, none⟩ (.slice A6 m6 c6)) xb 27 #[.int .i64 (nw1 : Nat), .int .i64 (M : Nat), .slice A6 m6 c6] from ((X3.out.set 0 (.int .i64 (nw1 : Nat))).set 1 (.int .i64 (M : Nat))).set 2 (.slice A6 m6 c6))
            have W4 := Lib.hid (W3.out.solo hs4 X3.out (by decide) (by decide))
            have O4 := Lib.hid (hs4.blk O3.out hox)
            have T4 : Hid (TOwn (((w3.setCell ⟨xb, 0, none⟩ (.int .i64 (nw1 : Nat))).setCell ⟨xb, 1, none⟩ (.int .i64 (M : Nat))).setCell ⟨xb, 2, none⟩ (.slice A6 m6 c6)) B (.slice A6 m6 c6) (leftL L5 nw1)) := Lib.hid (own_kept T3.out fun k hk => hs4.2.2 k fun e => by subst e; exact own_nw T3.out X3.out (by decide) hk)
            have Z4 := Lib.hid (own_kept Z3.out fun k hk => hs4.2.2 k fun e => by subst e; exact own_nw Z3.out X3.out (by decide) hk)
            have B4 := Lib.hid (B3.out.trans (hs4.1.mono hBx))
            clear hs4 x0 x1 x2 f0 f1 f2 W3 X3 T3 O3 B3 Z3
            generalize (((w3.setCell ⟨xb, 0, none⟩ (.int .i64 (nw1 : Nat))).setCell ⟨xb, 1, none⟩ (.int .i64 (M : Nat))).setCell ⟨xb, 2, none⟩ (.slice A6 m6 c6)) = w4 at W4 X4 T4 O4 B4 Z4 ⊢
            obtain ⟨y0, y1, y2⟩ := ptc3 O4.out
            have HTK6 := Lib.hid (wtickI g B mb M nw sl5 L5 w4 W4.out e2)
            go_wp2_with fail
            refine HTK6.out.mono ?_
            rintro e w6 ⟨v6, sl6, rfl, hz6, h6, hk6⟩
            rw [← HN1.out] at hz6 h6
            have W6 := Lib.hid h6
            have X6 : Hid (Blk w6 xb 27 _) := Lib.hid ((W4.out.far hk6 X4.out (by decide) (by decide)).trans X4.out)
            have O6 : Hid (Blk w6 ob 30 _) := Lib.hid ((W4.out.far hk6 O4.out (by decide) (by decide)).trans O4.out)
            have T6 := Lib.hid (T4.out.far W4.out hk6)
            have B6 := Lib.hid (B4.out.trans (W4.out.below hk6 hmb))
            have Z6 : Hid (Zats w6 3 .i64 w5.heap.size (.slice D3 n3 e3) (sortI (dueL L5 nw1))) := Lib.hid (by
              unfold Zats
              have h0 := own_kept Z4.out fun k hk => W5.out.farNew hk6 (Z4.out.lt k hk).1 (Z4.out.lt k hk).2
              rw [hln3.out] at h0 ⊢
              exact h0)
            have Y6 := Lib.hid hz6
            clear hz6 h6 hk6 W4 X4 T4 O4 B4 Z4 W5 y0 y1 y2
            obtain ⟨D6, n6, e6, rfl, hnc6', hln6, hrd6⟩ := Y6.out.out
            obtain ⟨D7, n7, e7, hD7, _, _, hrd7⟩ := Z6.out.out
            injection hD7 with hD7 hn7 he7
            subst hD7 hn7 he7
            have hn6 : n6 ≤ 1000000 := by have := hln6.out; have := hln3.out; omega
            have RW := Lib.hid (row29_any D6 D3 n6 e6 n3 e3 w6.heap.size w6.heap.size (sortI (dueL L5 nw1)) w6 hrd6.out hrd7.out hn6)
            clear HTK6
            go_wp2_with fail
            refine RW.out.mono ?_
            rintro e w7 ⟨rfl, hb7⟩
            clear hrd6 hrd7 Y6 Z6 RW
            have W7 := Lib.hid (W6.out.into hb7)
            have X7 := Lib.hid (X6.out.below hb7 X6.out.lt)
            have T7 : Hid (TOwn w7 B (.slice A6 m6 c6) (leftL L5 nw1)) := Lib.hid (own_below T6.out hb7 fun k hk => (T6.out.lt k hk).2)
            have O7 := Lib.hid (O6.out.below hb7 O6.out.lt)
            have B7 := Lib.hid (B6.out.trans (hb7.mono (by rw [HBB.out]; exact B6.out.size)))
            clear hb7 W6 X6 T6 O6 B6
            go_wp2_with fail
            go_roundw
            case rel => exact ⟨k + 1, nw1, sl6, leftL L5 nw1, A6, m6, c6, by omega, by go_num, by rw [HN1.out, HNW.out]; omega, HM6, W7, X7, T7, O7, B7⟩
            case measure => simp [intOf]; omega
          · clear x0 x1 x2
            have HDU5 := Lib.hid W5.out.due
            have HON5 := Lib.hid (W5.out.one id)
            obtain ⟨dA, dB, hdv⟩ := due_val (L5) (nw) id HON5.out
            obtain ⟨nA, nB, hnv⟩ := next_val (L5) (nw)
            have HDV := Lib.hid hdv
            have HNV := Lib.hid hnv
            clear hdv hnv
            go_wp2_with fail
            refine (wdueU g B mb M (nw) id sl5 (L5) w5 W5.out (by omega) hid).mono ?_
            rintro e w6 ⟨hp6, hb6⟩
            obtain rfl := HDV.out e hp6
            clear hp6 y0 y1 y2
            have W6 := Lib.hid (W5.out.into hb6)
            have X6 := Lib.hid (X5.out.below hb6 X5.out.lt)
            have T6 : Hid (TOwn w6 B (.slice A5 m5 c5) (L5)) := Lib.hid (own_below T5.out hb6 fun k hk => (T5.out.lt k hk).2)
            have O6 := Lib.hid (O5.out.below hb6 O5.out.lt)
            have B6 := Lib.hid (B5.out.trans (hb6.mono (by rw [HBB.out]; exact B5.out.size)))
            clear hb6 W5 X5 T5 O5 B5
            obtain ⟨y0, y1, y2⟩ := ptc3 O6.out
            obtain ⟨x0, x1, x2⟩ := ptc3 X6.out
            go_wp2_with fail
            refine (rdueU A5 m5 c5 w6.heap.size (nw) M (L5) id w6 T6.out.rd.1 (by omega) (Nat.le_refl _) (by omega) HDU5.out HON5.out).mono ?_
            rintro e w7 ⟨hp7, hb7⟩
            obtain rfl := HDV.out e hp7
            clear hp7 x0 x1 x2 y0 y1 y2
            have W7 := Lib.hid (W6.out.into hb7)
            have X7 := Lib.hid (X6.out.below hb7 X6.out.lt)
            have T7 : Hid (TOwn w7 B (.slice A5 m5 c5) (L5)) := Lib.hid (own_below T6.out hb7 fun k hk => (T6.out.lt k hk).2)
            have O7 := Lib.hid (O6.out.below hb7 O6.out.lt)
            have B7 := Lib.hid (B6.out.trans (hb7.mono (by rw [HBB.out]; exact B6.out.size)))
            clear hb7 W6 X6 T6 O6 B6
            go_wp2_with fail
            refine (wnextI g B mb M (nw) sl5 (L5) w7 W7.out (by omega)).mono ?_
            rintro e w8 ⟨hp8, hb8⟩
            obtain rfl := HNV.out e hp8
            clear hp8
            have W8 := Lib.hid (W7.out.into hb8)
            have X8 := Lib.hid (X7.out.below hb8 X7.out.lt)
            have T8 : Hid (TOwn w8 B (.slice A5 m5 c5) (L5)) := Lib.hid (own_below T7.out hb8 fun k hk => (T7.out.lt k hk).2)
            have O8 := Lib.hid (O7.out.below hb8 O7.out.lt)
            have B8 := Lib.hid (B7.out.trans (hb8.mono (by rw [HBB.out]; exact B7.out.size)))
            clear hb8 W7 X7 T7 O7 B7
            obtain ⟨x0, x1, x2⟩ := ptc3 X8.out
            go_wp2_with fail
            refine (rnext_any A5 m5 c5 w8.heap.size (nw) M (L5) w8 T8.out.rd.1 (by omega) (Nat.le_refl _) (by omega) HDU5.out).mono ?_
            rintro e w9 ⟨hp9, hb9⟩
            obtain rfl := HNV.out e hp9
            clear hp9 x0 x1 x2
            have W9 := Lib.hid (W8.out.into hb9)
            have X9 := Lib.hid (X8.out.below hb9 X8.out.lt)
            have T9 : Hid (TOwn w9 B (.slice A5 m5 c5) (L5)) := Lib.hid (own_below T8.out hb9 fun k hk => (T8.out.lt k hk).2)
            have O9 := Lib.hid (O8.out.below hb9 O8.out.lt)
            have B9 := Lib.hid (B8.out.trans (hb9.mono (by rw [HBB.out]; exact B8.out.size)))
            clear hb9 W8 X8 T8 O8 B8
            go_wp2_with fail
            refine wp_ord [(0, .pure), (1, .pure), (2, .pure), (3, .pure), (4, .pure), (5, .pure), (6, .pure), (7, .pure), (8, .pure), (9, .pure), (10, .pure), (11, .pure), (12, .pure), (13, .pure), (14, .pure), (15, .pure), (16, .pure), (17, .pure), (18, .pure), (19, .pure), (21, .pure), (22, .read), (20, .sole), (23, .pure), (24, .pure), (25, .pure), (26, .pure), (28, .pure), (29, .read), (30, .pure), (27, .sole), (31, .pure), (32, .pure)] [] (by kernel_rfl) (by kernel_rfl) (fun QQ hQ wd hwd => ?_); simp only [List.map_cons, List.map_nil, List.getD_cons_zero, List.getD_cons_succ]
            have hD : Below w9.heap.size w9 wd := by rw [hwd.out]; exact (Below.refl _ _).drew
            have Wd := Lib.hid (W9.out.into hD)
            have Xd := Lib.hid (X9.out.below hD X9.out.lt)
            have Td : Hid (TOwn wd B (.slice A5 m5 c5) (L5)) := Lib.hid (own_below T9.out hD fun k hk => (T9.out.lt k hk).2)
            have Bd := Lib.hid (B9.out.trans (hD.mono (by rw [HBB.out]; exact B9.out.size)))
            have HLN := Lib.hid (wlenI g B mb M (nw) sl5 (L5) wd Wd.out)
            rw [← HM5.out] at HLN
            have HNO := Lib.hid (wnowI g B mb M (nw) sl5 (L5) wd Wd.out)
            clear hD hwd W9 X9 T9 O9 B9
            obtain ⟨x0, x1, x2⟩ := ptc3 Xd.out
            iterate 21 (refine o_pure (v := ?_) (by rfl) (fun w' => ?_) ?_; rotate_left; (focus (go_simp; (try with_reducible rfl); (try (rw [if_pos (by omega)]; (try with_reducible rfl))))); (try simp only [Act.put, List.setIfInBounds_toArray, List.set_cons_zero, List.set_cons_succ]))
            (refine o_load _ (by rfl) rfl rfl (by assumption) (by kernel_rfl) ?_; simp only [Act.put, List.setIfInBounds_toArray, List.set_cons_zero, List.set_cons_succ])
            refine o_sole (fun K hK => ?_)
            go_wp2_with fail
            refine HNO.out.mono ?_
            rintro e wz ⟨rfl, rfl⟩
            go_wp2_with fail
            refine hK _ _ (fun _ => Ext.of (Below.refl _ _)) ?_; clear hK K
            iterate 4 (refine o_pure (v := ?_) (by rfl) (fun w' => ?_) ?_; rotate_left; (focus (go_simp; (try with_reducible rfl); (try (rw [if_pos (by omega)]; (try with_reducible rfl))))); (try simp only [Act.put, List.setIfInBounds_toArray, List.set_cons_zero, List.set_cons_succ]))
            (refine o_pure (v := ?_) (by rfl) (fun w' => ?_) ?_; rotate_left; (focus (go_simp; (try with_reducible rfl); (try (rw [if_pos (by omega)]; (try with_reducible rfl))))); (try simp only [Act.put, List.setIfInBounds_toArray, List.set_cons_zero, List.set_cons_succ]))
            (refine o_load _ (by rfl) rfl rfl (by assumption) (by kernel_rfl) ?_; simp only [Act.put, List.setIfInBounds_toArray, List.set_cons_zero, List.set_cons_succ])
            (refine o_pure (v := ?_) (by rfl) (fun w' => ?_) ?_; rotate_left; (focus (go_simp; (try with_reducible rfl); (try (rw [if_pos (by omega)]; (try with_reducible rfl))))); (try simp only [Act.put, List.setIfInBounds_toArray, List.set_cons_zero, List.set_cons_succ]))
            refine o_sole (fun K hK => ?_)
            go_wp2_with fail
            refine HLN.out.mono ?_
            rintro e wz ⟨rfl, rfl⟩
            go_wp2_with fail
            refine hK _ _ (fun _ => Ext.of (Below.refl _ _)) ?_; clear hK K
            (refine o_pure (v := ?_) (by rfl) (fun w' => ?_) ?_; rotate_left; (focus (go_simp; (try with_reducible rfl); (try (rw [if_pos (by omega)]; (try with_reducible rfl))))); (try simp only [Act.put, List.setIfInBounds_toArray, List.set_cons_zero, List.set_cons_succ]))
            (refine o_pure (v := ?_) (by rfl) (fun w' => ?_) ?_; rotate_left; (focus (go_simp; (try with_reducible rfl); (try (rw [if_pos (by omega)]; (try with_reducible rfl))))); (try simp only [Act.put, List.setIfInBounds_toArray, List.set_cons_zero, List.set_cons_succ]))
            refine o_nil (hQ.out _ _ ?_); clear hQ QQ
            clear x0 x1 x2 HNO HLN
            go_wp2_with fail
            go_roundw
            case rel => exact ⟨i + 1, nw, sl5, L5, .slice A5 m5 c5, by omega, by go_num, by omega, Wd, Xd, Td, Bd⟩
            case measure => simp [intOf]; omega
        · have hk3' : ¬ (k : Int) < 300 := by omega
          clear x0 x1 x2
          have HDU5 := Lib.hid W5.out.due
          have HON5 := Lib.hid (W5.out.one id)
          obtain ⟨dA, dB, hdv⟩ := due_val (L5) (nw) id HON5.out
          obtain ⟨nA, nB, hnv⟩ := next_val (L5) (nw)
          have HDV := Lib.hid hdv
          have HNV := Lib.hid hnv
          clear hdv hnv
          go_wp2_with fail
          refine (wdueU g B mb M (nw) id sl5 (L5) w5 W5.out (by omega) hid).mono ?_
          rintro e w6 ⟨hp6, hb6⟩
          obtain rfl := HDV.out e hp6
          clear hp6 y0 y1 y2
          have W6 := Lib.hid (W5.out.into hb6)
          have X6 := Lib.hid (X5.out.below hb6 X5.out.lt)
          have T6 : Hid (TOwn w6 B (.slice A5 m5 c5) (L5)) := Lib.hid (own_below T5.out hb6 fun k hk => (T5.out.lt k hk).2)
          have O6 := Lib.hid (O5.out.below hb6 O5.out.lt)
          have B6 := Lib.hid (B5.out.trans (hb6.mono (by rw [HBB.out]; exact B5.out.size)))
          clear hb6 W5 X5 T5 O5 B5
          obtain ⟨y0, y1, y2⟩ := ptc3 O6.out
          obtain ⟨x0, x1, x2⟩ := ptc3 X6.out
          go_wp2_with fail
          refine (rdueU A5 m5 c5 w6.heap.size (nw) M (L5) id w6 T6.out.rd.1 (by omega) (Nat.le_refl _) (by omega) HDU5.out HON5.out).mono ?_
          rintro e w7 ⟨hp7, hb7⟩
          obtain rfl := HDV.out e hp7
          clear hp7 x0 x1 x2 y0 y1 y2
          have W7 := Lib.hid (W6.out.into hb7)
          have X7 := Lib.hid (X6.out.below hb7 X6.out.lt)
          have T7 : Hid (TOwn w7 B (.slice A5 m5 c5) (L5)) := Lib.hid (own_below T6.out hb7 fun k hk => (T6.out.lt k hk).2)
          have O7 := Lib.hid (O6.out.below hb7 O6.out.lt)
          have B7 := Lib.hid (B6.out.trans (hb7.mono (by rw [HBB.out]; exact B6.out.size)))
          clear hb7 W6 X6 T6 O6 B6
          go_wp2_with fail
          refine (wnextI g B mb M (nw) sl5 (L5) w7 W7.out (by omega)).mono ?_
          rintro e w8 ⟨hp8, hb8⟩
          obtain rfl := HNV.out e hp8
          clear hp8
          have W8 := Lib.hid (W7.out.into hb8)
          have X8 := Lib.hid (X7.out.below hb8 X7.out.lt)
          have T8 : Hid (TOwn w8 B (.slice A5 m5 c5) (L5)) := Lib.hid (own_below T7.out hb8 fun k hk => (T7.out.lt k hk).2)
          have O8 := Lib.hid (O7.out.below hb8 O7.out.lt)
          have B8 := Lib.hid (B7.out.trans (hb8.mono (by rw [HBB.out]; exact B7.out.size)))
          clear hb8 W7 X7 T7 O7 B7
          obtain ⟨x0, x1, x2⟩ := ptc3 X8.out
          go_wp2_with fail
          refine (rnext_any A5 m5 c5 w8.heap.size (nw) M (L5) w8 T8.out.rd.1 (by omega) (Nat.le_refl _) (by omega) HDU5.out).mono ?_
          rintro e w9 ⟨hp9, hb9⟩
          obtain rfl := HNV.out e hp9
          clear hp9 x0 x1 x2
          have W9 := Lib.hid (W8.out.into hb9)
          have X9 := Lib.hid (X8.out.below hb9 X8.out.lt)
          have T9 : Hid (TOwn w9 B (.slice A5 m5 c5) (L5)) := Lib.hid (own_below T8.out hb9 fun k hk => (T8.out.lt k hk).2)
          have O9 := Lib.hid (O8.out.below hb9 O8.out.lt)
          have B9 := Lib.hid (B8.out.trans (hb9.mono (by rw [HBB.out]; exact B8.out.size)))
          clear hb9 W8 X8 T8 O8 B8
          go_wp2_with fail
          refine wp_ord [(0, .pure), (1, .pure), (2, .pure), (3, .pure), (4, .pure), (5, .pure), (6, .pure), (7, .pure), (8, .pure), (9, .pure), (10, .pure), (11, .pure), (12, .pure), (13, .pure), (14, .pure), (15, .pure), (16, .pure), (17, .pure), (18, .pure), (19, .pure), (21, .pure), (22, .read), (20, .sole), (23, .pure), (24, .pure), (25, .pure), (26, .pure), (28, .pure), (29, .read), (30, .pure), (27, .sole), (31, .pure), (32, .pure)] [] (by kernel_rfl) (by kernel_rfl) (fun QQ hQ wd hwd => ?_); simp only [List.map_cons, List.map_nil, List.getD_cons_zero, List.getD_cons_succ]
          have hD : Below w9.heap.size w9 wd := by rw [hwd.out]; exact (Below.refl _ _).drew
          have Wd := Lib.hid (W9.out.into hD)
          have Xd := Lib.hid (X9.out.below hD X9.out.lt)
          have Td : Hid (TOwn wd B (.slice A5 m5 c5) (L5)) := Lib.hid (own_below T9.out hD fun k hk => (T9.out.lt k hk).2)
          have Bd := Lib.hid (B9.out.trans (hD.mono (by rw [HBB.out]; exact B9.out.size)))
          have HLN := Lib.hid (wlenI g B mb M (nw) sl5 (L5) wd Wd.out)
          rw [← HM5.out] at HLN
          have HNO := Lib.hid (wnowI g B mb M (nw) sl5 (L5) wd Wd.out)
          clear hD hwd W9 X9 T9 O9 B9
          obtain ⟨x0, x1, x2⟩ := ptc3 Xd.out
          iterate 21 (refine o_pure (v := ?_) (by rfl) (fun w' => ?_) ?_; rotate_left; (focus (go_simp; (try with_reducible rfl); (try (rw [if_pos (by omega)]; (try with_reducible rfl))))); (try simp only [Act.put, List.setIfInBounds_toArray, List.set_cons_zero, List.set_cons_succ]))
          (refine o_load _ (by rfl) rfl rfl (by assumption) (by kernel_rfl) ?_; simp only [Act.put, List.setIfInBounds_toArray, List.set_cons_zero, List.set_cons_succ])
          refine o_sole (fun K hK => ?_)
          go_wp2_with fail
          refine HNO.out.mono ?_
          rintro e wz ⟨rfl, rfl⟩
          go_wp2_with fail
          refine hK _ _ (fun _ => Ext.of (Below.refl _ _)) ?_; clear hK K
          iterate 4 (refine o_pure (v := ?_) (by rfl) (fun w' => ?_) ?_; rotate_left; (focus (go_simp; (try with_reducible rfl); (try (rw [if_pos (by omega)]; (try with_reducible rfl))))); (try simp only [Act.put, List.setIfInBounds_toArray, List.set_cons_zero, List.set_cons_succ]))
          (refine o_pure (v := ?_) (by rfl) (fun w' => ?_) ?_; rotate_left; (focus (go_simp; (try with_reducible rfl); (try (rw [if_pos (by omega)]; (try with_reducible rfl))))); (try simp only [Act.put, List.setIfInBounds_toArray, List.set_cons_zero, List.set_cons_succ]))
          (refine o_load _ (by rfl) rfl rfl (by assumption) (by kernel_rfl) ?_; simp only [Act.put, List.setIfInBounds_toArray, List.set_cons_zero, List.set_cons_succ])
          (refine o_pure (v := ?_) (by rfl) (fun w' => ?_) ?_; rotate_left; (focus (go_simp; (try with_reducible rfl); (try (rw [if_pos (by omega)]; (try with_reducible rfl))))); (try simp only [Act.put, List.setIfInBounds_toArray, List.set_cons_zero, List.set_cons_succ]))
          refine o_sole (fun K hK => ?_)
          go_wp2_with fail
          refine HLN.out.mono ?_
          rintro e wz ⟨rfl, rfl⟩
          go_wp2_with fail
          refine hK _ _ (fun _ => Ext.of (Below.refl _ _)) ?_; clear hK K
          (refine o_pure (v := ?_) (by rfl) (fun w' => ?_) ?_; rotate_left; (focus (go_simp; (try with_reducible rfl); (try (rw [if_pos (by omega)]; (try with_reducible rfl))))); (try simp only [Act.put, List.setIfInBounds_toArray, List.set_cons_zero, List.set_cons_succ]))
          (refine o_pure (v := ?_) (by rfl) (fun w' => ?_) ?_; rotate_left; (focus (go_simp; (try with_reducible rfl); (try (rw [if_pos (by omega)]; (try with_reducible rfl))))); (try simp only [Act.put, List.setIfInBounds_toArray, List.set_cons_zero, List.set_cons_succ]))
          refine o_nil (hQ.out _ _ ?_); clear hQ QQ
          clear x0 x1 x2 HNO HLN
          go_wp2_with fail
          go_roundw
          case rel => exact ⟨i + 1, nw, sl5, L5, .slice A5 m5 c5, by omega, by go_num, by omega, Wd, Xd, Td, Bd⟩
          case measure => simp [intOf]; omega
    by_cases hq5 : q = 5
    · subst hq5
      go_wp2_with fail
      clear x0 x1 x2 y1 y2 HRD
      go_loopw [10, 11] (fun dv kv wk => ∃ (k nw : Nat) (sl5 : List Value) (L5 : List Tm) (A5 : Option Addr) (m5 c5 : Nat), k ≤ 300 ∧ kv = .int .i64 (k : Nat) ∧ nw = now + k ∧ Hid (m5 = L5.length) ∧ Hid (WA wk g B mb M nw sl5 L5) ∧ Hid (Blk wk xb 27 #[.int .i64 (nw : Nat), .int .i64 (M : Nat), .slice A5 m5 c5]) ∧ Hid (TOwn wk B (.slice A5 m5 c5) L5) ∧ Hid (Blk wk ob 30 #[.int .i64 kd, .int .i64 id, .int .i64 nn]) ∧ Hid (Below B w wk)) (fun _ kv _ => 300 - (intOf kv).toNat)
      case atStart => exact ⟨0, now, sl, L, A2, m, c2, by omega, rfl, rfl, HM, W2, X2, T2, O2, B2⟩
      case round =>
        clear W2 X2 T2 O2 B2
        obtain ⟨k, nw, sl5, L5, A5, m5, c5, hk, rfl, hnw, HM5, W5, X5, T5, O5, B5⟩ := hrel
        have hmm5 : m5 ≤ 4096 := by rw [HM5.out]; exact Nat.le_trans W5.out.len W5.out.most
        have HNW := Lib.hid hnw
        have hnwb : nw ≤ 300 * i + 300 := by omega
        clear hnw
        generalize wr = w5 at W5 X5 T5 O5 B5 ⊢
        obtain ⟨y0, y1, y2⟩ := ptc3 O5.out
        obtain ⟨x0, x1, x2⟩ := ptc3 X5.out
        by_cases hk3 : k < 300
        · have hk3' : (k : Int) < 300 := by omega
          by_cases hkn : (k : Int) < nn
          · obtain ⟨nw1, hnw1⟩ : ∃ x, x = nw + 1 := ⟨_, rfl⟩
            have HN1 := Lib.hid hnw1
            have e1 : m5 ≤ 5000 := by omega
            have e2 : nw ≤ 4000000000 := by omega
            have RT := Lib.hid (rtick_any A5 m5 c5 w5.heap.size nw nw1 M L5 w5 T5.out.rd.1 e1 (Nat.le_refl _) e2 hnw1)
            clear hnw1
            go_wp2_with fail
            refine RT.out.mono ?_
            rintro e w3 ⟨v3, d3, rfl, ho3, hz3, hb3⟩
            clear RT x0 x1 x2 y0 y1 y2
            have W3 := Lib.hid (W5.out.into hb3)
            have X3 := Lib.hid (X5.out.below hb3 X5.out.lt)
            have O3 := Lib.hid (O5.out.below hb3 O5.out.lt)
            have B3 := Lib.hid (B5.out.trans (hb3.mono (by rw [HBB.out]; exact B5.out.size)))
            have T3 : Hid (TOwn w3 B v3 (leftL L5 nw1)) := Lib.hid (own_mono ho3 (by rw [HBB.out]; exact B5.out.size))
            have Z3 := Lib.hid hz3
            obtain ⟨A6, c6, rfl, hnc6, hcm6, _⟩ := own_form T3.out
            obtain ⟨m6, hm6⟩ : ∃ k, k = (leftL L5 nw1).length := ⟨_, rfl⟩
            have HM6 := Lib.hid hm6
            rw [← hm6] at T3 hnc6 ⊢
            obtain ⟨D3, n3, e3, rfl, hnc3, hln3, _⟩ := Z3.out.out
            have hn3 : n3 ≤ 4096 := by have h1 := hln3.out; rw [sortI_len] at h1; have := dueL_le L5 nw1; have := HM5.out; omega
            clear hm6 ho3 hz3 hb3 X5 T5 O5 B5
            obtain ⟨x0, x1, x2⟩ := ptc3 X3.out
            have f0 := X3.out.frozen 0
            have f1 := X3.out.frozen 1
            have f2 := X3.out.frozen 2
            go_upto_region 27 with fail
            have hs4 : Solo xb w3 (((w3.setCell ⟨xb, 0, none⟩ (.int .i64 (nw1 : Nat))).setCell ⟨xb, 1, none⟩ (.int .i64 (M : Nat))).setCell ⟨xb, 2, none⟩ (.slice A6 m6 c6)) := (((Solo.refl (g := xb) (w := w3)).setCell 0 (.int .i64 (nw1 : Nat))).setCell 1 (.int .i64 (M : Nat))).setCell 2 (.slice A6 m6 c6)
            have X4 := Lib.hid (show Blk (((w3.setCell ⟨xb, 0, none⟩ (.int .i64 (nw1 : Nat))).setCell ⟨xb, 1, none⟩ (.int .i64 (M : Nat))).setCell ⟨xb, 2, none⟩ (.slice A6 m6 c6)) xb 27 #[.int .i64 (nw1 : Nat), .int .i64 (M : Nat), .slice A6 m6 c6] from ((X3.out.set 0 (.int .i64 (nw1 : Nat))).set 1 (.int .i64 (M : Nat))).set 2 (.slice A6 m6 c6))
            have W4 := Lib.hid (W3.out.solo hs4 X3.out (by decide) (by decide))
            have O4 := Lib.hid (hs4.blk O3.out hox)
            have T4 : Hid (TOwn (((w3.setCell ⟨xb, 0, none⟩ (.int .i64 (nw1 : Nat))).setCell ⟨xb, 1, none⟩ (.int .i64 (M : Nat))).setCell ⟨xb, 2, none⟩ (.slice A6 m6 c6)) B (.slice A6 m6 c6) (leftL L5 nw1)) := Lib.hid (own_kept T3.out fun k hk => hs4.2.2 k fun e => by subst e; exact own_nw T3.out X3.out (by decide) hk)
            have Z4 := Lib.hid (own_kept Z3.out fun k hk => hs4.2.2 k fun e => by subst e; exact own_nw Z3.out X3.out (by decide) hk)
            have B4 := Lib.hid (B3.out.trans (hs4.1.mono hBx))
            clear hs4 x0 x1 x2 f0 f1 f2 W3 X3 T3 O3 B3 Z3
            generalize (((w3.setCell ⟨xb, 0, none⟩ (.int .i64 (nw1 : Nat))).setCell ⟨xb, 1, none⟩ (.int .i64 (M : Nat))).setCell ⟨xb, 2, none⟩ (.slice A6 m6 c6)) = w4 at W4 X4 T4 O4 B4 Z4 ⊢
            obtain ⟨y0, y1, y2⟩ := ptc3 O4.out
            have HTK6 := Lib.hid (wtickI g B mb M nw sl5 L5 w4 W4.out e2)
            go_wp2_with fail
            refine HTK6.out.mono ?_
            rintro e w6 ⟨v6, sl6, rfl, hz6, h6, hk6⟩
            rw [← HN1.out] at hz6 h6
            have W6 := Lib.hid h6
            have X6 : Hid (Blk w6 xb 27 _) := Lib.hid ((W4.out.far hk6 X4.out (by decide) (by decide)).trans X4.out)
            have O6 : Hid (Blk w6 ob 30 _) := Lib.hid ((W4.out.far hk6 O4.out (by decide) (by decide)).trans O4.out)
            have T6 := Lib.hid (T4.out.far W4.out hk6)
            have B6 := Lib.hid (B4.out.trans (W4.out.below hk6 hmb))
            have Z6 : Hid (Zats w6 3 .i64 w5.heap.size (.slice D3 n3 e3) (sortI (dueL L5 nw1))) := Lib.hid (by
              unfold Zats
              have h0 := own_kept Z4.out fun k hk => W5.out.farNew hk6 (Z4.out.lt k hk).1 (Z4.out.lt k hk).2
              rw [hln3.out] at h0 ⊢
              exact h0)
            have Y6 := Lib.hid hz6
            clear hz6 h6 hk6 W4 X4 T4 O4 B4 Z4 W5 y0 y1 y2
            obtain ⟨D6, n6, e6, rfl, hnc6', hln6, hrd6⟩ := Y6.out.out
            obtain ⟨D7, n7, e7, hD7, _, _, hrd7⟩ := Z6.out.out
            injection hD7 with hD7 hn7 he7
            subst hD7 hn7 he7
            have hn6 : n6 ≤ 1000000 := by have := hln6.out; have := hln3.out; omega
            have RW := Lib.hid (row29_any D6 D3 n6 e6 n3 e3 w6.heap.size w6.heap.size (sortI (dueL L5 nw1)) w6 hrd6.out hrd7.out hn6)
            clear HTK6
            go_wp2_with fail
            refine RW.out.mono ?_
            rintro e w7 ⟨rfl, hb7⟩
            clear hrd6 hrd7 Y6 Z6 RW
            have W7 := Lib.hid (W6.out.into hb7)
            have X7 := Lib.hid (X6.out.below hb7 X6.out.lt)
            have T7 : Hid (TOwn w7 B (.slice A6 m6 c6) (leftL L5 nw1)) := Lib.hid (own_below T6.out hb7 fun k hk => (T6.out.lt k hk).2)
            have O7 := Lib.hid (O6.out.below hb7 O6.out.lt)
            have B7 := Lib.hid (B6.out.trans (hb7.mono (by rw [HBB.out]; exact B6.out.size)))
            clear hb7 W6 X6 T6 O6 B6
            go_wp2_with fail
            go_roundw
            case rel => exact ⟨k + 1, nw1, sl6, leftL L5 nw1, A6, m6, c6, by omega, by go_num, by rw [HN1.out, HNW.out]; omega, HM6, W7, X7, T7, O7, B7⟩
            case measure => simp [intOf]; omega
          · clear x0 x1 x2
            have HDU5 := Lib.hid W5.out.due
            have HON5 := Lib.hid (W5.out.one id)
            obtain ⟨dA, dB, hdv⟩ := due_val (L5) (nw) id HON5.out
            obtain ⟨nA, nB, hnv⟩ := next_val (L5) (nw)
            have HDV := Lib.hid hdv
            have HNV := Lib.hid hnv
            clear hdv hnv
            go_wp2_with fail
            refine (wdueU g B mb M (nw) id sl5 (L5) w5 W5.out (by omega) hid).mono ?_
            rintro e w6 ⟨hp6, hb6⟩
            obtain rfl := HDV.out e hp6
            clear hp6 y0 y1 y2
            have W6 := Lib.hid (W5.out.into hb6)
            have X6 := Lib.hid (X5.out.below hb6 X5.out.lt)
            have T6 : Hid (TOwn w6 B (.slice A5 m5 c5) (L5)) := Lib.hid (own_below T5.out hb6 fun k hk => (T5.out.lt k hk).2)
            have O6 := Lib.hid (O5.out.below hb6 O5.out.lt)
            have B6 := Lib.hid (B5.out.trans (hb6.mono (by rw [HBB.out]; exact B5.out.size)))
            clear hb6 W5 X5 T5 O5 B5
            obtain ⟨y0, y1, y2⟩ := ptc3 O6.out
            obtain ⟨x0, x1, x2⟩ := ptc3 X6.out
            go_wp2_with fail
            refine (rdueU A5 m5 c5 w6.heap.size (nw) M (L5) id w6 T6.out.rd.1 (by omega) (Nat.le_refl _) (by omega) HDU5.out HON5.out).mono ?_
            rintro e w7 ⟨hp7, hb7⟩
            obtain rfl := HDV.out e hp7
            clear hp7 x0 x1 x2 y0 y1 y2
            have W7 := Lib.hid (W6.out.into hb7)
            have X7 := Lib.hid (X6.out.below hb7 X6.out.lt)
            have T7 : Hid (TOwn w7 B (.slice A5 m5 c5) (L5)) := Lib.hid (own_below T6.out hb7 fun k hk => (T6.out.lt k hk).2)
            have O7 := Lib.hid (O6.out.below hb7 O6.out.lt)
            have B7 := Lib.hid (B6.out.trans (hb7.mono (by rw [HBB.out]; exact B6.out.size)))
            clear hb7 W6 X6 T6 O6 B6
            go_wp2_with fail
            refine (wnextI g B mb M (nw) sl5 (L5) w7 W7.out (by omega)).mono ?_
            rintro e w8 ⟨hp8, hb8⟩
            obtain rfl := HNV.out e hp8
            clear hp8
            have W8 := Lib.hid (W7.out.into hb8)
            have X8 := Lib.hid (X7.out.below hb8 X7.out.lt)
            have T8 : Hid (TOwn w8 B (.slice A5 m5 c5) (L5)) := Lib.hid (own_below T7.out hb8 fun k hk => (T7.out.lt k hk).2)
            have O8 := Lib.hid (O7.out.below hb8 O7.out.lt)
            have B8 := Lib.hid (B7.out.trans (hb8.mono (by rw [HBB.out]; exact B7.out.size)))
            clear hb8 W7 X7 T7 O7 B7
            obtain ⟨x0, x1, x2⟩ := ptc3 X8.out
            go_wp2_with fail
            refine (rnext_any A5 m5 c5 w8.heap.size (nw) M (L5) w8 T8.out.rd.1 (by omega) (Nat.le_refl _) (by omega) HDU5.out).mono ?_
            rintro e w9 ⟨hp9, hb9⟩
            obtain rfl := HNV.out e hp9
            clear hp9 x0 x1 x2
            have W9 := Lib.hid (W8.out.into hb9)
            have X9 := Lib.hid (X8.out.below hb9 X8.out.lt)
            have T9 : Hid (TOwn w9 B (.slice A5 m5 c5) (L5)) := Lib.hid (own_below T8.out hb9 fun k hk => (T8.out.lt k hk).2)
            have O9 := Lib.hid (O8.out.below hb9 O8.out.lt)
            have B9 := Lib.hid (B8.out.trans (hb9.mono (by rw [HBB.out]; exact B8.out.size)))
            clear hb9 W8 X8 T8 O8 B8
            go_wp2_with fail
            refine wp_ord [(0, .pure), (1, .pure), (2, .pure), (3, .pure), (4, .pure), (5, .pure), (6, .pure), (7, .pure), (8, .pure), (9, .pure), (10, .pure), (11, .pure), (12, .pure), (13, .pure), (14, .pure), (15, .pure), (16, .pure), (17, .pure), (18, .pure), (19, .pure), (21, .pure), (22, .read), (20, .sole), (23, .pure), (24, .pure), (25, .pure), (26, .pure), (28, .pure), (29, .read), (30, .pure), (27, .sole), (31, .pure), (32, .pure)] [] (by kernel_rfl) (by kernel_rfl) (fun QQ hQ wd hwd => ?_); simp only [List.map_cons, List.map_nil, List.getD_cons_zero, List.getD_cons_succ]
            have hD : Below w9.heap.size w9 wd := by rw [hwd.out]; exact (Below.refl _ _).drew
            have Wd := Lib.hid (W9.out.into hD)
            have Xd := Lib.hid (X9.out.below hD X9.out.lt)
            have Td : Hid (TOwn wd B (.slice A5 m5 c5) (L5)) := Lib.hid (own_below T9.out hD fun k hk => (T9.out.lt k hk).2)
            have Bd := Lib.hid (B9.out.trans (hD.mono (by rw [HBB.out]; exact B9.out.size)))
            have HLN := Lib.hid (wlenI g B mb M (nw) sl5 (L5) wd Wd.out)
            rw [← HM5.out] at HLN
            have HNO := Lib.hid (wnowI g B mb M (nw) sl5 (L5) wd Wd.out)
            clear hD hwd W9 X9 T9 O9 B9
            obtain ⟨x0, x1, x2⟩ := ptc3 Xd.out
            iterate 21 (refine o_pure (v := ?_) (by rfl) (fun w' => ?_) ?_; rotate_left; (focus (go_simp; (try with_reducible rfl); (try (rw [if_pos (by omega)]; (try with_reducible rfl))))); (try simp only [Act.put, List.setIfInBounds_toArray, List.set_cons_zero, List.set_cons_succ]))
            (refine o_load _ (by rfl) rfl rfl (by assumption) (by kernel_rfl) ?_; simp only [Act.put, List.setIfInBounds_toArray, List.set_cons_zero, List.set_cons_succ])
            refine o_sole (fun K hK => ?_)
            go_wp2_with fail
            refine HNO.out.mono ?_
            rintro e wz ⟨rfl, rfl⟩
            go_wp2_with fail
            refine hK _ _ (fun _ => Ext.of (Below.refl _ _)) ?_; clear hK K
            iterate 4 (refine o_pure (v := ?_) (by rfl) (fun w' => ?_) ?_; rotate_left; (focus (go_simp; (try with_reducible rfl); (try (rw [if_pos (by omega)]; (try with_reducible rfl))))); (try simp only [Act.put, List.setIfInBounds_toArray, List.set_cons_zero, List.set_cons_succ]))
            (refine o_pure (v := ?_) (by rfl) (fun w' => ?_) ?_; rotate_left; (focus (go_simp; (try with_reducible rfl); (try (rw [if_pos (by omega)]; (try with_reducible rfl))))); (try simp only [Act.put, List.setIfInBounds_toArray, List.set_cons_zero, List.set_cons_succ]))
            (refine o_load _ (by rfl) rfl rfl (by assumption) (by kernel_rfl) ?_; simp only [Act.put, List.setIfInBounds_toArray, List.set_cons_zero, List.set_cons_succ])
            (refine o_pure (v := ?_) (by rfl) (fun w' => ?_) ?_; rotate_left; (focus (go_simp; (try with_reducible rfl); (try (rw [if_pos (by omega)]; (try with_reducible rfl))))); (try simp only [Act.put, List.setIfInBounds_toArray, List.set_cons_zero, List.set_cons_succ]))
            refine o_sole (fun K hK => ?_)
            go_wp2_with fail
            refine HLN.out.mono ?_
            rintro e wz ⟨rfl, rfl⟩
            go_wp2_with fail
            refine hK _ _ (fun _ => Ext.of (Below.refl _ _)) ?_; clear hK K
            (refine o_pure (v := ?_) (by rfl) (fun w' => ?_) ?_; rotate_left; (focus (go_simp; (try with_reducible rfl); (try (rw [if_pos (by omega)]; (try with_reducible rfl))))); (try simp only [Act.put, List.setIfInBounds_toArray, List.set_cons_zero, List.set_cons_succ]))
            (refine o_pure (v := ?_) (by rfl) (fun w' => ?_) ?_; rotate_left; (focus (go_simp; (try with_reducible rfl); (try (rw [if_pos (by omega)]; (try with_reducible rfl))))); (try simp only [Act.put, List.setIfInBounds_toArray, List.set_cons_zero, List.set_cons_succ]))
            refine o_nil (hQ.out _ _ ?_); clear hQ QQ
            clear x0 x1 x2 HNO HLN
            go_wp2_with fail
            go_roundw
            case rel => exact ⟨i + 1, nw, sl5, L5, .slice A5 m5 c5, by omega, by go_num, by omega, Wd, Xd, Td, Bd⟩
            case measure => simp [intOf]; omega
        · have hk3' : ¬ (k : Int) < 300 := by omega
          clear x0 x1 x2
          have HDU5 := Lib.hid W5.out.due
          have HON5 := Lib.hid (W5.out.one id)
          obtain ⟨dA, dB, hdv⟩ := due_val (L5) (nw) id HON5.out
          obtain ⟨nA, nB, hnv⟩ := next_val (L5) (nw)
          have HDV := Lib.hid hdv
          have HNV := Lib.hid hnv
          clear hdv hnv
          go_wp2_with fail
          refine (wdueU g B mb M (nw) id sl5 (L5) w5 W5.out (by omega) hid).mono ?_
          rintro e w6 ⟨hp6, hb6⟩
          obtain rfl := HDV.out e hp6
          clear hp6 y0 y1 y2
          have W6 := Lib.hid (W5.out.into hb6)
          have X6 := Lib.hid (X5.out.below hb6 X5.out.lt)
          have T6 : Hid (TOwn w6 B (.slice A5 m5 c5) (L5)) := Lib.hid (own_below T5.out hb6 fun k hk => (T5.out.lt k hk).2)
          have O6 := Lib.hid (O5.out.below hb6 O5.out.lt)
          have B6 := Lib.hid (B5.out.trans (hb6.mono (by rw [HBB.out]; exact B5.out.size)))
          clear hb6 W5 X5 T5 O5 B5
          obtain ⟨y0, y1, y2⟩ := ptc3 O6.out
          obtain ⟨x0, x1, x2⟩ := ptc3 X6.out
          go_wp2_with fail
          refine (rdueU A5 m5 c5 w6.heap.size (nw) M (L5) id w6 T6.out.rd.1 (by omega) (Nat.le_refl _) (by omega) HDU5.out HON5.out).mono ?_
          rintro e w7 ⟨hp7, hb7⟩
          obtain rfl := HDV.out e hp7
          clear hp7 x0 x1 x2 y0 y1 y2
          have W7 := Lib.hid (W6.out.into hb7)
          have X7 := Lib.hid (X6.out.below hb7 X6.out.lt)
          have T7 : Hid (TOwn w7 B (.slice A5 m5 c5) (L5)) := Lib.hid (own_below T6.out hb7 fun k hk => (T6.out.lt k hk).2)
          have O7 := Lib.hid (O6.out.below hb7 O6.out.lt)
          have B7 := Lib.hid (B6.out.trans (hb7.mono (by rw [HBB.out]; exact B6.out.size)))
          clear hb7 W6 X6 T6 O6 B6
          go_wp2_with fail
          refine (wnextI g B mb M (nw) sl5 (L5) w7 W7.out (by omega)).mono ?_
          rintro e w8 ⟨hp8, hb8⟩
          obtain rfl := HNV.out e hp8
          clear hp8
          have W8 := Lib.hid (W7.out.into hb8)
          have X8 := Lib.hid (X7.out.below hb8 X7.out.lt)
          have T8 : Hid (TOwn w8 B (.slice A5 m5 c5) (L5)) := Lib.hid (own_below T7.out hb8 fun k hk => (T7.out.lt k hk).2)
          have O8 := Lib.hid (O7.out.below hb8 O7.out.lt)
          have B8 := Lib.hid (B7.out.trans (hb8.mono (by rw [HBB.out]; exact B7.out.size)))
          clear hb8 W7 X7 T7 O7 B7
          obtain ⟨x0, x1, x2⟩ := ptc3 X8.out
          go_wp2_with fail
          refine (rnext_any A5 m5 c5 w8.heap.size (nw) M (L5) w8 T8.out.rd.1 (by omega) (Nat.le_refl _) (by omega) HDU5.out).mono ?_
          rintro e w9 ⟨hp9, hb9⟩
          obtain rfl := HNV.out e hp9
          clear hp9 x0 x1 x2
          have W9 := Lib.hid (W8.out.into hb9)
          have X9 := Lib.hid (X8.out.below hb9 X8.out.lt)
          have T9 : Hid (TOwn w9 B (.slice A5 m5 c5) (L5)) := Lib.hid (own_below T8.out hb9 fun k hk => (T8.out.lt k hk).2)
          have O9 := Lib.hid (O8.out.below hb9 O8.out.lt)
          have B9 := Lib.hid (B8.out.trans (hb9.mono (by rw [HBB.out]; exact B8.out.size)))
          clear hb9 W8 X8 T8 O8 B8
          go_wp2_with fail
          refine wp_ord [(0, .pure), (1, .pure), (2, .pure), (3, .pure), (4, .pure), (5, .pure), (6, .pure), (7, .pure), (8, .pure), (9, .pure), (10, .pure), (11, .pure), (12, .pure), (13, .pure), (14, .pure), (15, .pure), (16, .pure), (17, .pure), (18, .pure), (19, .pure), (21, .pure), (22, .read), (20, .sole), (23, .pure), (24, .pure), (25, .pure), (26, .pure), (28, .pure), (29, .read), (30, .pure), (27, .sole), (31, .pure), (32, .pure)] [] (by kernel_rfl) (by kernel_rfl) (fun QQ hQ wd hwd => ?_); simp only [List.map_cons, List.map_nil, List.getD_cons_zero, List.getD_cons_succ]
          have hD : Below w9.heap.size w9 wd := by rw [hwd.out]; exact (Below.refl _ _).drew
          have Wd := Lib.hid (W9.out.into hD)
          have Xd := Lib.hid (X9.out.below hD X9.out.lt)
          have Td : Hid (TOwn wd B (.slice A5 m5 c5) (L5)) := Lib.hid (own_below T9.out hD fun k hk => (T9.out.lt k hk).2)
          have Bd := Lib.hid (B9.out.trans (hD.mono (by rw [HBB.out]; exact B9.out.size)))
          have HLN := Lib.hid (wlenI g B mb M (nw) sl5 (L5) wd Wd.out)
          rw [← HM5.out] at HLN
          have HNO := Lib.hid (wnowI g B mb M (nw) sl5 (L5) wd Wd.out)
          clear hD hwd W9 X9 T9 O9 B9
          obtain ⟨x0, x1, x2⟩ := ptc3 Xd.out
          iterate 21 (refine o_pure (v := ?_) (by rfl) (fun w' => ?_) ?_; rotate_left; (focus (go_simp; (try with_reducible rfl); (try (rw [if_pos (by omega)]; (try with_reducible rfl))))); (try simp only [Act.put, List.setIfInBounds_toArray, List.set_cons_zero, List.set_cons_succ]))
          (refine o_load _ (by rfl) rfl rfl (by assumption) (by kernel_rfl) ?_; simp only [Act.put, List.setIfInBounds_toArray, List.set_cons_zero, List.set_cons_succ])
          refine o_sole (fun K hK => ?_)
          go_wp2_with fail
          refine HNO.out.mono ?_
          rintro e wz ⟨rfl, rfl⟩
          go_wp2_with fail
          refine hK _ _ (fun _ => Ext.of (Below.refl _ _)) ?_; clear hK K
          iterate 4 (refine o_pure (v := ?_) (by rfl) (fun w' => ?_) ?_; rotate_left; (focus (go_simp; (try with_reducible rfl); (try (rw [if_pos (by omega)]; (try with_reducible rfl))))); (try simp only [Act.put, List.setIfInBounds_toArray, List.set_cons_zero, List.set_cons_succ]))
          (refine o_pure (v := ?_) (by rfl) (fun w' => ?_) ?_; rotate_left; (focus (go_simp; (try with_reducible rfl); (try (rw [if_pos (by omega)]; (try with_reducible rfl))))); (try simp only [Act.put, List.setIfInBounds_toArray, List.set_cons_zero, List.set_cons_succ]))
          (refine o_load _ (by rfl) rfl rfl (by assumption) (by kernel_rfl) ?_; simp only [Act.put, List.setIfInBounds_toArray, List.set_cons_zero, List.set_cons_succ])
          (refine o_pure (v := ?_) (by rfl) (fun w' => ?_) ?_; rotate_left; (focus (go_simp; (try with_reducible rfl); (try (rw [if_pos (by omega)]; (try with_reducible rfl))))); (try simp only [Act.put, List.setIfInBounds_toArray, List.set_cons_zero, List.set_cons_succ]))
          refine o_sole (fun K hK => ?_)
          go_wp2_with fail
          refine HLN.out.mono ?_
          rintro e wz ⟨rfl, rfl⟩
          go_wp2_with fail
          refine hK _ _ (fun _ => Ext.of (Below.refl _ _)) ?_; clear hK K
          (refine o_pure (v := ?_) (by rfl) (fun w' => ?_) ?_; rotate_left; (focus (go_simp; (try with_reducible rfl); (try (rw [if_pos (by omega)]; (try with_reducible rfl))))); (try simp only [Act.put, List.setIfInBounds_toArray, List.set_cons_zero, List.set_cons_succ]))
          (refine o_pure (v := ?_) (by rfl) (fun w' => ?_) ?_; rotate_left; (focus (go_simp; (try with_reducible rfl); (try (rw [if_pos (by omega)]; (try with_reducible rfl))))); (try simp only [Act.put, List.setIfInBounds_toArray, List.set_cons_zero, List.set_cons_succ]))
          refine o_nil (hQ.out _ _ ?_); clear hQ QQ
          clear x0 x1 x2 HNO HLN
          go_wp2_with fail
          go_roundw
          case rel => exact ⟨i + 1, nw, sl5, L5, .slice A5 m5 c5, by omega, by go_num, by omega, Wd, Xd, Td, Bd⟩
          case measure => simp [intOf]; omega
    by_cases hb1 : nn < 1
    · go_wp2_with fail
      refine (radd_bad A2 m c2 now M id nn w2 (.inl hb1)).mono ?_
      rintro e w3 ⟨rfl, hb3⟩
      clear x0 x1 x2 y1 y2
      have W3 := Lib.hid (W2.out.into hb3)
      have X3 := Lib.hid (X2.out.below hb3 X2.out.lt)
      have T3 : Hid (TOwn w3 B (.slice A2 m c2) (L)) := Lib.hid (own_below T2.out hb3 fun k hk => (T2.out.lt k hk).2)
      have O3 := Lib.hid (O2.out.below hb3 O2.out.lt)
      have B3 := Lib.hid (B2.out.trans (hb3.mono (by rw [HBB.out]; exact B2.out.size)))
      clear hb3 W2 X2 T2 O2 B2
      obtain ⟨y0, y1, y2⟩ := ptc3 O3.out
      clear y0
      obtain ⟨x0, x1, x2⟩ := ptc3 X3.out
      have f0 := X3.out.frozen 0
      have f1 := X3.out.frozen 1
      have f2 := X3.out.frozen 2
      go_upto_region 15 with fail
      have hs4 : Solo xb w3 (((w3.setCell ⟨xb, 0, none⟩ (.int .i64 (now : Nat))).setCell ⟨xb, 1, none⟩ (.int .i64 (M : Nat))).setCell ⟨xb, 2, none⟩ (.slice A2 m c2)) := (((Solo.refl (g := xb) (w := w3)).setCell 0 (.int .i64 (now : Nat))).setCell 1 (.int .i64 (M : Nat))).setCell 2 (.slice A2 m c2)
      have X4 := Lib.hid (show Blk (((w3.setCell ⟨xb, 0, none⟩ (.int .i64 (now : Nat))).setCell ⟨xb, 1, none⟩ (.int .i64 (M : Nat))).setCell ⟨xb, 2, none⟩ (.slice A2 m c2)) xb 27 #[.int .i64 (now : Nat), .int .i64 (M : Nat), .slice A2 m c2] from ((X3.out.set 0 (.int .i64 (now : Nat))).set 1 (.int .i64 (M : Nat))).set 2 (.slice A2 m c2))
      have W4 := Lib.hid (W3.out.solo hs4 X3.out (by decide) (by decide))
      have O4 := Lib.hid (hs4.blk O3.out hox)
      have T4 : Hid (TOwn (((w3.setCell ⟨xb, 0, none⟩ (.int .i64 (now : Nat))).setCell ⟨xb, 1, none⟩ (.int .i64 (M : Nat))).setCell ⟨xb, 2, none⟩ (.slice A2 m c2)) B (.slice A2 m c2) (L)) := Lib.hid (own_kept T3.out fun k hk => hs4.2.2 k fun e => by subst e; exact own_nw T3.out X3.out (by decide) hk)
      have B4 := Lib.hid (B3.out.trans (hs4.1.mono hBx))
      clear hs4 x0 x1 x2 f0 f1 f2 W3 X3 T3 O3 B3
      generalize (((w3.setCell ⟨xb, 0, none⟩ (.int .i64 (now : Nat))).setCell ⟨xb, 1, none⟩ (.int .i64 (M : Nat))).setCell ⟨xb, 2, none⟩ (.slice A2 m c2)) = w4 at W4 X4 T4 O4 B4 ⊢
      obtain ⟨y0, y1, y2⟩ := ptc3 O4.out
      go_wp2_with fail
      refine (wadd_low g id nn w4 hb1).mono ?_
      rintro e w5 ⟨rfl, rfl⟩
      have W5 := W4
      have X5 := X4
      have T5 := T4
      have O5 := O4
      have B5 := B4
      clear W4 X4 T4 O4 B4 y0 y1 y2
      have hmm : m ≤ 4096 := by rw [HM.out]; exact Nat.le_trans W5.out.len W5.out.most
      have HDU5 := Lib.hid W5.out.due
      have HON5 := Lib.hid (W5.out.one id)
      obtain ⟨dA, dB, hdv⟩ := due_val (L) (now) id HON5.out
      obtain ⟨nA, nB, hnv⟩ := next_val (L) (now)
      have HDV := Lib.hid hdv
      have HNV := Lib.hid hnv
      clear hdv hnv
      obtain ⟨y0, y1, y2⟩ := ptc3 O5.out
      go_wp2_with fail
      refine (wdueU g B mb M (now) id sl (L) w5 W5.out (by omega) hid).mono ?_
      rintro e w6 ⟨hp6, hb6⟩
      obtain rfl := HDV.out e hp6
      clear hp6 y0 y1 y2
      have W6 := Lib.hid (W5.out.into hb6)
      have X6 := Lib.hid (X5.out.below hb6 X5.out.lt)
      have T6 : Hid (TOwn w6 B (.slice A2 m c2) (L)) := Lib.hid (own_below T5.out hb6 fun k hk => (T5.out.lt k hk).2)
      have O6 := Lib.hid (O5.out.below hb6 O5.out.lt)
      have B6 := Lib.hid (B5.out.trans (hb6.mono (by rw [HBB.out]; exact B5.out.size)))
      clear hb6 W5 X5 T5 O5 B5
      obtain ⟨y0, y1, y2⟩ := ptc3 O6.out
      obtain ⟨x0, x1, x2⟩ := ptc3 X6.out
      go_wp2_with fail
      refine (rdueU A2 m c2 w6.heap.size (now) M (L) id w6 T6.out.rd.1 (by omega) (Nat.le_refl _) (by omega) HDU5.out HON5.out).mono ?_
      rintro e w7 ⟨hp7, hb7⟩
      obtain rfl := HDV.out e hp7
      clear hp7 x0 x1 x2 y0 y1 y2
      have W7 := Lib.hid (W6.out.into hb7)
      have X7 := Lib.hid (X6.out.below hb7 X6.out.lt)
      have T7 : Hid (TOwn w7 B (.slice A2 m c2) (L)) := Lib.hid (own_below T6.out hb7 fun k hk => (T6.out.lt k hk).2)
      have O7 := Lib.hid (O6.out.below hb7 O6.out.lt)
      have B7 := Lib.hid (B6.out.trans (hb7.mono (by rw [HBB.out]; exact B6.out.size)))
      clear hb7 W6 X6 T6 O6 B6
      go_wp2_with fail
      refine (wnextI g B mb M (now) sl (L) w7 W7.out (by omega)).mono ?_
      rintro e w8 ⟨hp8, hb8⟩
      obtain rfl := HNV.out e hp8
      clear hp8
      have W8 := Lib.hid (W7.out.into hb8)
      have X8 := Lib.hid (X7.out.below hb8 X7.out.lt)
      have T8 : Hid (TOwn w8 B (.slice A2 m c2) (L)) := Lib.hid (own_below T7.out hb8 fun k hk => (T7.out.lt k hk).2)
      have O8 := Lib.hid (O7.out.below hb8 O7.out.lt)
      have B8 := Lib.hid (B7.out.trans (hb8.mono (by rw [HBB.out]; exact B7.out.size)))
      clear hb8 W7 X7 T7 O7 B7
      obtain ⟨x0, x1, x2⟩ := ptc3 X8.out
      go_wp2_with fail
      refine (rnext_any A2 m c2 w8.heap.size (now) M (L) w8 T8.out.rd.1 (by omega) (Nat.le_refl _) (by omega) HDU5.out).mono ?_
      rintro e w9 ⟨hp9, hb9⟩
      obtain rfl := HNV.out e hp9
      clear hp9 x0 x1 x2
      have W9 := Lib.hid (W8.out.into hb9)
      have X9 := Lib.hid (X8.out.below hb9 X8.out.lt)
      have T9 : Hid (TOwn w9 B (.slice A2 m c2) (L)) := Lib.hid (own_below T8.out hb9 fun k hk => (T8.out.lt k hk).2)
      have O9 := Lib.hid (O8.out.below hb9 O8.out.lt)
      have B9 := Lib.hid (B8.out.trans (hb9.mono (by rw [HBB.out]; exact B8.out.size)))
      clear hb9 W8 X8 T8 O8 B8
      go_wp2_with fail
      refine wp_ord [(0, .pure), (1, .pure), (2, .pure), (3, .pure), (4, .pure), (5, .pure), (6, .pure), (7, .pure), (8, .pure), (9, .pure), (10, .pure), (11, .pure), (12, .pure), (13, .pure), (14, .pure), (15, .pure), (16, .pure), (17, .pure), (18, .pure), (19, .pure), (21, .pure), (22, .read), (20, .sole), (23, .pure), (24, .pure), (25, .pure), (26, .pure), (28, .pure), (29, .read), (30, .pure), (27, .sole), (31, .pure), (32, .pure)] [] (by kernel_rfl) (by kernel_rfl) (fun QQ hQ wd hwd => ?_); simp only [List.map_cons, List.map_nil, List.getD_cons_zero, List.getD_cons_succ]
      have hD : Below w9.heap.size w9 wd := by rw [hwd.out]; exact (Below.refl _ _).drew
      have Wd := Lib.hid (W9.out.into hD)
      have Xd := Lib.hid (X9.out.below hD X9.out.lt)
      have Td : Hid (TOwn wd B (.slice A2 m c2) (L)) := Lib.hid (own_below T9.out hD fun k hk => (T9.out.lt k hk).2)
      have Bd := Lib.hid (B9.out.trans (hD.mono (by rw [HBB.out]; exact B9.out.size)))
      have HLN := Lib.hid (wlenI g B mb M (now) sl (L) wd Wd.out)
      rw [← HM.out] at HLN
      have HNO := Lib.hid (wnowI g B mb M (now) sl (L) wd Wd.out)
      clear hD hwd W9 X9 T9 O9 B9
      obtain ⟨x0, x1, x2⟩ := ptc3 Xd.out
      iterate 21 (refine o_pure (v := ?_) (by rfl) (fun w' => ?_) ?_; rotate_left; (focus (go_simp; (try with_reducible rfl); (try (rw [if_pos (by omega)]; (try with_reducible rfl))))); (try simp only [Act.put, List.setIfInBounds_toArray, List.set_cons_zero, List.set_cons_succ]))
      (refine o_load _ (by rfl) rfl rfl (by assumption) (by kernel_rfl) ?_; simp only [Act.put, List.setIfInBounds_toArray, List.set_cons_zero, List.set_cons_succ])
      refine o_sole (fun K hK => ?_)
      go_wp2_with fail
      refine HNO.out.mono ?_
      rintro e wz ⟨rfl, rfl⟩
      go_wp2_with fail
      refine hK _ _ (fun _ => Ext.of (Below.refl _ _)) ?_; clear hK K
      iterate 4 (refine o_pure (v := ?_) (by rfl) (fun w' => ?_) ?_; rotate_left; (focus (go_simp; (try with_reducible rfl); (try (rw [if_pos (by omega)]; (try with_reducible rfl))))); (try simp only [Act.put, List.setIfInBounds_toArray, List.set_cons_zero, List.set_cons_succ]))
      (refine o_pure (v := ?_) (by rfl) (fun w' => ?_) ?_; rotate_left; (focus (go_simp; (try with_reducible rfl); (try (rw [if_pos (by omega)]; (try with_reducible rfl))))); (try simp only [Act.put, List.setIfInBounds_toArray, List.set_cons_zero, List.set_cons_succ]))
      (refine o_load _ (by rfl) rfl rfl (by assumption) (by kernel_rfl) ?_; simp only [Act.put, List.setIfInBounds_toArray, List.set_cons_zero, List.set_cons_succ])
      (refine o_pure (v := ?_) (by rfl) (fun w' => ?_) ?_; rotate_left; (focus (go_simp; (try with_reducible rfl); (try (rw [if_pos (by omega)]; (try with_reducible rfl))))); (try simp only [Act.put, List.setIfInBounds_toArray, List.set_cons_zero, List.set_cons_succ]))
      refine o_sole (fun K hK => ?_)
      go_wp2_with fail
      refine HLN.out.mono ?_
      rintro e wz ⟨rfl, rfl⟩
      go_wp2_with fail
      refine hK _ _ (fun _ => Ext.of (Below.refl _ _)) ?_; clear hK K
      (refine o_pure (v := ?_) (by rfl) (fun w' => ?_) ?_; rotate_left; (focus (go_simp; (try with_reducible rfl); (try (rw [if_pos (by omega)]; (try with_reducible rfl))))); (try simp only [Act.put, List.setIfInBounds_toArray, List.set_cons_zero, List.set_cons_succ]))
      (refine o_pure (v := ?_) (by rfl) (fun w' => ?_) ?_; rotate_left; (focus (go_simp; (try with_reducible rfl); (try (rw [if_pos (by omega)]; (try with_reducible rfl))))); (try simp only [Act.put, List.setIfInBounds_toArray, List.set_cons_zero, List.set_cons_succ]))
      refine o_nil (hQ.out _ _ ?_); clear hQ QQ
      clear x0 x1 x2 HNO HLN
      go_wp2_with fail
      go_roundw
      case rel => exact ⟨i + 1, now, sl, L, .slice A2 m c2, by omega, by go_num, by omega, Wd, Xd, Td, Bd⟩
      case measure => simp [intOf]; omega
    by_cases hb2 : 65535 < nn
    · go_wp2_with fail
      refine (radd_bad A2 m c2 now M id nn w2 (.inr hb2)).mono ?_
      rintro e w3 ⟨rfl, hb3⟩
      clear x0 x1 x2 y1 y2
      have W3 := Lib.hid (W2.out.into hb3)
      have X3 := Lib.hid (X2.out.below hb3 X2.out.lt)
      have T3 : Hid (TOwn w3 B (.slice A2 m c2) (L)) := Lib.hid (own_below T2.out hb3 fun k hk => (T2.out.lt k hk).2)
      have O3 := Lib.hid (O2.out.below hb3 O2.out.lt)
      have B3 := Lib.hid (B2.out.trans (hb3.mono (by rw [HBB.out]; exact B2.out.size)))
      clear hb3 W2 X2 T2 O2 B2
      obtain ⟨y0, y1, y2⟩ := ptc3 O3.out
      clear y0
      obtain ⟨x0, x1, x2⟩ := ptc3 X3.out
      have f0 := X3.out.frozen 0
      have f1 := X3.out.frozen 1
      have f2 := X3.out.frozen 2
      go_upto_region 15 with fail
      have hs4 : Solo xb w3 (((w3.setCell ⟨xb, 0, none⟩ (.int .i64 (now : Nat))).setCell ⟨xb, 1, none⟩ (.int .i64 (M : Nat))).setCell ⟨xb, 2, none⟩ (.slice A2 m c2)) := (((Solo.refl (g := xb) (w := w3)).setCell 0 (.int .i64 (now : Nat))).setCell 1 (.int .i64 (M : Nat))).setCell 2 (.slice A2 m c2)
      have X4 := Lib.hid (show Blk (((w3.setCell ⟨xb, 0, none⟩ (.int .i64 (now : Nat))).setCell ⟨xb, 1, none⟩ (.int .i64 (M : Nat))).setCell ⟨xb, 2, none⟩ (.slice A2 m c2)) xb 27 #[.int .i64 (now : Nat), .int .i64 (M : Nat), .slice A2 m c2] from ((X3.out.set 0 (.int .i64 (now : Nat))).set 1 (.int .i64 (M : Nat))).set 2 (.slice A2 m c2))
      have W4 := Lib.hid (W3.out.solo hs4 X3.out (by decide) (by decide))
      have O4 := Lib.hid (hs4.blk O3.out hox)
      have T4 : Hid (TOwn (((w3.setCell ⟨xb, 0, none⟩ (.int .i64 (now : Nat))).setCell ⟨xb, 1, none⟩ (.int .i64 (M : Nat))).setCell ⟨xb, 2, none⟩ (.slice A2 m c2)) B (.slice A2 m c2) (L)) := Lib.hid (own_kept T3.out fun k hk => hs4.2.2 k fun e => by subst e; exact own_nw T3.out X3.out (by decide) hk)
      have B4 := Lib.hid (B3.out.trans (hs4.1.mono hBx))
      clear hs4 x0 x1 x2 f0 f1 f2 W3 X3 T3 O3 B3
      generalize (((w3.setCell ⟨xb, 0, none⟩ (.int .i64 (now : Nat))).setCell ⟨xb, 1, none⟩ (.int .i64 (M : Nat))).setCell ⟨xb, 2, none⟩ (.slice A2 m c2)) = w4 at W4 X4 T4 O4 B4 ⊢
      obtain ⟨y0, y1, y2⟩ := ptc3 O4.out
      go_wp2_with fail
      refine (wadd_high g id nn w4 hb2).mono ?_
      rintro e w5 ⟨rfl, rfl⟩
      have W5 := W4
      have X5 := X4
      have T5 := T4
      have O5 := O4
      have B5 := B4
      clear W4 X4 T4 O4 B4 y0 y1 y2
      have hmm : m ≤ 4096 := by rw [HM.out]; exact Nat.le_trans W5.out.len W5.out.most
      have HDU5 := Lib.hid W5.out.due
      have HON5 := Lib.hid (W5.out.one id)
      obtain ⟨dA, dB, hdv⟩ := due_val (L) (now) id HON5.out
      obtain ⟨nA, nB, hnv⟩ := next_val (L) (now)
      have HDV := Lib.hid hdv
      have HNV := Lib.hid hnv
      clear hdv hnv
      obtain ⟨y0, y1, y2⟩ := ptc3 O5.out
      go_wp2_with fail
      refine (wdueU g B mb M (now) id sl (L) w5 W5.out (by omega) hid).mono ?_
      rintro e w6 ⟨hp6, hb6⟩
      obtain rfl := HDV.out e hp6
      clear hp6 y0 y1 y2
      have W6 := Lib.hid (W5.out.into hb6)
      have X6 := Lib.hid (X5.out.below hb6 X5.out.lt)
      have T6 : Hid (TOwn w6 B (.slice A2 m c2) (L)) := Lib.hid (own_below T5.out hb6 fun k hk => (T5.out.lt k hk).2)
      have O6 := Lib.hid (O5.out.below hb6 O5.out.lt)
      have B6 := Lib.hid (B5.out.trans (hb6.mono (by rw [HBB.out]; exact B5.out.size)))
      clear hb6 W5 X5 T5 O5 B5
      obtain ⟨y0, y1, y2⟩ := ptc3 O6.out
      obtain ⟨x0, x1, x2⟩ := ptc3 X6.out
      go_wp2_with fail
      refine (rdueU A2 m c2 w6.heap.size (now) M (L) id w6 T6.out.rd.1 (by omega) (Nat.le_refl _) (by omega) HDU5.out HON5.out).mono ?_
      rintro e w7 ⟨hp7, hb7⟩
      obtain rfl := HDV.out e hp7
      clear hp7 x0 x1 x2 y0 y1 y2
      have W7 := Lib.hid (W6.out.into hb7)
      have X7 := Lib.hid (X6.out.below hb7 X6.out.lt)
      have T7 : Hid (TOwn w7 B (.slice A2 m c2) (L)) := Lib.hid (own_below T6.out hb7 fun k hk => (T6.out.lt k hk).2)
      have O7 := Lib.hid (O6.out.below hb7 O6.out.lt)
      have B7 := Lib.hid (B6.out.trans (hb7.mono (by rw [HBB.out]; exact B6.out.size)))
      clear hb7 W6 X6 T6 O6 B6
      go_wp2_with fail
      refine (wnextI g B mb M (now) sl (L) w7 W7.out (by omega)).mono ?_
      rintro e w8 ⟨hp8, hb8⟩
      obtain rfl := HNV.out e hp8
      clear hp8
      have W8 := Lib.hid (W7.out.into hb8)
      have X8 := Lib.hid (X7.out.below hb8 X7.out.lt)
      have T8 : Hid (TOwn w8 B (.slice A2 m c2) (L)) := Lib.hid (own_below T7.out hb8 fun k hk => (T7.out.lt k hk).2)
      have O8 := Lib.hid (O7.out.below hb8 O7.out.lt)
      have B8 := Lib.hid (B7.out.trans (hb8.mono (by rw [HBB.out]; exact B7.out.size)))
      clear hb8 W7 X7 T7 O7 B7
      obtain ⟨x0, x1, x2⟩ := ptc3 X8.out
      go_wp2_with fail
      refine (rnext_any A2 m c2 w8.heap.size (now) M (L) w8 T8.out.rd.1 (by omega) (Nat.le_refl _) (by omega) HDU5.out).mono ?_
      rintro e w9 ⟨hp9, hb9⟩
      obtain rfl := HNV.out e hp9
      clear hp9 x0 x1 x2
      have W9 := Lib.hid (W8.out.into hb9)
      have X9 := Lib.hid (X8.out.below hb9 X8.out.lt)
      have T9 : Hid (TOwn w9 B (.slice A2 m c2) (L)) := Lib.hid (own_below T8.out hb9 fun k hk => (T8.out.lt k hk).2)
      have O9 := Lib.hid (O8.out.below hb9 O8.out.lt)
      have B9 := Lib.hid (B8.out.trans (hb9.mono (by rw [HBB.out]; exact B8.out.size)))
      clear hb9 W8 X8 T8 O8 B8
      go_wp2_with fail
      refine wp_ord [(0, .pure), (1, .pure), (2, .pure), (3, .pure), (4, .pure), (5, .pure), (6, .pure), (7, .pure), (8, .pure), (9, .pure), (10, .pure), (11, .pure), (12, .pure), (13, .pure), (14, .pure), (15, .pure), (16, .pure), (17, .pure), (18, .pure), (19, .pure), (21, .pure), (22, .read), (20, .sole), (23, .pure), (24, .pure), (25, .pure), (26, .pure), (28, .pure), (29, .read), (30, .pure), (27, .sole), (31, .pure), (32, .pure)] [] (by kernel_rfl) (by kernel_rfl) (fun QQ hQ wd hwd => ?_); simp only [List.map_cons, List.map_nil, List.getD_cons_zero, List.getD_cons_succ]
      have hD : Below w9.heap.size w9 wd := by rw [hwd.out]; exact (Below.refl _ _).drew
      have Wd := Lib.hid (W9.out.into hD)
      have Xd := Lib.hid (X9.out.below hD X9.out.lt)
      have Td : Hid (TOwn wd B (.slice A2 m c2) (L)) := Lib.hid (own_below T9.out hD fun k hk => (T9.out.lt k hk).2)
      have Bd := Lib.hid (B9.out.trans (hD.mono (by rw [HBB.out]; exact B9.out.size)))
      have HLN := Lib.hid (wlenI g B mb M (now) sl (L) wd Wd.out)
      rw [← HM.out] at HLN
      have HNO := Lib.hid (wnowI g B mb M (now) sl (L) wd Wd.out)
      clear hD hwd W9 X9 T9 O9 B9
      obtain ⟨x0, x1, x2⟩ := ptc3 Xd.out
      iterate 21 (refine o_pure (v := ?_) (by rfl) (fun w' => ?_) ?_; rotate_left; (focus (go_simp; (try with_reducible rfl); (try (rw [if_pos (by omega)]; (try with_reducible rfl))))); (try simp only [Act.put, List.setIfInBounds_toArray, List.set_cons_zero, List.set_cons_succ]))
      (refine o_load _ (by rfl) rfl rfl (by assumption) (by kernel_rfl) ?_; simp only [Act.put, List.setIfInBounds_toArray, List.set_cons_zero, List.set_cons_succ])
      refine o_sole (fun K hK => ?_)
      go_wp2_with fail
      refine HNO.out.mono ?_
      rintro e wz ⟨rfl, rfl⟩
      go_wp2_with fail
      refine hK _ _ (fun _ => Ext.of (Below.refl _ _)) ?_; clear hK K
      iterate 4 (refine o_pure (v := ?_) (by rfl) (fun w' => ?_) ?_; rotate_left; (focus (go_simp; (try with_reducible rfl); (try (rw [if_pos (by omega)]; (try with_reducible rfl))))); (try simp only [Act.put, List.setIfInBounds_toArray, List.set_cons_zero, List.set_cons_succ]))
      (refine o_pure (v := ?_) (by rfl) (fun w' => ?_) ?_; rotate_left; (focus (go_simp; (try with_reducible rfl); (try (rw [if_pos (by omega)]; (try with_reducible rfl))))); (try simp only [Act.put, List.setIfInBounds_toArray, List.set_cons_zero, List.set_cons_succ]))
      (refine o_load _ (by rfl) rfl rfl (by assumption) (by kernel_rfl) ?_; simp only [Act.put, List.setIfInBounds_toArray, List.set_cons_zero, List.set_cons_succ])
      (refine o_pure (v := ?_) (by rfl) (fun w' => ?_) ?_; rotate_left; (focus (go_simp; (try with_reducible rfl); (try (rw [if_pos (by omega)]; (try with_reducible rfl))))); (try simp only [Act.put, List.setIfInBounds_toArray, List.set_cons_zero, List.set_cons_succ]))
      refine o_sole (fun K hK => ?_)
      go_wp2_with fail
      refine HLN.out.mono ?_
      rintro e wz ⟨rfl, rfl⟩
      go_wp2_with fail
      refine hK _ _ (fun _ => Ext.of (Below.refl _ _)) ?_; clear hK K
      (refine o_pure (v := ?_) (by rfl) (fun w' => ?_) ?_; rotate_left; (focus (go_simp; (try with_reducible rfl); (try (rw [if_pos (by omega)]; (try with_reducible rfl))))); (try simp only [Act.put, List.setIfInBounds_toArray, List.set_cons_zero, List.set_cons_succ]))
      (refine o_pure (v := ?_) (by rfl) (fun w' => ?_) ?_; rotate_left; (focus (go_simp; (try with_reducible rfl); (try (rw [if_pos (by omega)]; (try with_reducible rfl))))); (try simp only [Act.put, List.setIfInBounds_toArray, List.set_cons_zero, List.set_cons_succ]))
      refine o_nil (hQ.out _ _ ?_); clear hQ QQ
      clear x0 x1 x2 HNO HLN
      go_wp2_with fail
      go_roundw
      case rel => exact ⟨i + 1, now, sl, L, .slice A2 m c2, by omega, by go_num, by omega, Wd, Xd, Td, Bd⟩
      case measure => simp [intOf]; omega
    obtain ⟨k, rfl⟩ : ∃ k : Nat, nn = (k : Int) := ⟨nn.toNat, by omega⟩
    have hk1 : 1 ≤ k := by omega
    have hk2 : k ≤ 65535 := by omega
    have hk1i : (1 : Int) ≤ (k : Int) := by omega
    have hk2i : (k : Int) ≤ 65535 := by omega
    by_cases hfull : M ≤ (rmL L id).length
    · go_wp2_with fail
      refine (radd_full A2 m c2 w2.heap.size now M k L id w2 HRD.out (by omega) (Nat.le_refl _) (by omega) hk1 hk2 hfull).mono ?_
      rintro e w3 ⟨v3, rfl, ho3, hb3⟩
      have W3 := Lib.hid (W2.out.into hb3)
      have X3 := Lib.hid (X2.out.below hb3 X2.out.lt)
      have O3 := Lib.hid (O2.out.below hb3 O2.out.lt)
      have B3 := Lib.hid (B2.out.trans (hb3.mono (by rw [HBB.out]; exact B2.out.size)))
      have T3 : Hid (TOwn w3 B v3 (rmL L id)) := Lib.hid (own_mono ho3 (by rw [HBB.out]; exact B2.out.size))
      obtain ⟨A5, c5, rfl, hnc5, hcm5, _⟩ := own_form T3.out
      obtain ⟨m5, hm5⟩ : ∃ z9, z9 = (rmL L id).length := ⟨_, rfl⟩
      have HM5 := Lib.hid hm5
      rw [← hm5] at T3 hnc5 ⊢
      clear hm5 ho3 hb3 W2 X2 T2 O2 B2 x0 x1 x2
      clear y1 y2
      obtain ⟨y0, y1, y2⟩ := ptc3 O3.out
      clear y0
      obtain ⟨x0, x1, x2⟩ := ptc3 X3.out
      have f0 := X3.out.frozen 0
      have f1 := X3.out.frozen 1
      have f2 := X3.out.frozen 2
      go_upto_region 15 with fail
      have hs4 : Solo xb w3 (((w3.setCell ⟨xb, 0, none⟩ (.int .i64 (now : Nat))).setCell ⟨xb, 1, none⟩ (.int .i64 (M : Nat))).setCell ⟨xb, 2, none⟩ (.slice A5 m5 c5)) := (((Solo.refl (g := xb) (w := w3)).setCell 0 (.int .i64 (now : Nat))).setCell 1 (.int .i64 (M : Nat))).setCell 2 (.slice A5 m5 c5)
      have X4 := Lib.hid (show Blk (((w3.setCell ⟨xb, 0, none⟩ (.int .i64 (now : Nat))).setCell ⟨xb, 1, none⟩ (.int .i64 (M : Nat))).setCell ⟨xb, 2, none⟩ (.slice A5 m5 c5)) xb 27 #[.int .i64 (now : Nat), .int .i64 (M : Nat), .slice A5 m5 c5] from ((X3.out.set 0 (.int .i64 (now : Nat))).set 1 (.int .i64 (M : Nat))).set 2 (.slice A5 m5 c5))
      have W4 := Lib.hid (W3.out.solo hs4 X3.out (by decide) (by decide))
      have O4 := Lib.hid (hs4.blk O3.out hox)
      have T4 : Hid (TOwn (((w3.setCell ⟨xb, 0, none⟩ (.int .i64 (now : Nat))).setCell ⟨xb, 1, none⟩ (.int .i64 (M : Nat))).setCell ⟨xb, 2, none⟩ (.slice A5 m5 c5)) B (.slice A5 m5 c5) (rmL L id)) := Lib.hid (own_kept T3.out fun k hk => hs4.2.2 k fun e => by subst e; exact own_nw T3.out X3.out (by decide) hk)
      have B4 := Lib.hid (B3.out.trans (hs4.1.mono hBx))
      clear hs4 x0 x1 x2 f0 f1 f2 W3 X3 T3 O3 B3
      generalize (((w3.setCell ⟨xb, 0, none⟩ (.int .i64 (now : Nat))).setCell ⟨xb, 1, none⟩ (.int .i64 (M : Nat))).setCell ⟨xb, 2, none⟩ (.slice A5 m5 c5)) = w4 at W4 X4 T4 O4 B4 ⊢
      obtain ⟨y0, y1, y2⟩ := ptc3 O4.out
      go_wp2_with fail
      refine (waddI_full g B mb M now id (k : Nat) sl L w4 W4.out (by omega) hid hk1i hk2i hfull).mono ?_
      rintro e w5 ⟨rfl, sl5, h5, hk5⟩
      have W5 := Lib.hid h5
      have X5 : Hid (Blk w5 xb 27 _) := Lib.hid ((W4.out.far hk5 X4.out (by decide) (by decide)).trans X4.out)
      have O5 : Hid (Blk w5 ob 30 _) := Lib.hid ((W4.out.far hk5 O4.out (by decide) (by decide)).trans O4.out)
      have T5 := Lib.hid (T4.out.far W4.out hk5)
      have B5 := Lib.hid (B4.out.trans (W4.out.below hk5 hmb))
      clear h5 hk5 W4 X4 T4 O4 B4 y0 y1 y2
      have hmm5 : m5 ≤ 4096 := by rw [HM5.out]; exact Nat.le_trans W5.out.len W5.out.most
      have HDU5 := Lib.hid W5.out.due
      have HON5 := Lib.hid (W5.out.one id)
      obtain ⟨dA, dB, hdv⟩ := due_val (rmL L id) (now) id HON5.out
      obtain ⟨nA, nB, hnv⟩ := next_val (rmL L id) (now)
      have HDV := Lib.hid hdv
      have HNV := Lib.hid hnv
      clear hdv hnv
      obtain ⟨y0, y1, y2⟩ := ptc3 O5.out
      go_wp2_with fail
      refine (wdueU g B mb M (now) id sl5 (rmL L id) w5 W5.out (by omega) hid).mono ?_
      rintro e w6 ⟨hp6, hb6⟩
      obtain rfl := HDV.out e hp6
      clear hp6 y0 y1 y2
      have W6 := Lib.hid (W5.out.into hb6)
      have X6 := Lib.hid (X5.out.below hb6 X5.out.lt)
      have T6 : Hid (TOwn w6 B (.slice A5 m5 c5) (rmL L id)) := Lib.hid (own_below T5.out hb6 fun k hk => (T5.out.lt k hk).2)
      have O6 := Lib.hid (O5.out.below hb6 O5.out.lt)
      have B6 := Lib.hid (B5.out.trans (hb6.mono (by rw [HBB.out]; exact B5.out.size)))
      clear hb6 W5 X5 T5 O5 B5
      obtain ⟨y0, y1, y2⟩ := ptc3 O6.out
      obtain ⟨x0, x1, x2⟩ := ptc3 X6.out
      go_wp2_with fail
      refine (rdueU A5 m5 c5 w6.heap.size (now) M (rmL L id) id w6 T6.out.rd.1 (by omega) (Nat.le_refl _) (by omega) HDU5.out HON5.out).mono ?_
      rintro e w7 ⟨hp7, hb7⟩
      obtain rfl := HDV.out e hp7
      clear hp7 x0 x1 x2 y0 y1 y2
      have W7 := Lib.hid (W6.out.into hb7)
      have X7 := Lib.hid (X6.out.below hb7 X6.out.lt)
      have T7 : Hid (TOwn w7 B (.slice A5 m5 c5) (rmL L id)) := Lib.hid (own_below T6.out hb7 fun k hk => (T6.out.lt k hk).2)
      have O7 := Lib.hid (O6.out.below hb7 O6.out.lt)
      have B7 := Lib.hid (B6.out.trans (hb7.mono (by rw [HBB.out]; exact B6.out.size)))
      clear hb7 W6 X6 T6 O6 B6
      go_wp2_with fail
      refine (wnextI g B mb M (now) sl5 (rmL L id) w7 W7.out (by omega)).mono ?_
      rintro e w8 ⟨hp8, hb8⟩
      obtain rfl := HNV.out e hp8
      clear hp8
      have W8 := Lib.hid (W7.out.into hb8)
      have X8 := Lib.hid (X7.out.below hb8 X7.out.lt)
      have T8 : Hid (TOwn w8 B (.slice A5 m5 c5) (rmL L id)) := Lib.hid (own_below T7.out hb8 fun k hk => (T7.out.lt k hk).2)
      have O8 := Lib.hid (O7.out.below hb8 O7.out.lt)
      have B8 := Lib.hid (B7.out.trans (hb8.mono (by rw [HBB.out]; exact B7.out.size)))
      clear hb8 W7 X7 T7 O7 B7
      obtain ⟨x0, x1, x2⟩ := ptc3 X8.out
      go_wp2_with fail
      refine (rnext_any A5 m5 c5 w8.heap.size (now) M (rmL L id) w8 T8.out.rd.1 (by omega) (Nat.le_refl _) (by omega) HDU5.out).mono ?_
      rintro e w9 ⟨hp9, hb9⟩
      obtain rfl := HNV.out e hp9
      clear hp9 x0 x1 x2
      have W9 := Lib.hid (W8.out.into hb9)
      have X9 := Lib.hid (X8.out.below hb9 X8.out.lt)
      have T9 : Hid (TOwn w9 B (.slice A5 m5 c5) (rmL L id)) := Lib.hid (own_below T8.out hb9 fun k hk => (T8.out.lt k hk).2)
      have O9 := Lib.hid (O8.out.below hb9 O8.out.lt)
      have B9 := Lib.hid (B8.out.trans (hb9.mono (by rw [HBB.out]; exact B8.out.size)))
      clear hb9 W8 X8 T8 O8 B8
      go_wp2_with fail
      refine wp_ord [(0, .pure), (1, .pure), (2, .pure), (3, .pure), (4, .pure), (5, .pure), (6, .pure), (7, .pure), (8, .pure), (9, .pure), (10, .pure), (11, .pure), (12, .pure), (13, .pure), (14, .pure), (15, .pure), (16, .pure), (17, .pure), (18, .pure), (19, .pure), (21, .pure), (22, .read), (20, .sole), (23, .pure), (24, .pure), (25, .pure), (26, .pure), (28, .pure), (29, .read), (30, .pure), (27, .sole), (31, .pure), (32, .pure)] [] (by kernel_rfl) (by kernel_rfl) (fun QQ hQ wd hwd => ?_); simp only [List.map_cons, List.map_nil, List.getD_cons_zero, List.getD_cons_succ]
      have hD : Below w9.heap.size w9 wd := by rw [hwd.out]; exact (Below.refl _ _).drew
      have Wd := Lib.hid (W9.out.into hD)
      have Xd := Lib.hid (X9.out.below hD X9.out.lt)
      have Td : Hid (TOwn wd B (.slice A5 m5 c5) (rmL L id)) := Lib.hid (own_below T9.out hD fun k hk => (T9.out.lt k hk).2)
      have Bd := Lib.hid (B9.out.trans (hD.mono (by rw [HBB.out]; exact B9.out.size)))
      have HLN := Lib.hid (wlenI g B mb M (now) sl5 (rmL L id) wd Wd.out)
      rw [← HM5.out] at HLN
      have HNO := Lib.hid (wnowI g B mb M (now) sl5 (rmL L id) wd Wd.out)
      clear hD hwd W9 X9 T9 O9 B9
      obtain ⟨x0, x1, x2⟩ := ptc3 Xd.out
      iterate 21 (refine o_pure (v := ?_) (by rfl) (fun w' => ?_) ?_; rotate_left; (focus (go_simp; (try with_reducible rfl); (try (rw [if_pos (by omega)]; (try with_reducible rfl))))); (try simp only [Act.put, List.setIfInBounds_toArray, List.set_cons_zero, List.set_cons_succ]))
      (refine o_load _ (by rfl) rfl rfl (by assumption) (by kernel_rfl) ?_; simp only [Act.put, List.setIfInBounds_toArray, List.set_cons_zero, List.set_cons_succ])
      refine o_sole (fun K hK => ?_)
      go_wp2_with fail
      refine HNO.out.mono ?_
      rintro e wz ⟨rfl, rfl⟩
      go_wp2_with fail
      refine hK _ _ (fun _ => Ext.of (Below.refl _ _)) ?_; clear hK K
      iterate 4 (refine o_pure (v := ?_) (by rfl) (fun w' => ?_) ?_; rotate_left; (focus (go_simp; (try with_reducible rfl); (try (rw [if_pos (by omega)]; (try with_reducible rfl))))); (try simp only [Act.put, List.setIfInBounds_toArray, List.set_cons_zero, List.set_cons_succ]))
      (refine o_pure (v := ?_) (by rfl) (fun w' => ?_) ?_; rotate_left; (focus (go_simp; (try with_reducible rfl); (try (rw [if_pos (by omega)]; (try with_reducible rfl))))); (try simp only [Act.put, List.setIfInBounds_toArray, List.set_cons_zero, List.set_cons_succ]))
      (refine o_load _ (by rfl) rfl rfl (by assumption) (by kernel_rfl) ?_; simp only [Act.put, List.setIfInBounds_toArray, List.set_cons_zero, List.set_cons_succ])
      (refine o_pure (v := ?_) (by rfl) (fun w' => ?_) ?_; rotate_left; (focus (go_simp; (try with_reducible rfl); (try (rw [if_pos (by omega)]; (try with_reducible rfl))))); (try simp only [Act.put, List.setIfInBounds_toArray, List.set_cons_zero, List.set_cons_succ]))
      refine o_sole (fun K hK => ?_)
      go_wp2_with fail
      refine HLN.out.mono ?_
      rintro e wz ⟨rfl, rfl⟩
      go_wp2_with fail
      refine hK _ _ (fun _ => Ext.of (Below.refl _ _)) ?_; clear hK K
      (refine o_pure (v := ?_) (by rfl) (fun w' => ?_) ?_; rotate_left; (focus (go_simp; (try with_reducible rfl); (try (rw [if_pos (by omega)]; (try with_reducible rfl))))); (try simp only [Act.put, List.setIfInBounds_toArray, List.set_cons_zero, List.set_cons_succ]))
      (refine o_pure (v := ?_) (by rfl) (fun w' => ?_) ?_; rotate_left; (focus (go_simp; (try with_reducible rfl); (try (rw [if_pos (by omega)]; (try with_reducible rfl))))); (try simp only [Act.put, List.setIfInBounds_toArray, List.set_cons_zero, List.set_cons_succ]))
      refine o_nil (hQ.out _ _ ?_); clear hQ QQ
      clear x0 x1 x2 HNO HLN
      go_wp2_with fail
      go_roundw
      case rel => exact ⟨i + 1, now, sl5, rmL L id, .slice A5 m5 c5, by omega, by go_num, by omega, Wd, Xd, Td, Bd⟩
      case measure => simp [intOf]; omega
    · have hput : (rmL L id).length < M := by omega
      go_wp2_with fail
      refine (radd_put A2 m c2 w2.heap.size now M k L id w2 HRD.out (by omega) (Nat.le_refl _) (by omega) hk1 hk2 hput).mono ?_
      rintro e w3 ⟨v3, rfl, ho3, hb3⟩
      have W3 := Lib.hid (W2.out.into hb3)
      have X3 := Lib.hid (X2.out.below hb3 X2.out.lt)
      have O3 := Lib.hid (O2.out.below hb3 O2.out.lt)
      have B3 := Lib.hid (B2.out.trans (hb3.mono (by rw [HBB.out]; exact B2.out.size)))
      have T3 : Hid (TOwn w3 B v3 (rmL L id ++ [(id, now + k)])) := Lib.hid (own_mono ho3 (by rw [HBB.out]; exact B2.out.size))
      obtain ⟨A5, c5, rfl, hnc5, hcm5, _⟩ := own_form T3.out
      obtain ⟨m5, hm5⟩ : ∃ z9, z9 = (rmL L id ++ [(id, now + k)]).length := ⟨_, rfl⟩
      have HM5 := Lib.hid hm5
      rw [← hm5] at T3 hnc5 ⊢
      clear hm5 ho3 hb3 W2 X2 T2 O2 B2 x0 x1 x2
      clear y1 y2
      obtain ⟨y0, y1, y2⟩ := ptc3 O3.out
      clear y0
      obtain ⟨x0, x1, x2⟩ := ptc3 X3.out
      have f0 := X3.out.frozen 0
      have f1 := X3.out.frozen 1
      have f2 := X3.out.frozen 2
      go_upto_region 15 with fail
      have hs4 : Solo xb w3 (((w3.setCell ⟨xb, 0, none⟩ (.int .i64 (now : Nat))).setCell ⟨xb, 1, none⟩ (.int .i64 (M : Nat))).setCell ⟨xb, 2, none⟩ (.slice A5 m5 c5)) := (((Solo.refl (g := xb) (w := w3)).setCell 0 (.int .i64 (now : Nat))).setCell 1 (.int .i64 (M : Nat))).setCell 2 (.slice A5 m5 c5)
      have X4 := Lib.hid (show Blk (((w3.setCell ⟨xb, 0, none⟩ (.int .i64 (now : Nat))).setCell ⟨xb, 1, none⟩ (.int .i64 (M : Nat))).setCell ⟨xb, 2, none⟩ (.slice A5 m5 c5)) xb 27 #[.int .i64 (now : Nat), .int .i64 (M : Nat), .slice A5 m5 c5] from ((X3.out.set 0 (.int .i64 (now : Nat))).set 1 (.int .i64 (M : Nat))).set 2 (.slice A5 m5 c5))
      have W4 := Lib.hid (W3.out.solo hs4 X3.out (by decide) (by decide))
      have O4 := Lib.hid (hs4.blk O3.out hox)
      have T4 : Hid (TOwn (((w3.setCell ⟨xb, 0, none⟩ (.int .i64 (now : Nat))).setCell ⟨xb, 1, none⟩ (.int .i64 (M : Nat))).setCell ⟨xb, 2, none⟩ (.slice A5 m5 c5)) B (.slice A5 m5 c5) (rmL L id ++ [(id, now + k)])) := Lib.hid (own_kept T3.out fun k hk => hs4.2.2 k fun e => by subst e; exact own_nw T3.out X3.out (by decide) hk)
      have B4 := Lib.hid (B3.out.trans (hs4.1.mono hBx))
      clear hs4 x0 x1 x2 f0 f1 f2 W3 X3 T3 O3 B3
      generalize (((w3.setCell ⟨xb, 0, none⟩ (.int .i64 (now : Nat))).setCell ⟨xb, 1, none⟩ (.int .i64 (M : Nat))).setCell ⟨xb, 2, none⟩ (.slice A5 m5 c5)) = w4 at W4 X4 T4 O4 B4 ⊢
      obtain ⟨y0, y1, y2⟩ := ptc3 O4.out
      go_wp2_with fail
      refine (waddI_put g B mb M now k id sl L w4 W4.out (by omega) hid hk1 hk2 hput).mono ?_
      rintro e w5 ⟨rfl, sl5, h5, hk5⟩
      have W5 := Lib.hid h5
      have X5 : Hid (Blk w5 xb 27 _) := Lib.hid ((W4.out.far hk5 X4.out (by decide) (by decide)).trans X4.out)
      have O5 : Hid (Blk w5 ob 30 _) := Lib.hid ((W4.out.far hk5 O4.out (by decide) (by decide)).trans O4.out)
      have T5 := Lib.hid (T4.out.far W4.out hk5)
      have B5 := Lib.hid (B4.out.trans (W4.out.below hk5 hmb))
      clear h5 hk5 W4 X4 T4 O4 B4 y0 y1 y2
      have hmm5 : m5 ≤ 4096 := by rw [HM5.out]; exact Nat.le_trans W5.out.len W5.out.most
      have HDU5 := Lib.hid W5.out.due
      have HON5 := Lib.hid (W5.out.one id)
      obtain ⟨dA, dB, hdv⟩ := due_val (rmL L id ++ [(id, now + k)]) (now) id HON5.out
      obtain ⟨nA, nB, hnv⟩ := next_val (rmL L id ++ [(id, now + k)]) (now)
      have HDV := Lib.hid hdv
      have HNV := Lib.hid hnv
      clear hdv hnv
      obtain ⟨y0, y1, y2⟩ := ptc3 O5.out
      go_wp2_with fail
      refine (wdueU g B mb M (now) id sl5 (rmL L id ++ [(id, now + k)]) w5 W5.out (by omega) hid).mono ?_
      rintro e w6 ⟨hp6, hb6⟩
      obtain rfl := HDV.out e hp6
      clear hp6 y0 y1 y2
      have W6 := Lib.hid (W5.out.into hb6)
      have X6 := Lib.hid (X5.out.below hb6 X5.out.lt)
      have T6 : Hid (TOwn w6 B (.slice A5 m5 c5) (rmL L id ++ [(id, now + k)])) := Lib.hid (own_below T5.out hb6 fun k hk => (T5.out.lt k hk).2)
      have O6 := Lib.hid (O5.out.below hb6 O5.out.lt)
      have B6 := Lib.hid (B5.out.trans (hb6.mono (by rw [HBB.out]; exact B5.out.size)))
      clear hb6 W5 X5 T5 O5 B5
      obtain ⟨y0, y1, y2⟩ := ptc3 O6.out
      obtain ⟨x0, x1, x2⟩ := ptc3 X6.out
      go_wp2_with fail
      refine (rdueU A5 m5 c5 w6.heap.size (now) M (rmL L id ++ [(id, now + k)]) id w6 T6.out.rd.1 (by omega) (Nat.le_refl _) (by omega) HDU5.out HON5.out).mono ?_
      rintro e w7 ⟨hp7, hb7⟩
      obtain rfl := HDV.out e hp7
      clear hp7 x0 x1 x2 y0 y1 y2
      have W7 := Lib.hid (W6.out.into hb7)
      have X7 := Lib.hid (X6.out.below hb7 X6.out.lt)
      have T7 : Hid (TOwn w7 B (.slice A5 m5 c5) (rmL L id ++ [(id, now + k)])) := Lib.hid (own_below T6.out hb7 fun k hk => (T6.out.lt k hk).2)
      have O7 := Lib.hid (O6.out.below hb7 O6.out.lt)
      have B7 := Lib.hid (B6.out.trans (hb7.mono (by rw [HBB.out]; exact B6.out.size)))
      clear hb7 W6 X6 T6 O6 B6
      go_wp2_with fail
      refine (wnextI g B mb M (now) sl5 (rmL L id ++ [(id, now + k)]) w7 W7.out (by omega)).mono ?_
      rintro e w8 ⟨hp8, hb8⟩
      obtain rfl := HNV.out e hp8
      clear hp8
      have W8 := Lib.hid (W7.out.into hb8)
      have X8 := Lib.hid (X7.out.below hb8 X7.out.lt)
      have T8 : Hid (TOwn w8 B (.slice A5 m5 c5) (rmL L id ++ [(id, now + k)])) := Lib.hid (own_below T7.out hb8 fun k hk => (T7.out.lt k hk).2)
      have O8 := Lib.hid (O7.out.below hb8 O7.out.lt)
      have B8 := Lib.hid (B7.out.trans (hb8.mono (by rw [HBB.out]; exact B7.out.size)))
      clear hb8 W7 X7 T7 O7 B7
      obtain ⟨x0, x1, x2⟩ := ptc3 X8.out
      go_wp2_with fail
      refine (rnext_any A5 m5 c5 w8.heap.size (now) M (rmL L id ++ [(id, now + k)]) w8 T8.out.rd.1 (by omega) (Nat.le_refl _) (by omega) HDU5.out).mono ?_
      rintro e w9 ⟨hp9, hb9⟩
      obtain rfl := HNV.out e hp9
      clear hp9 x0 x1 x2
      have W9 := Lib.hid (W8.out.into hb9)
      have X9 := Lib.hid (X8.out.below hb9 X8.out.lt)
      have T9 : Hid (TOwn w9 B (.slice A5 m5 c5) (rmL L id ++ [(id, now + k)])) := Lib.hid (own_below T8.out hb9 fun k hk => (T8.out.lt k hk).2)
      have O9 := Lib.hid (O8.out.below hb9 O8.out.lt)
      have B9 := Lib.hid (B8.out.trans (hb9.mono (by rw [HBB.out]; exact B8.out.size)))
      clear hb9 W8 X8 T8 O8 B8
      go_wp2_with fail
      refine wp_ord [(0, .pure), (1, .pure), (2, .pure), (3, .pure), (4, .pure), (5, .pure), (6, .pure), (7, .pure), (8, .pure), (9, .pure), (10, .pure), (11, .pure), (12, .pure), (13, .pure), (14, .pure), (15, .pure), (16, .pure), (17, .pure), (18, .pure), (19, .pure), (21, .pure), (22, .read), (20, .sole), (23, .pure), (24, .pure), (25, .pure), (26, .pure), (28, .pure), (29, .read), (30, .pure), (27, .sole), (31, .pure), (32, .pure)] [] (by kernel_rfl) (by kernel_rfl) (fun QQ hQ wd hwd => ?_); simp only [List.map_cons, List.map_nil, List.getD_cons_zero, List.getD_cons_succ]
      have hD : Below w9.heap.size w9 wd := by rw [hwd.out]; exact (Below.refl _ _).drew
      have Wd := Lib.hid (W9.out.into hD)
      have Xd := Lib.hid (X9.out.below hD X9.out.lt)
      have Td : Hid (TOwn wd B (.slice A5 m5 c5) (rmL L id ++ [(id, now + k)])) := Lib.hid (own_below T9.out hD fun k hk => (T9.out.lt k hk).2)
      have Bd := Lib.hid (B9.out.trans (hD.mono (by rw [HBB.out]; exact B9.out.size)))
      have HLN := Lib.hid (wlenI g B mb M (now) sl5 (rmL L id ++ [(id, now + k)]) wd Wd.out)
      rw [← HM5.out] at HLN
      have HNO := Lib.hid (wnowI g B mb M (now) sl5 (rmL L id ++ [(id, now + k)]) wd Wd.out)
      clear hD hwd W9 X9 T9 O9 B9
      obtain ⟨x0, x1, x2⟩ := ptc3 Xd.out
      iterate 21 (refine o_pure (v := ?_) (by rfl) (fun w' => ?_) ?_; rotate_left; (focus (go_simp; (try with_reducible rfl); (try (rw [if_pos (by omega)]; (try with_reducible rfl))))); (try simp only [Act.put, List.setIfInBounds_toArray, List.set_cons_zero, List.set_cons_succ]))
      (refine o_load _ (by rfl) rfl rfl (by assumption) (by kernel_rfl) ?_; simp only [Act.put, List.setIfInBounds_toArray, List.set_cons_zero, List.set_cons_succ])
      refine o_sole (fun K hK => ?_)
      go_wp2_with fail
      refine HNO.out.mono ?_
      rintro e wz ⟨rfl, rfl⟩
      go_wp2_with fail
      refine hK _ _ (fun _ => Ext.of (Below.refl _ _)) ?_; clear hK K
      iterate 4 (refine o_pure (v := ?_) (by rfl) (fun w' => ?_) ?_; rotate_left; (focus (go_simp; (try with_reducible rfl); (try (rw [if_pos (by omega)]; (try with_reducible rfl))))); (try simp only [Act.put, List.setIfInBounds_toArray, List.set_cons_zero, List.set_cons_succ]))
      (refine o_pure (v := ?_) (by rfl) (fun w' => ?_) ?_; rotate_left; (focus (go_simp; (try with_reducible rfl); (try (rw [if_pos (by omega)]; (try with_reducible rfl))))); (try simp only [Act.put, List.setIfInBounds_toArray, List.set_cons_zero, List.set_cons_succ]))
      (refine o_load _ (by rfl) rfl rfl (by assumption) (by kernel_rfl) ?_; simp only [Act.put, List.setIfInBounds_toArray, List.set_cons_zero, List.set_cons_succ])
      (refine o_pure (v := ?_) (by rfl) (fun w' => ?_) ?_; rotate_left; (focus (go_simp; (try with_reducible rfl); (try (rw [if_pos (by omega)]; (try with_reducible rfl))))); (try simp only [Act.put, List.setIfInBounds_toArray, List.set_cons_zero, List.set_cons_succ]))
      refine o_sole (fun K hK => ?_)
      go_wp2_with fail
      refine HLN.out.mono ?_
      rintro e wz ⟨rfl, rfl⟩
      go_wp2_with fail
      refine hK _ _ (fun _ => Ext.of (Below.refl _ _)) ?_; clear hK K
      (refine o_pure (v := ?_) (by rfl) (fun w' => ?_) ?_; rotate_left; (focus (go_simp; (try with_reducible rfl); (try (rw [if_pos (by omega)]; (try with_reducible rfl))))); (try simp only [Act.put, List.setIfInBounds_toArray, List.set_cons_zero, List.set_cons_succ]))
      (refine o_pure (v := ?_) (by rfl) (fun w' => ?_) ?_; rotate_left; (focus (go_simp; (try with_reducible rfl); (try (rw [if_pos (by omega)]; (try with_reducible rfl))))); (try simp only [Act.put, List.setIfInBounds_toArray, List.set_cons_zero, List.set_cons_succ]))
      refine o_nil (hQ.out _ _ ?_); clear hQ QQ
      clear x0 x1 x2 HNO HLN
      go_wp2_with fail
      go_roundw
      case rel => exact ⟨i + 1, now, sl5, rmL L id ++ [(id, now + k)], .slice A5 m5 c5, by omega, by go_num, by omega, Wd, Xd, Td, Bd⟩
      case measure => simp [intOf]; omega
end Go.Proofs.Ytpeagibompohhaa
