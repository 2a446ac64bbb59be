/- Layer 13 by the document: Acked. -/
import Derived.Test.YtpjfheojlcahgaaCw8
namespace Go.Proofs.Ytpjfheojlcahgaa
open Go.RowKit
set_option linter.unusedVariables false
set_option linter.unusedSimpArgs false
set_option maxRecDepth 20000 in
set_option maxHeartbeats 8000000 in
theorem rcwacked_any (m s sl p u : Nat) (n : Int) (A : Option Addr) (ln c : Nat) (l : List (Int × Int)) (w : World) (ho : WOk m s sl p u) (hn : (Lit.int .i64 n).wf = true)
    (hr : Rd w w.heap.size 2 A ln (pz l)) (hl : ∀ q ∈ l, (Lit.int .i64 q.1).wf = true ∧ (Lit.int .i64 q.2).wf = true) :
    Calls Try.prog 19 #[cwv m s sl p u, .int .i64 n, .slice A ln c] w fun e w' => e = .returned (cwv m (ackS m s sl p (bdB n) l) sl (ackP m s sl p (bdB n) l) (u - bdB n)) ∧ Below w.heap.size w w' := by
  have hkb := bdB_le n
  obtain ⟨k, hk⟩ : ∃ k, k = bdB n := ⟨_, rfl⟩
  have HK := rcwbd n 0 1024 hn hk
  have hk2 : bdB (k : Int) = k := by rw [hk]; exact bdB_idem n
  rw [← hk] at hkb ⊢
  have HG := Lib.hid fun w => rcwgone_any m s sl p u (k : Int) w ho (WalkArith.wf_i64 (by omega))
  rw [hk2] at HG
  obtain ⟨u1, hu1⟩ : ∃ u1, u1 = u - k := ⟨_, rfl⟩
  rw [← hu1] at HG ⊢
  have HR := Lib.hid fun w' (t : Below w.heap.size w w') => (hr.below t).mono t.size
  have HL := Lib.hid hl
  have hsb := ho.s3
  have hs1 := ho.s1
  have hm1 := ho.m1
  have hmb := ho.m2
  have hpb := ho.p2
  obtain ⟨M, hM⟩ : ∃ M, M = 64 * m := ⟨_, rfl⟩
  have eM : (64 : Int) * (m : Int) = (M : Nat) := by omega
  have hMb : M ≤ 65536 := by omega
  have wM : IntKind.i64.wrap (M : Int) = (M : Nat) := by rw [IntKind.wrap_i64]; omega
  have HM := Lib.hid hM
  clear ho hn hk hk2 hu1 hr hl hM
  unfold cwv at HG ⊢
  go_enter Try.func19, Try.ntmps19
  go_upto_region 1 with fail
  have hk0 : Hid (Blk (w.alloc (.cells #[.int .i64 (m : Nat), .int .i64 (s : Nat), .int .i64 (sl : Nat), .int .i64 (p : Nat), .int .i64 (u : Nat)] 33)) (w.heap.size) 33 #[.int .i64 (m : Nat), .int .i64 (s : Nat), .int .i64 (sl : Nat), .int .i64 (p : Nat), .int .i64 (u : Nat)]) := Lib.hid ((Blk.new w 33 #[.int .i64 (m : Nat), .int .i64 (s : Nat), .int .i64 (sl : Nat), .int .i64 (p : Nat), .int .i64 (u : Nat)]))
  replace hk0 : Hid (Blk ((w.alloc (.cells #[.int .i64 (m : Nat), .int .i64 (s : Nat), .int .i64 (sl : Nat), .int .i64 (p : Nat), .int .i64 (u : Nat)] 33)).alloc (.cells #[.int .i64 0, .int .i64 0, .int .i64 0, .int .i64 0, .int .i64 0] 33)) (w.heap.size) 33 #[.int .i64 (m : Nat), .int .i64 (s : Nat), .int .i64 (sl : Nat), .int .i64 (p : Nat), .int .i64 (u : Nat)]) := Lib.hid (hk0.out.alloc _)
  have hk1 : Hid (Blk ((w.alloc (.cells #[.int .i64 (m : Nat), .int .i64 (s : Nat), .int .i64 (sl : Nat), .int .i64 (p : Nat), .int .i64 (u : Nat)] 33)).alloc (.cells #[.int .i64 0, .int .i64 0, .int .i64 0, .int .i64 0, .int .i64 0] 33)) (w.heap.size + 1) 33 #[.int .i64 0, .int .i64 0, .int .i64 0, .int .i64 0, .int .i64 0]) := Lib.hid ((Blk.new (w.alloc (.cells #[.int .i64 (m : Nat), .int .i64 (s : Nat), .int .i64 (sl : Nat), .int .i64 (p : Nat), .int .i64 (u : Nat)] 33)) 33 #[.int .i64 0, .int .i64 0, .int .i64 0, .int .i64 0, .int .i64 0]) |> fun h => by simpa using h)
  have b1 : Hid (Below w.heap.size w ((w.alloc (.cells #[.int .i64 (m : Nat), .int .i64 (s : Nat), .int .i64 (sl : Nat), .int .i64 (p : Nat), .int .i64 (u : Nat)] 33)).alloc (.cells #[.int .i64 0, .int .i64 0, .int .i64 0, .int .i64 0, .int .i64 0] 33))) := Lib.hid (((Below.refl w.heap.size w).alloc (Nat.le_refl _) (.cells #[.int .i64 (m : Nat), .int .i64 (s : Nat), .int .i64 (sl : Nat), .int .i64 (p : Nat), .int .i64 (u : Nat)] 33)).alloc (by simp <;> omega) (.cells #[.int .i64 0, .int .i64 0, .int .i64 0, .int .i64 0, .int .i64 0] 33))
  have hz : ((w.alloc (.cells #[.int .i64 (m : Nat), .int .i64 (s : Nat), .int .i64 (sl : Nat), .int .i64 (p : Nat), .int .i64 (u : Nat)] 33)).alloc (.cells #[.int .i64 0, .int .i64 0, .int .i64 0, .int .i64 0, .int .i64 0] 33)).heap.size = w.heap.size + 2 := by simp
  generalize ((w.alloc (.cells #[.int .i64 (m : Nat), .int .i64 (s : Nat), .int .i64 (sl : Nat), .int .i64 (p : Nat), .int .i64 (u : Nat)] 33)).alloc (.cells #[.int .i64 0, .int .i64 0, .int .i64 0, .int .i64 0, .int .i64 0] 33)) = w2 at hk0 hk1 b1 hz ⊢
  have HZ := Lib.hid hz
  clear hz
  obtain ⟨c0, c1, c2, c3, c4⟩ := ptc5 hk0.out
  go_wp2_with fail
  refine (HK.out _).mono ?_
  rintro e w3 ⟨rfl, hb3⟩
  have K3 := Lib.hid (hk0.out.below hb3 hk0.out.lt)
  have R3 := Lib.hid (hk1.out.below hb3 hk1.out.lt)
  have B3 := Lib.hid (b1.out.trans (hb3.mono b1.out.size))
  clear hb3 hk0 hk1 b1 c0 c1 c2 c3 c4 HK HZ
  obtain ⟨c0, c1, c2, c3, c4⟩ := ptc5 K3.out
  go_wp2_with fail
  refine (HG.out _).mono ?_
  rintro e w4 ⟨rfl, hb4⟩
  clear c0 c1 c2 c3 c4 HG
  have K4 := Lib.hid (K3.out.below hb4 K3.out.lt)
  have R4 := Lib.hid (R3.out.below hb4 R3.out.lt)
  have B4 := Lib.hid (B3.out.trans (hb4.mono B3.out.size))
  clear hb4 K3 R3 B3
  obtain ⟨c0, c1, c2, c3, c4⟩ := ptc5 K4.out
  have f0 := K4.out.frozen 0
  have f1 := K4.out.frozen 1
  have f2 := K4.out.frozen 2
  have f3 := K4.out.frozen 3
  have f4 := K4.out.frozen 4
  go_upto_region 3 with fail
  have K5 := Lib.hid (show Blk (ptw5 w4 w.heap.size (.int .i64 (m : Nat)) (.int .i64 (s : Nat)) (.int .i64 (sl : Nat)) (.int .i64 (p : Nat)) (.int .i64 (u1 : Nat))) w.heap.size 33 #[.int .i64 (m : Nat), .int .i64 (s : Nat), .int .i64 (sl : Nat), .int .i64 (p : Nat), .int .i64 (u1 : Nat)] from pt5 _ _ _ _ _ K4.out)
  have hs5 : Solo w.heap.size w4 (ptw5 w4 w.heap.size (.int .i64 (m : Nat)) (.int .i64 (s : Nat)) (.int .i64 (sl : Nat)) (.int .i64 (p : Nat)) (.int .i64 (u1 : Nat))) := pts5 _ _ _ _ _
  have R5 := Lib.hid (hs5.blk R4.out (by omega))
  have B5 := Lib.hid (B4.out.trans hs5.1)
  clear hs5 K4 R4 B4 c0 c1 c2 c3 c4 f0 f1 f2 f3 f4
  unfold ptw5 at K5 R5 B5
  generalize ((((w4.setCell ⟨w.heap.size, 0, none⟩ (.int .i64 (m : Nat))).setCell ⟨w.heap.size, 1, none⟩ (.int .i64 (s : Nat))).setCell ⟨w.heap.size, 2, none⟩ (.int .i64 (sl : Nat))).setCell ⟨w.heap.size, 3, none⟩ (.int .i64 (p : Nat))).setCell ⟨w.heap.size, 4, none⟩ (.int .i64 (u1 : Nat)) = w5 at K5 R5 B5 ⊢
  obtain ⟨c0, c1, c2, c3, c4⟩ := ptc5 K5.out
  have f1 := K5.out.frozen 1
  by_cases hlt : s < sl
  · have hlt' : (s : Int) < (sl : Int) := by omega
    obtain ⟨s1, hs1'⟩ : ∃ s1, s1 = grS m s k := ⟨_, rfl⟩
    have HE := Lib.hid (show ackS m s sl p k l = s1 ∧ ackP m s sl p k l = p from by unfold ackS ackP; rw [if_pos hlt, if_pos hlt, hs1']; exact ⟨rfl, rfl⟩)
    obtain ⟨t, ht⟩ : ∃ t, t = s + k := ⟨_, rfl⟩
    have e1 : (s : Int) + (k : Int) = (t : Nat) := by omega
    have wt : IntKind.i64.wrap (t : Int) = (t : Nat) := by rw [IntKind.wrap_i64]; omega
    have HU := rcwbd (t : Int) 0 M (WalkArith.wf_i64 (by omega)) (k := s1) (by have hM := HM.out; rw [hs1']; unfold grS clN; split <;> (try split) <;> omega)
    clear hs1' ht
    go_wp2_with fail
    refine (HU.out _).mono ?_
    rintro e w6 ⟨rfl, hb6⟩
    clear c0 c1 c2 c3 c4 f1
    have K6 := Lib.hid (K5.out.below hb6 K5.out.lt)
    have R6 := Lib.hid (R5.out.below hb6 R5.out.lt)
    have B6 := Lib.hid (B5.out.trans (hb6.mono B5.out.size))
    clear hb6 K5 R5 B5
    obtain ⟨c0, c1, c2, c3, c4⟩ := ptc5 K6.out
    have f1 := K6.out.frozen 1
    go_upto_region 5 with fail
    clear c0 c1 c2 c3 c4 f1
    have K7 := Lib.hid (show Blk (w6.setCell ⟨w.heap.size, 1, none⟩ (.int .i64 (s1 : Nat))) w.heap.size 33 #[.int .i64 (m : Nat), .int .i64 (s1 : Nat), .int .i64 (sl : Nat), .int .i64 (p : Nat), .int .i64 (u1 : Nat)] from K6.out.set 1 _)
    have R7 := Lib.hid ((Solo.refl.setCell 1 (.int .i64 (s1 : Nat)) : Solo w.heap.size w6 (w6.setCell ⟨w.heap.size, 1, none⟩ (.int .i64 (s1 : Nat)))).blk R6.out (by omega))
    have B7 := Lib.hid (B6.out.trans (Solo.refl.setCell 1 (.int .i64 (s1 : Nat)) : Solo w.heap.size w6 (w6.setCell ⟨w.heap.size, 1, none⟩ (.int .i64 (s1 : Nat)))).1)
    clear K6 R6 B6
    generalize w6.setCell ⟨w.heap.size, 1, none⟩ (.int .i64 (s1 : Nat)) = w7 at K7 R7 B7 ⊢
    have r0 := R7.out.frozen 0
    have r1 := R7.out.frozen 1
    have r2 := R7.out.frozen 2
    have r3 := R7.out.frozen 3
    have r4 := R7.out.frozen 4
    obtain ⟨q0, q1, q2, q3, q4⟩ := ptc5 R7.out
    obtain ⟨c0, c1, c2, c3, c4⟩ := ptc5 K7.out
    go_wp2_with fail
    exact bodyPost_ret (results_agg Try.results19 (g := w.heap.size + 1) (pt5 _ _ _ _ _ R7.out) (by rfl) (by kernel_rfl) (by kernel_rfl)) rfl ⟨by rw [HE.out.1, HE.out.2], B7.out.trans ((pts5 _ _ _ _ _).1.mono (by omega))⟩
  · have hlt' : ¬ (s : Int) < (sl : Int) := by omega
    have HW := Lib.hid hlt
    have CA := Lib.hid (fun w' (t : Below w.heap.size w w') => rcwalpha_any A ln c l w' (HR.out w' t) HL.out)
    have CP := Lib.hid (fun w' (t : Below w.heap.size w w') => rcwpaths_any A ln c _ l w' (HR.out w' t) (Nat.le_refl _) HL.out)
    obtain ⟨km, hkm⟩ : ∃ km, km = k * m := ⟨_, rfl⟩
    obtain ⟨al, hal⟩ : ∃ al, al = alL l := ⟨_, rfl⟩
    have halb := alL_le l
    rw [← hal] at halb CA
    have httb := totL_le l
    obtain ⟨tt, htt⟩ : ∃ tt, tt = totL l := ⟨_, rfl⟩
    have CT := Lib.hid (fun (w' : World) (A3 : Option Addr) (n3 c3 : Nat) (h : Rd w' w'.heap.size 2 A3 n3 (pz (pathL l))) => rcwtotal_any A3 n3 c3 _ l w' h (Nat.le_refl _))
    rw [← htt] at httb CT
    obtain ⟨x0, hx0⟩ : ∃ x0, x0 = al * k := ⟨_, rfl⟩
    obtain ⟨x1, hx1⟩ : ∃ x1, x1 = x0 * m := ⟨_, rfl⟩
    obtain ⟨mx, hmx⟩ : ∃ mx, mx = max tt s := ⟨_, rfl⟩
    obtain ⟨q1, hq1⟩ : ∃ q1, q1 = x1 / mx := ⟨_, rfl⟩
    obtain ⟨y2, hy2⟩ : ∃ y2, y2 = 1024 * k := ⟨_, rfl⟩
    obtain ⟨x2, hx2⟩ : ∃ x2, x2 = y2 * m := ⟨_, rfl⟩
    obtain ⟨q2, hq2⟩ : ∃ q2, q2 = x2 / s := ⟨_, rfl⟩
    obtain ⟨a, ha⟩ : ∃ a, a = min q1 q2 := ⟨_, rfl⟩
    have haA : a = ackA m s k l := by unfold ackA; rw [ha, hq1, hq2, hx1, hx0, hx2, hy2, hmx, hal, htt, Nat.mul_assoc, Nat.mul_assoc]
    have hab : a ≤ 1024 * k := by rw [haA]; exact ackA_le m s k l hs1 hm1
    obtain ⟨p1, hp1⟩ : ∃ p1, p1 = p + a := ⟨_, rfl⟩
    obtain ⟨d, hd⟩ : ∃ d, d = p1 / 1024 := ⟨_, rfl⟩
    obtain ⟨r, hr⟩ : ∃ r, r = p1 % 1024 := ⟨_, rfl⟩
    obtain ⟨sd, hsd⟩ : ∃ sd, sd = s + d := ⟨_, rfl⟩
    obtain ⟨s1, hs1'⟩ : ∃ s1, s1 = grS m s d := ⟨_, rfl⟩
    have HE := Lib.hid (show ackS m s sl p k l = s1 ∧ ackP m s sl p k l = r from by unfold ackS ackP; rw [if_neg hlt, if_neg hlt, ← haA, ← hp1, ← hd, ← hr, hs1']; exact ⟨rfl, rfl⟩)
    have hkmb : km ≤ 1048576 := by rw [hkm]; exact Nat.mul_le_mul hkb hmb
    have hx0b : x0 ≤ 67108864 := by rw [hx0]; exact Nat.mul_le_mul halb hkb
    have hx1b : x1 ≤ 68719476736 := by rw [hx1]; exact Nat.mul_le_mul hx0b hmb
    have hx2b : x2 ≤ 1073741824 := by rw [hx2]; exact Nat.mul_le_mul (show y2 ≤ 1048576 by omega) hmb
    have hq1b : q1 ≤ 68719476736 := Nat.le_trans (by rw [hq1]; exact Nat.div_le_self _ _) hx1b
    have hq2b : q2 ≤ 1073741824 := Nat.le_trans (by rw [hq2]; exact Nat.div_le_self _ _) hx2b
    have hmx0 : mx ≠ 0 := by omega
    have hs0 : s ≠ 0 := by omega
    have e0 : (al : Int) * (k : Int) = (x0 : Nat) := by rw [hx0]; push_cast; rfl
    have e1 : (x0 : Int) * (m : Int) = (x1 : Nat) := by rw [hx1]; push_cast; rfl
    have e4 : (x1 : Int) / (mx : Int) = (q1 : Nat) := by rw [hq1]; push_cast; rfl
    have e5 : (1024 : Int) * (k : Int) = (y2 : Nat) := by omega
    have e5' : (y2 : Int) * (m : Int) = (x2 : Nat) := by rw [hx2]; push_cast; rfl
    have e6 : (x2 : Int) / (s : Int) = (q2 : Nat) := by rw [hq2]; push_cast; rfl
    have e8 : (p : Int) + (a : Int) = (p1 : Nat) := by omega
    have e9 : (s : Int) + (d : Int) = (sd : Nat) := by omega
    have w0' : IntKind.i64.wrap (x0 : Int) = (x0 : Nat) := by rw [IntKind.wrap_i64]; omega
    have w1' : IntKind.i64.wrap (x1 : Int) = (x1 : Nat) := by rw [IntKind.wrap_i64]; omega
    have w4' : IntKind.i64.wrap (q1 : Int) = (q1 : Nat) := by rw [IntKind.wrap_i64]; omega
    have w5' : IntKind.i64.wrap (y2 : Int) = (y2 : Nat) := by rw [IntKind.wrap_i64]; omega
    have w5'' : IntKind.i64.wrap (x2 : Int) = (x2 : Nat) := by rw [IntKind.wrap_i64]; omega
    have w6' : IntKind.i64.wrap (q2 : Int) = (q2 : Nat) := by rw [IntKind.wrap_i64]; omega
    have w8' : IntKind.i64.wrap (p1 : Int) = (p1 : Nat) := by rw [IntKind.wrap_i64]; omega
    have hp1b : p1 ≤ 2000000 := by omega
    have hdi : (p1 : Int) / 1024 = (d : Nat) := by omega
    have hri : (p1 : Int) % 1024 = (r : Nat) := by omega
    have hdb : d ≤ 2000 := by omega
    have hrb : r ≤ 1023 := by omega
    have hsdb : sd ≤ 100000 := by omega
    have w9' : IntKind.i64.wrap (sd : Int) = (sd : Nat) := by rw [IntKind.wrap_i64]; omega
    have HU := rcwbd (sd : Int) 0 M (WalkArith.wf_i64 (by omega)) (k := s1) (by have hM := HM.out; rw [hs1']; unfold grS clN; split <;> (try split) <;> omega)
    have HMX := Lib.hid (show mx = if tt < s then s else tt from by rw [hmx]; split <;> omega)
    have HA := Lib.hid (show a = if q2 < q1 then q2 else q1 from by rw [ha]; split <;> omega)
    clear hkm hal htt hx0 hx1 hmx hq1 hy2 hx2 hq2 ha haA hab hp1 hd hr hkmb hsd hs1'
    go_wp2_with fail
    refine (CP.out _ B5.out).mono ?_
    rintro e w6 ⟨v, rfl, hv, hb6⟩
    obtain ⟨A3, n3, c3, rfl, _, _, hlen3, hr3⟩ := hv.out
    clear c0 c1 c2 c4 f1
    have K6 := Lib.hid (K5.out.below hb6 K5.out.lt)
    have R6 := Lib.hid (R5.out.below hb6 R5.out.lt)
    have B6 := Lib.hid (B5.out.trans (hb6.mono B5.out.size))
    clear hb6 K5 R5 B5
    clear hv hlen3
    obtain ⟨c0, c1, c2, c3, c4⟩ := ptc5 K6.out
    go_wp2_with fail
    refine (CT.out _ _ _ _ hr3.out).mono ?_
    rintro e w7 ⟨rfl, rfl⟩
    clear hr3 CP CT
    by_cases hc : tt < s
    · have hci : (tt : Int) < (s : Int) := by omega
      have E : mx = s := by rw [HMX.out, if_pos hc]
      rw [E] at e4
      clear E HMX hmx0
      go_upto_region 9 with fail
      have hX0 : ¬ s = 0 := by omega
      refine GH.wp_ghl2 (M := false) 19 ((GH.SP.eq (.slice A ln c)) :: (GH.SP.eq (.int .i64 (al : Nat))) :: (GH.SP.eq (.int .i64 (k : Nat))) :: (GH.SP.eq (.int .i64 (x0 : Nat))) :: (GH.SP.eq (.pointer (some ⟨w.heap.size, 0, none⟩))) :: (GH.SP.eq (.int .i64 (m : Nat))) :: (GH.SP.eq (.int .i64 (x1 : Nat))) :: (GH.SP.eq (.int .i64 (s : Nat))) :: (GH.SP.eq (.int .i64 (q1 : Nat))) :: (GH.SP.eq (.int .i64 (k : Nat))) :: (GH.SP.eq (.int .i64 (y2 : Nat))) :: (GH.SP.eq (.pointer (some ⟨w.heap.size, 0, none⟩))) :: (GH.SP.eq (.int .i64 (m : Nat))) :: (GH.SP.eq (.int .i64 (x2 : Nat))) :: (GH.SP.eq (.pointer (some ⟨w.heap.size, 1, none⟩))) :: (GH.SP.eq (.int .i64 (s : Nat))) :: (GH.SP.eq (.int .i64 (q2 : Nat))) :: (GH.SP.eq (.int .i64 (q1 : Nat))) :: (GH.SP.eq (.int .i64 (q2 : Nat))) :: []) (none :: none :: none :: none :: none :: none :: none :: none :: none :: (some 17) :: (some 18) :: none :: none :: none :: none :: none :: none :: none :: none :: none :: none :: none :: none :: none :: none :: none :: none :: none :: none :: none :: none :: none :: none :: none :: none :: none :: none :: none :: none :: none :: (some 0) :: (some 1) :: (some 2) :: (some 3) :: (some 4) :: (some 5) :: (some 6) :: (some 7) :: (some 8) :: (some 9) :: (some 10) :: (some 11) :: (some 12) :: (some 13) :: (some 14) :: (some 15) :: (some 16) :: none :: none :: none :: none :: none :: none :: none :: none :: none :: none :: none :: none :: none :: none :: none :: none :: none :: none :: none :: none :: none :: none :: none :: none :: none :: []) [40, 41, 42, 43, 44, 45, 46, 47, 48, 49, 50, 51, 52, 53, 54, 55, 56, 9, 10] (by rfl) (by kernel_rfl) (by kernel_rfl) ?_ ?_ ?_
      · intro S jx v hjx
        match jx, hjx with
        | 0, _ => rfl
        | 1, _ => rfl
        | 2, _ => rfl
        | 3, _ => rfl
        | 4, _ => rfl
        | 5, _ => rfl
        | 6, _ => rfl
        | 7, _ => rfl
        | 8, _ => rfl
        | 9, _ => rfl
        | 10, _ => rfl
        | 11, _ => rfl
        | 12, _ => rfl
        | 13, _ => rfl
        | 14, _ => rfl
        | 15, _ => rfl
        | 16, _ => rfl
        | 17, _ => rfl
        | 18, _ => rfl
        | nx + 19, hjx => omega
      · intro jx hjx S w' hb hd
        match jx, hjx, hd with
        | 0, _, hd =>
          simp only [GH.mkL, List.getD_cons_succ, List.getD_cons_zero]
          clear hd
          refine GH.st_eq (by rfl) ?_
          go_simp
          (try with_reducible rfl)
        | 1, _, hd =>
          simp only [GH.mkL, List.getD_cons_succ, List.getD_cons_zero]
          have d0 : S 0 = .slice A ln c := (hd 0 (by kernel_rfl)).2
          rw [d0]
          clear d0
          clear hd
          refine GH.st_call (by rfl) hb.below.size (by go_simp) ((CA.out w' (B6.out.trans (hb.below.mono B6.out.size))).mono ?_)
          rintro e w9 ⟨rfl, hb9⟩
          exact ⟨_, rfl, hb9, rfl⟩
        | 2, _, hd =>
          simp only [GH.mkL, List.getD_cons_succ, List.getD_cons_zero]
          clear hd
          refine GH.st_eq (by rfl) ?_
          go_simp
          (try with_reducible rfl)
        | 3, _, hd =>
          simp only [GH.mkL, List.getD_cons_succ, List.getD_cons_zero]
          have d1 : S 1 = .int .i64 (al : Nat) := (hd 1 (by kernel_rfl)).2
          rw [d1]
          clear d1
          have d2 : S 2 = .int .i64 (k : Nat) := (hd 2 (by kernel_rfl)).2
          rw [d2]
          clear d2
          clear hd
          refine GH.st_eq (by rfl) ?_
          go_simp
          (try simp only [e0, w0'])
          (try with_reducible rfl)
        | 4, _, hd =>
          simp only [GH.mkL, List.getD_cons_succ, List.getD_cons_zero]
          clear hd
          refine GH.st_eq (by rfl) ?_
          go_simp
          (try with_reducible rfl)
        | 5, _, hd =>
          simp only [GH.mkL, List.getD_cons_succ, List.getD_cons_zero]
          have d4 : S 4 = .pointer (some ⟨w.heap.size, 0, none⟩) := (hd 4 (by kernel_rfl)).2
          rw [d4]
          clear d4
          clear hd
          exact GH.st_load _ (by rfl) rfl rfl (((K6.out.below hb.below K6.out.lt)).cell 0) (by kernel_rfl)
        | 6, _, hd =>
          simp only [GH.mkL, List.getD_cons_succ, List.getD_cons_zero]
          have d3 : S 3 = .int .i64 (x0 : Nat) := (hd 3 (by kernel_rfl)).2
          rw [d3]
          clear d3
          have d5 : S 5 = .int .i64 (m : Nat) := (hd 5 (by kernel_rfl)).2
          rw [d5]
          clear d5
          clear hd
          refine GH.st_eq (by rfl) ?_
          go_simp
          (try simp only [e1, w1'])
          (try with_reducible rfl)
        | 7, _, hd =>
          simp only [GH.mkL, List.getD_cons_succ, List.getD_cons_zero]
          clear hd
          refine GH.st_eq (by rfl) ?_
          go_simp
          (try with_reducible rfl)
        | 8, _, hd =>
          simp only [GH.mkL, List.getD_cons_succ, List.getD_cons_zero]
          have d6 : S 6 = .int .i64 (x1 : Nat) := (hd 6 (by kernel_rfl)).2
          rw [d6]
          clear d6
          have d7 : S 7 = .int .i64 (s : Nat) := (hd 7 (by kernel_rfl)).2
          rw [d7]
          clear d7
          clear hd
          refine GH.st_eq (by rfl) ?_
          go_simp
          (try simp only [hX0, e4, w4', if_false])
          (try with_reducible rfl)
        | 9, _, hd =>
          simp only [GH.mkL, List.getD_cons_succ, List.getD_cons_zero]
          clear hd
          refine GH.st_eq (by rfl) ?_
          go_simp
          (try with_reducible rfl)
        | 10, _, hd =>
          simp only [GH.mkL, List.getD_cons_succ, List.getD_cons_zero]
          have d9 : S 9 = .int .i64 (k : Nat) := (hd 9 (by kernel_rfl)).2
          rw [d9]
          clear d9
          clear hd
          refine GH.st_eq (by rfl) ?_
          go_simp
          (try simp only [e5, w5'])
          (try with_reducible rfl)
        | 11, _, hd =>
          simp only [GH.mkL, List.getD_cons_succ, List.getD_cons_zero]
          clear hd
          refine GH.st_eq (by rfl) ?_
          go_simp
          (try with_reducible rfl)
        | 12, _, hd =>
          simp only [GH.mkL, List.getD_cons_succ, List.getD_cons_zero]
          have d11 : S 11 = .pointer (some ⟨w.heap.size, 0, none⟩) := (hd 11 (by kernel_rfl)).2
          rw [d11]
          clear d11
          clear hd
          exact GH.st_load _ (by rfl) rfl rfl (((K6.out.below hb.below K6.out.lt)).cell 0) (by kernel_rfl)
        | 13, _, hd =>
          simp only [GH.mkL, List.getD_cons_succ, List.getD_cons_zero]
          have d10 : S 10 = .int .i64 (y2 : Nat) := (hd 10 (by kernel_rfl)).2
          rw [d10]
          clear d10
          have d12 : S 12 = .int .i64 (m : Nat) := (hd 12 (by kernel_rfl)).2
          rw [d12]
          clear d12
          clear hd
          refine GH.st_eq (by rfl) ?_
          go_simp
          (try simp only [e5', w5''])
          (try with_reducible rfl)
        | 14, _, hd =>
          simp only [GH.mkL, List.getD_cons_succ, List.getD_cons_zero]
          clear hd
          refine GH.st_eq (by rfl) ?_
          go_simp
          (try with_reducible rfl)
        | 15, _, hd =>
          simp only [GH.mkL, List.getD_cons_succ, List.getD_cons_zero]
          have d14 : S 14 = .pointer (some ⟨w.heap.size, 1, none⟩) := (hd 14 (by kernel_rfl)).2
          rw [d14]
          clear d14
          clear hd
          exact GH.st_load _ (by rfl) rfl rfl (((K6.out.below hb.below K6.out.lt)).cell 1) (by kernel_rfl)
        | 16, _, hd =>
          simp only [GH.mkL, List.getD_cons_succ, List.getD_cons_zero]
          have d13 : S 13 = .int .i64 (x2 : Nat) := (hd 13 (by kernel_rfl)).2
          rw [d13]
          clear d13
          have d15 : S 15 = .int .i64 (s : Nat) := (hd 15 (by kernel_rfl)).2
          rw [d15]
          clear d15
          clear hd
          refine GH.st_eq (by rfl) ?_
          go_simp
          (try simp only [hs0, e6, w6', if_false])
          (try with_reducible rfl)
        | 17, _, hd =>
          simp only [GH.mkL, List.getD_cons_succ, List.getD_cons_zero]
          have d0 : S 0 = .slice A ln c := (hd 0 (by kernel_rfl)).2
          rw [d0]
          clear d0
          have d1 : S 1 = .int .i64 (al : Nat) := (hd 1 (by kernel_rfl)).2
          rw [d1]
          clear d1
          have d2 : S 2 = .int .i64 (k : Nat) := (hd 2 (by kernel_rfl)).2
          rw [d2]
          clear d2
          have d3 : S 3 = .int .i64 (x0 : Nat) := (hd 3 (by kernel_rfl)).2
          rw [d3]
          clear d3
          have d4 : S 4 = .pointer (some ⟨w.heap.size, 0, none⟩) := (hd 4 (by kernel_rfl)).2
          rw [d4]
          clear d4
          have d5 : S 5 = .int .i64 (m : Nat) := (hd 5 (by kernel_rfl)).2
          rw [d5]
          clear d5
          have d6 : S 6 = .int .i64 (x1 : Nat) := (hd 6 (by kernel_rfl)).2
          rw [d6]
          clear d6
          have d7 : S 7 = .int .i64 (s : Nat) := (hd 7 (by kernel_rfl)).2
          rw [d7]
          clear d7
          have d8 : S 8 = .int .i64 (q1 : Nat) := (hd 8 (by kernel_rfl)).2
          rw [d8]
          clear d8
          clear hd
          refine GH.st_eq (by rfl) ?_
          go_simp
          (try with_reducible rfl)
        | 18, _, hd =>
          simp only [GH.mkL, List.getD_cons_succ, List.getD_cons_zero]
          have d0 : S 0 = .slice A ln c := (hd 0 (by kernel_rfl)).2
          rw [d0]
          clear d0
          have d1 : S 1 = .int .i64 (al : Nat) := (hd 1 (by kernel_rfl)).2
          rw [d1]
          clear d1
          have d2 : S 2 = .int .i64 (k : Nat) := (hd 2 (by kernel_rfl)).2
          rw [d2]
          clear d2
          have d3 : S 3 = .int .i64 (x0 : Nat) := (hd 3 (by kernel_rfl)).2
          rw [d3]
          clear d3
          have d4 : S 4 = .pointer (some ⟨w.heap.size, 0, none⟩) := (hd 4 (by kernel_rfl)).2
          rw [d4]
          clear d4
          have d5 : S 5 = .int .i64 (m : Nat) := (hd 5 (by kernel_rfl)).2
          rw [d5]
          clear d5
          have d6 : S 6 = .int .i64 (x1 : Nat) := (hd 6 (by kernel_rfl)).2
          rw [d6]
          clear d6
          have d7 : S 7 = .int .i64 (s : Nat) := (hd 7 (by kernel_rfl)).2
          rw [d7]
          clear d7
          have d8 : S 8 = .int .i64 (q1 : Nat) := (hd 8 (by kernel_rfl)).2
          rw [d8]
          clear d8
          have d9 : S 9 = .int .i64 (k : Nat) := (hd 9 (by kernel_rfl)).2
          rw [d9]
          clear d9
          have d10 : S 10 = .int .i64 (y2 : Nat) := (hd 10 (by kernel_rfl)).2
          rw [d10]
          clear d10
          have d11 : S 11 = .pointer (some ⟨w.heap.size, 0, none⟩) := (hd 11 (by kernel_rfl)).2
          rw [d11]
          clear d11
          have d12 : S 12 = .int .i64 (m : Nat) := (hd 12 (by kernel_rfl)).2
          rw [d12]
          clear d12
          have d13 : S 13 = .int .i64 (x2 : Nat) := (hd 13 (by kernel_rfl)).2
          rw [d13]
          clear d13
          have d14 : S 14 = .pointer (some ⟨w.heap.size, 1, none⟩) := (hd 14 (by kernel_rfl)).2
          rw [d14]
          clear d14
          have d15 : S 15 = .int .i64 (s : Nat) := (hd 15 (by kernel_rfl)).2
          rw [d15]
          clear d15
          have d16 : S 16 = .int .i64 (q2 : Nat) := (hd 16 (by kernel_rfl)).2
          rw [d16]
          clear d16
          have d17 : S 17 = .int .i64 (q1 : Nat) := (hd 17 (by kernel_rfl)).2
          rw [d17]
          clear d17
          clear hd
          refine GH.st_eq (by rfl) ?_
          go_simp
          (try with_reducible rfl)
        | nx + 19, hjx, _ => omega
      intro S w' hb hG
      simp only [GH.mkL, List.drop_succ_cons, List.drop_zero]
      have d17 : S 17 = .int .i64 (q1 : Nat) := hG 17 (by omega)
      rw [d17]
      clear d17
      have d18 : S 18 = .int .i64 (q2 : Nat) := hG 18 (by omega)
      rw [d18]
      clear d18
      clear hG
      have K8 := Lib.hid (K6.out.below hb.below K6.out.lt)
      have R8 := Lib.hid (R6.out.below hb.below R6.out.lt)
      have B8 := Lib.hid (B6.out.trans (hb.below.mono B6.out.size))
      clear hb K6 R6 B6
      refine wpList_nil ?_
      clear CA e0 e1 e4 e5 e5' e6
      by_cases hq : q2 < q1
      · have hqi : (q2 : Int) < (q1 : Int) := by omega
        have ha : a = q2 := by rw [HA.out, if_pos hq]
        rw [ha] at e8
        clear ha HA
        obtain ⟨c0, c1, c2, c3, c4⟩ := ptc5 K8.out
        have f3 := K8.out.frozen 3
        go_upto_region 13 with fail
        clear c0 c1 c2 c3 c4 f3
        have K9 := Lib.hid (show Blk (w'.setCell ⟨w.heap.size, 3, none⟩ (.int .i64 (p1 : Nat))) w.heap.size 33 #[.int .i64 (m : Nat), .int .i64 (s : Nat), .int .i64 (sl : Nat), .int .i64 (p1 : Nat), .int .i64 (u1 : Nat)] from K8.out.set 3 _)
        have R9 := Lib.hid ((Solo.refl.setCell 3 (.int .i64 (p1 : Nat)) : Solo w.heap.size w' (w'.setCell ⟨w.heap.size, 3, none⟩ (.int .i64 (p1 : Nat)))).blk R8.out (by omega))
        have B9 := Lib.hid (B8.out.trans (Solo.refl.setCell 3 (.int .i64 (p1 : Nat)) : Solo w.heap.size w' (w'.setCell ⟨w.heap.size, 3, none⟩ (.int .i64 (p1 : Nat)))).1)
        clear K8 R8 B8
        generalize w'.setCell ⟨w.heap.size, 3, none⟩ (.int .i64 (p1 : Nat)) = w9 at K9 R9 B9 ⊢
        obtain ⟨c0, c1, c2, c3, c4⟩ := ptc5 K9.out
        have f1 := K9.out.frozen 1
        go_wp2_with fail
        refine (HU.out _).mono ?_
        rintro e w10 ⟨rfl, hb10⟩
        clear c0 c1 c2 c3 c4 f1
        have K10 := Lib.hid (K9.out.below hb10 K9.out.lt)
        have R10 := Lib.hid (R9.out.below hb10 R9.out.lt)
        have B10 := Lib.hid (B9.out.trans (hb10.mono B9.out.size))
        clear hb10 K9 R9 B9
        obtain ⟨c0, c1, c2, c3, c4⟩ := ptc5 K10.out
        have f1 := K10.out.frozen 1
        go_upto_region 14 with fail
        clear c0 c1 c2 c3 c4 f1
        have K11 := Lib.hid (show Blk (w10.setCell ⟨w.heap.size, 1, none⟩ (.int .i64 (s1 : Nat))) w.heap.size 33 #[.int .i64 (m : Nat), .int .i64 (s1 : Nat), .int .i64 (sl : Nat), .int .i64 (p1 : Nat), .int .i64 (u1 : Nat)] from K10.out.set 1 _)
        have R11 := Lib.hid ((Solo.refl.setCell 1 (.int .i64 (s1 : Nat)) : Solo w.heap.size w10 (w10.setCell ⟨w.heap.size, 1, none⟩ (.int .i64 (s1 : Nat)))).blk R10.out (by omega))
        have B11 := Lib.hid (B10.out.trans (Solo.refl.setCell 1 (.int .i64 (s1 : Nat)) : Solo w.heap.size w10 (w10.setCell ⟨w.heap.size, 1, none⟩ (.int .i64 (s1 : Nat)))).1)
        clear K10 R10 B10
        generalize w10.setCell ⟨w.heap.size, 1, none⟩ (.int .i64 (s1 : Nat)) = w11 at K11 R11 B11 ⊢
        obtain ⟨c0, c1, c2, c3, c4⟩ := ptc5 K11.out
        have f3 := K11.out.frozen 3
        go_upto_region 15 with fail
        clear c0 c1 c2 c3 c4 f3
        have K12 := Lib.hid (show Blk (w11.setCell ⟨w.heap.size, 3, none⟩ (.int .i64 (r : Nat))) w.heap.size 33 #[.int .i64 (m : Nat), .int .i64 (s1 : Nat), .int .i64 (sl : Nat), .int .i64 (r : Nat), .int .i64 (u1 : Nat)] from K11.out.set 3 _)
        have R12 := Lib.hid ((Solo.refl.setCell 3 (.int .i64 (r : Nat)) : Solo w.heap.size w11 (w11.setCell ⟨w.heap.size, 3, none⟩ (.int .i64 (r : Nat)))).blk R11.out (by omega))
        have B12 := Lib.hid (B11.out.trans (Solo.refl.setCell 3 (.int .i64 (r : Nat)) : Solo w.heap.size w11 (w11.setCell ⟨w.heap.size, 3, none⟩ (.int .i64 (r : Nat)))).1)
        clear K11 R11 B11
        generalize w11.setCell ⟨w.heap.size, 3, none⟩ (.int .i64 (r : Nat)) = w12 at K12 R12 B12 ⊢
        have r0 := R12.out.frozen 0
        have r1 := R12.out.frozen 1
        have r2 := R12.out.frozen 2
        have r3 := R12.out.frozen 3
        have r4 := R12.out.frozen 4
        obtain ⟨q0, q1, q2, q3, q4⟩ := ptc5 R12.out
        obtain ⟨c0, c1, c2, c3, c4⟩ := ptc5 K12.out
        go_wp2_with fail
        exact bodyPost_ret (results_agg Try.results19 (g := w.heap.size + 1) (pt5 _ _ _ _ _ R12.out) (by rfl) (by kernel_rfl) (by kernel_rfl)) rfl ⟨by rw [HE.out.1, HE.out.2], B12.out.trans ((pts5 _ _ _ _ _).1.mono (by omega))⟩
      · have hqi : ¬ (q2 : Int) < (q1 : Int) := by omega
        have ha : a = q1 := by rw [HA.out, if_neg hq]
        rw [ha] at e8
        clear ha HA
        obtain ⟨c0, c1, c2, c3, c4⟩ := ptc5 K8.out
        have f3 := K8.out.frozen 3
        go_upto_region 13 with fail
        clear c0 c1 c2 c3 c4 f3
        have K9 := Lib.hid (show Blk (w'.setCell ⟨w.heap.size, 3, none⟩ (.int .i64 (p1 : Nat))) w.heap.size 33 #[.int .i64 (m : Nat), .int .i64 (s : Nat), .int .i64 (sl : Nat), .int .i64 (p1 : Nat), .int .i64 (u1 : Nat)] from K8.out.set 3 _)
        have R9 := Lib.hid ((Solo.refl.setCell 3 (.int .i64 (p1 : Nat)) : Solo w.heap.size w' (w'.setCell ⟨w.heap.size, 3, none⟩ (.int .i64 (p1 : Nat)))).blk R8.out (by omega))
        have B9 := Lib.hid (B8.out.trans (Solo.refl.setCell 3 (.int .i64 (p1 : Nat)) : Solo w.heap.size w' (w'.setCell ⟨w.heap.size, 3, none⟩ (.int .i64 (p1 : Nat)))).1)
        clear K8 R8 B8
        generalize w'.setCell ⟨w.heap.size, 3, none⟩ (.int .i64 (p1 : Nat)) = w9 at K9 R9 B9 ⊢
        obtain ⟨c0, c1, c2, c3, c4⟩ := ptc5 K9.out
        have f1 := K9.out.frozen 1
        go_wp2_with fail
        refine (HU.out _).mono ?_
        rintro e w10 ⟨rfl, hb10⟩
        clear c0 c1 c2 c3 c4 f1
        have K10 := Lib.hid (K9.out.below hb10 K9.out.lt)
        have R10 := Lib.hid (R9.out.below hb10 R9.out.lt)
        have B10 := Lib.hid (B9.out.trans (hb10.mono B9.out.size))
        clear hb10 K9 R9 B9
        obtain ⟨c0, c1, c2, c3, c4⟩ := ptc5 K10.out
        have f1 := K10.out.frozen 1
        go_upto_region 14 with fail
        clear c0 c1 c2 c3 c4 f1
        have K11 := Lib.hid (show Blk (w10.setCell ⟨w.heap.size, 1, none⟩ (.int .i64 (s1 : Nat))) w.heap.size 33 #[.int .i64 (m : Nat), .int .i64 (s1 : Nat), .int .i64 (sl : Nat), .int .i64 (p1 : Nat), .int .i64 (u1 : Nat)] from K10.out.set 1 _)
        have R11 := Lib.hid ((Solo.refl.setCell 1 (.int .i64 (s1 : Nat)) : Solo w.heap.size w10 (w10.setCell ⟨w.heap.size, 1, none⟩ (.int .i64 (s1 : Nat)))).blk R10.out (by omega))
        have B11 := Lib.hid (B10.out.trans (Solo.refl.setCell 1 (.int .i64 (s1 : Nat)) : Solo w.heap.size w10 (w10.setCell ⟨w.heap.size, 1, none⟩ (.int .i64 (s1 : Nat)))).1)
        clear K10 R10 B10
        generalize w10.setCell ⟨w.heap.size, 1, none⟩ (.int .i64 (s1 : Nat)) = w11 at K11 R11 B11 ⊢
        obtain ⟨c0, c1, c2, c3, c4⟩ := ptc5 K11.out
        have f3 := K11.out.frozen 3
        go_upto_region 15 with fail
        clear c0 c1 c2 c3 c4 f3
        have K12 := Lib.hid (show Blk (w11.setCell ⟨w.heap.size, 3, none⟩ (.int .i64 (r : Nat))) w.heap.size 33 #[.int .i64 (m : Nat), .int .i64 (s1 : Nat), .int .i64 (sl : Nat), .int .i64 (r : Nat), .int .i64 (u1 : Nat)] from K11.out.set 3 _)
        have R12 := Lib.hid ((Solo.refl.setCell 3 (.int .i64 (r : Nat)) : Solo w.heap.size w11 (w11.setCell ⟨w.heap.size, 3, none⟩ (.int .i64 (r : Nat)))).blk R11.out (by omega))
        have B12 := Lib.hid (B11.out.trans (Solo.refl.setCell 3 (.int .i64 (r : Nat)) : Solo w.heap.size w11 (w11.setCell ⟨w.heap.size, 3, none⟩ (.int .i64 (r : Nat)))).1)
        clear K11 R11 B11
        generalize w11.setCell ⟨w.heap.size, 3, none⟩ (.int .i64 (r : Nat)) = w12 at K12 R12 B12 ⊢
        have r0 := R12.out.frozen 0
        have r1 := R12.out.frozen 1
        have r2 := R12.out.frozen 2
        have r3 := R12.out.frozen 3
        have r4 := R12.out.frozen 4
        obtain ⟨q0, q1, q2, q3, q4⟩ := ptc5 R12.out
        obtain ⟨c0, c1, c2, c3, c4⟩ := ptc5 K12.out
        go_wp2_with fail
        exact bodyPost_ret (results_agg Try.results19 (g := w.heap.size + 1) (pt5 _ _ _ _ _ R12.out) (by rfl) (by kernel_rfl) (by kernel_rfl)) rfl ⟨by rw [HE.out.1, HE.out.2], B12.out.trans ((pts5 _ _ _ _ _).1.mono (by omega))⟩

    · have hci : ¬ (tt : Int) < (s : Int) := by omega
      have E : mx = tt := by rw [HMX.out, if_neg hc]
      rw [E] at e4
      clear E HMX hmx0
      go_upto_region 9 with fail
      have hX0 : ¬ tt = 0 := by omega
      refine GH.wp_ghl2 (M := false) 19 ((GH.SP.eq (.slice A ln c)) :: (GH.SP.eq (.int .i64 (al : Nat))) :: (GH.SP.eq (.int .i64 (k : Nat))) :: (GH.SP.eq (.int .i64 (x0 : Nat))) :: (GH.SP.eq (.pointer (some ⟨w.heap.size, 0, none⟩))) :: (GH.SP.eq (.int .i64 (m : Nat))) :: (GH.SP.eq (.int .i64 (x1 : Nat))) :: (GH.SP.eq (.int .i64 (tt : Nat))) :: (GH.SP.eq (.int .i64 (q1 : Nat))) :: (GH.SP.eq (.int .i64 (k : Nat))) :: (GH.SP.eq (.int .i64 (y2 : Nat))) :: (GH.SP.eq (.pointer (some ⟨w.heap.size, 0, none⟩))) :: (GH.SP.eq (.int .i64 (m : Nat))) :: (GH.SP.eq (.int .i64 (x2 : Nat))) :: (GH.SP.eq (.pointer (some ⟨w.heap.size, 1, none⟩))) :: (GH.SP.eq (.int .i64 (s : Nat))) :: (GH.SP.eq (.int .i64 (q2 : Nat))) :: (GH.SP.eq (.int .i64 (q1 : Nat))) :: (GH.SP.eq (.int .i64 (q2 : Nat))) :: []) (none :: none :: none :: none :: none :: none :: none :: none :: none :: (some 17) :: (some 18) :: none :: none :: none :: none :: none :: none :: none :: none :: none :: none :: none :: none :: none :: none :: none :: none :: none :: none :: none :: none :: none :: none :: none :: none :: none :: none :: none :: none :: none :: (some 0) :: (some 1) :: (some 2) :: (some 3) :: (some 4) :: (some 5) :: (some 6) :: (some 7) :: (some 8) :: (some 9) :: (some 10) :: (some 11) :: (some 12) :: (some 13) :: (some 14) :: (some 15) :: (some 16) :: none :: none :: none :: none :: none :: none :: none :: none :: none :: none :: none :: none :: none :: none :: none :: none :: none :: none :: none :: none :: none :: none :: none :: none :: none :: []) [40, 41, 42, 43, 44, 45, 46, 47, 48, 49, 50, 51, 52, 53, 54, 55, 56, 9, 10] (by rfl) (by kernel_rfl) (by kernel_rfl) ?_ ?_ ?_
      · intro S jx v hjx
        match jx, hjx with
        | 0, _ => rfl
        | 1, _ => rfl
        | 2, _ => rfl
        | 3, _ => rfl
        | 4, _ => rfl
        | 5, _ => rfl
        | 6, _ => rfl
        | 7, _ => rfl
        | 8, _ => rfl
        | 9, _ => rfl
        | 10, _ => rfl
        | 11, _ => rfl
        | 12, _ => rfl
        | 13, _ => rfl
        | 14, _ => rfl
        | 15, _ => rfl
        | 16, _ => rfl
        | 17, _ => rfl
        | 18, _ => rfl
        | nx + 19, hjx => omega
      · intro jx hjx S w' hb hd
        match jx, hjx, hd with
        | 0, _, hd =>
          simp only [GH.mkL, List.getD_cons_succ, List.getD_cons_zero]
          clear hd
          refine GH.st_eq (by rfl) ?_
          go_simp
          (try with_reducible rfl)
        | 1, _, hd =>
          simp only [GH.mkL, List.getD_cons_succ, List.getD_cons_zero]
          have d0 : S 0 = .slice A ln c := (hd 0 (by kernel_rfl)).2
          rw [d0]
          clear d0
          clear hd
          refine GH.st_call (by rfl) hb.below.size (by go_simp) ((CA.out w' (B6.out.trans (hb.below.mono B6.out.size))).mono ?_)
          rintro e w9 ⟨rfl, hb9⟩
          exact ⟨_, rfl, hb9, rfl⟩
        | 2, _, hd =>
          simp only [GH.mkL, List.getD_cons_succ, List.getD_cons_zero]
          clear hd
          refine GH.st_eq (by rfl) ?_
          go_simp
          (try with_reducible rfl)
        | 3, _, hd =>
          simp only [GH.mkL, List.getD_cons_succ, List.getD_cons_zero]
          have d1 : S 1 = .int .i64 (al : Nat) := (hd 1 (by kernel_rfl)).2
          rw [d1]
          clear d1
          have d2 : S 2 = .int .i64 (k : Nat) := (hd 2 (by kernel_rfl)).2
          rw [d2]
          clear d2
          clear hd
          refine GH.st_eq (by rfl) ?_
          go_simp
          (try simp only [e0, w0'])
          (try with_reducible rfl)
        | 4, _, hd =>
          simp only [GH.mkL, List.getD_cons_succ, List.getD_cons_zero]
          clear hd
          refine GH.st_eq (by rfl) ?_
          go_simp
          (try with_reducible rfl)
        | 5, _, hd =>
          simp only [GH.mkL, List.getD_cons_succ, List.getD_cons_zero]
          have d4 : S 4 = .pointer (some ⟨w.heap.size, 0, none⟩) := (hd 4 (by kernel_rfl)).2
          rw [d4]
          clear d4
          clear hd
          exact GH.st_load _ (by rfl) rfl rfl (((K6.out.below hb.below K6.out.lt)).cell 0) (by kernel_rfl)
        | 6, _, hd =>
          simp only [GH.mkL, List.getD_cons_succ, List.getD_cons_zero]
          have d3 : S 3 = .int .i64 (x0 : Nat) := (hd 3 (by kernel_rfl)).2
          rw [d3]
          clear d3
          have d5 : S 5 = .int .i64 (m : Nat) := (hd 5 (by kernel_rfl)).2
          rw [d5]
          clear d5
          clear hd
          refine GH.st_eq (by rfl) ?_
          go_simp
          (try simp only [e1, w1'])
          (try with_reducible rfl)
        | 7, _, hd =>
          simp only [GH.mkL, List.getD_cons_succ, List.getD_cons_zero]
          clear hd
          refine GH.st_eq (by rfl) ?_
          go_simp
          (try with_reducible rfl)
        | 8, _, hd =>
          simp only [GH.mkL, List.getD_cons_succ, List.getD_cons_zero]
          have d6 : S 6 = .int .i64 (x1 : Nat) := (hd 6 (by kernel_rfl)).2
          rw [d6]
          clear d6
          have d7 : S 7 = .int .i64 (tt : Nat) := (hd 7 (by kernel_rfl)).2
          rw [d7]
          clear d7
          clear hd
          refine GH.st_eq (by rfl) ?_
          go_simp
          (try simp only [hX0, e4, w4', if_false])
          (try with_reducible rfl)
        | 9, _, hd =>
          simp only [GH.mkL, List.getD_cons_succ, List.getD_cons_zero]
          clear hd
          refine GH.st_eq (by rfl) ?_
          go_simp
          (try with_reducible rfl)
        | 10, _, hd =>
          simp only [GH.mkL, List.getD_cons_succ, List.getD_cons_zero]
          have d9 : S 9 = .int .i64 (k : Nat) := (hd 9 (by kernel_rfl)).2
          rw [d9]
          clear d9
          clear hd
          refine GH.st_eq (by rfl) ?_
          go_simp
          (try simp only [e5, w5'])
          (try with_reducible rfl)
        | 11, _, hd =>
          simp only [GH.mkL, List.getD_cons_succ, List.getD_cons_zero]
          clear hd
          refine GH.st_eq (by rfl) ?_
          go_simp
          (try with_reducible rfl)
        | 12, _, hd =>
          simp only [GH.mkL, List.getD_cons_succ, List.getD_cons_zero]
          have d11 : S 11 = .pointer (some ⟨w.heap.size, 0, none⟩) := (hd 11 (by kernel_rfl)).2
          rw [d11]
          clear d11
          clear hd
          exact GH.st_load _ (by rfl) rfl rfl (((K6.out.below hb.below K6.out.lt)).cell 0) (by kernel_rfl)
        | 13, _, hd =>
          simp only [GH.mkL, List.getD_cons_succ, List.getD_cons_zero]
          have d10 : S 10 = .int .i64 (y2 : Nat) := (hd 10 (by kernel_rfl)).2
          rw [d10]
          clear d10
          have d12 : S 12 = .int .i64 (m : Nat) := (hd 12 (by kernel_rfl)).2
          rw [d12]
          clear d12
          clear hd
          refine GH.st_eq (by rfl) ?_
          go_simp
          (try simp only [e5', w5''])
          (try with_reducible rfl)
        | 14, _, hd =>
          simp only [GH.mkL, List.getD_cons_succ, List.getD_cons_zero]
          clear hd
          refine GH.st_eq (by rfl) ?_
          go_simp
          (try with_reducible rfl)
        | 15, _, hd =>
          simp only [GH.mkL, List.getD_cons_succ, List.getD_cons_zero]
          have d14 : S 14 = .pointer (some ⟨w.heap.size, 1, none⟩) := (hd 14 (by kernel_rfl)).2
          rw [d14]
          clear d14
          clear hd
          exact GH.st_load _ (by rfl) rfl rfl (((K6.out.below hb.below K6.out.lt)).cell 1) (by kernel_rfl)
        | 16, _, hd =>
          simp only [GH.mkL, List.getD_cons_succ, List.getD_cons_zero]
          have d13 : S 13 = .int .i64 (x2 : Nat) := (hd 13 (by kernel_rfl)).2
          rw [d13]
          clear d13
          have d15 : S 15 = .int .i64 (s : Nat) := (hd 15 (by kernel_rfl)).2
          rw [d15]
          clear d15
          clear hd
          refine GH.st_eq (by rfl) ?_
          go_simp
          (try simp only [hs0, e6, w6', if_false])
          (try with_reducible rfl)
        | 17, _, hd =>
          simp only [GH.mkL, List.getD_cons_succ, List.getD_cons_zero]
          have d0 : S 0 = .slice A ln c := (hd 0 (by kernel_rfl)).2
          rw [d0]
          clear d0
          have d1 : S 1 = .int .i64 (al : Nat) := (hd 1 (by kernel_rfl)).2
          rw [d1]
          clear d1
          have d2 : S 2 = .int .i64 (k : Nat) := (hd 2 (by kernel_rfl)).2
          rw [d2]
          clear d2
          have d3 : S 3 = .int .i64 (x0 : Nat) := (hd 3 (by kernel_rfl)).2
          rw [d3]
          clear d3
          have d4 : S 4 = .pointer (some ⟨w.heap.size, 0, none⟩) := (hd 4 (by kernel_rfl)).2
          rw [d4]
          clear d4
          have d5 : S 5 = .int .i64 (m : Nat) := (hd 5 (by kernel_rfl)).2
          rw [d5]
          clear d5
          have d6 : S 6 = .int .i64 (x1 : Nat) := (hd 6 (by kernel_rfl)).2
          rw [d6]
          clear d6
          have d7 : S 7 = .int .i64 (tt : Nat) := (hd 7 (by kernel_rfl)).2
          rw [d7]
          clear d7
          have d8 : S 8 = .int .i64 (q1 : Nat) := (hd 8 (by kernel_rfl)).2
          rw [d8]
          clear d8
          clear hd
          refine GH.st_eq (by rfl) ?_
          go_simp
          (try with_reducible rfl)
        | 18, _, hd =>
          simp only [GH.mkL, List.getD_cons_succ, List.getD_cons_zero]
          have d0 : S 0 = .slice A ln c := (hd 0 (by kernel_rfl)).2
          rw [d0]
          clear d0
          have d1 : S 1 = .int .i64 (al : Nat) := (hd 1 (by kernel_rfl)).2
          rw [d1]
          clear d1
          have d2 : S 2 = .int .i64 (k : Nat) := (hd 2 (by kernel_rfl)).2
          rw [d2]
          clear d2
          have d3 : S 3 = .int .i64 (x0 : Nat) := (hd 3 (by kernel_rfl)).2
          rw [d3]
          clear d3
          have d4 : S 4 = .pointer (some ⟨w.heap.size, 0, none⟩) := (hd 4 (by kernel_rfl)).2
          rw [d4]
          clear d4
          have d5 : S 5 = .int .i64 (m : Nat) := (hd 5 (by kernel_rfl)).2
          rw [d5]
          clear d5
          have d6 : S 6 = .int .i64 (x1 : Nat) := (hd 6 (by kernel_rfl)).2
          rw [d6]
          clear d6
          have d7 : S 7 = .int .i64 (tt : Nat) := (hd 7 (by kernel_rfl)).2
          rw [d7]
          clear d7
          have d8 : S 8 = .int .i64 (q1 : Nat) := (hd 8 (by kernel_rfl)).2
          rw [d8]
          clear d8
          have d9 : S 9 = .int .i64 (k : Nat) := (hd 9 (by kernel_rfl)).2
          rw [d9]
          clear d9
          have d10 : S 10 = .int .i64 (y2 : Nat) := (hd 10 (by kernel_rfl)).2
          rw [d10]
          clear d10
          have d11 : S 11 = .pointer (some ⟨w.heap.size, 0, none⟩) := (hd 11 (by kernel_rfl)).2
          rw [d11]
          clear d11
          have d12 : S 12 = .int .i64 (m : Nat) := (hd 12 (by kernel_rfl)).2
          rw [d12]
          clear d12
          have d13 : S 13 = .int .i64 (x2 : Nat) := (hd 13 (by kernel_rfl)).2
          rw [d13]
          clear d13
          have d14 : S 14 = .pointer (some ⟨w.heap.size, 1, none⟩) := (hd 14 (by kernel_rfl)).2
          rw [d14]
          clear d14
          have d15 : S 15 = .int .i64 (s : Nat) := (hd 15 (by kernel_rfl)).2
          rw [d15]
          clear d15
          have d16 : S 16 = .int .i64 (q2 : Nat) := (hd 16 (by kernel_rfl)).2
          rw [d16]
          clear d16
          have d17 : S 17 = .int .i64 (q1 : Nat) := (hd 17 (by kernel_rfl)).2
          rw [d17]
          clear d17
          clear hd
          refine GH.st_eq (by rfl) ?_
          go_simp
          (try with_reducible rfl)
        | nx + 19, hjx, _ => omega
      intro S w' hb hG
      simp only [GH.mkL, List.drop_succ_cons, List.drop_zero]
      have d17 : S 17 = .int .i64 (q1 : Nat) := hG 17 (by omega)
      rw [d17]
      clear d17
      have d18 : S 18 = .int .i64 (q2 : Nat) := hG 18 (by omega)
      rw [d18]
      clear d18
      clear hG
      have K8 := Lib.hid (K6.out.below hb.below K6.out.lt)
      have R8 := Lib.hid (R6.out.below hb.below R6.out.lt)
      have B8 := Lib.hid (B6.out.trans (hb.below.mono B6.out.size))
      clear hb K6 R6 B6
      refine wpList_nil ?_
      clear CA e0 e1 e4 e5 e5' e6
      by_cases hq : q2 < q1
      · have hqi : (q2 : Int) < (q1 : Int) := by omega
        have ha : a = q2 := by rw [HA.out, if_pos hq]
        rw [ha] at e8
        clear ha HA
        obtain ⟨c0, c1, c2, c3, c4⟩ := ptc5 K8.out
        have f3 := K8.out.frozen 3
        go_upto_region 13 with fail
        clear c0 c1 c2 c3 c4 f3
        have K9 := Lib.hid (show Blk (w'.setCell ⟨w.heap.size, 3, none⟩ (.int .i64 (p1 : Nat))) w.heap.size 33 #[.int .i64 (m : Nat), .int .i64 (s : Nat), .int .i64 (sl : Nat), .int .i64 (p1 : Nat), .int .i64 (u1 : Nat)] from K8.out.set 3 _)
        have R9 := Lib.hid ((Solo.refl.setCell 3 (.int .i64 (p1 : Nat)) : Solo w.heap.size w' (w'.setCell ⟨w.heap.size, 3, none⟩ (.int .i64 (p1 : Nat)))).blk R8.out (by omega))
        have B9 := Lib.hid (B8.out.trans (Solo.refl.setCell 3 (.int .i64 (p1 : Nat)) : Solo w.heap.size w' (w'.setCell ⟨w.heap.size, 3, none⟩ (.int .i64 (p1 : Nat)))).1)
        clear K8 R8 B8
        generalize w'.setCell ⟨w.heap.size, 3, none⟩ (.int .i64 (p1 : Nat)) = w9 at K9 R9 B9 ⊢
        obtain ⟨c0, c1, c2, c3, c4⟩ := ptc5 K9.out
        have f1 := K9.out.frozen 1
        go_wp2_with fail
        refine (HU.out _).mono ?_
        rintro e w10 ⟨rfl, hb10⟩
        clear c0 c1 c2 c3 c4 f1
        have K10 := Lib.hid (K9.out.below hb10 K9.out.lt)
        have R10 := Lib.hid (R9.out.below hb10 R9.out.lt)
        have B10 := Lib.hid (B9.out.trans (hb10.mono B9.out.size))
        clear hb10 K9 R9 B9
        obtain ⟨c0, c1, c2, c3, c4⟩ := ptc5 K10.out
        have f1 := K10.out.frozen 1
        go_upto_region 14 with fail
        clear c0 c1 c2 c3 c4 f1
        have K11 := Lib.hid (show Blk (w10.setCell ⟨w.heap.size, 1, none⟩ (.int .i64 (s1 : Nat))) w.heap.size 33 #[.int .i64 (m : Nat), .int .i64 (s1 : Nat), .int .i64 (sl : Nat), .int .i64 (p1 : Nat), .int .i64 (u1 : Nat)] from K10.out.set 1 _)
        have R11 := Lib.hid ((Solo.refl.setCell 1 (.int .i64 (s1 : Nat)) : Solo w.heap.size w10 (w10.setCell ⟨w.heap.size, 1, none⟩ (.int .i64 (s1 : Nat)))).blk R10.out (by omega))
        have B11 := Lib.hid (B10.out.trans (Solo.refl.setCell 1 (.int .i64 (s1 : Nat)) : Solo w.heap.size w10 (w10.setCell ⟨w.heap.size, 1, none⟩ (.int .i64 (s1 : Nat)))).1)
        clear K10 R10 B10
        generalize w10.setCell ⟨w.heap.size, 1, none⟩ (.int .i64 (s1 : Nat)) = w11 at K11 R11 B11 ⊢
        obtain ⟨c0, c1, c2, c3, c4⟩ := ptc5 K11.out
        have f3 := K11.out.frozen 3
        go_upto_region 15 with fail
        clear c0 c1 c2 c3 c4 f3
        have K12 := Lib.hid (show Blk (w11.setCell ⟨w.heap.size, 3, none⟩ (.int .i64 (r : Nat))) w.heap.size 33 #[.int .i64 (m : Nat), .int .i64 (s1 : Nat), .int .i64 (sl : Nat), .int .i64 (r : Nat), .int .i64 (u1 : Nat)] from K11.out.set 3 _)
        have R12 := Lib.hid ((Solo.refl.setCell 3 (.int .i64 (r : Nat)) : Solo w.heap.size w11 (w11.setCell ⟨w.heap.size, 3, none⟩ (.int .i64 (r : Nat)))).blk R11.out (by omega))
        have B12 := Lib.hid (B11.out.trans (Solo.refl.setCell 3 (.int .i64 (r : Nat)) : Solo w.heap.size w11 (w11.setCell ⟨w.heap.size, 3, none⟩ (.int .i64 (r : Nat)))).1)
        clear K11 R11 B11
        generalize w11.setCell ⟨w.heap.size, 3, none⟩ (.int .i64 (r : Nat)) = w12 at K12 R12 B12 ⊢
        have r0 := R12.out.frozen 0
        have r1 := R12.out.frozen 1
        have r2 := R12.out.frozen 2
        have r3 := R12.out.frozen 3
        have r4 := R12.out.frozen 4
        obtain ⟨q0, q1, q2, q3, q4⟩ := ptc5 R12.out
        obtain ⟨c0, c1, c2, c3, c4⟩ := ptc5 K12.out
        go_wp2_with fail
        exact bodyPost_ret (results_agg Try.results19 (g := w.heap.size + 1) (pt5 _ _ _ _ _ R12.out) (by rfl) (by kernel_rfl) (by kernel_rfl)) rfl ⟨by rw [HE.out.1, HE.out.2], B12.out.trans ((pts5 _ _ _ _ _).1.mono (by omega))⟩
      · have hqi : ¬ (q2 : Int) < (q1 : Int) := by omega
        have ha : a = q1 := by rw [HA.out, if_neg hq]
        rw [ha] at e8
        clear ha HA
        obtain ⟨c0, c1, c2, c3, c4⟩ := ptc5 K8.out
        have f3 := K8.out.frozen 3
        go_upto_region 13 with fail
        clear c0 c1 c2 c3 c4 f3
        have K9 := Lib.hid (show Blk (w'.setCell ⟨w.heap.size, 3, none⟩ (.int .i64 (p1 : Nat))) w.heap.size 33 #[.int .i64 (m : Nat), .int .i64 (s : Nat), .int .i64 (sl : Nat), .int .i64 (p1 : Nat), .int .i64 (u1 : Nat)] from K8.out.set 3 _)
        have R9 := Lib.hid ((Solo.refl.setCell 3 (.int .i64 (p1 : Nat)) : Solo w.heap.size w' (w'.setCell ⟨w.heap.size, 3, none⟩ (.int .i64 (p1 : Nat)))).blk R8.out (by omega))
        have B9 := Lib.hid (B8.out.trans (Solo.refl.setCell 3 (.int .i64 (p1 : Nat)) : Solo w.heap.size w' (w'.setCell ⟨w.heap.size, 3, none⟩ (.int .i64 (p1 : Nat)))).1)
        clear K8 R8 B8
        generalize w'.setCell ⟨w.heap.size, 3, none⟩ (.int .i64 (p1 : Nat)) = w9 at K9 R9 B9 ⊢
        obtain ⟨c0, c1, c2, c3, c4⟩ := ptc5 K9.out
        have f1 := K9.out.frozen 1
        go_wp2_with fail
        refine (HU.out _).mono ?_
        rintro e w10 ⟨rfl, hb10⟩
        clear c0 c1 c2 c3 c4 f1
        have K10 := Lib.hid (K9.out.below hb10 K9.out.lt)
        have R10 := Lib.hid (R9.out.below hb10 R9.out.lt)
        have B10 := Lib.hid (B9.out.trans (hb10.mono B9.out.size))
        clear hb10 K9 R9 B9
        obtain ⟨c0, c1, c2, c3, c4⟩ := ptc5 K10.out
        have f1 := K10.out.frozen 1
        go_upto_region 14 with fail
        clear c0 c1 c2 c3 c4 f1
        have K11 := Lib.hid (show Blk (w10.setCell ⟨w.heap.size, 1, none⟩ (.int .i64 (s1 : Nat))) w.heap.size 33 #[.int .i64 (m : Nat), .int .i64 (s1 : Nat), .int .i64 (sl : Nat), .int .i64 (p1 : Nat), .int .i64 (u1 : Nat)] from K10.out.set 1 _)
        have R11 := Lib.hid ((Solo.refl.setCell 1 (.int .i64 (s1 : Nat)) : Solo w.heap.size w10 (w10.setCell ⟨w.heap.size, 1, none⟩ (.int .i64 (s1 : Nat)))).blk R10.out (by omega))
        have B11 := Lib.hid (B10.out.trans (Solo.refl.setCell 1 (.int .i64 (s1 : Nat)) : Solo w.heap.size w10 (w10.setCell ⟨w.heap.size, 1, none⟩ (.int .i64 (s1 : Nat)))).1)
        clear K10 R10 B10
        generalize w10.setCell ⟨w.heap.size, 1, none⟩ (.int .i64 (s1 : Nat)) = w11 at K11 R11 B11 ⊢
        obtain ⟨c0, c1, c2, c3, c4⟩ := ptc5 K11.out
        have f3 := K11.out.frozen 3
        go_upto_region 15 with fail
        clear c0 c1 c2 c3 c4 f3
        have K12 := Lib.hid (show Blk (w11.setCell ⟨w.heap.size, 3, none⟩ (.int .i64 (r : Nat))) w.heap.size 33 #[.int .i64 (m : Nat), .int .i64 (s1 : Nat), .int .i64 (sl : Nat), .int .i64 (r : Nat), .int .i64 (u1 : Nat)] from K11.out.set 3 _)
        have R12 := Lib.hid ((Solo.refl.setCell 3 (.int .i64 (r : Nat)) : Solo w.heap.size w11 (w11.setCell ⟨w.heap.size, 3, none⟩ (.int .i64 (r : Nat)))).blk R11.out (by omega))
        have B12 := Lib.hid (B11.out.trans (Solo.refl.setCell 3 (.int .i64 (r : Nat)) : Solo w.heap.size w11 (w11.setCell ⟨w.heap.size, 3, none⟩ (.int .i64 (r : Nat)))).1)
        clear K11 R11 B11
        generalize w11.setCell ⟨w.heap.size, 3, none⟩ (.int .i64 (r : Nat)) = w12 at K12 R12 B12 ⊢
        have r0 := R12.out.frozen 0
        have r1 := R12.out.frozen 1
        have r2 := R12.out.frozen 2
        have r3 := R12.out.frozen 3
        have r4 := R12.out.frozen 4
        obtain ⟨q0, q1, q2, q3, q4⟩ := ptc5 R12.out
        obtain ⟨c0, c1, c2, c3, c4⟩ := ptc5 K12.out
        go_wp2_with fail
        exact bodyPost_ret (results_agg Try.results19 (g := w.heap.size + 1) (pt5 _ _ _ _ _ R12.out) (by rfl) (by kernel_rfl) (by kernel_rfl)) rfl ⟨by rw [HE.out.1, HE.out.2], B12.out.trans ((pts5 _ _ _ _ _).1.mono (by omega))⟩
end Go.Proofs.Ytpjfheojlcahgaa
