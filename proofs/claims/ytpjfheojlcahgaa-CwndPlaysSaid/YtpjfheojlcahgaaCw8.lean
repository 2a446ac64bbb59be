/- Layer 13 by the document: Lost, Room. -/
import Derived.Test.YtpjfheojlcahgaaCw7
namespace Go.Proofs.Ytpjfheojlcahgaa
open Go.RowKit
set_option linter.unusedVariables false
set_option linter.unusedSimpArgs false
set_option maxRecDepth 20000 in
set_option maxHeartbeats 4000000 in
theorem rcwroom_any (m s sl p u : Nat) (w : World) (ho : WOk m s sl p u) :
    Calls Try.prog 23 #[cwv m s sl p u] w fun e w' => e = .returned (.int .i64 (s - u : Nat)) ∧ Below w.heap.size w w' := by
  unfold cwv
  have hub := ho.u2
  have hsb := ho.s3
  obtain ⟨d, hd⟩ : ∃ d : Int, d = (s : Int) - (u : Int) := ⟨_, rfl⟩
  obtain ⟨x, hx⟩ : ∃ x, x = s - u := ⟨_, rfl⟩
  have HU := rcwbd d 0 s (WalkArith.wf_i64 (by omega)) (k := x) (by unfold clN; split <;> (try split) <;> omega)
  have e1 : (s : Int) - (u : Int) = d := hd.symm
  have w1' : IntKind.i64.wrap d = d := by rw [IntKind.wrap_i64]; omega
  rw [← hx]
  clear ho hub hsb hd hx
  have K0 := Blk.new w 33 #[.int .i64 (m : Nat), .int .i64 (s : Nat), .int .i64 (sl : Nat), .int .i64 (p : Nat), .int .i64 (u : Nat)]
  obtain ⟨c0, c1, c2, c3, c4⟩ := ptc5 K0
  clear K0
  go_enter Try.func23, Try.ntmps23
  go_upto_region 1 with fail
  have B1 := Lib.hid ((Below.refl w.heap.size w).alloc (Nat.le_refl _) (.cells #[.int .i64 (m : Nat), .int .i64 (s : Nat), .int .i64 (sl : Nat), .int .i64 (p : Nat), .int .i64 (u : Nat)] 33))
  generalize w.alloc (.cells #[.int .i64 (m : Nat), .int .i64 (s : Nat), .int .i64 (sl : Nat), .int .i64 (p : Nat), .int .i64 (u : Nat)] 33) = w1 at c0 c1 c2 c3 c4 B1 ⊢
  go_wp2_with fail
  refine (HU.out _).mono ?_
  rintro e w2 ⟨rfl, hb2⟩
  have B2 := Lib.hid (B1.out.trans (hb2.mono B1.out.size))
  clear hb2
  go_wp2_with fail
  go_ret
  exact ⟨rfl, B2.out⟩
set_option maxRecDepth 20000 in
set_option maxHeartbeats 4000000 in
theorem rcwlost_any (m s sl p u : Nat) (n : Int) (w : World) (ho : WOk m s sl p u) (hn : (Lit.int .i64 n).wf = true) :
    Calls Try.prog 15 #[cwv m s sl p u, .int .i64 n] w fun e w' => e = .returned (cwv m m (max (s / 2) (2 * m)) 0 (u - bdB n)) ∧ Below w.heap.size w w' := by
  have hsb := ho.s3
  have hmb := ho.m2
  obtain ⟨a, ha⟩ : ∃ a, a = s / 2 := ⟨_, rfl⟩
  obtain ⟨b, hb0⟩ : ∃ b, b = 2 * m := ⟨_, rfl⟩
  obtain ⟨x, hx⟩ : ∃ x, x = max (s / 2) (2 * m) := ⟨_, rfl⟩
  obtain ⟨t, ht⟩ : ∃ t, t = a + b := ⟨_, rfl⟩
  obtain ⟨t2, ht2⟩ : ∃ t2, t2 = s + b := ⟨_, rfl⟩
  have HU := rcwbd (a : Int) b t2 (WalkArith.wf_i64 (by omega)) (k := x) (by unfold clN; split <;> (try split) <;> omega)
  have e1 : (s : Int) / 2 = (a : Nat) := by omega
  have e2 : (2 : Int) * (m : Int) = (b : Nat) := by omega
  have e3 : (s : Int) + (b : Int) = (t2 : Nat) := by omega
  have w1' : IntKind.i64.wrap (a : Int) = (a : Nat) := by rw [IntKind.wrap_i64]; omega
  have w2' : IntKind.i64.wrap (b : Int) = (b : Nat) := by rw [IntKind.wrap_i64]; omega
  have w3' : IntKind.i64.wrap (t2 : Int) = (t2 : Nat) := by rw [IntKind.wrap_i64]; omega
  have HG := Lib.hid fun w => rcwgone_any m m x 0 u n w ⟨ho.m1, ho.m2, Nat.le_refl _, by omega, by omega, by omega, ho.u2⟩ hn
  rw [← hx]
  unfold cwv at HG ⊢
  clear ho hn hsb hmb ha hb0 hx ht ht2
  go_enter Try.func15, Try.ntmps15
  go_upto_region 1 with fail
  have hk0 : Hid (Blk (w.alloc (.cells #[.int .i64 (m : Nat), .int .i64 (s : Nat), .int .i64 (sl : Nat), .int .i64 (p : Nat), .int .i64 (u : Nat)] 33)) (w.heap.size) 33 #[.int .i64 (m : Nat), .int .i64 (s : Nat), .int .i64 (sl : Nat), .int .i64 (p : Nat), .int .i64 (u : Nat)]) := Lib.hid ((Blk.new w 33 #[.int .i64 (m : Nat), .int .i64 (s : Nat), .int .i64 (sl : Nat), .int .i64 (p : Nat), .int .i64 (u : Nat)]))
  replace hk0 : Hid (Blk ((w.alloc (.cells #[.int .i64 (m : Nat), .int .i64 (s : Nat), .int .i64 (sl : Nat), .int .i64 (p : Nat), .int .i64 (u : Nat)] 33)).alloc (.cells #[.int .i64 0, .int .i64 0, .int .i64 0, .int .i64 0, .int .i64 0] 33)) (w.heap.size) 33 #[.int .i64 (m : Nat), .int .i64 (s : Nat), .int .i64 (sl : Nat), .int .i64 (p : Nat), .int .i64 (u : Nat)]) := Lib.hid (hk0.out.alloc _)
  have hk1 : Hid (Blk ((w.alloc (.cells #[.int .i64 (m : Nat), .int .i64 (s : Nat), .int .i64 (sl : Nat), .int .i64 (p : Nat), .int .i64 (u : Nat)] 33)).alloc (.cells #[.int .i64 0, .int .i64 0, .int .i64 0, .int .i64 0, .int .i64 0] 33)) (w.heap.size + 1) 33 #[.int .i64 0, .int .i64 0, .int .i64 0, .int .i64 0, .int .i64 0]) := Lib.hid ((Blk.new (w.alloc (.cells #[.int .i64 (m : Nat), .int .i64 (s : Nat), .int .i64 (sl : Nat), .int .i64 (p : Nat), .int .i64 (u : Nat)] 33)) 33 #[.int .i64 0, .int .i64 0, .int .i64 0, .int .i64 0, .int .i64 0]) |> fun h => by simpa using h)
  have b1 : Hid (Below w.heap.size w ((w.alloc (.cells #[.int .i64 (m : Nat), .int .i64 (s : Nat), .int .i64 (sl : Nat), .int .i64 (p : Nat), .int .i64 (u : Nat)] 33)).alloc (.cells #[.int .i64 0, .int .i64 0, .int .i64 0, .int .i64 0, .int .i64 0] 33))) := Lib.hid (((Below.refl w.heap.size w).alloc (Nat.le_refl _) (.cells #[.int .i64 (m : Nat), .int .i64 (s : Nat), .int .i64 (sl : Nat), .int .i64 (p : Nat), .int .i64 (u : Nat)] 33)).alloc (by simp <;> omega) (.cells #[.int .i64 0, .int .i64 0, .int .i64 0, .int .i64 0, .int .i64 0] 33))
  have hz : ((w.alloc (.cells #[.int .i64 (m : Nat), .int .i64 (s : Nat), .int .i64 (sl : Nat), .int .i64 (p : Nat), .int .i64 (u : Nat)] 33)).alloc (.cells #[.int .i64 0, .int .i64 0, .int .i64 0, .int .i64 0, .int .i64 0] 33)).heap.size = w.heap.size + 2 := by simp
  generalize ((w.alloc (.cells #[.int .i64 (m : Nat), .int .i64 (s : Nat), .int .i64 (sl : Nat), .int .i64 (p : Nat), .int .i64 (u : Nat)] 33)).alloc (.cells #[.int .i64 0, .int .i64 0, .int .i64 0, .int .i64 0, .int .i64 0] 33)) = w2 at hk0 hk1 b1 hz ⊢
  have HZ := Lib.hid hz
  clear hz
  obtain ⟨c0, c1, c2, c3, c4⟩ := ptc5 hk0.out
  go_wp2_with fail
  refine (HU.out _).mono ?_
  rintro e w3 ⟨rfl, hb3⟩
  have KF := Lib.hid (hk0.out.below hb3 hk0.out.lt)
  have KR := Lib.hid (hk1.out.below hb3 hk1.out.lt)
  have B3 := Lib.hid (b1.out.trans (hb3.mono b1.out.size))
  clear hb3 hk0 hk1 b1 c0 c1 c2 c3 c4
  obtain ⟨c0, c1, c2, c3, c4⟩ := ptc5 KF.out
  have f1 := KF.out.frozen 1
  have f2 := KF.out.frozen 2
  have f3 := KF.out.frozen 3
  go_upto_region 3 with fail
  have hs : Solo w.heap.size w3 (((w3.setCell ⟨w.heap.size, 2, none⟩ (.int .i64 (x : Nat))).setCell ⟨w.heap.size, 1, none⟩ (.int .i64 (m : Nat))).setCell ⟨w.heap.size, 3, none⟩ (.int .i64 0)) := ((Solo.refl.setCell 2 _).setCell 1 _).setCell 3 _
  have K4 := Lib.hid (show Blk (((w3.setCell ⟨w.heap.size, 2, none⟩ (.int .i64 (x : Nat))).setCell ⟨w.heap.size, 1, none⟩ (.int .i64 (m : Nat))).setCell ⟨w.heap.size, 3, none⟩ (.int .i64 0)) w.heap.size 33 #[.int .i64 (m : Nat), .int .i64 (m : Nat), .int .i64 (x : Nat), .int .i64 0, .int .i64 (u : Nat)] from ((KF.out.set 2 _).set 1 _).set 3 _)
  have R4 := Lib.hid (hs.blk KR.out (by omega))
  have B4 := Lib.hid (B3.out.trans hs.1)
  clear KF KR B3 hs c0 c1 c2 c3 c4 f1 f2 f3
  generalize ((w3.setCell ⟨w.heap.size, 2, none⟩ (.int .i64 (x : Nat))).setCell ⟨w.heap.size, 1, none⟩ (.int .i64 (m : Nat))).setCell ⟨w.heap.size, 3, none⟩ (.int .i64 0) = w4 at K4 R4 B4 ⊢
  obtain ⟨c0, c1, c2, c3, c4⟩ := ptc5 K4.out
  go_wp2_with fail
  refine (HG.out _).mono ?_
  rintro e w5 ⟨rfl, hb5⟩
  have R5 := Lib.hid (R4.out.below hb5 R4.out.lt)
  have B5 := Lib.hid (B4.out.trans (hb5.mono B4.out.size))
  clear hb5 K4 R4 B4 c0 c1 c2 c3 c4
  have r0 := R5.out.frozen 0
  have r1 := R5.out.frozen 1
  have r2 := R5.out.frozen 2
  have r3 := R5.out.frozen 3
  have r4 := R5.out.frozen 4
  obtain ⟨q0, q1, q2, q3, q4⟩ := ptc5 R5.out
  go_wp2_with fail
  exact bodyPost_ret (results_agg Try.results15 (g := w.heap.size + 1) (pt5 _ _ _ _ _ R5.out) (by rfl) (by kernel_rfl) (by kernel_rfl)) rfl ⟨rfl, B5.out.trans ((pts5 _ _ _ _ _).1.mono (by omega))⟩
end Go.Proofs.Ytpjfheojlcahgaa
