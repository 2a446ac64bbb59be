/- Layer 13 by the document: New, Sent, Gone, Lost, Room. -/
import Derived.Test.YtpjfheojlcahgaaCw6
import Derived.Test.YtpjfheojlcahgaaStm
namespace Go.Proofs.Ytpjfheojlcahgaa
open Go.RowKit
set_option linter.unusedVariables false
set_option linter.unusedSimpArgs false
def cwv (m s sl p u : Nat) : Value := .agg #[.int .i64 (m : Nat), .int .i64 (s : Nat), .int .i64 (sl : Nat), .int .i64 (p : Nat), .int .i64 (u : Nat)]
theorem rcwnew_any (n : Int) (w : World) (hn : (Lit.int .i64 n).wf = true) :
    Calls Try.prog 11 #[.int .i64 n] w fun e w' => e = .returned (cwv (clN 1 1024 n) (4 * clN 1 1024 n) (64 * clN 1 1024 n) 0 0) ∧ Below w.heap.size w w' := by
  have HB := Lib.hid fun w => cwwithin_any n 1 1024 w hn
  have hmb : clN 1 1024 n ≤ 1024 := clN_le (by omega) n
  obtain ⟨m, hm⟩ : ∃ m, m = clN 1 1024 n := ⟨_, rfl⟩
  rw [← hm] at HB hmb ⊢
  clear hm
  go_enter Try.func11, Try.ntmps11
  go_wp2_with fail
  refine (HB.out _).mono ?_
  rintro e w1 ⟨rfl, rfl⟩
  go_wp2_with fail
  refine bodyPost_ret (results_agg Try.results11 (Blk.new w _ _) (by rfl) (by kernel_rfl) (by kernel_rfl)) rfl ⟨?_, (Below.refl _ _).alloc (Nat.le_refl _) _⟩
  unfold cwv
  push_cast
  rfl
theorem rcwbd (n : Int) (lo hi : Nat) (hn : (Lit.int .i64 n).wf = true) {k : Nat} (hk : k = clN lo hi n) : Hid (∀ w', Calls Try.prog 27 #[.int .i64 n, .int .i64 (lo : Nat), .int .i64 (hi : Nat)] w' fun e w'' => e = .returned (.int .i64 (k : Nat)) ∧ Below w'.heap.size w' w'') :=
  Lib.hid fun w' => (cwwithin_any n lo hi w' hn).mono (by rintro e w'' ⟨rfl, rfl⟩; exact ⟨by rw [hk], Below.refl _ _⟩)
set_option maxRecDepth 20000 in
set_option maxHeartbeats 4000000 in
theorem rcwsent_any (m s sl p u : Nat) (n : Int) (w : World) (ho : WOk m s sl p u) (hn : (Lit.int .i64 n).wf = true) :
    Calls Try.prog 13 #[cwv m s sl p u, .int .i64 n] w fun e w' => e = .returned (cwv m s sl p (u + bdB n)) ∧ Below w.heap.size w w' := by
  unfold cwv
  have hub := ho.u2
  have hkb := bdB_le n
  obtain ⟨k, hk⟩ : ∃ k, k = bdB n := ⟨_, rfl⟩
  have HK := rcwbd n 0 1024 hn hk
  rw [← hk] at hkb ⊢
  obtain ⟨u1, hu1⟩ : ∃ u1, u1 = u + k := ⟨_, rfl⟩
  have e1 : (u : Int) + (k : Int) = (u1 : Nat) := by omega
  have w1' : IntKind.i64.wrap (u1 : Int) = (u1 : Nat) := by rw [IntKind.wrap_i64]; omega
  rw [← hu1]
  clear ho hn hk hkb hub hu1
  go_enter Try.func13, Try.ntmps13
  go_upto_region 1 with fail
  have hk0 : Hid (Blk (w.alloc (.cells #[.int .i64 (m : Nat), .int .i64 (s : Nat), .int .i64 (sl : Nat), .int .i64 (p : Nat), .int .i64 (u : Nat)] 33)) (w.heap.size) 33 #[.int .i64 (m : Nat), .int .i64 (s : Nat), .int .i64 (sl : Nat), .int .i64 (p : Nat), .int .i64 (u : Nat)]) := Lib.hid ((Blk.new w 33 #[.int .i64 (m : Nat), .int .i64 (s : Nat), .int .i64 (sl : Nat), .int .i64 (p : Nat), .int .i64 (u : Nat)]))
  replace hk0 : Hid (Blk ((w.alloc (.cells #[.int .i64 (m : Nat), .int .i64 (s : Nat), .int .i64 (sl : Nat), .int .i64 (p : Nat), .int .i64 (u : Nat)] 33)).alloc (.cells #[.int .i64 0, .int .i64 0, .int .i64 0, .int .i64 0, .int .i64 0] 33)) (w.heap.size) 33 #[.int .i64 (m : Nat), .int .i64 (s : Nat), .int .i64 (sl : Nat), .int .i64 (p : Nat), .int .i64 (u : Nat)]) := Lib.hid (hk0.out.alloc _)
  have hk1 : Hid (Blk ((w.alloc (.cells #[.int .i64 (m : Nat), .int .i64 (s : Nat), .int .i64 (sl : Nat), .int .i64 (p : Nat), .int .i64 (u : Nat)] 33)).alloc (.cells #[.int .i64 0, .int .i64 0, .int .i64 0, .int .i64 0, .int .i64 0] 33)) (w.heap.size + 1) 33 #[.int .i64 0, .int .i64 0, .int .i64 0, .int .i64 0, .int .i64 0]) := Lib.hid ((Blk.new (w.alloc (.cells #[.int .i64 (m : Nat), .int .i64 (s : Nat), .int .i64 (sl : Nat), .int .i64 (p : Nat), .int .i64 (u : Nat)] 33)) 33 #[.int .i64 0, .int .i64 0, .int .i64 0, .int .i64 0, .int .i64 0]) |> fun h => by simpa using h)
  have b1 : Hid (Below w.heap.size w ((w.alloc (.cells #[.int .i64 (m : Nat), .int .i64 (s : Nat), .int .i64 (sl : Nat), .int .i64 (p : Nat), .int .i64 (u : Nat)] 33)).alloc (.cells #[.int .i64 0, .int .i64 0, .int .i64 0, .int .i64 0, .int .i64 0] 33))) := Lib.hid (((Below.refl w.heap.size w).alloc (Nat.le_refl _) (.cells #[.int .i64 (m : Nat), .int .i64 (s : Nat), .int .i64 (sl : Nat), .int .i64 (p : Nat), .int .i64 (u : Nat)] 33)).alloc (by simp <;> omega) (.cells #[.int .i64 0, .int .i64 0, .int .i64 0, .int .i64 0, .int .i64 0] 33))
  have hz : ((w.alloc (.cells #[.int .i64 (m : Nat), .int .i64 (s : Nat), .int .i64 (sl : Nat), .int .i64 (p : Nat), .int .i64 (u : Nat)] 33)).alloc (.cells #[.int .i64 0, .int .i64 0, .int .i64 0, .int .i64 0, .int .i64 0] 33)).heap.size = w.heap.size + 2 := by simp
  generalize ((w.alloc (.cells #[.int .i64 (m : Nat), .int .i64 (s : Nat), .int .i64 (sl : Nat), .int .i64 (p : Nat), .int .i64 (u : Nat)] 33)).alloc (.cells #[.int .i64 0, .int .i64 0, .int .i64 0, .int .i64 0, .int .i64 0] 33)) = w2 at hk0 hk1 b1 hz ⊢
  have HZ := Lib.hid hz
  clear hz
  refine GH.wp_ghl2 (M := false) 6 ((GH.SP.eq (.pointer (some ⟨w.heap.size, 4, none⟩))) :: (GH.SP.eq (.int .i64 (u : Nat))) :: (GH.SP.eq (.int .i64 n)) :: (GH.SP.eq (.int .i64 (k : Nat))) :: (GH.SP.eq (.int .i64 (u1 : Nat))) :: (GH.SP.eq (.pointer (some ⟨w.heap.size, 4, none⟩))) :: []) (none :: none :: none :: none :: none :: (some 0) :: (some 1) :: (some 2) :: (some 3) :: (some 4) :: (some 5) :: none :: []) [5, 6, 7, 8, 9, 10] (by rfl) (by kernel_rfl) (by kernel_rfl) ?_ ?_ ?_
  · intro S jx v hjx
    match jx, hjx with
    | 0, _ => rfl
    | 1, _ => rfl
    | 2, _ => rfl
    | 3, _ => rfl
    | 4, _ => rfl
    | 5, _ => rfl
    | nx + 6, hjx => omega
  · intro jx hjx S w' hb hd
    match jx, hjx, hd with
    | 0, _, hd =>
      simp only [GH.mkL, List.getD_cons_succ, List.getD_cons_zero]
      clear hd
      refine GH.st_eq (by rfl) ?_
      go_simp
      (try with_reducible rfl)
    | 1, _, hd =>
      simp only [GH.mkL, List.getD_cons_succ, List.getD_cons_zero]
      have d0 : S 0 = .pointer (some ⟨w.heap.size, 4, none⟩) := (hd 0 (by kernel_rfl)).2
      rw [d0]
      clear d0
      clear hd
      exact GH.st_load _ (by rfl) rfl rfl (((hk0.out.below hb.below hk0.out.lt)).cell 4) (by kernel_rfl)
    | 2, _, hd =>
      simp only [GH.mkL, List.getD_cons_succ, List.getD_cons_zero]
      clear hd
      refine GH.st_eq (by rfl) ?_
      go_simp
      (try with_reducible rfl)
    | 3, _, hd =>
      simp only [GH.mkL, List.getD_cons_succ, List.getD_cons_zero]
      have d2 : S 2 = .int .i64 n := (hd 2 (by kernel_rfl)).2
      rw [d2]
      clear d2
      clear hd
      refine GH.st_call (by rfl) hb.below.size (by go_simp) ((HK.out w').mono ?_)
      rintro e w9 ⟨rfl, hb9⟩
      exact ⟨_, rfl, hb9, rfl⟩
    | 4, _, hd =>
      simp only [GH.mkL, List.getD_cons_succ, List.getD_cons_zero]
      have d1 : S 1 = .int .i64 (u : Nat) := (hd 1 (by kernel_rfl)).2
      rw [d1]
      clear d1
      have d3 : S 3 = .int .i64 (k : Nat) := (hd 3 (by kernel_rfl)).2
      rw [d3]
      clear d3
      clear hd
      refine GH.st_eq (by rfl) ?_
      go_simp
      (try simp only [e1, w1'])
      (try with_reducible rfl)
    | 5, _, hd =>
      simp only [GH.mkL, List.getD_cons_succ, List.getD_cons_zero]
      have d0 : S 0 = .pointer (some ⟨w.heap.size, 4, none⟩) := (hd 0 (by kernel_rfl)).2
      rw [d0]
      clear d0
      have d1 : S 1 = .int .i64 (u : Nat) := (hd 1 (by kernel_rfl)).2
      rw [d1]
      clear d1
      have d2 : S 2 = .int .i64 n := (hd 2 (by kernel_rfl)).2
      rw [d2]
      clear d2
      have d3 : S 3 = .int .i64 (k : Nat) := (hd 3 (by kernel_rfl)).2
      rw [d3]
      clear d3
      have d4 : S 4 = .int .i64 (u1 : Nat) := (hd 4 (by kernel_rfl)).2
      rw [d4]
      clear d4
      clear hd
      refine GH.st_eq (by rfl) ?_
      go_simp
      (try with_reducible rfl)
    | nx + 6, hjx, _ => omega
  intro S w' hb hG
  simp only [GH.mkL, List.drop_succ_cons, List.drop_zero]
  have d4 : S 4 = .int .i64 (u1 : Nat) := hG 4 (by omega)
  rw [d4]
  clear d4
  have d5 : S 5 = .pointer (some ⟨w.heap.size, 4, none⟩) := hG 5 (by omega)
  rw [d5]
  clear d5
  clear hG
  have KF := hk0.out.below hb.below hk0.out.lt
  have KR := hk1.out.below hb.below hk1.out.lt
  have B9 := Lib.hid (b1.out.trans (hb.below.mono b1.out.size))
  have f4 := KF.frozen 4
  obtain ⟨c0, c1, c2, c3, c4⟩ := ptc5 KF
  have HKF := Lib.hid KF
  have HKR := Lib.hid KR
  clear KF KR hb b1 hk0 hk1 HZ
  go_upto_region 2 with fail
  have K3 := Lib.hid (show Blk (w'.setCell ⟨w.heap.size, 4, none⟩ (.int .i64 (u1 : Nat))) w.heap.size 33 #[.int .i64 (m : Nat), .int .i64 (s : Nat), .int .i64 (sl : Nat), .int .i64 (p : Nat), .int .i64 (u1 : Nat)] from HKF.out.set 4 _)
  have R3 := Lib.hid (Solo.blk (Solo.refl.setCell 4 (.int .i64 (u1 : Nat))) HKR.out (by omega) : Blk (w'.setCell ⟨w.heap.size, 4, none⟩ (.int .i64 (u1 : Nat))) _ _ _)
  have B3 := Lib.hid (B9.out.trans (Solo.refl.setCell 4 (.int .i64 (u1 : Nat)) : Solo w.heap.size w' (w'.setCell ⟨w.heap.size, 4, none⟩ (.int .i64 (u1 : Nat)))).1)
  generalize w'.setCell ⟨w.heap.size, 4, none⟩ (.int .i64 (u1 : Nat)) = w3 at K3 R3 B3 ⊢
  clear HKF HKR B9 c0 c1 c2 c3 c4 f4
  obtain ⟨c0, c1, c2, c3, c4⟩ := ptc5 K3.out
  have r0 := R3.out.frozen 0
  have r1 := R3.out.frozen 1
  have r2 := R3.out.frozen 2
  have r3 := R3.out.frozen 3
  have r4 := R3.out.frozen 4
  obtain ⟨q0, q1, q2, q3, q4⟩ := ptc5 R3.out
  go_wp2_with fail
  exact bodyPost_ret (results_agg Try.results13 (g := w.heap.size + 1) (pt5 _ _ _ _ _ R3.out) (by rfl) (by kernel_rfl) (by kernel_rfl)) rfl ⟨rfl, B3.out.trans ((pts5 _ _ _ _ _).1.mono (by omega))⟩
set_option maxRecDepth 20000 in
set_option maxHeartbeats 4000000 in
theorem rcwgone_any (m s sl p u : Nat) (n : Int) (w : World) (ho : WOk m s sl p u) (hn : (Lit.int .i64 n).wf = true) :
    Calls Try.prog 17 #[cwv m s sl p u, .int .i64 n] w fun e w' => e = .returned (cwv m s sl p (u - bdB n)) ∧ Below w.heap.size w w' := by
  unfold cwv
  have hub := ho.u2
  have hkb := bdB_le n
  obtain ⟨k, hk⟩ : ∃ k, k = bdB n := ⟨_, rfl⟩
  have HK := rcwbd n 0 1024 hn hk
  rw [← hk] at hkb ⊢
  obtain ⟨u1, hu1⟩ : ∃ u1, u1 = u - k := ⟨_, rfl⟩
  obtain ⟨d, hd⟩ : ∃ d : Int, d = (u : Int) - (k : Int) := ⟨_, rfl⟩
  have e1 : (u : Int) - (k : Int) = d := hd.symm
  have w1' : IntKind.i64.wrap d = d := by rw [IntKind.wrap_i64]; omega
  have HU := rcwbd d 0 u (WalkArith.wf_i64 (by omega)) (k := u1) (by unfold clN; split <;> (try split) <;> omega)
  rw [← hu1]
  clear ho hn hk hkb hub hu1 hd
  go_enter Try.func17, Try.ntmps17
  go_upto_region 1 with fail
  have hk0 : Hid (Blk (w.alloc (.cells #[.int .i64 (m : Nat), .int .i64 (s : Nat), .int .i64 (sl : Nat), .int .i64 (p : Nat), .int .i64 (u : Nat)] 33)) (w.heap.size) 33 #[.int .i64 (m : Nat), .int .i64 (s : Nat), .int .i64 (sl : Nat), .int .i64 (p : Nat), .int .i64 (u : Nat)]) := Lib.hid ((Blk.new w 33 #[.int .i64 (m : Nat), .int .i64 (s : Nat), .int .i64 (sl : Nat), .int .i64 (p : Nat), .int .i64 (u : Nat)]))
  replace hk0 : Hid (Blk ((w.alloc (.cells #[.int .i64 (m : Nat), .int .i64 (s : Nat), .int .i64 (sl : Nat), .int .i64 (p : Nat), .int .i64 (u : Nat)] 33)).alloc (.cells #[.int .i64 0, .int .i64 0, .int .i64 0, .int .i64 0, .int .i64 0] 33)) (w.heap.size) 33 #[.int .i64 (m : Nat), .int .i64 (s : Nat), .int .i64 (sl : Nat), .int .i64 (p : Nat), .int .i64 (u : Nat)]) := Lib.hid (hk0.out.alloc _)
  have hk1 : Hid (Blk ((w.alloc (.cells #[.int .i64 (m : Nat), .int .i64 (s : Nat), .int .i64 (sl : Nat), .int .i64 (p : Nat), .int .i64 (u : Nat)] 33)).alloc (.cells #[.int .i64 0, .int .i64 0, .int .i64 0, .int .i64 0, .int .i64 0] 33)) (w.heap.size + 1) 33 #[.int .i64 0, .int .i64 0, .int .i64 0, .int .i64 0, .int .i64 0]) := Lib.hid ((Blk.new (w.alloc (.cells #[.int .i64 (m : Nat), .int .i64 (s : Nat), .int .i64 (sl : Nat), .int .i64 (p : Nat), .int .i64 (u : Nat)] 33)) 33 #[.int .i64 0, .int .i64 0, .int .i64 0, .int .i64 0, .int .i64 0]) |> fun h => by simpa using h)
  have b1 : Hid (Below w.heap.size w ((w.alloc (.cells #[.int .i64 (m : Nat), .int .i64 (s : Nat), .int .i64 (sl : Nat), .int .i64 (p : Nat), .int .i64 (u : Nat)] 33)).alloc (.cells #[.int .i64 0, .int .i64 0, .int .i64 0, .int .i64 0, .int .i64 0] 33))) := Lib.hid (((Below.refl w.heap.size w).alloc (Nat.le_refl _) (.cells #[.int .i64 (m : Nat), .int .i64 (s : Nat), .int .i64 (sl : Nat), .int .i64 (p : Nat), .int .i64 (u : Nat)] 33)).alloc (by simp <;> omega) (.cells #[.int .i64 0, .int .i64 0, .int .i64 0, .int .i64 0, .int .i64 0] 33))
  have hz : ((w.alloc (.cells #[.int .i64 (m : Nat), .int .i64 (s : Nat), .int .i64 (sl : Nat), .int .i64 (p : Nat), .int .i64 (u : Nat)] 33)).alloc (.cells #[.int .i64 0, .int .i64 0, .int .i64 0, .int .i64 0, .int .i64 0] 33)).heap.size = w.heap.size + 2 := by simp
  generalize ((w.alloc (.cells #[.int .i64 (m : Nat), .int .i64 (s : Nat), .int .i64 (sl : Nat), .int .i64 (p : Nat), .int .i64 (u : Nat)] 33)).alloc (.cells #[.int .i64 0, .int .i64 0, .int .i64 0, .int .i64 0, .int .i64 0] 33)) = w2 at hk0 hk1 b1 hz ⊢
  have HZ := Lib.hid hz
  clear hz
  refine GH.wp_ghl2 (M := false) 9 ((GH.SP.eq (.pointer (some ⟨w.heap.size, 4, none⟩))) :: (GH.SP.eq (.int .i64 (u : Nat))) :: (GH.SP.eq (.int .i64 n)) :: (GH.SP.eq (.int .i64 (k : Nat))) :: (GH.SP.eq (.int .i64 d)) :: (GH.SP.eq (.pointer (some ⟨w.heap.size, 4, none⟩))) :: (GH.SP.eq (.int .i64 (u : Nat))) :: (GH.SP.eq (.int .i64 (u1 : Nat))) :: (GH.SP.eq (.pointer (some ⟨w.heap.size, 4, none⟩))) :: []) (none :: none :: none :: none :: none :: (some 0) :: (some 1) :: (some 2) :: (some 3) :: (some 4) :: (some 5) :: (some 6) :: (some 7) :: (some 8) :: none :: []) [5, 6, 7, 8, 9, 10, 11, 12, 13] (by rfl) (by kernel_rfl) (by kernel_rfl) ?_ ?_ ?_
  · intro S jx v hjx
    match jx, hjx with
    | 0, _ => rfl
    | 1, _ => rfl
    | 2, _ => rfl
    | 3, _ => rfl
    | 4, _ => rfl
    | 5, _ => rfl
    | 6, _ => rfl
    | 7, _ => rfl
    | 8, _ => rfl
    | nx + 9, hjx => omega
  · intro jx hjx S w' hb hd
    match jx, hjx, hd with
    | 0, _, hd =>
      simp only [GH.mkL, List.getD_cons_succ, List.getD_cons_zero]
      clear hd
      refine GH.st_eq (by rfl) ?_
      go_simp
      (try with_reducible rfl)
    | 1, _, hd =>
      simp only [GH.mkL, List.getD_cons_succ, List.getD_cons_zero]
      have d0 : S 0 = .pointer (some ⟨w.heap.size, 4, none⟩) := (hd 0 (by kernel_rfl)).2
      rw [d0]
      clear d0
      clear hd
      exact GH.st_load _ (by rfl) rfl rfl (((hk0.out.below hb.below hk0.out.lt)).cell 4) (by kernel_rfl)
    | 2, _, hd =>
      simp only [GH.mkL, List.getD_cons_succ, List.getD_cons_zero]
      clear hd
      refine GH.st_eq (by rfl) ?_
      go_simp
      (try with_reducible rfl)
    | 3, _, hd =>
      simp only [GH.mkL, List.getD_cons_succ, List.getD_cons_zero]
      have d2 : S 2 = .int .i64 n := (hd 2 (by kernel_rfl)).2
      rw [d2]
      clear d2
      clear hd
      refine GH.st_call (by rfl) hb.below.size (by go_simp) ((HK.out w').mono ?_)
      rintro e w9 ⟨rfl, hb9⟩
      exact ⟨_, rfl, hb9, rfl⟩
    | 4, _, hd =>
      simp only [GH.mkL, List.getD_cons_succ, List.getD_cons_zero]
      have d1 : S 1 = .int .i64 (u : Nat) := (hd 1 (by kernel_rfl)).2
      rw [d1]
      clear d1
      have d3 : S 3 = .int .i64 (k : Nat) := (hd 3 (by kernel_rfl)).2
      rw [d3]
      clear d3
      clear hd
      refine GH.st_eq (by rfl) ?_
      go_simp
      (try simp only [e1, w1'])
      (try with_reducible rfl)
    | 5, _, hd =>
      simp only [GH.mkL, List.getD_cons_succ, List.getD_cons_zero]
      clear hd
      refine GH.st_eq (by rfl) ?_
      go_simp
      (try with_reducible rfl)
    | 6, _, hd =>
      simp only [GH.mkL, List.getD_cons_succ, List.getD_cons_zero]
      have d5 : S 5 = .pointer (some ⟨w.heap.size, 4, none⟩) := (hd 5 (by kernel_rfl)).2
      rw [d5]
      clear d5
      clear hd
      exact GH.st_load _ (by rfl) rfl rfl (((hk0.out.below hb.below hk0.out.lt)).cell 4) (by kernel_rfl)
    | 7, _, hd =>
      simp only [GH.mkL, List.getD_cons_succ, List.getD_cons_zero]
      have d3 : S 3 = .int .i64 (k : Nat) := (hd 3 (by kernel_rfl)).2
      rw [d3]
      clear d3
      have d4 : S 4 = .int .i64 d := (hd 4 (by kernel_rfl)).2
      rw [d4]
      clear d4
      have d6 : S 6 = .int .i64 (u : Nat) := (hd 6 (by kernel_rfl)).2
      rw [d6]
      clear d6
      clear hd
      refine GH.st_call (by rfl) hb.below.size (by go_simp) ((HU.out w').mono ?_)
      rintro e w9 ⟨rfl, hb9⟩
      exact ⟨_, rfl, hb9, rfl⟩
    | 8, _, hd =>
      simp only [GH.mkL, List.getD_cons_succ, List.getD_cons_zero]
      have d0 : S 0 = .pointer (some ⟨w.heap.size, 4, none⟩) := (hd 0 (by kernel_rfl)).2
      rw [d0]
      clear d0
      have d1 : S 1 = .int .i64 (u : Nat) := (hd 1 (by kernel_rfl)).2
      rw [d1]
      clear d1
      have d2 : S 2 = .int .i64 n := (hd 2 (by kernel_rfl)).2
      rw [d2]
      clear d2
      have d3 : S 3 = .int .i64 (k : Nat) := (hd 3 (by kernel_rfl)).2
      rw [d3]
      clear d3
      have d4 : S 4 = .int .i64 d := (hd 4 (by kernel_rfl)).2
      rw [d4]
      clear d4
      have d5 : S 5 = .pointer (some ⟨w.heap.size, 4, none⟩) := (hd 5 (by kernel_rfl)).2
      rw [d5]
      clear d5
      have d6 : S 6 = .int .i64 (u : Nat) := (hd 6 (by kernel_rfl)).2
      rw [d6]
      clear d6
      have d7 : S 7 = .int .i64 (u1 : Nat) := (hd 7 (by kernel_rfl)).2
      rw [d7]
      clear d7
      clear hd
      refine GH.st_eq (by rfl) ?_
      go_simp
      (try with_reducible rfl)
    | nx + 9, hjx, _ => omega
  intro S w' hb hG
  simp only [GH.mkL, List.drop_succ_cons, List.drop_zero]
  have d7 : S 7 = .int .i64 (u1 : Nat) := hG 7 (by omega)
  rw [d7]
  clear d7
  have d8 : S 8 = .pointer (some ⟨w.heap.size, 4, none⟩) := hG 8 (by omega)
  rw [d8]
  clear d8
  clear hG
  have KF := hk0.out.below hb.below hk0.out.lt
  have KR := hk1.out.below hb.below hk1.out.lt
  have B9 := Lib.hid (b1.out.trans (hb.below.mono b1.out.size))
  have f4 := KF.frozen 4
  obtain ⟨c0, c1, c2, c3, c4⟩ := ptc5 KF
  have HKF := Lib.hid KF
  have HKR := Lib.hid KR
  clear KF KR hb b1 hk0 hk1 HZ
  go_upto_region 2 with fail
  have K3 := Lib.hid (show Blk (w'.setCell ⟨w.heap.size, 4, none⟩ (.int .i64 (u1 : Nat))) w.heap.size 33 #[.int .i64 (m : Nat), .int .i64 (s : Nat), .int .i64 (sl : Nat), .int .i64 (p : Nat), .int .i64 (u1 : Nat)] from HKF.out.set 4 _)
  have R3 := Lib.hid (Solo.blk (Solo.refl.setCell 4 (.int .i64 (u1 : Nat))) HKR.out (by omega) : Blk (w'.setCell ⟨w.heap.size, 4, none⟩ (.int .i64 (u1 : Nat))) _ _ _)
  have B3 := Lib.hid (B9.out.trans (Solo.refl.setCell 4 (.int .i64 (u1 : Nat)) : Solo w.heap.size w' (w'.setCell ⟨w.heap.size, 4, none⟩ (.int .i64 (u1 : Nat)))).1)
  generalize w'.setCell ⟨w.heap.size, 4, none⟩ (.int .i64 (u1 : Nat)) = w3 at K3 R3 B3 ⊢
  clear HKF HKR B9 c0 c1 c2 c3 c4 f4
  obtain ⟨c0, c1, c2, c3, c4⟩ := ptc5 K3.out
  have r0 := R3.out.frozen 0
  have r1 := R3.out.frozen 1
  have r2 := R3.out.frozen 2
  have r3 := R3.out.frozen 3
  have r4 := R3.out.frozen 4
  obtain ⟨q0, q1, q2, q3, q4⟩ := ptc5 R3.out
  go_wp2_with fail
  exact bodyPost_ret (results_agg Try.results17 (g := w.heap.size + 1) (pt5 _ _ _ _ _ R3.out) (by rfl) (by kernel_rfl) (by kernel_rfl)) rfl ⟨rfl, B3.out.trans ((pts5 _ _ _ _ _).1.mono (by omega))⟩
end Go.Proofs.Ytpjfheojlcahgaa
