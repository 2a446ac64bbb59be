/- Layer 13: a window's calls. -/
import Derived.Test.YtpjfheojlcahgaaCw3
namespace Go.Proofs.Ytpjfheojlcahgaa
open Go.RowKit
set_option linter.unusedVariables false
set_option linter.unusedSimpArgs false
def Wn (w : World) (g m s sl p u : Nat) : Prop := Blk w g 55 #[.int .i64 (m : Nat), .int .i64 (s : Nat), .int .i64 (sl : Nat), .int .i64 (p : Nat), .int .i64 (u : Nat)]
structure WOk (m s sl p u : Nat) : Prop where
  m1 : 1 ≤ m
  m2 : m ≤ 1024
  s1 : m ≤ s
  s2 : s ≤ 64 * m
  sl2 : sl ≤ 65536
  p2 : p ≤ 1023
  u2 : u ≤ 1000000000
theorem WOk.s3 {m s sl p u : Nat} (h : WOk m s sl p u) : s ≤ 65536 := by have := h.s2; have := h.m2; omega
def bdB (n : Int) : Nat := clN 0 1024 n
theorem bdB_le (n : Int) : bdB n ≤ 1024 := clN_le (by omega) n
theorem bdB_idem (n : Int) : bdB ((bdB n : Nat) : Int) = bdB n := clN_of (by omega) (bdB_le n)
def grS (m s n : Nat) : Nat := min (s + n) (64 * m)
/-- What is added to the part. -/
def ackA (m s k : Nat) (l : List (Int × Int)) : Nat := min (alL l * (k * m) / max (totL l) s) (1024 * (k * m) / s)
def ackS (m s sl p k : Nat) (l : List (Int × Int)) : Nat := if s < sl then grS m s k else grS m s ((p + ackA m s k l) / 1024)
def ackP (m s sl p k : Nat) (l : List (Int × Int)) : Nat := if s < sl then p else (p + ackA m s k l) % 1024
theorem cwbd (n : Int) (hn : (Lit.int .i64 n).wf = true) : Hid (∀ w', Calls Try.prog 29 #[.int .i64 n] w' fun e w'' => e = .returned (.int .i64 (bdB n : Nat)) ∧ Below w'.heap.size w' w'') :=
  Lib.hid fun w' => (cwbound_any n w' hn).mono (by rintro e w'' ⟨rfl, rfl⟩; exact ⟨rfl, Below.refl _ _⟩)
set_option maxRecDepth 20000 in
set_option maxHeartbeats 4000000 in
theorem cwnew_any (n : Int) (w : World) (hn : (Lit.int .i64 n).wf = true) :
    Calls Try.prog 10 #[.int .i64 n] w fun e w' => e = .returned (.pointer (some ⟨w.heap.size, 0, none⟩)) ∧ Wn w' w.heap.size (clN 1 1024 n) (4 * clN 1 1024 n) (64 * clN 1 1024 n) 0 0 ∧ Below w.heap.size w w' := by
  have hmb : clN 1 1024 n ≤ 1024 := clN_le (by omega) n
  obtain ⟨k, hk⟩ : ∃ k, k = clN 0 1024 n := ⟨_, rfl⟩
  obtain ⟨m, hm⟩ : ∃ m, m = clN 1 1024 n := ⟨_, rfl⟩
  have HB := Lib.hid (cwbound_any n · hn)
  have e1 : (if (k : Int) < 1 then (1 : Int) else (k : Int)) = (m : Nat) := by rw [hk, hm]; unfold clN; split <;> (try split) <;> (try split) <;> (try split) <;> omega
  rw [← hk] at HB
  rw [← hm] at hmb ⊢
  clear hk
  by_cases h1 : k < 1
  · have h1' : (k : Int) < 1 := by omega
    rw [if_pos h1'] at e1
    obtain rfl : m = 1 := by omega
    clear hm e1
    go_enter Try.func10, Try.ntmps10
    go_wp2_with fail
    refine (HB.out _).mono ?_
    rintro e w1 ⟨rfl, rfl⟩
    go_wp2_with fail
    go_ret
    exact ⟨rfl, Blk.new w1 _ _, (Below.refl _ _).alloc (Nat.le_refl _) _⟩
  · have h1' : ¬ (k : Int) < 1 := by omega
    rw [if_neg h1'] at e1
    obtain rfl : k = m := by omega
    clear hm e1
    go_enter Try.func10, Try.ntmps10
    go_wp2_with fail
    refine (HB.out _).mono ?_
    rintro e w1 ⟨rfl, rfl⟩
    go_wp2_with fail
    go_ret
    refine ⟨rfl, ?_, (Below.refl _ _).alloc (Nat.le_refl _) _⟩
    have := Blk.new w1 55 #[.int .i64 (k : Nat), .int .i64 (4 * (k : Int)), .int .i64 (64 * (k : Int)), .int .i64 0, .int .i64 0]
    unfold Wn
    push_cast
    exact this
set_option maxRecDepth 20000 in
set_option maxHeartbeats 4000000 in
theorem cwsent_any (g m s sl p u : Nat) (n : Int) (w : World) (h : Wn w g m s sl p u) (ho : WOk m s sl p u) (hn : (Lit.int .i64 n).wf = true) :
    Calls Try.prog 12 #[.pointer (some ⟨g, 0, none⟩), .int .i64 n] w fun e w' => e = .returned (.tuple #[]) ∧ Wn w' g m s sl p (u + bdB n) ∧ Tou g w w' := by
  have hub := ho.u2
  have hkb := bdB_le n
  have HK := cwbd n hn
  obtain ⟨k, hk⟩ : ∃ k, k = bdB n := ⟨_, rfl⟩
  rw [← hk] at hkb HK ⊢
  obtain ⟨u1, hu1⟩ : ∃ u1, u1 = u + k := ⟨_, rfl⟩
  have e1 : (u : Int) + (k : Int) = (u1 : Nat) := by omega
  have w1' : IntKind.i64.wrap (u1 : Int) = (u1 : Nat) := by rw [IntKind.wrap_i64]; omega
  rw [← hu1]
  have K0 := Lib.hid (show Blk w g 55 #[.int .i64 (m : Nat), .int .i64 (s : Nat), .int .i64 (sl : Nat), .int .i64 (p : Nat), .int .i64 (u : Nat)] from h)
  clear h ho hn hk hkb hub hu1
  go_enter Try.func12, Try.ntmps12
  refine GH.wp_ghl2 (M := false) 9 ((GH.SP.eq (.pointer (some ⟨g, 0, none⟩))) :: (GH.SP.eq (.pointer (some ⟨g, 0, none⟩))) :: (GH.SP.eq (.pointer (some ⟨g, 4, none⟩))) :: (GH.SP.eq (.int .i64 (u : Nat))) :: (GH.SP.eq (.int .i64 n)) :: (GH.SP.eq (.int .i64 (k : Nat))) :: (GH.SP.eq (.int .i64 (u1 : Nat))) :: (GH.SP.eq (.pointer (some ⟨g, 0, none⟩))) :: (GH.SP.eq (.pointer (some ⟨g, 4, none⟩))) :: []) (none :: none :: none :: none :: (some 0) :: (some 1) :: (some 2) :: (some 3) :: (some 4) :: (some 5) :: (some 6) :: (some 7) :: (some 8) :: []) [4, 5, 6, 7, 8, 9, 10, 11, 12] (by rfl) (by kernel_rfl) (by kernel_rfl) ?_ ?_ ?_
  · intro S jx v hjx
    match jx, hjx with
    | 0, _ => rfl
    | 1, _ => rfl
    | 2, _ => rfl
    | 3, _ => rfl
    | 4, _ => rfl
    | 5, _ => rfl
    | 6, _ => rfl
    | 7, _ => rfl
    | 8, _ => rfl
    | nx + 9, hjx => omega
  · intro jx hjx S w' hb hd
    match jx, hjx, hd with
    | 0, _, hd =>
      simp only [GH.mkL, List.getD_cons_succ, List.getD_cons_zero]
      clear hd
      refine GH.st_eq (by rfl) ?_
      go_simp
      (try with_reducible rfl)
    | 1, _, hd =>
      simp only [GH.mkL, List.getD_cons_succ, List.getD_cons_zero]
      have d0 : S 0 = .pointer (some ⟨g, 0, none⟩) := (hd 0 (by kernel_rfl)).2
      rw [d0]
      clear d0
      clear hd
      refine GH.st_eq (by rfl) ?_
      go_simp
      (try with_reducible rfl)
    | 2, _, hd =>
      simp only [GH.mkL, List.getD_cons_succ, List.getD_cons_zero]
      have d1 : S 1 = .pointer (some ⟨g, 0, none⟩) := (hd 1 (by kernel_rfl)).2
      rw [d1]
      clear d1
      clear hd
      refine GH.st_eq (by rfl) ?_
      go_simp
      (try with_reducible rfl)
    | 3, _, hd =>
      simp only [GH.mkL, List.getD_cons_succ, List.getD_cons_zero]
      have d2 : S 2 = .pointer (some ⟨g, 4, none⟩) := (hd 2 (by kernel_rfl)).2
      rw [d2]
      clear d2
      clear hd
      exact GH.st_load _ (by rfl) rfl rfl (((K0.out.below hb.below K0.out.lt)).cell 4) (by kernel_rfl)
    | 4, _, hd =>
      simp only [GH.mkL, List.getD_cons_succ, List.getD_cons_zero]
      clear hd
      refine GH.st_eq (by rfl) ?_
      go_simp
      (try with_reducible rfl)
    | 5, _, hd =>
      simp only [GH.mkL, List.getD_cons_succ, List.getD_cons_zero]
      have d4 : S 4 = .int .i64 n := (hd 4 (by kernel_rfl)).2
      rw [d4]
      clear d4
      clear hd
      refine GH.st_call (by rfl) hb.below.size (by go_simp) ((HK.out w').mono ?_)
      rintro e w9 ⟨rfl, hb9⟩
      exact ⟨_, rfl, hb9, rfl⟩
    | 6, _, hd =>
      simp only [GH.mkL, List.getD_cons_succ, List.getD_cons_zero]
      have d3 : S 3 = .int .i64 (u : Nat) := (hd 3 (by kernel_rfl)).2
      rw [d3]
      clear d3
      have d5 : S 5 = .int .i64 (k : Nat) := (hd 5 (by kernel_rfl)).2
      rw [d5]
      clear d5
      clear hd
      refine GH.st_eq (by rfl) ?_
      go_simp
      (try simp only [e1, w1'])
      (try with_reducible rfl)
    | 7, _, hd =>
      simp only [GH.mkL, List.getD_cons_succ, List.getD_cons_zero]
      have d0 : S 0 = .pointer (some ⟨g, 0, none⟩) := (hd 0 (by kernel_rfl)).2
      rw [d0]
      clear d0
      have d1 : S 1 = .pointer (some ⟨g, 0, none⟩) := (hd 1 (by kernel_rfl)).2
      rw [d1]
      clear d1
      have d2 : S 2 = .pointer (some ⟨g, 4, none⟩) := (hd 2 (by kernel_rfl)).2
      rw [d2]
      clear d2
      have d3 : S 3 = .int .i64 (u : Nat) := (hd 3 (by kernel_rfl)).2
      rw [d3]
      clear d3
      have d4 : S 4 = .int .i64 n := (hd 4 (by kernel_rfl)).2
      rw [d4]
      clear d4
      have d5 : S 5 = .int .i64 (k : Nat) := (hd 5 (by kernel_rfl)).2
      rw [d5]
      clear d5
      have d6 : S 6 = .int .i64 (u1 : Nat) := (hd 6 (by kernel_rfl)).2
      rw [d6]
      clear d6
      clear hd
      refine GH.st_eq (by rfl) ?_
      go_simp
      (try with_reducible rfl)
    | 8, _, hd =>
      simp only [GH.mkL, List.getD_cons_succ, List.getD_cons_zero]
      have d0 : S 0 = .pointer (some ⟨g, 0, none⟩) := (hd 0 (by kernel_rfl)).2
      rw [d0]
      clear d0
      have d1 : S 1 = .pointer (some ⟨g, 0, none⟩) := (hd 1 (by kernel_rfl)).2
      rw [d1]
      clear d1
      have d2 : S 2 = .pointer (some ⟨g, 4, none⟩) := (hd 2 (by kernel_rfl)).2
      rw [d2]
      clear d2
      have d3 : S 3 = .int .i64 (u : Nat) := (hd 3 (by kernel_rfl)).2
      rw [d3]
      clear d3
      have d4 : S 4 = .int .i64 n := (hd 4 (by kernel_rfl)).2
      rw [d4]
      clear d4
      have d5 : S 5 = .int .i64 (k : Nat) := (hd 5 (by kernel_rfl)).2
      rw [d5]
      clear d5
      have d6 : S 6 = .int .i64 (u1 : Nat) := (hd 6 (by kernel_rfl)).2
      rw [d6]
      clear d6
      have d7 : S 7 = .pointer (some ⟨g, 0, none⟩) := (hd 7 (by kernel_rfl)).2
      rw [d7]
      clear d7
      clear hd
      refine GH.st_eq (by rfl) ?_
      go_simp
      (try with_reducible rfl)
    | nx + 9, hjx, _ => omega
  intro S w' hb hG
  simp only [GH.mkL, List.drop_succ_cons, List.drop_zero]
  have d0 : S 0 = .pointer (some ⟨g, 0, none⟩) := hG 0 (by omega)
  rw [d0]
  clear d0
  have d6 : S 6 = .int .i64 (u1 : Nat) := hG 6 (by omega)
  rw [d6]
  clear d6
  have d8 : S 8 = .pointer (some ⟨g, 4, none⟩) := hG 8 (by omega)
  rw [d8]
  clear d8
  clear hG
  have KF := K0.out.below hb.below K0.out.lt
  have f9 := KF.frozen 4
  obtain ⟨c0, c1, c2, c3, c4⟩ := ptc5 KF
  have HKF := Lib.hid KF
  have HB := Lib.hid hb
  clear KF hb
  go_wp2_with fail
  go_end0
  exact ⟨rfl, Blk.set HKF.out 4 (.int .i64 (u1 : Nat)), (Tou.of HB.out.below (Nat.le_of_lt K0.out.lt)).solo (Solo.refl.setCell 4 _)⟩
set_option maxRecDepth 20000 in
set_option maxHeartbeats 4000000 in
theorem cwforget_any (g m s sl p u : Nat) (n : Int) (w : World) (h : Wn w g m s sl p u) (ho : WOk m s sl p u) (hn : (Lit.int .i64 n).wf = true) :
    Calls Try.prog 16 #[.pointer (some ⟨g, 0, none⟩), .int .i64 n] w fun e w' => e = .returned (.tuple #[]) ∧ Wn w' g m s sl p (u - bdB n) ∧ Tou g w w' := by
  have hub := ho.u2
  have hkb := bdB_le n
  have HK := cwbd n hn
  obtain ⟨k, hk⟩ : ∃ k, k = bdB n := ⟨_, rfl⟩
  rw [← hk] at hkb HK ⊢
  obtain ⟨u1, hu1⟩ : ∃ u1, u1 = u - k := ⟨_, rfl⟩
  obtain ⟨d, hd⟩ : ∃ d : Int, d = (u : Int) - (k : Int) := ⟨_, rfl⟩
  have e1 : (u : Int) - (k : Int) = d := hd.symm
  have e2 : (if d < 0 then (0 : Int) else d) = (u1 : Nat) := by split <;> omega
  have w1' : IntKind.i64.wrap d = d := by rw [IntKind.wrap_i64]; omega
  rw [← hu1]
  have K0 := Lib.hid (show Blk w g 55 #[.int .i64 (m : Nat), .int .i64 (s : Nat), .int .i64 (sl : Nat), .int .i64 (p : Nat), .int .i64 (u : Nat)] from h)
  clear h ho hn hk hkb hub hu1 hd
  go_enter Try.func16, Try.ntmps16
  refine GH.wp_ghl2 (M := false) 11 ((GH.SP.eq (.pointer (some ⟨g, 0, none⟩))) :: (GH.SP.eq (.pointer (some ⟨g, 0, none⟩))) :: (GH.SP.eq (.pointer (some ⟨g, 0, none⟩))) :: (GH.SP.eq (.pointer (some ⟨g, 4, none⟩))) :: (GH.SP.eq (.int .i64 (u : Nat))) :: (GH.SP.eq (.int .i64 n)) :: (GH.SP.eq (.int .i64 (k : Nat))) :: (GH.SP.eq (.int .i64 d)) :: (GH.SP.eq (.int .i64 (u1 : Nat))) :: (GH.SP.eq (.pointer (some ⟨g, 0, none⟩))) :: (GH.SP.eq (.pointer (some ⟨g, 4, none⟩))) :: []) (none :: none :: none :: none :: (some 0) :: (some 1) :: (some 2) :: (some 3) :: (some 4) :: (some 5) :: (some 6) :: (some 7) :: (some 8) :: (some 9) :: (some 10) :: []) [4, 5, 6, 7, 8, 9, 10, 11, 12, 13, 14] (by rfl) (by kernel_rfl) (by kernel_rfl) ?_ ?_ ?_
  · intro S jx v hjx
    match jx, hjx with
    | 0, _ => rfl
    | 1, _ => rfl
    | 2, _ => rfl
    | 3, _ => rfl
    | 4, _ => rfl
    | 5, _ => rfl
    | 6, _ => rfl
    | 7, _ => rfl
    | 8, _ => rfl
    | 9, _ => rfl
    | 10, _ => rfl
    | nx + 11, hjx => omega
  · intro jx hjx S w' hb hd
    match jx, hjx, hd with
    | 0, _, hd =>
      simp only [GH.mkL, List.getD_cons_succ, List.getD_cons_zero]
      clear hd
      refine GH.st_eq (by rfl) ?_
      go_simp
      (try with_reducible rfl)
    | 1, _, hd =>
      simp only [GH.mkL, List.getD_cons_succ, List.getD_cons_zero]
      clear hd
      refine GH.st_eq (by rfl) ?_
      go_simp
      (try with_reducible rfl)
    | 2, _, hd =>
      simp only [GH.mkL, List.getD_cons_succ, List.getD_cons_zero]
      have d1 : S 1 = .pointer (some ⟨g, 0, none⟩) := (hd 1 (by kernel_rfl)).2
      rw [d1]
      clear d1
      clear hd
      refine GH.st_eq (by rfl) ?_
      go_simp
      (try with_reducible rfl)
    | 3, _, hd =>
      simp only [GH.mkL, List.getD_cons_succ, List.getD_cons_zero]
      have d2 : S 2 = .pointer (some ⟨g, 0, none⟩) := (hd 2 (by kernel_rfl)).2
      rw [d2]
      clear d2
      clear hd
      refine GH.st_eq (by rfl) ?_
      go_simp
      (try with_reducible rfl)
    | 4, _, hd =>
      simp only [GH.mkL, List.getD_cons_succ, List.getD_cons_zero]
      have d3 : S 3 = .pointer (some ⟨g, 4, none⟩) := (hd 3 (by kernel_rfl)).2
      rw [d3]
      clear d3
      clear hd
      exact GH.st_load _ (by rfl) rfl rfl (((K0.out.below hb.below K0.out.lt)).cell 4) (by kernel_rfl)
    | 5, _, hd =>
      simp only [GH.mkL, List.getD_cons_succ, List.getD_cons_zero]
      clear hd
      refine GH.st_eq (by rfl) ?_
      go_simp
      (try with_reducible rfl)
    | 6, _, hd =>
      simp only [GH.mkL, List.getD_cons_succ, List.getD_cons_zero]
      have d5 : S 5 = .int .i64 n := (hd 5 (by kernel_rfl)).2
      rw [d5]
      clear d5
      clear hd
      refine GH.st_call (by rfl) hb.below.size (by go_simp) ((HK.out w').mono ?_)
      rintro e w9 ⟨rfl, hb9⟩
      exact ⟨_, rfl, hb9, rfl⟩
    | 7, _, hd =>
      simp only [GH.mkL, List.getD_cons_succ, List.getD_cons_zero]
      have d4 : S 4 = .int .i64 (u : Nat) := (hd 4 (by kernel_rfl)).2
      rw [d4]
      clear d4
      have d6 : S 6 = .int .i64 (k : Nat) := (hd 6 (by kernel_rfl)).2
      rw [d6]
      clear d6
      clear hd
      refine GH.st_eq (by rfl) ?_
      go_simp
      (try simp only [e1, w1'])
      (try with_reducible rfl)
    | 8, _, hd =>
      simp only [GH.mkL, List.getD_cons_succ, List.getD_cons_zero]
      have d7 : S 7 = .int .i64 d := (hd 7 (by kernel_rfl)).2
      rw [d7]
      clear d7
      clear hd
      refine GH.st_eq (by rfl) ?_
      go_simp
      (try exact e2)
    | 9, _, hd =>
      simp only [GH.mkL, List.getD_cons_succ, List.getD_cons_zero]
      have d0 : S 0 = .pointer (some ⟨g, 0, none⟩) := (hd 0 (by kernel_rfl)).2
      rw [d0]
      clear d0
      have d1 : S 1 = .pointer (some ⟨g, 0, none⟩) := (hd 1 (by kernel_rfl)).2
      rw [d1]
      clear d1
      have d2 : S 2 = .pointer (some ⟨g, 0, none⟩) := (hd 2 (by kernel_rfl)).2
      rw [d2]
      clear d2
      have d3 : S 3 = .pointer (some ⟨g, 4, none⟩) := (hd 3 (by kernel_rfl)).2
      rw [d3]
      clear d3
      have d4 : S 4 = .int .i64 (u : Nat) := (hd 4 (by kernel_rfl)).2
      rw [d4]
      clear d4
      have d5 : S 5 = .int .i64 n := (hd 5 (by kernel_rfl)).2
      rw [d5]
      clear d5
      have d6 : S 6 = .int .i64 (k : Nat) := (hd 6 (by kernel_rfl)).2
      rw [d6]
      clear d6
      have d7 : S 7 = .int .i64 d := (hd 7 (by kernel_rfl)).2
      rw [d7]
      clear d7
      have d8 : S 8 = .int .i64 (u1 : Nat) := (hd 8 (by kernel_rfl)).2
      rw [d8]
      clear d8
      clear hd
      refine GH.st_eq (by rfl) ?_
      go_simp
      (try with_reducible rfl)
    | 10, _, hd =>
      simp only [GH.mkL, List.getD_cons_succ, List.getD_cons_zero]
      have d0 : S 0 = .pointer (some ⟨g, 0, none⟩) := (hd 0 (by kernel_rfl)).2
      rw [d0]
      clear d0
      have d1 : S 1 = .pointer (some ⟨g, 0, none⟩) := (hd 1 (by kernel_rfl)).2
      rw [d1]
      clear d1
      have d2 : S 2 = .pointer (some ⟨g, 0, none⟩) := (hd 2 (by kernel_rfl)).2
      rw [d2]
      clear d2
      have d3 : S 3 = .pointer (some ⟨g, 4, none⟩) := (hd 3 (by kernel_rfl)).2
      rw [d3]
      clear d3
      have d4 : S 4 = .int .i64 (u : Nat) := (hd 4 (by kernel_rfl)).2
      rw [d4]
      clear d4
      have d5 : S 5 = .int .i64 n := (hd 5 (by kernel_rfl)).2
      rw [d5]
      clear d5
      have d6 : S 6 = .int .i64 (k : Nat) := (hd 6 (by kernel_rfl)).2
      rw [d6]
      clear d6
      have d7 : S 7 = .int .i64 d := (hd 7 (by kernel_rfl)).2
      rw [d7]
      clear d7
      have d8 : S 8 = .int .i64 (u1 : Nat) := (hd 8 (by kernel_rfl)).2
      rw [d8]
      clear d8
      have d9 : S 9 = .pointer (some ⟨g, 0, none⟩) := (hd 9 (by kernel_rfl)).2
      rw [d9]
      clear d9
      clear hd
      refine GH.st_eq (by rfl) ?_
      go_simp
      (try with_reducible rfl)
    | nx + 11, hjx, _ => omega
  intro S w' hb hG
  simp only [GH.mkL, List.drop_succ_cons, List.drop_zero]
  have d8 : S 8 = .int .i64 (u1 : Nat) := hG 8 (by omega)
  rw [d8]
  clear d8
  have d10 : S 10 = .pointer (some ⟨g, 4, none⟩) := hG 10 (by omega)
  rw [d10]
  clear d10
  clear hG
  have KF := K0.out.below hb.below K0.out.lt
  have f9 := KF.frozen 4
  obtain ⟨c0, c1, c2, c3, c4⟩ := ptc5 KF
  have HKF := Lib.hid KF
  have HB := Lib.hid hb
  clear KF hb
  go_wp2_with fail
  go_end0
  exact ⟨rfl, Blk.set HKF.out 4 (.int .i64 (u1 : Nat)), (Tou.of HB.out.below (Nat.le_of_lt K0.out.lt)).solo (Solo.refl.setCell 4 _)⟩
set_option maxRecDepth 20000 in
set_option maxHeartbeats 4000000 in
theorem cwgrow_any (g m s sl p u n : Nat) (w : World) (h : Wn w g m s sl p u) (hsb : s ≤ 65536) (hmb : m ≤ 1024) (hn : n ≤ 1000000000) :
    Calls Try.prog 30 #[.pointer (some ⟨g, 0, none⟩), .int .i64 (n : Nat)] w fun e w' => e = .returned (.tuple #[]) ∧ Wn w' g m (grS m s n) sl p u ∧ Tou g w w' := by
  obtain ⟨a, ha⟩ : ∃ a, a = s + n := ⟨_, rfl⟩
  obtain ⟨b, hb0⟩ : ∃ b, b = 64 * m := ⟨_, rfl⟩
  obtain ⟨x, hx⟩ : ∃ x, x = grS m s n := ⟨_, rfl⟩
  have e1 : (s : Int) + (n : Int) = (a : Nat) := by omega
  have e2 : (64 : Int) * (m : Int) = (b : Nat) := by omega
  have e3 : (if b < a then (b : Int) else (a : Int)) = (x : Nat) := by rw [hx]; unfold grS; rw [← ha, ← hb0]; split <;> omega
  have w1' : IntKind.i64.wrap (a : Int) = (a : Nat) := by rw [IntKind.wrap_i64]; omega
  have w2' : IntKind.i64.wrap (b : Int) = (b : Nat) := by rw [IntKind.wrap_i64]; omega
  rw [← hx]
  have K0 := Lib.hid (show Blk w g 55 #[.int .i64 (m : Nat), .int .i64 (s : Nat), .int .i64 (sl : Nat), .int .i64 (p : Nat), .int .i64 (u : Nat)] from h)
  clear h hn hsb hmb ha hb0 hx
  go_enter Try.func30, Try.ntmps30
  refine GH.wp_ghl2 (M := false) 15 ((GH.SP.eq (.pointer (some ⟨g, 0, none⟩))) :: (GH.SP.eq (.pointer (some ⟨g, 0, none⟩))) :: (GH.SP.eq (.pointer (some ⟨g, 0, none⟩))) :: (GH.SP.eq (.pointer (some ⟨g, 1, none⟩))) :: (GH.SP.eq (.int .i64 (s : Nat))) :: (GH.SP.eq (.int .i64 (n : Nat))) :: (GH.SP.eq (.int .i64 (a : Nat))) :: (GH.SP.eq (.pointer (some ⟨g, 0, none⟩))) :: (GH.SP.eq (.pointer (some ⟨g, 0, none⟩))) :: (GH.SP.eq (.pointer (some ⟨g, 0, none⟩))) :: (GH.SP.eq (.int .i64 (m : Nat))) :: (GH.SP.eq (.int .i64 (b : Nat))) :: (GH.SP.eq (.int .i64 (x : Nat))) :: (GH.SP.eq (.pointer (some ⟨g, 0, none⟩))) :: (GH.SP.eq (.pointer (some ⟨g, 1, none⟩))) :: []) (none :: none :: none :: none :: (some 0) :: (some 1) :: (some 2) :: (some 3) :: (some 4) :: (some 5) :: (some 6) :: (some 7) :: (some 8) :: (some 9) :: (some 10) :: (some 11) :: (some 12) :: (some 13) :: (some 14) :: []) [4, 5, 6, 7, 8, 9, 10, 11, 12, 13, 14, 15, 16, 17, 18] (by rfl) (by kernel_rfl) (by kernel_rfl) ?_ ?_ ?_
  · intro S jx v hjx
    match jx, hjx with
    | 0, _ => rfl
    | 1, _ => rfl
    | 2, _ => rfl
    | 3, _ => rfl
    | 4, _ => rfl
    | 5, _ => rfl
    | 6, _ => rfl
    | 7, _ => rfl
    | 8, _ => rfl
    | 9, _ => rfl
    | 10, _ => rfl
    | 11, _ => rfl
    | 12, _ => rfl
    | 13, _ => rfl
    | 14, _ => rfl
    | nx + 15, hjx => omega
  · intro jx hjx S w' hb hd
    match jx, hjx, hd with
    | 0, _, hd =>
      simp only [GH.mkL, List.getD_cons_succ, List.getD_cons_zero]
      clear hd
      refine GH.st_eq (by rfl) ?_
      go_simp
      (try with_reducible rfl)
    | 1, _, hd =>
      simp only [GH.mkL, List.getD_cons_succ, List.getD_cons_zero]
      clear hd
      refine GH.st_eq (by rfl) ?_
      go_simp
      (try with_reducible rfl)
    | 2, _, hd =>
      simp only [GH.mkL, List.getD_cons_succ, List.getD_cons_zero]
      have d1 : S 1 = .pointer (some ⟨g, 0, none⟩) := (hd 1 (by kernel_rfl)).2
      rw [d1]
      clear d1
      clear hd
      refine GH.st_eq (by rfl) ?_
      go_simp
      (try with_reducible rfl)
    | 3, _, hd =>
      simp only [GH.mkL, List.getD_cons_succ, List.getD_cons_zero]
      have d2 : S 2 = .pointer (some ⟨g, 0, none⟩) := (hd 2 (by kernel_rfl)).2
      rw [d2]
      clear d2
      clear hd
      refine GH.st_eq (by rfl) ?_
      go_simp
      (try with_reducible rfl)
    | 4, _, hd =>
      simp only [GH.mkL, List.getD_cons_succ, List.getD_cons_zero]
      have d3 : S 3 = .pointer (some ⟨g, 1, none⟩) := (hd 3 (by kernel_rfl)).2
      rw [d3]
      clear d3
      clear hd
      exact GH.st_load _ (by rfl) rfl rfl (((K0.out.below hb.below K0.out.lt)).cell 1) (by kernel_rfl)
    | 5, _, hd =>
      simp only [GH.mkL, List.getD_cons_succ, List.getD_cons_zero]
      clear hd
      refine GH.st_eq (by rfl) ?_
      go_simp
      (try with_reducible rfl)
    | 6, _, hd =>
      simp only [GH.mkL, List.getD_cons_succ, List.getD_cons_zero]
      have d4 : S 4 = .int .i64 (s : Nat) := (hd 4 (by kernel_rfl)).2
      rw [d4]
      clear d4
      have d5 : S 5 = .int .i64 (n : Nat) := (hd 5 (by kernel_rfl)).2
      rw [d5]
      clear d5
      clear hd
      refine GH.st_eq (by rfl) ?_
      go_simp
      (try simp only [e1, w1'])
      (try with_reducible rfl)
    | 7, _, hd =>
      simp only [GH.mkL, List.getD_cons_succ, List.getD_cons_zero]
      clear hd
      refine GH.st_eq (by rfl) ?_
      go_simp
      (try with_reducible rfl)
    | 8, _, hd =>
      simp only [GH.mkL, List.getD_cons_succ, List.getD_cons_zero]
      have d7 : S 7 = .pointer (some ⟨g, 0, none⟩) := (hd 7 (by kernel_rfl)).2
      rw [d7]
      clear d7
      clear hd
      refine GH.st_eq (by rfl) ?_
      go_simp
      (try with_reducible rfl)
    | 9, _, hd =>
      simp only [GH.mkL, List.getD_cons_succ, List.getD_cons_zero]
      have d8 : S 8 = .pointer (some ⟨g, 0, none⟩) := (hd 8 (by kernel_rfl)).2
      rw [d8]
      clear d8
      clear hd
      refine GH.st_eq (by rfl) ?_
      go_simp
      (try with_reducible rfl)
    | 10, _, hd =>
      simp only [GH.mkL, List.getD_cons_succ, List.getD_cons_zero]
      have d9 : S 9 = .pointer (some ⟨g, 0, none⟩) := (hd 9 (by kernel_rfl)).2
      rw [d9]
      clear d9
      clear hd
      exact GH.st_load _ (by rfl) rfl rfl (((K0.out.below hb.below K0.out.lt)).cell 0) (by kernel_rfl)
    | 11, _, hd =>
      simp only [GH.mkL, List.getD_cons_succ, List.getD_cons_zero]
      have d10 : S 10 = .int .i64 (m : Nat) := (hd 10 (by kernel_rfl)).2
      rw [d10]
      clear d10
      clear hd
      refine GH.st_eq (by rfl) ?_
      go_simp
      (try simp only [e2, w2'])
      (try with_reducible rfl)
    | 12, _, hd =>
      simp only [GH.mkL, List.getD_cons_succ, List.getD_cons_zero]
      have d6 : S 6 = .int .i64 (a : Nat) := (hd 6 (by kernel_rfl)).2
      rw [d6]
      clear d6
      have d11 : S 11 = .int .i64 (b : Nat) := (hd 11 (by kernel_rfl)).2
      rw [d11]
      clear d11
      clear hd
      refine GH.st_eq (by rfl) ?_
      go_simp
      (try exact e3)
    | 13, _, hd =>
      simp only [GH.mkL, List.getD_cons_succ, List.getD_cons_zero]
      have d0 : S 0 = .pointer (some ⟨g, 0, none⟩) := (hd 0 (by kernel_rfl)).2
      rw [d0]
      clear d0
      have d1 : S 1 = .pointer (some ⟨g, 0, none⟩) := (hd 1 (by kernel_rfl)).2
      rw [d1]
      clear d1
      have d2 : S 2 = .pointer (some ⟨g, 0, none⟩) := (hd 2 (by kernel_rfl)).2
      rw [d2]
      clear d2
      have d3 : S 3 = .pointer (some ⟨g, 1, none⟩) := (hd 3 (by kernel_rfl)).2
      rw [d3]
      clear d3
      have d4 : S 4 = .int .i64 (s : Nat) := (hd 4 (by kernel_rfl)).2
      rw [d4]
      clear d4
      have d5 : S 5 = .int .i64 (n : Nat) := (hd 5 (by kernel_rfl)).2
      rw [d5]
      clear d5
      have d6 : S 6 = .int .i64 (a : Nat) := (hd 6 (by kernel_rfl)).2
      rw [d6]
      clear d6
      have d7 : S 7 = .pointer (some ⟨g, 0, none⟩) := (hd 7 (by kernel_rfl)).2
      rw [d7]
      clear d7
      have d8 : S 8 = .pointer (some ⟨g, 0, none⟩) := (hd 8 (by kernel_rfl)).2
      rw [d8]
      clear d8
      have d9 : S 9 = .pointer (some ⟨g, 0, none⟩) := (hd 9 (by kernel_rfl)).2
      rw [d9]
      clear d9
      have d10 : S 10 = .int .i64 (m : Nat) := (hd 10 (by kernel_rfl)).2
      rw [d10]
      clear d10
      have d11 : S 11 = .int .i64 (b : Nat) := (hd 11 (by kernel_rfl)).2
      rw [d11]
      clear d11
      have d12 : S 12 = .int .i64 (x : Nat) := (hd 12 (by kernel_rfl)).2
      rw [d12]
      clear d12
      clear hd
      refine GH.st_eq (by rfl) ?_
      go_simp
      (try with_reducible rfl)
    | 14, _, hd =>
      simp only [GH.mkL, List.getD_cons_succ, List.getD_cons_zero]
      have d0 : S 0 = .pointer (some ⟨g, 0, none⟩) := (hd 0 (by kernel_rfl)).2
      rw [d0]
      clear d0
      have d1 : S 1 = .pointer (some ⟨g, 0, none⟩) := (hd 1 (by kernel_rfl)).2
      rw [d1]
      clear d1
      have d2 : S 2 = .pointer (some ⟨g, 0, none⟩) := (hd 2 (by kernel_rfl)).2
      rw [d2]
      clear d2
      have d3 : S 3 = .pointer (some ⟨g, 1, none⟩) := (hd 3 (by kernel_rfl)).2
      rw [d3]
      clear d3
      have d4 : S 4 = .int .i64 (s : Nat) := (hd 4 (by kernel_rfl)).2
      rw [d4]
      clear d4
      have d5 : S 5 = .int .i64 (n : Nat) := (hd 5 (by kernel_rfl)).2
      rw [d5]
      clear d5
      have d6 : S 6 = .int .i64 (a : Nat) := (hd 6 (by kernel_rfl)).2
      rw [d6]
      clear d6
      have d7 : S 7 = .pointer (some ⟨g, 0, none⟩) := (hd 7 (by kernel_rfl)).2
      rw [d7]
      clear d7
      have d8 : S 8 = .pointer (some ⟨g, 0, none⟩) := (hd 8 (by kernel_rfl)).2
      rw [d8]
      clear d8
      have d9 : S 9 = .pointer (some ⟨g, 0, none⟩) := (hd 9 (by kernel_rfl)).2
      rw [d9]
      clear d9
      have d10 : S 10 = .int .i64 (m : Nat) := (hd 10 (by kernel_rfl)).2
      rw [d10]
      clear d10
      have d11 : S 11 = .int .i64 (b : Nat) := (hd 11 (by kernel_rfl)).2
      rw [d11]
      clear d11
      have d12 : S 12 = .int .i64 (x : Nat) := (hd 12 (by kernel_rfl)).2
      rw [d12]
      clear d12
      have d13 : S 13 = .pointer (some ⟨g, 0, none⟩) := (hd 13 (by kernel_rfl)).2
      rw [d13]
      clear d13
      clear hd
      refine GH.st_eq (by rfl) ?_
      go_simp
      (try with_reducible rfl)
    | nx + 15, hjx, _ => omega
  intro S w' hb hG
  simp only [GH.mkL, List.drop_succ_cons, List.drop_zero]
  have d12 : S 12 = .int .i64 (x : Nat) := hG 12 (by omega)
  rw [d12]
  clear d12
  have d14 : S 14 = .pointer (some ⟨g, 1, none⟩) := hG 14 (by omega)
  rw [d14]
  clear d14
  clear hG
  have KF := K0.out.below hb.below K0.out.lt
  have f9 := KF.frozen 1
  obtain ⟨c0, c1, c2, c3, c4⟩ := ptc5 KF
  have HKF := Lib.hid KF
  have HB := Lib.hid hb
  clear KF hb
  go_wp2_with fail
  go_end0
  exact ⟨rfl, Blk.set HKF.out 1 (.int .i64 (x : Nat)), (Tou.of HB.out.below (Nat.le_of_lt K0.out.lt)).solo (Solo.refl.setCell 1 _)⟩
end Go.Proofs.Ytpjfheojlcahgaa
