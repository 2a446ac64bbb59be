/- Layer 13: Lost, Room, Size, Under, Acked. -/
import Derived.Test.YtpjfheojlcahgaaCw4
namespace Go.Proofs.Ytpjfheojlcahgaa
open Go.RowKit
set_option linter.unusedVariables false
set_option linter.unusedSimpArgs false
set_option maxRecDepth 20000 in
set_option maxHeartbeats 4000000 in
theorem cwsize_any (g m s sl p u : Nat) (w : World) (h : Wn w g m s sl p u) :
    Calls Try.prog 20 #[.pointer (some ⟨g, 0, none⟩)] w fun e w' => e = .returned (.int .i64 (s : Nat)) ∧ w' = w := by
  obtain ⟨c0, c1, c2, c3, c4⟩ := ptc5 (show Blk w g 55 #[.int .i64 (m : Nat), .int .i64 (s : Nat), .int .i64 (sl : Nat), .int .i64 (p : Nat), .int .i64 (u : Nat)] from h)
  clear h
  go_enter Try.func20, Try.ntmps20
  go_wp2_with fail
  go_ret
  exact ⟨rfl, rfl⟩
set_option maxRecDepth 20000 in
set_option maxHeartbeats 4000000 in
theorem cwunder_any (g m s sl p u : Nat) (w : World) (h : Wn w g m s sl p u) :
    Calls Try.prog 21 #[.pointer (some ⟨g, 0, none⟩)] w fun e w' => e = .returned (.int .i64 (u : Nat)) ∧ w' = w := by
  obtain ⟨c0, c1, c2, c3, c4⟩ := ptc5 (show Blk w g 55 #[.int .i64 (m : Nat), .int .i64 (s : Nat), .int .i64 (sl : Nat), .int .i64 (p : Nat), .int .i64 (u : Nat)] from h)
  clear h
  go_enter Try.func21, Try.ntmps21
  go_wp2_with fail
  go_ret
  exact ⟨rfl, rfl⟩
set_option maxRecDepth 20000 in
set_option maxHeartbeats 4000000 in
theorem cwroom_any (g m s sl p u : Nat) (w : World) (h : Wn w g m s sl p u) (hs : s ≤ 65536) (hu : u ≤ 1000000000) :
    Calls Try.prog 22 #[.pointer (some ⟨g, 0, none⟩)] w fun e w' => e = .returned (.int .i64 (s - u : Nat)) ∧ Below w.heap.size w w' := by
  obtain ⟨x, hx⟩ : ∃ x, x = s - u := ⟨_, rfl⟩
  obtain ⟨d, hd⟩ : ∃ d : Int, d = (s : Int) - (u : Int) := ⟨_, rfl⟩
  have e1 : (s : Int) - (u : Int) = d := hd.symm
  have e2 : (if d < 0 then (0 : Int) else d) = (x : Nat) := by split <;> omega
  have w1' : IntKind.i64.wrap d = d := by rw [IntKind.wrap_i64]; omega
  rw [← hx]
  have K0 := Lib.hid (show Blk w g 55 #[.int .i64 (m : Nat), .int .i64 (s : Nat), .int .i64 (sl : Nat), .int .i64 (p : Nat), .int .i64 (u : Nat)] from h)
  clear h hs hu hd hx
  go_enter Try.func22, Try.ntmps22
  go_upto_region 1 with fail
  refine GH.wp_ghl (M := false) 11 ((GH.SP.eq (.pointer (some ⟨g, 0, none⟩))) :: (GH.SP.eq (.pointer (some ⟨g, 0, none⟩))) :: (GH.SP.eq (.pointer (some ⟨g, 1, none⟩))) :: (GH.SP.eq (.int .i64 (s : Nat))) :: (GH.SP.eq (.pointer (some ⟨g, 0, none⟩))) :: (GH.SP.eq (.pointer (some ⟨g, 0, none⟩))) :: (GH.SP.eq (.pointer (some ⟨g, 4, none⟩))) :: (GH.SP.eq (.int .i64 (u : Nat))) :: (GH.SP.eq (.int .i64 d)) :: (GH.SP.eq (.int .i64 (x : Nat))) :: (GH.SP.eq (.int .i64 (x : Nat))) :: []) (none :: none :: (some 10) :: (some 0) :: (some 1) :: (some 2) :: (some 3) :: (some 4) :: (some 5) :: (some 6) :: (some 7) :: (some 8) :: (some 9) :: []) [3, 4, 5, 6, 7, 8, 9, 10, 11, 12, 2] (by rfl) (by kernel_rfl) (by kernel_rfl) ?_ ?_ ?_
  · intro S jx v hjx
    match jx, hjx with
    | 0, _ => rfl
    | 1, _ => rfl
    | 2, _ => rfl
    | 3, _ => rfl
    | 4, _ => rfl
    | 5, _ => rfl
    | 6, _ => rfl
    | 7, _ => rfl
    | 8, _ => rfl
    | 9, _ => rfl
    | 10, _ => rfl
    | nx + 11, hjx => omega
  · intro jx hjx S w' hb hd
    match jx, hjx, hd with
    | 0, _, hd =>
      simp only [GH.mkL, List.getD_cons_succ, List.getD_cons_zero]
      clear hd
      refine GH.st_eq (by rfl) ?_
      go_simp
      (try with_reducible rfl)
    | 1, _, hd =>
      simp only [GH.mkL, List.getD_cons_succ, List.getD_cons_zero]
      have d0 : S 0 = .pointer (some ⟨g, 0, none⟩) := (hd 0 (by kernel_rfl)).2
      rw [d0]
      clear d0
      clear hd
      refine GH.st_eq (by rfl) ?_
      go_simp
      (try with_reducible rfl)
    | 2, _, hd =>
      simp only [GH.mkL, List.getD_cons_succ, List.getD_cons_zero]
      have d1 : S 1 = .pointer (some ⟨g, 0, none⟩) := (hd 1 (by kernel_rfl)).2
      rw [d1]
      clear d1
      clear hd
      refine GH.st_eq (by rfl) ?_
      go_simp
      (try with_reducible rfl)
    | 3, _, hd =>
      simp only [GH.mkL, List.getD_cons_succ, List.getD_cons_zero]
      have d2 : S 2 = .pointer (some ⟨g, 1, none⟩) := (hd 2 (by kernel_rfl)).2
      rw [d2]
      clear d2
      clear hd
      exact GH.st_load _ (by rfl) rfl rfl (((K0.out.below hb.below K0.out.lt)).cell 1) (by kernel_rfl)
    | 4, _, hd =>
      simp only [GH.mkL, List.getD_cons_succ, List.getD_cons_zero]
      clear hd
      refine GH.st_eq (by rfl) ?_
      go_simp
      (try with_reducible rfl)
    | 5, _, hd =>
      simp only [GH.mkL, List.getD_cons_succ, List.getD_cons_zero]
      have d4 : S 4 = .pointer (some ⟨g, 0, none⟩) := (hd 4 (by kernel_rfl)).2
      rw [d4]
      clear d4
      clear hd
      refine GH.st_eq (by rfl) ?_
      go_simp
      (try with_reducible rfl)
    | 6, _, hd =>
      simp only [GH.mkL, List.getD_cons_succ, List.getD_cons_zero]
      have d5 : S 5 = .pointer (some ⟨g, 0, none⟩) := (hd 5 (by kernel_rfl)).2
      rw [d5]
      clear d5
      clear hd
      refine GH.st_eq (by rfl) ?_
      go_simp
      (try with_reducible rfl)
    | 7, _, hd =>
      simp only [GH.mkL, List.getD_cons_succ, List.getD_cons_zero]
      have d6 : S 6 = .pointer (some ⟨g, 4, none⟩) := (hd 6 (by kernel_rfl)).2
      rw [d6]
      clear d6
      clear hd
      exact GH.st_load _ (by rfl) rfl rfl (((K0.out.below hb.below K0.out.lt)).cell 4) (by kernel_rfl)
    | 8, _, hd =>
      simp only [GH.mkL, List.getD_cons_succ, List.getD_cons_zero]
      have d3 : S 3 = .int .i64 (s : Nat) := (hd 3 (by kernel_rfl)).2
      rw [d3]
      clear d3
      have d7 : S 7 = .int .i64 (u : Nat) := (hd 7 (by kernel_rfl)).2
      rw [d7]
      clear d7
      clear hd
      refine GH.st_eq (by rfl) ?_
      go_simp
      (try simp only [e1, w1'])
      (try with_reducible rfl)
    | 9, _, hd =>
      simp only [GH.mkL, List.getD_cons_succ, List.getD_cons_zero]
      have d8 : S 8 = .int .i64 d := (hd 8 (by kernel_rfl)).2
      rw [d8]
      clear d8
      clear hd
      refine GH.st_eq (by rfl) ?_
      go_simp
      (try exact e2)
    | 10, _, hd =>
      simp only [GH.mkL, List.getD_cons_succ, List.getD_cons_zero]
      have d0 : S 0 = .pointer (some ⟨g, 0, none⟩) := (hd 0 (by kernel_rfl)).2
      rw [d0]
      clear d0
      have d1 : S 1 = .pointer (some ⟨g, 0, none⟩) := (hd 1 (by kernel_rfl)).2
      rw [d1]
      clear d1
      have d2 : S 2 = .pointer (some ⟨g, 1, none⟩) := (hd 2 (by kernel_rfl)).2
      rw [d2]
      clear d2
      have d3 : S 3 = .int .i64 (s : Nat) := (hd 3 (by kernel_rfl)).2
      rw [d3]
      clear d3
      have d4 : S 4 = .pointer (some ⟨g, 0, none⟩) := (hd 4 (by kernel_rfl)).2
      rw [d4]
      clear d4
      have d5 : S 5 = .pointer (some ⟨g, 0, none⟩) := (hd 5 (by kernel_rfl)).2
      rw [d5]
      clear d5
      have d6 : S 6 = .pointer (some ⟨g, 4, none⟩) := (hd 6 (by kernel_rfl)).2
      rw [d6]
      clear d6
      have d7 : S 7 = .int .i64 (u : Nat) := (hd 7 (by kernel_rfl)).2
      rw [d7]
      clear d7
      have d8 : S 8 = .int .i64 d := (hd 8 (by kernel_rfl)).2
      rw [d8]
      clear d8
      have d9 : S 9 = .int .i64 (x : Nat) := (hd 9 (by kernel_rfl)).2
      rw [d9]
      clear d9
      clear hd
      refine GH.st_eq (by rfl) ?_
      go_simp
      (try with_reducible rfl)
    | nx + 11, hjx, _ => omega
  intro S w' hb hG
  simp only [GH.mkL, List.drop_succ_cons, List.drop_zero]
  have d10 : S 10 = .int .i64 (x : Nat) := hG 10 (by omega)
  rw [d10]
  clear d10
  clear hG
  have BF := Lib.hid hb.below
  clear hb
  refine wpList_nil ?_
  go_wp2_with fail
  go_ret
  exact ⟨rfl, BF.out⟩
set_option maxRecDepth 20000 in
set_option maxHeartbeats 4000000 in
theorem cwlost_any (g m s sl p u : Nat) (n : Int) (w : World) (h : Wn w g m s sl p u) (ho : WOk m s sl p u) (hn : (Lit.int .i64 n).wf = true) :
    Calls Try.prog 14 #[.pointer (some ⟨g, 0, none⟩), .int .i64 n] w fun e w' => e = .returned (.tuple #[]) ∧ Wn w' g m m (max (s / 2) (2 * m)) 0 (u - bdB n) ∧ Tou g w w' := by
  have HF := Lib.hid (cwforget_any g m s sl p u n w h ho hn)
  have hsb := ho.s3
  have hmb := ho.m2
  obtain ⟨u1, hu1⟩ : ∃ u1, u1 = u - bdB n := ⟨_, rfl⟩
  obtain ⟨a, ha⟩ : ∃ a, a = s / 2 := ⟨_, rfl⟩
  obtain ⟨b, hb0⟩ : ∃ b, b = 2 * m := ⟨_, rfl⟩
  obtain ⟨x, hx⟩ : ∃ x, x = max (s / 2) (2 * m) := ⟨_, rfl⟩
  have e1 : (s : Int) / 2 = (a : Nat) := by omega
  have e2 : (2 : Int) * (m : Int) = (b : Nat) := by omega
  have e3 : (if a < b then (b : Int) else (a : Int)) = (x : Nat) := by rw [hx, ← ha, ← hb0]; split <;> omega
  have w1' : IntKind.i64.wrap (a : Int) = (a : Nat) := by rw [IntKind.wrap_i64]; omega
  have w2' : IntKind.i64.wrap (b : Int) = (b : Nat) := by rw [IntKind.wrap_i64]; omega
  rw [← hu1] at HF ⊢
  rw [← hx]
  clear ho hn hsb hmb ha hb0 hx h hu1
  go_enter Try.func14, Try.ntmps14
  go_wp2_with fail
  refine HF.out.mono ?_
  rintro e w1 ⟨rfl, h1, t1⟩
  have K0 := Lib.hid (show Blk w1 g 55 #[.int .i64 (m : Nat), .int .i64 (s : Nat), .int .i64 (sl : Nat), .int .i64 (p : Nat), .int .i64 (u1 : Nat)] from h1)
  have T1 := Lib.hid t1
  clear h1 t1 HF
  go_upto_region 1 with fail
  refine GH.wp_ghl2 (M := false) 14 ((GH.SP.eq (.pointer (some ⟨g, 0, none⟩))) :: (GH.SP.eq (.pointer (some ⟨g, 0, none⟩))) :: (GH.SP.eq (.pointer (some ⟨g, 0, none⟩))) :: (GH.SP.eq (.pointer (some ⟨g, 1, none⟩))) :: (GH.SP.eq (.int .i64 (s : Nat))) :: (GH.SP.eq (.int .i64 (a : Nat))) :: (GH.SP.eq (.pointer (some ⟨g, 0, none⟩))) :: (GH.SP.eq (.pointer (some ⟨g, 0, none⟩))) :: (GH.SP.eq (.pointer (some ⟨g, 0, none⟩))) :: (GH.SP.eq (.int .i64 (m : Nat))) :: (GH.SP.eq (.int .i64 (b : Nat))) :: (GH.SP.eq (.int .i64 (x : Nat))) :: (GH.SP.eq (.pointer (some ⟨g, 0, none⟩))) :: (GH.SP.eq (.pointer (some ⟨g, 2, none⟩))) :: []) (none :: none :: none :: none :: none :: none :: none :: (some 0) :: (some 1) :: (some 2) :: (some 3) :: (some 4) :: (some 5) :: (some 6) :: (some 7) :: (some 8) :: (some 9) :: (some 10) :: (some 11) :: (some 12) :: (some 13) :: none :: none :: none :: none :: none :: none :: none :: none :: none :: none :: []) [7, 8, 9, 10, 11, 12, 13, 14, 15, 16, 17, 18, 19, 20] (by rfl) (by kernel_rfl) (by kernel_rfl) ?_ ?_ ?_
  · intro S jx v hjx
    match jx, hjx with
    | 0, _ => rfl
    | 1, _ => rfl
    | 2, _ => rfl
    | 3, _ => rfl
    | 4, _ => rfl
    | 5, _ => rfl
    | 6, _ => rfl
    | 7, _ => rfl
    | 8, _ => rfl
    | 9, _ => rfl
    | 10, _ => rfl
    | 11, _ => rfl
    | 12, _ => rfl
    | 13, _ => rfl
    | nx + 14, hjx => omega
  · intro jx hjx S w' hb hd
    match jx, hjx, hd with
    | 0, _, hd =>
      simp only [GH.mkL, List.getD_cons_succ, List.getD_cons_zero]
      clear hd
      refine GH.st_eq (by rfl) ?_
      go_simp
      (try with_reducible rfl)
    | 1, _, hd =>
      simp only [GH.mkL, List.getD_cons_succ, List.getD_cons_zero]
      clear hd
      refine GH.st_eq (by rfl) ?_
      go_simp
      (try with_reducible rfl)
    | 2, _, hd =>
      simp only [GH.mkL, List.getD_cons_succ, List.getD_cons_zero]
      have d1 : S 1 = .pointer (some ⟨g, 0, none⟩) := (hd 1 (by kernel_rfl)).2
      rw [d1]
      clear d1
      clear hd
      refine GH.st_eq (by rfl) ?_
      go_simp
      (try with_reducible rfl)
    | 3, _, hd =>
      simp only [GH.mkL, List.getD_cons_succ, List.getD_cons_zero]
      have d2 : S 2 = .pointer (some ⟨g, 0, none⟩) := (hd 2 (by kernel_rfl)).2
      rw [d2]
      clear d2
      clear hd
      refine GH.st_eq (by rfl) ?_
      go_simp
      (try with_reducible rfl)
    | 4, _, hd =>
      simp only [GH.mkL, List.getD_cons_succ, List.getD_cons_zero]
      have d3 : S 3 = .pointer (some ⟨g, 1, none⟩) := (hd 3 (by kernel_rfl)).2
      rw [d3]
      clear d3
      clear hd
      exact GH.st_load _ (by rfl) rfl rfl (((K0.out.below hb.below K0.out.lt)).cell 1) (by kernel_rfl)
    | 5, _, hd =>
      simp only [GH.mkL, List.getD_cons_succ, List.getD_cons_zero]
      have d4 : S 4 = .int .i64 (s : Nat) := (hd 4 (by kernel_rfl)).2
      rw [d4]
      clear d4
      clear hd
      refine GH.st_eq (by rfl) ?_
      go_simp
      (try simp only [e1, w1'])
      (try with_reducible rfl)
    | 6, _, hd =>
      simp only [GH.mkL, List.getD_cons_succ, List.getD_cons_zero]
      clear hd
      refine GH.st_eq (by rfl) ?_
      go_simp
      (try with_reducible rfl)
    | 7, _, hd =>
      simp only [GH.mkL, List.getD_cons_succ, List.getD_cons_zero]
      have d6 : S 6 = .pointer (some ⟨g, 0, none⟩) := (hd 6 (by kernel_rfl)).2
      rw [d6]
      clear d6
      clear hd
      refine GH.st_eq (by rfl) ?_
      go_simp
      (try with_reducible rfl)
    | 8, _, hd =>
      simp only [GH.mkL, List.getD_cons_succ, List.getD_cons_zero]
      have d7 : S 7 = .pointer (some ⟨g, 0, none⟩) := (hd 7 (by kernel_rfl)).2
      rw [d7]
      clear d7
      clear hd
      refine GH.st_eq (by rfl) ?_
      go_simp
      (try with_reducible rfl)
    | 9, _, hd =>
      simp only [GH.mkL, List.getD_cons_succ, List.getD_cons_zero]
      have d8 : S 8 = .pointer (some ⟨g, 0, none⟩) := (hd 8 (by kernel_rfl)).2
      rw [d8]
      clear d8
      clear hd
      exact GH.st_load _ (by rfl) rfl rfl (((K0.out.below hb.below K0.out.lt)).cell 0) (by kernel_rfl)
    | 10, _, hd =>
      simp only [GH.mkL, List.getD_cons_succ, List.getD_cons_zero]
      have d9 : S 9 = .int .i64 (m : Nat) := (hd 9 (by kernel_rfl)).2
      rw [d9]
      clear d9
      clear hd
      refine GH.st_eq (by rfl) ?_
      go_simp
      (try simp only [e2, w2'])
      (try with_reducible rfl)
    | 11, _, hd =>
      simp only [GH.mkL, List.getD_cons_succ, List.getD_cons_zero]
      have d5 : S 5 = .int .i64 (a : Nat) := (hd 5 (by kernel_rfl)).2
      rw [d5]
      clear d5
      have d10 : S 10 = .int .i64 (b : Nat) := (hd 10 (by kernel_rfl)).2
      rw [d10]
      clear d10
      clear hd
      refine GH.st_eq (by rfl) ?_
      go_simp
      (try exact e3)
    | 12, _, hd =>
      simp only [GH.mkL, List.getD_cons_succ, List.getD_cons_zero]
      have d0 : S 0 = .pointer (some ⟨g, 0, none⟩) := (hd 0 (by kernel_rfl)).2
      rw [d0]
      clear d0
      have d1 : S 1 = .pointer (some ⟨g, 0, none⟩) := (hd 1 (by kernel_rfl)).2
      rw [d1]
      clear d1
      have d2 : S 2 = .pointer (some ⟨g, 0, none⟩) := (hd 2 (by kernel_rfl)).2
      rw [d2]
      clear d2
      have d3 : S 3 = .pointer (some ⟨g, 1, none⟩) := (hd 3 (by kernel_rfl)).2
      rw [d3]
      clear d3
      have d4 : S 4 = .int .i64 (s : Nat) := (hd 4 (by kernel_rfl)).2
      rw [d4]
      clear d4
      have d5 : S 5 = .int .i64 (a : Nat) := (hd 5 (by kernel_rfl)).2
      rw [d5]
      clear d5
      have d6 : S 6 = .pointer (some ⟨g, 0, none⟩) := (hd 6 (by kernel_rfl)).2
      rw [d6]
      clear d6
      have d7 : S 7 = .pointer (some ⟨g, 0, none⟩) := (hd 7 (by kernel_rfl)).2
      rw [d7]
      clear d7
      have d8 : S 8 = .pointer (some ⟨g, 0, none⟩) := (hd 8 (by kernel_rfl)).2
      rw [d8]
      clear d8
      have d9 : S 9 = .int .i64 (m : Nat) := (hd 9 (by kernel_rfl)).2
      rw [d9]
      clear d9
      have d10 : S 10 = .int .i64 (b : Nat) := (hd 10 (by kernel_rfl)).2
      rw [d10]
      clear d10
      have d11 : S 11 = .int .i64 (x : Nat) := (hd 11 (by kernel_rfl)).2
      rw [d11]
      clear d11
      clear hd
      refine GH.st_eq (by rfl) ?_
      go_simp
      (try with_reducible rfl)
    | 13, _, hd =>
      simp only [GH.mkL, List.getD_cons_succ, List.getD_cons_zero]
      have d0 : S 0 = .pointer (some ⟨g, 0, none⟩) := (hd 0 (by kernel_rfl)).2
      rw [d0]
      clear d0
      have d1 : S 1 = .pointer (some ⟨g, 0, none⟩) := (hd 1 (by kernel_rfl)).2
      rw [d1]
      clear d1
      have d2 : S 2 = .pointer (some ⟨g, 0, none⟩) := (hd 2 (by kernel_rfl)).2
      rw [d2]
      clear d2
      have d3 : S 3 = .pointer (some ⟨g, 1, none⟩) := (hd 3 (by kernel_rfl)).2
      rw [d3]
      clear d3
      have d4 : S 4 = .int .i64 (s : Nat) := (hd 4 (by kernel_rfl)).2
      rw [d4]
      clear d4
      have d5 : S 5 = .int .i64 (a : Nat) := (hd 5 (by kernel_rfl)).2
      rw [d5]
      clear d5
      have d6 : S 6 = .pointer (some ⟨g, 0, none⟩) := (hd 6 (by kernel_rfl)).2
      rw [d6]
      clear d6
      have d7 : S 7 = .pointer (some ⟨g, 0, none⟩) := (hd 7 (by kernel_rfl)).2
      rw [d7]
      clear d7
      have d8 : S 8 = .pointer (some ⟨g, 0, none⟩) := (hd 8 (by kernel_rfl)).2
      rw [d8]
      clear d8
      have d9 : S 9 = .int .i64 (m : Nat) := (hd 9 (by kernel_rfl)).2
      rw [d9]
      clear d9
      have d10 : S 10 = .int .i64 (b : Nat) := (hd 10 (by kernel_rfl)).2
      rw [d10]
      clear d10
      have d11 : S 11 = .int .i64 (x : Nat) := (hd 11 (by kernel_rfl)).2
      rw [d11]
      clear d11
      have d12 : S 12 = .pointer (some ⟨g, 0, none⟩) := (hd 12 (by kernel_rfl)).2
      rw [d12]
      clear d12
      clear hd
      refine GH.st_eq (by rfl) ?_
      go_simp
      (try with_reducible rfl)
    | nx + 14, hjx, _ => omega
  intro S w' hb hG
  simp only [GH.mkL, List.drop_succ_cons, List.drop_zero]
  have d11 : S 11 = .int .i64 (x : Nat) := hG 11 (by omega)
  rw [d11]
  clear d11
  have d13 : S 13 = .pointer (some ⟨g, 2, none⟩) := hG 13 (by omega)
  rw [d13]
  clear d13
  clear hG
  have KF := K0.out.below hb.below K0.out.lt
  have f2 := KF.frozen 2
  obtain ⟨c0, c1, c2, c3, c4⟩ := ptc5 KF
  have T2 := Lib.hid (T1.out.grow hb.below (Nat.le_of_lt K0.out.lt))
  have HKF := Lib.hid KF
  clear KF hb K0 T1
  go_upto_region 2 with fail
  have K3 := Lib.hid (show Blk (w'.setCell ⟨g, 2, none⟩ (.int .i64 (x : Nat))) g 55 #[.int .i64 (m : Nat), .int .i64 (s : Nat), .int .i64 (x : Nat), .int .i64 (p : Nat), .int .i64 (u1 : Nat)] from HKF.out.set 2 _)
  have T3 := Lib.hid (T2.out.solo (Solo.refl.setCell 2 (.int .i64 (x : Nat))))
  clear HKF T2 f2 c0 c1 c2 c3 c4
  generalize w'.setCell ⟨g, 2, none⟩ (.int .i64 (x : Nat)) = w3 at K3 T3 ⊢
  obtain ⟨c0, c1, c2, c3, c4⟩ := ptc5 K3.out
  have f1 := K3.out.frozen 1
  have f3 := K3.out.frozen 3
  go_wp2_with fail
  go_end0
  exact ⟨rfl, (K3.out.set 1 (.int .i64 (m : Nat))).set 3 (.int .i64 0), (T3.out.solo (Solo.refl.setCell 1 _)).solo (Solo.refl.setCell 3 _)⟩
end Go.Proofs.Ytpjfheojlcahgaa
