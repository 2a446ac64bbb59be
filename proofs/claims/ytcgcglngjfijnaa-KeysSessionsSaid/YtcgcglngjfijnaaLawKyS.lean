/- Layer 9: the law KeysSessions answers true, and nothing that was there has turned. -/
import Derived.Test.YtcgcglngjfijnaaKy5
import Derived.Test.YtcgcglngjfijnaaSipLt
namespace Go.Proofs.Ytcgcglngjfijnaa
open Go.RowKit
set_option linter.unusedVariables false
set_option linter.unusedSimpArgs false
set_option maxRecDepth 20000 in
set_option maxHeartbeats 4000000 in
theorem keysSessions_core (c s a b x0 x1 x2 x3 x4 x5 x6 x7 x8 y0 y1 p q : Nat) (w : World)
    (hS : Hid (∀ w : World, Calls Try.prog 12 #[.int .u64 (c : Nat), .int .u64 (s : Nat)] w fun e w' => e = .returned (.agg #[.int .u64 (x0 : Nat), .int .u64 (x1 : Nat), .int .u64 (x2 : Nat), .int .u64 (x3 : Nat), .int .u64 (x4 : Nat), .int .u64 (x5 : Nat), .int .u64 (x6 : Nat), .int .u64 (x7 : Nat), .int .u32 (x8 : Nat)]) ∧ Below w.heap.size w w'))
    (hm_id : Hid (∀ w : World, Calls Try.prog 13 #[.int .u64 (c : Nat), .int .u64 (s : Nat), .string { data := #[105, 100] }] w fun e w' => e = .returned (.agg #[.int .u64 (x0 : Nat), .int .u64 (x1 : Nat)]) ∧ Below w.heap.size w w'))
    (hm_cl : Hid (∀ w : World, Calls Try.prog 13 #[.int .u64 (c : Nat), .int .u64 (s : Nat), .string { data := #[99, 108, 105, 101, 110, 116] }] w fun e w' => e = .returned (.agg #[.int .u64 (x2 : Nat), .int .u64 (x3 : Nat)]) ∧ Below w.heap.size w w'))
    (hm_se : Hid (∀ w : World, Calls Try.prog 13 #[.int .u64 (c : Nat), .int .u64 (s : Nat), .string { data := #[115, 101, 114, 118, 101, 114] }] w fun e w' => e = .returned (.agg #[.int .u64 (x4 : Nat), .int .u64 (x5 : Nat)]) ∧ Below w.heap.size w w'))
    (hm_jo : Hid (∀ w : World, Calls Try.prog 13 #[.int .u64 (c : Nat), .int .u64 (s : Nat), .string { data := #[106, 111, 105, 110] }] w fun e w' => e = .returned (.agg #[.int .u64 (x6 : Nat), .int .u64 (x7 : Nat)]) ∧ Below w.heap.size w w'))
    (hm_an : Hid (∀ w : World, Calls Try.prog 13 #[.int .u64 (c : Nat), .int .u64 (s : Nat), .string { data := #[97, 110, 115, 119, 101, 114] }] w fun e w' => e = .returned (.agg #[.int .u64 (y0 : Nat), .int .u64 (y1 : Nat)]) ∧ Below w.heap.size w w'))
    (hT : Hid (∀ w : World, Calls Try.prog 14 #[.int .u64 (c : Nat), .int .u64 (s : Nat)] w fun e w' => e = .returned (.int .u32 (x8 : Nat)) ∧ Below w.heap.size w w'))
    (hH : Hid (∀ w : World, Calls Try.prog 15 #[.int .u64 (c : Nat), .int .u64 (s : Nat)] w fun e w' => e = .returned (.agg #[.int .u64 (y0 : Nat), .int .u64 (y1 : Nat)]) ∧ Below w.heap.size w w'))
    (hP : Hid (∀ w : World, Calls Try.prog 16 #[.agg #[.int .u64 (x0 : Nat), .int .u64 (x1 : Nat), .int .u64 (x2 : Nat), .int .u64 (x3 : Nat), .int .u64 (x4 : Nat), .int .u64 (x5 : Nat), .int .u64 (x6 : Nat), .int .u64 (x7 : Nat), .int .u32 (x8 : Nat)], .int .u32 (a : Nat), .int .u32 (b : Nat)] w fun e w' => e = .returned (.agg #[.int .u64 (p : Nat), .int .u64 (q : Nat)]) ∧ Below w.heap.size w w'))
    (hR : Hid (∀ w : World, Calls Try.prog 17 #[.agg #[.int .u64 (x6 : Nat), .int .u64 (x7 : Nat)], .int .u32 (a : Nat), .int .u32 (b : Nat)] w fun e w' => e = .returned (.agg #[.int .u64 (p : Nat), .int .u64 (q : Nat)]) ∧ Below w.heap.size w w')) :
    Calls Try.prog 3 #[.int .u64 c, .int .u64 s, .agg #[.int .u32 a, .int .u32 b]] w fun e w' => e = .returned (.bool true) ∧ Below w.heap.size w w' := by
  go_enter Try.func3, Try.ntmps3
  go_wp2_with fail
  have hx0 := Lib.hid (Blk.new w 25 #[.int .u32 a, .int .u32 b])
  have b0 := Lib.hid ((Below.refl w.heap.size w).alloc (Nat.le_refl _) (.cells #[.int .u32 a, .int .u32 b] 25))
  generalize w.alloc (.cells #[.int .u32 a, .int .u32 b] 25) = wa at hx0 b0 ⊢
  refine (hS.out wa).mono ?_
  rintro e w1 ⟨rfl, hb1⟩
  have HX := Lib.hid (hx0.out.below hb1 hx0.out.lt)
  have HB1 := Lib.hid (b0.out.trans (hb1.mono b0.out.size))
  clear hb1 hx0 b0
  go_wp2_with fail
  have hk0 := Lib.hid (Blk.new w1 29 #[.int .u64 (x0 : Nat), .int .u64 (x1 : Nat), .int .u64 (x2 : Nat), .int .u64 (x3 : Nat), .int .u64 (x4 : Nat), .int .u64 (x5 : Nat), .int .u64 (x6 : Nat), .int .u64 (x7 : Nat), .int .u32 (x8 : Nat)])
  have hx0 := Lib.hid (HX.out.alloc (.cells #[.int .u64 (x0 : Nat), .int .u64 (x1 : Nat), .int .u64 (x2 : Nat), .int .u64 (x3 : Nat), .int .u64 (x4 : Nat), .int .u64 (x5 : Nat), .int .u64 (x6 : Nat), .int .u64 (x7 : Nat), .int .u32 (x8 : Nat)] 29))
  have b1 := Lib.hid (HB1.out.alloc HB1.out.size (.cells #[.int .u64 (x0 : Nat), .int .u64 (x1 : Nat), .int .u64 (x2 : Nat), .int .u64 (x3 : Nat), .int .u64 (x4 : Nat), .int .u64 (x5 : Nat), .int .u64 (x6 : Nat), .int .u64 (x7 : Nat), .int .u32 (x8 : Nat)] 29))
  clear HB1 HX
  generalize w1.alloc (.cells #[.int .u64 (x0 : Nat), .int .u64 (x1 : Nat), .int .u64 (x2 : Nat), .int .u64 (x3 : Nat), .int .u64 (x4 : Nat), .int .u64 (x5 : Nat), .int .u64 (x6 : Nat), .int .u64 (x7 : Nat), .int .u32 (x8 : Nat)] 29) = w2 at hk0 hx0 b1 ⊢
  generalize w1.heap.size = U at hk0 ⊢
  obtain ⟨X, hX⟩ : ∃ X, X = w.heap.size := ⟨_, rfl⟩
  rw [← hX] at hx0 ⊢
  have HXX := Lib.hid hX
  clear hX
  refine GH.wp_ghl (M := false) 31 ((GH.SP.eq (.pointer (some ⟨U, 0, none⟩))) :: (GH.SP.eq (.agg #[.int .u64 (x0 : Nat), .int .u64 (x1 : Nat)])) :: (GH.SP.eq (.int .u64 (c : Nat))) :: (GH.SP.eq (.int .u64 (s : Nat))) :: (GH.SP.eq (.agg #[.int .u64 (x0 : Nat), .int .u64 (x1 : Nat)])) :: (GH.SP.eq (.bool true)) :: (GH.SP.eq (.bool true)) :: (GH.SP.eq (.pointer (some ⟨U, 2, none⟩))) :: (GH.SP.eq (.agg #[.int .u64 (x2 : Nat), .int .u64 (x3 : Nat)])) :: (GH.SP.eq (.int .u64 (c : Nat))) :: (GH.SP.eq (.int .u64 (s : Nat))) :: (GH.SP.eq (.agg #[.int .u64 (x2 : Nat), .int .u64 (x3 : Nat)])) :: (GH.SP.eq (.bool true)) :: (GH.SP.eq (.bool true)) :: (GH.SP.eq (.bool true)) :: (GH.SP.eq (.pointer (some ⟨U, 4, none⟩))) :: (GH.SP.eq (.agg #[.int .u64 (x4 : Nat), .int .u64 (x5 : Nat)])) :: (GH.SP.eq (.int .u64 (c : Nat))) :: (GH.SP.eq (.int .u64 (s : Nat))) :: (GH.SP.eq (.agg #[.int .u64 (x4 : Nat), .int .u64 (x5 : Nat)])) :: (GH.SP.eq (.bool true)) :: (GH.SP.eq (.bool true)) :: (GH.SP.eq (.bool true)) :: (GH.SP.eq (.pointer (some ⟨U, 6, none⟩))) :: (GH.SP.eq (.agg #[.int .u64 (x6 : Nat), .int .u64 (x7 : Nat)])) :: (GH.SP.eq (.int .u64 (c : Nat))) :: (GH.SP.eq (.int .u64 (s : Nat))) :: (GH.SP.eq (.agg #[.int .u64 (x6 : Nat), .int .u64 (x7 : Nat)])) :: (GH.SP.eq (.bool true)) :: (GH.SP.eq (.bool true)) :: (GH.SP.eq (.bool true)) :: []) (none :: none :: none :: none :: none :: none :: none :: none :: (some 30) :: none :: none :: none :: (some 0) :: (some 1) :: (some 2) :: (some 3) :: (some 4) :: (some 5) :: (some 6) :: (some 7) :: (some 8) :: (some 9) :: (some 10) :: (some 11) :: (some 12) :: (some 13) :: (some 14) :: (some 15) :: (some 16) :: (some 17) :: (some 18) :: (some 19) :: (some 20) :: (some 21) :: (some 22) :: (some 23) :: (some 24) :: (some 25) :: (some 26) :: (some 27) :: (some 28) :: (some 29) :: none :: none :: none :: none :: none :: none :: none :: none :: none :: none :: none :: none :: none :: none :: none :: none :: none :: none :: none :: none :: none :: none :: none :: none :: none :: none :: none :: none :: none :: none :: none :: none :: none :: none :: none :: none :: none :: []) [12, 13, 14, 15, 16, 17, 18, 19, 20, 21, 22, 23, 24, 25, 26, 27, 28, 29, 30, 31, 32, 33, 34, 35, 36, 37, 38, 39, 40, 41, 8] (by rfl) (by kernel_rfl) (by kernel_rfl) ?_ ?_ ?_
  · intro S j v hj
    match j, hj with
    | 0, _ => rfl
    | 1, _ => rfl
    | 2, _ => rfl
    | 3, _ => rfl
    | 4, _ => rfl
    | 5, _ => rfl
    | 6, _ => rfl
    | 7, _ => rfl
    | 8, _ => rfl
    | 9, _ => rfl
    | 10, _ => rfl
    | 11, _ => rfl
    | 12, _ => rfl
    | 13, _ => rfl
    | 14, _ => rfl
    | 15, _ => rfl
    | 16, _ => rfl
    | 17, _ => rfl
    | 18, _ => rfl
    | 19, _ => rfl
    | 20, _ => rfl
    | 21, _ => rfl
    | 22, _ => rfl
    | 23, _ => rfl
    | 24, _ => rfl
    | 25, _ => rfl
    | 26, _ => rfl
    | 27, _ => rfl
    | 28, _ => rfl
    | 29, _ => rfl
    | 30, _ => rfl
    | n + 31, hj => omega
  · intro j hj S w' hb hd
    match j, hj, hd with
    | 0, _, hd =>
      simp only [GH.mkL, List.getD_cons_succ, List.getD_cons_zero]
      clear hd
      refine GH.st_eq (by rfl) ?_
      go_simp
      (try with_reducible rfl)
    | 1, _, hd =>
      simp only [GH.mkL, List.getD_cons_succ, List.getD_cons_zero]
      have d0 : S 0 = .pointer (some ⟨U, 0, none⟩) := (hd 0 (by kernel_rfl)).2
      rw [d0]
      clear d0
      clear hd
      exact GH.st_loads _ [.int .u64 (x0 : Nat), .int .u64 (x1 : Nat)] (by rfl) rfl rfl (((hk0.out.below hb.below hk0.out.lt)).loads 0 _ (by rfl)) (by kernel_rfl) (by kernel_rfl)
    | 2, _, hd =>
      simp only [GH.mkL, List.getD_cons_succ, List.getD_cons_zero]
      clear hd
      refine GH.st_eq (by rfl) ?_
      go_simp
      (try with_reducible rfl)
    | 3, _, hd =>
      simp only [GH.mkL, List.getD_cons_succ, List.getD_cons_zero]
      clear hd
      refine GH.st_eq (by rfl) ?_
      go_simp
      (try with_reducible rfl)
    | 4, _, hd =>
      simp only [GH.mkL, List.getD_cons_succ, List.getD_cons_zero]
      have d2 : S 2 = .int .u64 (c : Nat) := (hd 2 (by kernel_rfl)).2
      rw [d2]
      clear d2
      have d3 : S 3 = .int .u64 (s : Nat) := (hd 3 (by kernel_rfl)).2
      rw [d3]
      clear d3
      clear hd
      refine GH.st_call (by rfl) hb.below.size (by go_simp) ((hm_id.out w').mono ?_)
      rintro e w9 ⟨rfl, hb9⟩
      exact ⟨_, rfl, hb9, rfl⟩
    | 5, _, hd =>
      simp only [GH.mkL, List.getD_cons_succ, List.getD_cons_zero]
      have d1 : S 1 = .agg #[.int .u64 (x0 : Nat), .int .u64 (x1 : Nat)] := (hd 1 (by kernel_rfl)).2
      rw [d1]
      clear d1
      have d4 : S 4 = .agg #[.int .u64 (x0 : Nat), .int .u64 (x1 : Nat)] := (hd 4 (by kernel_rfl)).2
      rw [d4]
      clear d4
      clear hd
      refine GH.st_eq (by rfl) ?_
      go_simp
      (try with_reducible rfl)
    | 6, _, hd =>
      simp only [GH.mkL, List.getD_cons_succ, List.getD_cons_zero]
      have d4 : S 4 = .agg #[.int .u64 (x0 : Nat), .int .u64 (x1 : Nat)] := (hd 4 (by kernel_rfl)).2
      rw [d4]
      clear d4
      have d5 : S 5 = .bool true := (hd 5 (by kernel_rfl)).2
      rw [d5]
      clear d5
      clear hd
      refine GH.st_eq (by rfl) ?_
      go_simp
      (try with_reducible rfl)
    | 7, _, hd =>
      simp only [GH.mkL, List.getD_cons_succ, List.getD_cons_zero]
      have d6 : S 6 = .bool true := (hd 6 (by kernel_rfl)).2
      rw [d6]
      clear d6
      clear hd
      refine GH.st_eq (by rfl) ?_
      go_simp
      (try with_reducible rfl)
    | 8, _, hd =>
      simp only [GH.mkL, List.getD_cons_succ, List.getD_cons_zero]
      have d6 : S 6 = .bool true := (hd 6 (by kernel_rfl)).2
      rw [d6]
      clear d6
      have d7 : S 7 = .pointer (some ⟨U, 2, none⟩) := (hd 7 (by kernel_rfl)).2
      rw [d7]
      clear d7
      clear hd
      exact GH.st_loads _ [.int .u64 (x2 : Nat), .int .u64 (x3 : Nat)] (by rfl) rfl rfl (((hk0.out.below hb.below hk0.out.lt)).loads 2 _ (by rfl)) (by kernel_rfl) (by kernel_rfl)
    | 9, _, hd =>
      simp only [GH.mkL, List.getD_cons_succ, List.getD_cons_zero]
      have d6 : S 6 = .bool true := (hd 6 (by kernel_rfl)).2
      rw [d6]
      clear d6
      clear hd
      refine GH.st_eq (by rfl) ?_
      go_simp
      (try with_reducible rfl)
    | 10, _, hd =>
      simp only [GH.mkL, List.getD_cons_succ, List.getD_cons_zero]
      have d6 : S 6 = .bool true := (hd 6 (by kernel_rfl)).2
      rw [d6]
      clear d6
      clear hd
      refine GH.st_eq (by rfl) ?_
      go_simp
      (try with_reducible rfl)
    | 11, _, hd =>
      simp only [GH.mkL, List.getD_cons_succ, List.getD_cons_zero]
      have d6 : S 6 = .bool true := (hd 6 (by kernel_rfl)).2
      rw [d6]
      clear d6
      have d9 : S 9 = .int .u64 (c : Nat) := (hd 9 (by kernel_rfl)).2
      rw [d9]
      clear d9
      have d10 : S 10 = .int .u64 (s : Nat) := (hd 10 (by kernel_rfl)).2
      rw [d10]
      clear d10
      clear hd
      refine GH.st_call (by rfl) hb.below.size (by go_simp) ((hm_cl.out w').mono ?_)
      rintro e w9 ⟨rfl, hb9⟩
      exact ⟨_, rfl, hb9, rfl⟩
    | 12, _, hd =>
      simp only [GH.mkL, List.getD_cons_succ, List.getD_cons_zero]
      have d6 : S 6 = .bool true := (hd 6 (by kernel_rfl)).2
      rw [d6]
      clear d6
      have d8 : S 8 = .agg #[.int .u64 (x2 : Nat), .int .u64 (x3 : Nat)] := (hd 8 (by kernel_rfl)).2
      rw [d8]
      clear d8
      have d11 : S 11 = .agg #[.int .u64 (x2 : Nat), .int .u64 (x3 : Nat)] := (hd 11 (by kernel_rfl)).2
      rw [d11]
      clear d11
      clear hd
      refine GH.st_eq (by rfl) ?_
      go_simp
      (try with_reducible rfl)
    | 13, _, hd =>
      simp only [GH.mkL, List.getD_cons_succ, List.getD_cons_zero]
      have d6 : S 6 = .bool true := (hd 6 (by kernel_rfl)).2
      rw [d6]
      clear d6
      have d12 : S 12 = .bool true := (hd 12 (by kernel_rfl)).2
      rw [d12]
      clear d12
      clear hd
      refine GH.st_eq (by rfl) ?_
      go_simp
      (try with_reducible rfl)
    | 14, _, hd =>
      simp only [GH.mkL, List.getD_cons_succ, List.getD_cons_zero]
      have d11 : S 11 = .agg #[.int .u64 (x2 : Nat), .int .u64 (x3 : Nat)] := (hd 11 (by kernel_rfl)).2
      rw [d11]
      clear d11
      have d13 : S 13 = .bool true := (hd 13 (by kernel_rfl)).2
      rw [d13]
      clear d13
      clear hd
      refine GH.st_eq (by rfl) ?_
      go_simp
      (try with_reducible rfl)
    | 15, _, hd =>
      simp only [GH.mkL, List.getD_cons_succ, List.getD_cons_zero]
      have d14 : S 14 = .bool true := (hd 14 (by kernel_rfl)).2
      rw [d14]
      clear d14
      clear hd
      refine GH.st_eq (by rfl) ?_
      go_simp
      (try with_reducible rfl)
    | 16, _, hd =>
      simp only [GH.mkL, List.getD_cons_succ, List.getD_cons_zero]
      have d14 : S 14 = .bool true := (hd 14 (by kernel_rfl)).2
      rw [d14]
      clear d14
      have d15 : S 15 = .pointer (some ⟨U, 4, none⟩) := (hd 15 (by kernel_rfl)).2
      rw [d15]
      clear d15
      clear hd
      exact GH.st_loads _ [.int .u64 (x4 : Nat), .int .u64 (x5 : Nat)] (by rfl) rfl rfl (((hk0.out.below hb.below hk0.out.lt)).loads 4 _ (by rfl)) (by kernel_rfl) (by kernel_rfl)
    | 17, _, hd =>
      simp only [GH.mkL, List.getD_cons_succ, List.getD_cons_zero]
      have d14 : S 14 = .bool true := (hd 14 (by kernel_rfl)).2
      rw [d14]
      clear d14
      clear hd
      refine GH.st_eq (by rfl) ?_
      go_simp
      (try with_reducible rfl)
    | 18, _, hd =>
      simp only [GH.mkL, List.getD_cons_succ, List.getD_cons_zero]
      have d14 : S 14 = .bool true := (hd 14 (by kernel_rfl)).2
      rw [d14]
      clear d14
      clear hd
      refine GH.st_eq (by rfl) ?_
      go_simp
      (try with_reducible rfl)
    | 19, _, hd =>
      simp only [GH.mkL, List.getD_cons_succ, List.getD_cons_zero]
      have d14 : S 14 = .bool true := (hd 14 (by kernel_rfl)).2
      rw [d14]
      clear d14
      have d17 : S 17 = .int .u64 (c : Nat) := (hd 17 (by kernel_rfl)).2
      rw [d17]
      clear d17
      have d18 : S 18 = .int .u64 (s : Nat) := (hd 18 (by kernel_rfl)).2
      rw [d18]
      clear d18
      clear hd
      refine GH.st_call (by rfl) hb.below.size (by go_simp) ((hm_se.out w').mono ?_)
      rintro e w9 ⟨rfl, hb9⟩
      exact ⟨_, rfl, hb9, rfl⟩
    | 20, _, hd =>
      simp only [GH.mkL, List.getD_cons_succ, List.getD_cons_zero]
      have d14 : S 14 = .bool true := (hd 14 (by kernel_rfl)).2
      rw [d14]
      clear d14
      have d16 : S 16 = .agg #[.int .u64 (x4 : Nat), .int .u64 (x5 : Nat)] := (hd 16 (by kernel_rfl)).2
      rw [d16]
      clear d16
      have d19 : S 19 = .agg #[.int .u64 (x4 : Nat), .int .u64 (x5 : Nat)] := (hd 19 (by kernel_rfl)).2
      rw [d19]
      clear d19
      clear hd
      refine GH.st_eq (by rfl) ?_
      go_simp
      (try with_reducible rfl)
    | 21, _, hd =>
      simp only [GH.mkL, List.getD_cons_succ, List.getD_cons_zero]
      have d14 : S 14 = .bool true := (hd 14 (by kernel_rfl)).2
      rw [d14]
      clear d14
      have d20 : S 20 = .bool true := (hd 20 (by kernel_rfl)).2
      rw [d20]
      clear d20
      clear hd
      refine GH.st_eq (by rfl) ?_
      go_simp
      (try with_reducible rfl)
    | 22, _, hd =>
      simp only [GH.mkL, List.getD_cons_succ, List.getD_cons_zero]
      have d19 : S 19 = .agg #[.int .u64 (x4 : Nat), .int .u64 (x5 : Nat)] := (hd 19 (by kernel_rfl)).2
      rw [d19]
      clear d19
      have d21 : S 21 = .bool true := (hd 21 (by kernel_rfl)).2
      rw [d21]
      clear d21
      clear hd
      refine GH.st_eq (by rfl) ?_
      go_simp
      (try with_reducible rfl)
    | 23, _, hd =>
      simp only [GH.mkL, List.getD_cons_succ, List.getD_cons_zero]
      have d22 : S 22 = .bool true := (hd 22 (by kernel_rfl)).2
      rw [d22]
      clear d22
      clear hd
      refine GH.st_eq (by rfl) ?_
      go_simp
      (try with_reducible rfl)
    | 24, _, hd =>
      simp only [GH.mkL, List.getD_cons_succ, List.getD_cons_zero]
      have d22 : S 22 = .bool true := (hd 22 (by kernel_rfl)).2
      rw [d22]
      clear d22
      have d23 : S 23 = .pointer (some ⟨U, 6, none⟩) := (hd 23 (by kernel_rfl)).2
      rw [d23]
      clear d23
      clear hd
      exact GH.st_loads _ [.int .u64 (x6 : Nat), .int .u64 (x7 : Nat)] (by rfl) rfl rfl (((hk0.out.below hb.below hk0.out.lt)).loads 6 _ (by rfl)) (by kernel_rfl) (by kernel_rfl)
    | 25, _, hd =>
      simp only [GH.mkL, List.getD_cons_succ, List.getD_cons_zero]
      have d22 : S 22 = .bool true := (hd 22 (by kernel_rfl)).2
      rw [d22]
      clear d22
      clear hd
      refine GH.st_eq (by rfl) ?_
      go_simp
      (try with_reducible rfl)
    | 26, _, hd =>
      simp only [GH.mkL, List.getD_cons_succ, List.getD_cons_zero]
      have d22 : S 22 = .bool true := (hd 22 (by kernel_rfl)).2
      rw [d22]
      clear d22
      clear hd
      refine GH.st_eq (by rfl) ?_
      go_simp
      (try with_reducible rfl)
    | 27, _, hd =>
      simp only [GH.mkL, List.getD_cons_succ, List.getD_cons_zero]
      have d22 : S 22 = .bool true := (hd 22 (by kernel_rfl)).2
      rw [d22]
      clear d22
      have d25 : S 25 = .int .u64 (c : Nat) := (hd 25 (by kernel_rfl)).2
      rw [d25]
      clear d25
      have d26 : S 26 = .int .u64 (s : Nat) := (hd 26 (by kernel_rfl)).2
      rw [d26]
      clear d26
      clear hd
      refine GH.st_call (by rfl) hb.below.size (by go_simp) ((hm_jo.out w').mono ?_)
      rintro e w9 ⟨rfl, hb9⟩
      exact ⟨_, rfl, hb9, rfl⟩
    | 28, _, hd =>
      simp only [GH.mkL, List.getD_cons_succ, List.getD_cons_zero]
      have d22 : S 22 = .bool true := (hd 22 (by kernel_rfl)).2
      rw [d22]
      clear d22
      have d24 : S 24 = .agg #[.int .u64 (x6 : Nat), .int .u64 (x7 : Nat)] := (hd 24 (by kernel_rfl)).2
      rw [d24]
      clear d24
      have d27 : S 27 = .agg #[.int .u64 (x6 : Nat), .int .u64 (x7 : Nat)] := (hd 27 (by kernel_rfl)).2
      rw [d27]
      clear d27
      clear hd
      refine GH.st_eq (by rfl) ?_
      go_simp
      (try with_reducible rfl)
    | 29, _, hd =>
      simp only [GH.mkL, List.getD_cons_succ, List.getD_cons_zero]
      have d22 : S 22 = .bool true := (hd 22 (by kernel_rfl)).2
      rw [d22]
      clear d22
      have d28 : S 28 = .bool true := (hd 28 (by kernel_rfl)).2
      rw [d28]
      clear d28
      clear hd
      refine GH.st_eq (by rfl) ?_
      go_simp
      (try with_reducible rfl)
    | 30, _, hd =>
      simp only [GH.mkL, List.getD_cons_succ, List.getD_cons_zero]
      have d0 : S 0 = .pointer (some ⟨U, 0, none⟩) := (hd 0 (by kernel_rfl)).2
      rw [d0]
      clear d0
      have d1 : S 1 = .agg #[.int .u64 (x0 : Nat), .int .u64 (x1 : Nat)] := (hd 1 (by kernel_rfl)).2
      rw [d1]
      clear d1
      have d2 : S 2 = .int .u64 (c : Nat) := (hd 2 (by kernel_rfl)).2
      rw [d2]
      clear d2
      have d3 : S 3 = .int .u64 (s : Nat) := (hd 3 (by kernel_rfl)).2
      rw [d3]
      clear d3
      have d4 : S 4 = .agg #[.int .u64 (x0 : Nat), .int .u64 (x1 : Nat)] := (hd 4 (by kernel_rfl)).2
      rw [d4]
      clear d4
      have d5 : S 5 = .bool true := (hd 5 (by kernel_rfl)).2
      rw [d5]
      clear d5
      have d6 : S 6 = .bool true := (hd 6 (by kernel_rfl)).2
      rw [d6]
      clear d6
      have d7 : S 7 = .pointer (some ⟨U, 2, none⟩) := (hd 7 (by kernel_rfl)).2
      rw [d7]
      clear d7
      have d8 : S 8 = .agg #[.int .u64 (x2 : Nat), .int .u64 (x3 : Nat)] := (hd 8 (by kernel_rfl)).2
      rw [d8]
      clear d8
      have d9 : S 9 = .int .u64 (c : Nat) := (hd 9 (by kernel_rfl)).2
      rw [d9]
      clear d9
      have d10 : S 10 = .int .u64 (s : Nat) := (hd 10 (by kernel_rfl)).2
      rw [d10]
      clear d10
      have d11 : S 11 = .agg #[.int .u64 (x2 : Nat), .int .u64 (x3 : Nat)] := (hd 11 (by kernel_rfl)).2
      rw [d11]
      clear d11
      have d12 : S 12 = .bool true := (hd 12 (by kernel_rfl)).2
      rw [d12]
      clear d12
      have d13 : S 13 = .bool true := (hd 13 (by kernel_rfl)).2
      rw [d13]
      clear d13
      have d14 : S 14 = .bool true := (hd 14 (by kernel_rfl)).2
      rw [d14]
      clear d14
      have d15 : S 15 = .pointer (some ⟨U, 4, none⟩) := (hd 15 (by kernel_rfl)).2
      rw [d15]
      clear d15
      have d16 : S 16 = .agg #[.int .u64 (x4 : Nat), .int .u64 (x5 : Nat)] := (hd 16 (by kernel_rfl)).2
      rw [d16]
      clear d16
      have d17 : S 17 = .int .u64 (c : Nat) := (hd 17 (by kernel_rfl)).2
      rw [d17]
      clear d17
      have d18 : S 18 = .int .u64 (s : Nat) := (hd 18 (by kernel_rfl)).2
      rw [d18]
      clear d18
      have d19 : S 19 = .agg #[.int .u64 (x4 : Nat), .int .u64 (x5 : Nat)] := (hd 19 (by kernel_rfl)).2
      rw [d19]
      clear d19
      have d20 : S 20 = .bool true := (hd 20 (by kernel_rfl)).2
      rw [d20]
      clear d20
      have d21 : S 21 = .bool true := (hd 21 (by kernel_rfl)).2
      rw [d21]
      clear d21
      have d22 : S 22 = .bool true := (hd 22 (by kernel_rfl)).2
      rw [d22]
      clear d22
      have d23 : S 23 = .pointer (some ⟨U, 6, none⟩) := (hd 23 (by kernel_rfl)).2
      rw [d23]
      clear d23
      have d24 : S 24 = .agg #[.int .u64 (x6 : Nat), .int .u64 (x7 : Nat)] := (hd 24 (by kernel_rfl)).2
      rw [d24]
      clear d24
      have d25 : S 25 = .int .u64 (c : Nat) := (hd 25 (by kernel_rfl)).2
      rw [d25]
      clear d25
      have d26 : S 26 = .int .u64 (s : Nat) := (hd 26 (by kernel_rfl)).2
      rw [d26]
      clear d26
      have d27 : S 27 = .agg #[.int .u64 (x6 : Nat), .int .u64 (x7 : Nat)] := (hd 27 (by kernel_rfl)).2
      rw [d27]
      clear d27
      have d28 : S 28 = .bool true := (hd 28 (by kernel_rfl)).2
      rw [d28]
      clear d28
      have d29 : S 29 = .bool true := (hd 29 (by kernel_rfl)).2
      rw [d29]
      clear d29
      clear hd
      refine GH.st_eq (by rfl) ?_
      go_simp
      (try with_reducible rfl)
    | n + 31, hj, _ => omega
  intro S w' hb hG
  simp only [GH.mkL, List.drop_succ_cons, List.drop_zero]
  have d30 : S 30 = .bool true := hG 30 (by omega)
  rw [d30]
  clear d30
  clear hG
  have hk1 := Lib.hid (hk0.out.below hb.below hk0.out.lt)
  have hx1 := Lib.hid (hx0.out.below hb.below hx0.out.lt)
  have b2 := Lib.hid (b1.out.trans (hb.below.mono b1.out.size))
  clear hk0 hx0 b1 hb
  refine wpList_nil ?_
  go_wp2_with fail
  refine GH.wp_ghl (M := false) 38 ((GH.SP.eq (.bool true)) :: (GH.SP.eq (.bool true)) :: (GH.SP.eq (.pointer (some ⟨U, 8, none⟩))) :: (GH.SP.eq (.int .u32 (x8 : Nat))) :: (GH.SP.eq (.int .u64 (c : Nat))) :: (GH.SP.eq (.int .u64 (s : Nat))) :: (GH.SP.eq (.int .u32 (x8 : Nat))) :: (GH.SP.eq (.bool true)) :: (GH.SP.eq (.bool true)) :: (GH.SP.eq (.bool true)) :: (GH.SP.eq (.int .u64 (c : Nat))) :: (GH.SP.eq (.int .u64 (s : Nat))) :: (GH.SP.eq (.agg #[.int .u64 (y0 : Nat), .int .u64 (y1 : Nat)])) :: (GH.SP.eq (.int .u64 (c : Nat))) :: (GH.SP.eq (.int .u64 (s : Nat))) :: (GH.SP.eq (.agg #[.int .u64 (y0 : Nat), .int .u64 (y1 : Nat)])) :: (GH.SP.eq (.bool true)) :: (GH.SP.eq (.bool true)) :: (GH.SP.eq (.bool true)) :: (GH.SP.eq (.agg #[.int .u64 (x0 : Nat), .int .u64 (x1 : Nat), .int .u64 (x2 : Nat), .int .u64 (x3 : Nat), .int .u64 (x4 : Nat), .int .u64 (x5 : Nat), .int .u64 (x6 : Nat), .int .u64 (x7 : Nat), .int .u32 (x8 : Nat)])) :: (GH.SP.eq (.pointer (some ⟨X, 0, none⟩))) :: (GH.SP.eq (.int .u32 (a : Nat))) :: (GH.SP.eq (.pointer (some ⟨X, 1, none⟩))) :: (GH.SP.eq (.int .u32 (b : Nat))) :: (GH.SP.eq (.agg #[.int .u64 (p : Nat), .int .u64 (q : Nat)])) :: (GH.SP.eq (.pointer (some ⟨U, 6, none⟩))) :: (GH.SP.eq (.agg #[.int .u64 (x6 : Nat), .int .u64 (x7 : Nat)])) :: (GH.SP.eq (.pointer (some ⟨X, 0, none⟩))) :: (GH.SP.eq (.int .u32 (a : Nat))) :: (GH.SP.eq (.pointer (some ⟨X, 1, none⟩))) :: (GH.SP.eq (.int .u32 (b : Nat))) :: (GH.SP.eq (.agg #[.int .u64 (p : Nat), .int .u64 (q : Nat)])) :: (GH.SP.eq (.bool true)) :: (GH.SP.eq (.bool true)) :: (GH.SP.eq (.bool true)) :: (GH.SP.eq (.bool true)) :: (GH.SP.eq (.bool true)) :: (GH.SP.eq (.bool true)) :: []) (none :: none :: none :: none :: none :: none :: (some 37) :: none :: none :: none :: none :: none :: none :: none :: none :: none :: none :: none :: none :: none :: none :: none :: none :: none :: none :: none :: none :: none :: none :: none :: none :: none :: none :: none :: none :: none :: none :: none :: none :: none :: none :: none :: (some 0) :: (some 1) :: (some 2) :: (some 3) :: (some 4) :: (some 5) :: (some 6) :: (some 7) :: (some 8) :: (some 9) :: (some 10) :: (some 11) :: (some 12) :: (some 13) :: (some 14) :: (some 15) :: (some 16) :: (some 17) :: (some 18) :: (some 19) :: (some 20) :: (some 21) :: (some 22) :: (some 23) :: (some 24) :: (some 25) :: (some 26) :: (some 27) :: (some 28) :: (some 29) :: (some 30) :: (some 31) :: (some 32) :: (some 33) :: (some 34) :: (some 35) :: (some 36) :: []) [42, 43, 44, 45, 46, 47, 48, 49, 50, 51, 52, 53, 54, 55, 56, 57, 58, 59, 60, 61, 62, 63, 64, 65, 66, 67, 68, 69, 70, 71, 72, 73, 74, 75, 76, 77, 78, 6] (by rfl) (by kernel_rfl) (by kernel_rfl) ?_ ?_ ?_
  · intro S j v hj
    match j, hj with
    | 0, _ => rfl
    | 1, _ => rfl
    | 2, _ => rfl
    | 3, _ => rfl
    | 4, _ => rfl
    | 5, _ => rfl
    | 6, _ => rfl
    | 7, _ => rfl
    | 8, _ => rfl
    | 9, _ => rfl
    | 10, _ => rfl
    | 11, _ => rfl
    | 12, _ => rfl
    | 13, _ => rfl
    | 14, _ => rfl
    | 15, _ => rfl
    | 16, _ => rfl
    | 17, _ => rfl
    | 18, _ => rfl
    | 19, _ => rfl
    | 20, _ => rfl
    | 21, _ => rfl
    | 22, _ => rfl
    | 23, _ => rfl
    | 24, _ => rfl
    | 25, _ => rfl
    | 26, _ => rfl
    | 27, _ => rfl
    | 28, _ => rfl
    | 29, _ => rfl
    | 30, _ => rfl
    | 31, _ => rfl
    | 32, _ => rfl
    | 33, _ => rfl
    | 34, _ => rfl
    | 35, _ => rfl
    | 36, _ => rfl
    | 37, _ => rfl
    | n + 38, hj => omega
  · intro j hj S w' hb hd
    match j, hj, hd with
    | 0, _, hd =>
      simp only [GH.mkL, List.getD_cons_succ, List.getD_cons_zero]
      clear hd
      refine GH.st_eq (by rfl) ?_
      go_simp
      (try with_reducible rfl)
    | 1, _, hd =>
      simp only [GH.mkL, List.getD_cons_succ, List.getD_cons_zero]
      have d0 : S 0 = .bool true := (hd 0 (by kernel_rfl)).2
      rw [d0]
      clear d0
      clear hd
      refine GH.st_eq (by rfl) ?_
      go_simp
      (try with_reducible rfl)
    | 2, _, hd =>
      simp only [GH.mkL, List.getD_cons_succ, List.getD_cons_zero]
      have d1 : S 1 = .bool true := (hd 1 (by kernel_rfl)).2
      rw [d1]
      clear d1
      clear hd
      refine GH.st_eq (by rfl) ?_
      go_simp
      (try with_reducible rfl)
    | 3, _, hd =>
      simp only [GH.mkL, List.getD_cons_succ, List.getD_cons_zero]
      have d1 : S 1 = .bool true := (hd 1 (by kernel_rfl)).2
      rw [d1]
      clear d1
      have d2 : S 2 = .pointer (some ⟨U, 8, none⟩) := (hd 2 (by kernel_rfl)).2
      rw [d2]
      clear d2
      clear hd
      exact GH.st_load _ (by rfl) rfl rfl (((hk1.out.below hb.below hk1.out.lt)).cell 8) (by kernel_rfl)
    | 4, _, hd =>
      simp only [GH.mkL, List.getD_cons_succ, List.getD_cons_zero]
      have d1 : S 1 = .bool true := (hd 1 (by kernel_rfl)).2
      rw [d1]
      clear d1
      clear hd
      refine GH.st_eq (by rfl) ?_
      go_simp
      (try with_reducible rfl)
    | 5, _, hd =>
      simp only [GH.mkL, List.getD_cons_succ, List.getD_cons_zero]
      have d1 : S 1 = .bool true := (hd 1 (by kernel_rfl)).2
      rw [d1]
      clear d1
      clear hd
      refine GH.st_eq (by rfl) ?_
      go_simp
      (try with_reducible rfl)
    | 6, _, hd =>
      simp only [GH.mkL, List.getD_cons_succ, List.getD_cons_zero]
      have d1 : S 1 = .bool true := (hd 1 (by kernel_rfl)).2
      rw [d1]
      clear d1
      have d4 : S 4 = .int .u64 (c : Nat) := (hd 4 (by kernel_rfl)).2
      rw [d4]
      clear d4
      have d5 : S 5 = .int .u64 (s : Nat) := (hd 5 (by kernel_rfl)).2
      rw [d5]
      clear d5
      clear hd
      refine GH.st_call (by rfl) hb.below.size (by go_simp) ((hT.out w').mono ?_)
      rintro e w9 ⟨rfl, hb9⟩
      exact ⟨_, rfl, hb9, rfl⟩
    | 7, _, hd =>
      simp only [GH.mkL, List.getD_cons_succ, List.getD_cons_zero]
      have d1 : S 1 = .bool true := (hd 1 (by kernel_rfl)).2
      rw [d1]
      clear d1
      have d3 : S 3 = .int .u32 (x8 : Nat) := (hd 3 (by kernel_rfl)).2
      rw [d3]
      clear d3
      have d6 : S 6 = .int .u32 (x8 : Nat) := (hd 6 (by kernel_rfl)).2
      rw [d6]
      clear d6
      clear hd
      refine GH.st_eq (by rfl) ?_
      go_simp
      (try with_reducible rfl)
    | 8, _, hd =>
      simp only [GH.mkL, List.getD_cons_succ, List.getD_cons_zero]
      have d1 : S 1 = .bool true := (hd 1 (by kernel_rfl)).2
      rw [d1]
      clear d1
      have d7 : S 7 = .bool true := (hd 7 (by kernel_rfl)).2
      rw [d7]
      clear d7
      clear hd
      refine GH.st_eq (by rfl) ?_
      go_simp
      (try with_reducible rfl)
    | 9, _, hd =>
      simp only [GH.mkL, List.getD_cons_succ, List.getD_cons_zero]
      have d6 : S 6 = .int .u32 (x8 : Nat) := (hd 6 (by kernel_rfl)).2
      rw [d6]
      clear d6
      have d8 : S 8 = .bool true := (hd 8 (by kernel_rfl)).2
      rw [d8]
      clear d8
      clear hd
      refine GH.st_eq (by rfl) ?_
      go_simp
      (try with_reducible rfl)
    | 10, _, hd =>
      simp only [GH.mkL, List.getD_cons_succ, List.getD_cons_zero]
      have d9 : S 9 = .bool true := (hd 9 (by kernel_rfl)).2
      rw [d9]
      clear d9
      clear hd
      refine GH.st_eq (by rfl) ?_
      go_simp
      (try with_reducible rfl)
    | 11, _, hd =>
      simp only [GH.mkL, List.getD_cons_succ, List.getD_cons_zero]
      have d9 : S 9 = .bool true := (hd 9 (by kernel_rfl)).2
      rw [d9]
      clear d9
      clear hd
      refine GH.st_eq (by rfl) ?_
      go_simp
      (try with_reducible rfl)
    | 12, _, hd =>
      simp only [GH.mkL, List.getD_cons_succ, List.getD_cons_zero]
      have d9 : S 9 = .bool true := (hd 9 (by kernel_rfl)).2
      rw [d9]
      clear d9
      have d10 : S 10 = .int .u64 (c : Nat) := (hd 10 (by kernel_rfl)).2
      rw [d10]
      clear d10
      have d11 : S 11 = .int .u64 (s : Nat) := (hd 11 (by kernel_rfl)).2
      rw [d11]
      clear d11
      clear hd
      refine GH.st_call (by rfl) hb.below.size (by go_simp) ((hH.out w').mono ?_)
      rintro e w9 ⟨rfl, hb9⟩
      exact ⟨_, rfl, hb9, rfl⟩
    | 13, _, hd =>
      simp only [GH.mkL, List.getD_cons_succ, List.getD_cons_zero]
      have d9 : S 9 = .bool true := (hd 9 (by kernel_rfl)).2
      rw [d9]
      clear d9
      clear hd
      refine GH.st_eq (by rfl) ?_
      go_simp
      (try with_reducible rfl)
    | 14, _, hd =>
      simp only [GH.mkL, List.getD_cons_succ, List.getD_cons_zero]
      have d9 : S 9 = .bool true := (hd 9 (by kernel_rfl)).2
      rw [d9]
      clear d9
      clear hd
      refine GH.st_eq (by rfl) ?_
      go_simp
      (try with_reducible rfl)
    | 15, _, hd =>
      simp only [GH.mkL, List.getD_cons_succ, List.getD_cons_zero]
      have d9 : S 9 = .bool true := (hd 9 (by kernel_rfl)).2
      rw [d9]
      clear d9
      have d12 : S 12 = .agg #[.int .u64 (y0 : Nat), .int .u64 (y1 : Nat)] := (hd 12 (by kernel_rfl)).2
      rw [d12]
      clear d12
      have d13 : S 13 = .int .u64 (c : Nat) := (hd 13 (by kernel_rfl)).2
      rw [d13]
      clear d13
      have d14 : S 14 = .int .u64 (s : Nat) := (hd 14 (by kernel_rfl)).2
      rw [d14]
      clear d14
      clear hd
      refine GH.st_call (by rfl) hb.below.size (by go_simp) ((hm_an.out w').mono ?_)
      rintro e w9 ⟨rfl, hb9⟩
      exact ⟨_, rfl, hb9, rfl⟩
    | 16, _, hd =>
      simp only [GH.mkL, List.getD_cons_succ, List.getD_cons_zero]
      have d9 : S 9 = .bool true := (hd 9 (by kernel_rfl)).2
      rw [d9]
      clear d9
      have d12 : S 12 = .agg #[.int .u64 (y0 : Nat), .int .u64 (y1 : Nat)] := (hd 12 (by kernel_rfl)).2
      rw [d12]
      clear d12
      have d15 : S 15 = .agg #[.int .u64 (y0 : Nat), .int .u64 (y1 : Nat)] := (hd 15 (by kernel_rfl)).2
      rw [d15]
      clear d15
      clear hd
      refine GH.st_eq (by rfl) ?_
      go_simp
      (try with_reducible rfl)
    | 17, _, hd =>
      simp only [GH.mkL, List.getD_cons_succ, List.getD_cons_zero]
      have d9 : S 9 = .bool true := (hd 9 (by kernel_rfl)).2
      rw [d9]
      clear d9
      have d16 : S 16 = .bool true := (hd 16 (by kernel_rfl)).2
      rw [d16]
      clear d16
      clear hd
      refine GH.st_eq (by rfl) ?_
      go_simp
      (try with_reducible rfl)
    | 18, _, hd =>
      simp only [GH.mkL, List.getD_cons_succ, List.getD_cons_zero]
      have d15 : S 15 = .agg #[.int .u64 (y0 : Nat), .int .u64 (y1 : Nat)] := (hd 15 (by kernel_rfl)).2
      rw [d15]
      clear d15
      have d17 : S 17 = .bool true := (hd 17 (by kernel_rfl)).2
      rw [d17]
      clear d17
      clear hd
      refine GH.st_eq (by rfl) ?_
      go_simp
      (try with_reducible rfl)
    | 19, _, hd =>
      simp only [GH.mkL, List.getD_cons_succ, List.getD_cons_zero]
      have d18 : S 18 = .bool true := (hd 18 (by kernel_rfl)).2
      rw [d18]
      clear d18
      clear hd
      exact GH.st_loads _ [.int .u64 (x0 : Nat), .int .u64 (x1 : Nat), .int .u64 (x2 : Nat), .int .u64 (x3 : Nat), .int .u64 (x4 : Nat), .int .u64 (x5 : Nat), .int .u64 (x6 : Nat), .int .u64 (x7 : Nat), .int .u32 (x8 : Nat)] (by rfl) rfl rfl (((hk1.out.below hb.below hk1.out.lt)).loads 0 _ (by rfl)) (by kernel_rfl) (by kernel_rfl)
    | 20, _, hd =>
      simp only [GH.mkL, List.getD_cons_succ, List.getD_cons_zero]
      have d18 : S 18 = .bool true := (hd 18 (by kernel_rfl)).2
      rw [d18]
      clear d18
      clear hd
      refine GH.st_eq (by rfl) ?_
      go_simp
      (try with_reducible rfl)
    | 21, _, hd =>
      simp only [GH.mkL, List.getD_cons_succ, List.getD_cons_zero]
      have d18 : S 18 = .bool true := (hd 18 (by kernel_rfl)).2
      rw [d18]
      clear d18
      have d20 : S 20 = .pointer (some ⟨X, 0, none⟩) := (hd 20 (by kernel_rfl)).2
      rw [d20]
      clear d20
      clear hd
      exact GH.st_load _ (by rfl) rfl rfl (((hx1.out.below hb.below hx1.out.lt)).cell 0) (by kernel_rfl)
    | 22, _, hd =>
      simp only [GH.mkL, List.getD_cons_succ, List.getD_cons_zero]
      have d18 : S 18 = .bool true := (hd 18 (by kernel_rfl)).2
      rw [d18]
      clear d18
      clear hd
      refine GH.st_eq (by rfl) ?_
      go_simp
      (try with_reducible rfl)
    | 23, _, hd =>
      simp only [GH.mkL, List.getD_cons_succ, List.getD_cons_zero]
      have d18 : S 18 = .bool true := (hd 18 (by kernel_rfl)).2
      rw [d18]
      clear d18
      have d22 : S 22 = .pointer (some ⟨X, 1, none⟩) := (hd 22 (by kernel_rfl)).2
      rw [d22]
      clear d22
      clear hd
      exact GH.st_load _ (by rfl) rfl rfl (((hx1.out.below hb.below hx1.out.lt)).cell 1) (by kernel_rfl)
    | 24, _, hd =>
      simp only [GH.mkL, List.getD_cons_succ, List.getD_cons_zero]
      have d18 : S 18 = .bool true := (hd 18 (by kernel_rfl)).2
      rw [d18]
      clear d18
      have d19 : S 19 = .agg #[.int .u64 (x0 : Nat), .int .u64 (x1 : Nat), .int .u64 (x2 : Nat), .int .u64 (x3 : Nat), .int .u64 (x4 : Nat), .int .u64 (x5 : Nat), .int .u64 (x6 : Nat), .int .u64 (x7 : Nat), .int .u32 (x8 : Nat)] := (hd 19 (by kernel_rfl)).2
      rw [d19]
      clear d19
      have d21 : S 21 = .int .u32 (a : Nat) := (hd 21 (by kernel_rfl)).2
      rw [d21]
      clear d21
      have d23 : S 23 = .int .u32 (b : Nat) := (hd 23 (by kernel_rfl)).2
      rw [d23]
      clear d23
      clear hd
      refine GH.st_call (by rfl) hb.below.size (by go_simp) ((hP.out w').mono ?_)
      rintro e w9 ⟨rfl, hb9⟩
      exact ⟨_, rfl, hb9, rfl⟩
    | 25, _, hd =>
      simp only [GH.mkL, List.getD_cons_succ, List.getD_cons_zero]
      have d18 : S 18 = .bool true := (hd 18 (by kernel_rfl)).2
      rw [d18]
      clear d18
      clear hd
      refine GH.st_eq (by rfl) ?_
      go_simp
      (try with_reducible rfl)
    | 26, _, hd =>
      simp only [GH.mkL, List.getD_cons_succ, List.getD_cons_zero]
      have d18 : S 18 = .bool true := (hd 18 (by kernel_rfl)).2
      rw [d18]
      clear d18
      have d25 : S 25 = .pointer (some ⟨U, 6, none⟩) := (hd 25 (by kernel_rfl)).2
      rw [d25]
      clear d25
      clear hd
      exact GH.st_loads _ [.int .u64 (x6 : Nat), .int .u64 (x7 : Nat)] (by rfl) rfl rfl (((hk1.out.below hb.below hk1.out.lt)).loads 6 _ (by rfl)) (by kernel_rfl) (by kernel_rfl)
    | 27, _, hd =>
      simp only [GH.mkL, List.getD_cons_succ, List.getD_cons_zero]
      have d18 : S 18 = .bool true := (hd 18 (by kernel_rfl)).2
      rw [d18]
      clear d18
      clear hd
      refine GH.st_eq (by rfl) ?_
      go_simp
      (try with_reducible rfl)
    | 28, _, hd =>
      simp only [GH.mkL, List.getD_cons_succ, List.getD_cons_zero]
      have d18 : S 18 = .bool true := (hd 18 (by kernel_rfl)).2
      rw [d18]
      clear d18
      have d27 : S 27 = .pointer (some ⟨X, 0, none⟩) := (hd 27 (by kernel_rfl)).2
      rw [d27]
      clear d27
      clear hd
      exact GH.st_load _ (by rfl) rfl rfl (((hx1.out.below hb.below hx1.out.lt)).cell 0) (by kernel_rfl)
    | 29, _, hd =>
      simp only [GH.mkL, List.getD_cons_succ, List.getD_cons_zero]
      have d18 : S 18 = .bool true := (hd 18 (by kernel_rfl)).2
      rw [d18]
      clear d18
      clear hd
      refine GH.st_eq (by rfl) ?_
      go_simp
      (try with_reducible rfl)
    | 30, _, hd =>
      simp only [GH.mkL, List.getD_cons_succ, List.getD_cons_zero]
      have d18 : S 18 = .bool true := (hd 18 (by kernel_rfl)).2
      rw [d18]
      clear d18
      have d29 : S 29 = .pointer (some ⟨X, 1, none⟩) := (hd 29 (by kernel_rfl)).2
      rw [d29]
      clear d29
      clear hd
      exact GH.st_load _ (by rfl) rfl rfl (((hx1.out.below hb.below hx1.out.lt)).cell 1) (by kernel_rfl)
    | 31, _, hd =>
      simp only [GH.mkL, List.getD_cons_succ, List.getD_cons_zero]
      have d18 : S 18 = .bool true := (hd 18 (by kernel_rfl)).2
      rw [d18]
      clear d18
      have d24 : S 24 = .agg #[.int .u64 (p : Nat), .int .u64 (q : Nat)] := (hd 24 (by kernel_rfl)).2
      rw [d24]
      clear d24
      have d26 : S 26 = .agg #[.int .u64 (x6 : Nat), .int .u64 (x7 : Nat)] := (hd 26 (by kernel_rfl)).2
      rw [d26]
      clear d26
      have d28 : S 28 = .int .u32 (a : Nat) := (hd 28 (by kernel_rfl)).2
      rw [d28]
      clear d28
      have d30 : S 30 = .int .u32 (b : Nat) := (hd 30 (by kernel_rfl)).2
      rw [d30]
      clear d30
      clear hd
      refine GH.st_call (by rfl) hb.below.size (by go_simp) ((hR.out w').mono ?_)
      rintro e w9 ⟨rfl, hb9⟩
      exact ⟨_, rfl, hb9, rfl⟩
    | 32, _, hd =>
      simp only [GH.mkL, List.getD_cons_succ, List.getD_cons_zero]
      have d18 : S 18 = .bool true := (hd 18 (by kernel_rfl)).2
      rw [d18]
      clear d18
      have d24 : S 24 = .agg #[.int .u64 (p : Nat), .int .u64 (q : Nat)] := (hd 24 (by kernel_rfl)).2
      rw [d24]
      clear d24
      have d31 : S 31 = .agg #[.int .u64 (p : Nat), .int .u64 (q : Nat)] := (hd 31 (by kernel_rfl)).2
      rw [d31]
      clear d31
      clear hd
      refine GH.st_eq (by rfl) ?_
      go_simp
      (try with_reducible rfl)
    | 33, _, hd =>
      simp only [GH.mkL, List.getD_cons_succ, List.getD_cons_zero]
      have d18 : S 18 = .bool true := (hd 18 (by kernel_rfl)).2
      rw [d18]
      clear d18
      have d32 : S 32 = .bool true := (hd 32 (by kernel_rfl)).2
      rw [d32]
      clear d32
      clear hd
      refine GH.st_eq (by rfl) ?_
      go_simp
      (try with_reducible rfl)
    | 34, _, hd =>
      simp only [GH.mkL, List.getD_cons_succ, List.getD_cons_zero]
      have d31 : S 31 = .agg #[.int .u64 (p : Nat), .int .u64 (q : Nat)] := (hd 31 (by kernel_rfl)).2
      rw [d31]
      clear d31
      have d33 : S 33 = .bool true := (hd 33 (by kernel_rfl)).2
      rw [d33]
      clear d33
      clear hd
      refine GH.st_eq (by rfl) ?_
      go_simp
      (try with_reducible rfl)
    | 35, _, hd =>
      simp only [GH.mkL, List.getD_cons_succ, List.getD_cons_zero]
      have d34 : S 34 = .bool true := (hd 34 (by kernel_rfl)).2
      rw [d34]
      clear d34
      clear hd
      refine GH.st_call (by rfl) hb.below.size (by go_simp) ((alive09_any w').mono ?_)
      rintro e w9 ⟨rfl, hb9⟩
      exact ⟨_, rfl, hb9, rfl⟩
    | 36, _, hd =>
      simp only [GH.mkL, List.getD_cons_succ, List.getD_cons_zero]
      have d34 : S 34 = .bool true := (hd 34 (by kernel_rfl)).2
      rw [d34]
      clear d34
      have d35 : S 35 = .bool true := (hd 35 (by kernel_rfl)).2
      rw [d35]
      clear d35
      clear hd
      refine GH.st_eq (by rfl) ?_
      go_simp
      (try with_reducible rfl)
    | 37, _, hd =>
      simp only [GH.mkL, List.getD_cons_succ, List.getD_cons_zero]
      have d0 : S 0 = .bool true := (hd 0 (by kernel_rfl)).2
      rw [d0]
      clear d0
      have d1 : S 1 = .bool true := (hd 1 (by kernel_rfl)).2
      rw [d1]
      clear d1
      have d2 : S 2 = .pointer (some ⟨U, 8, none⟩) := (hd 2 (by kernel_rfl)).2
      rw [d2]
      clear d2
      have d3 : S 3 = .int .u32 (x8 : Nat) := (hd 3 (by kernel_rfl)).2
      rw [d3]
      clear d3
      have d4 : S 4 = .int .u64 (c : Nat) := (hd 4 (by kernel_rfl)).2
      rw [d4]
      clear d4
      have d5 : S 5 = .int .u64 (s : Nat) := (hd 5 (by kernel_rfl)).2
      rw [d5]
      clear d5
      have d6 : S 6 = .int .u32 (x8 : Nat) := (hd 6 (by kernel_rfl)).2
      rw [d6]
      clear d6
      have d7 : S 7 = .bool true := (hd 7 (by kernel_rfl)).2
      rw [d7]
      clear d7
      have d8 : S 8 = .bool true := (hd 8 (by kernel_rfl)).2
      rw [d8]
      clear d8
      have d9 : S 9 = .bool true := (hd 9 (by kernel_rfl)).2
      rw [d9]
      clear d9
      have d10 : S 10 = .int .u64 (c : Nat) := (hd 10 (by kernel_rfl)).2
      rw [d10]
      clear d10
      have d11 : S 11 = .int .u64 (s : Nat) := (hd 11 (by kernel_rfl)).2
      rw [d11]
      clear d11
      have d12 : S 12 = .agg #[.int .u64 (y0 : Nat), .int .u64 (y1 : Nat)] := (hd 12 (by kernel_rfl)).2
      rw [d12]
      clear d12
      have d13 : S 13 = .int .u64 (c : Nat) := (hd 13 (by kernel_rfl)).2
      rw [d13]
      clear d13
      have d14 : S 14 = .int .u64 (s : Nat) := (hd 14 (by kernel_rfl)).2
      rw [d14]
      clear d14
      have d15 : S 15 = .agg #[.int .u64 (y0 : Nat), .int .u64 (y1 : Nat)] := (hd 15 (by kernel_rfl)).2
      rw [d15]
      clear d15
      have d16 : S 16 = .bool true := (hd 16 (by kernel_rfl)).2
      rw [d16]
      clear d16
      have d17 : S 17 = .bool true := (hd 17 (by kernel_rfl)).2
      rw [d17]
      clear d17
      have d18 : S 18 = .bool true := (hd 18 (by kernel_rfl)).2
      rw [d18]
      clear d18
      have d19 : S 19 = .agg #[.int .u64 (x0 : Nat), .int .u64 (x1 : Nat), .int .u64 (x2 : Nat), .int .u64 (x3 : Nat), .int .u64 (x4 : Nat), .int .u64 (x5 : Nat), .int .u64 (x6 : Nat), .int .u64 (x7 : Nat), .int .u32 (x8 : Nat)] := (hd 19 (by kernel_rfl)).2
      rw [d19]
      clear d19
      have d20 : S 20 = .pointer (some ⟨X, 0, none⟩) := (hd 20 (by kernel_rfl)).2
      rw [d20]
      clear d20
      have d21 : S 21 = .int .u32 (a : Nat) := (hd 21 (by kernel_rfl)).2
      rw [d21]
      clear d21
      have d22 : S 22 = .pointer (some ⟨X, 1, none⟩) := (hd 22 (by kernel_rfl)).2
      rw [d22]
      clear d22
      have d23 : S 23 = .int .u32 (b : Nat) := (hd 23 (by kernel_rfl)).2
      rw [d23]
      clear d23
      have d24 : S 24 = .agg #[.int .u64 (p : Nat), .int .u64 (q : Nat)] := (hd 24 (by kernel_rfl)).2
      rw [d24]
      clear d24
      have d25 : S 25 = .pointer (some ⟨U, 6, none⟩) := (hd 25 (by kernel_rfl)).2
      rw [d25]
      clear d25
      have d26 : S 26 = .agg #[.int .u64 (x6 : Nat), .int .u64 (x7 : Nat)] := (hd 26 (by kernel_rfl)).2
      rw [d26]
      clear d26
      have d27 : S 27 = .pointer (some ⟨X, 0, none⟩) := (hd 27 (by kernel_rfl)).2
      rw [d27]
      clear d27
      have d28 : S 28 = .int .u32 (a : Nat) := (hd 28 (by kernel_rfl)).2
      rw [d28]
      clear d28
      have d29 : S 29 = .pointer (some ⟨X, 1, none⟩) := (hd 29 (by kernel_rfl)).2
      rw [d29]
      clear d29
      have d30 : S 30 = .int .u32 (b : Nat) := (hd 30 (by kernel_rfl)).2
      rw [d30]
      clear d30
      have d31 : S 31 = .agg #[.int .u64 (p : Nat), .int .u64 (q : Nat)] := (hd 31 (by kernel_rfl)).2
      rw [d31]
      clear d31
      have d32 : S 32 = .bool true := (hd 32 (by kernel_rfl)).2
      rw [d32]
      clear d32
      have d33 : S 33 = .bool true := (hd 33 (by kernel_rfl)).2
      rw [d33]
      clear d33
      have d34 : S 34 = .bool true := (hd 34 (by kernel_rfl)).2
      rw [d34]
      clear d34
      have d35 : S 35 = .bool true := (hd 35 (by kernel_rfl)).2
      rw [d35]
      clear d35
      have d36 : S 36 = .bool true := (hd 36 (by kernel_rfl)).2
      rw [d36]
      clear d36
      clear hd
      refine GH.st_eq (by rfl) ?_
      go_simp
      (try with_reducible rfl)
    | n + 38, hj, _ => omega
  intro S w' hb hG
  simp only [GH.mkL, List.drop_succ_cons, List.drop_zero]
  have d37 : S 37 = .bool true := hG 37 (by omega)
  rw [d37]
  clear d37
  clear hG
  have BF := Lib.hid (b2.out.trans (hb.below.mono b2.out.size))
  clear b2 hb
  refine wpList_nil ?_
  go_wp2_with fail
  go_ret
  exact ⟨rfl, BF.out⟩
theorem keysSessions_walk (c s a b : Nat) (w : World) (h0 : c < 18446744073709551616) (h1 : s < 18446744073709551616) (ha : a < 4294967296) (hbb : b < 4294967296) :
    Calls Try.prog 3 #[.int .u64 c, .int .u64 s, .agg #[.int .u32 a, .int .u32 b]] w fun e w' => e = .returned (.bool true) ∧ Below w.heap.size w w' :=
  keysSessions_core c s a b (kvA c s [105, 100]) (kvB c s [105, 100]) (kvA c s [99, 108, 105, 101, 110, 116]) (kvB c s [99, 108, 105, 101, 110, 116]) (kvA c s [115, 101, 114, 118, 101, 114]) (kvB c s [115, 101, 114, 118, 101, 114]) (kvA c s [106, 111, 105, 110]) (kvB c s [106, 111, 105, 110]) (tkn c s) _ _ _ _ w
    (Lib.hid fun w => session_any c s w h0 h1) (Lib.hid fun w => made_lit c s [105, 100] { data := #[105, 100] } w h0 h1 (by rfl) (by decide) (by decide)) (Lib.hid fun w => made_lit c s [99, 108, 105, 101, 110, 116] { data := #[99, 108, 105, 101, 110, 116] } w h0 h1 (by rfl) (by decide) (by decide)) (Lib.hid fun w => made_lit c s [115, 101, 114, 118, 101, 114] { data := #[115, 101, 114, 118, 101, 114] } w h0 h1 (by rfl) (by decide) (by decide)) (Lib.hid fun w => made_lit c s [106, 111, 105, 110] { data := #[106, 111, 105, 110] } w h0 h1 (by rfl) (by decide) (by decide)) (Lib.hid fun w => made_lit c s [97, 110, 115, 119, 101, 114] { data := #[97, 110, 115, 119, 101, 114] } w h0 h1 (by rfl) (by decide) (by decide))
    (Lib.hid fun w => token_any c s w h0 h1) (Lib.hid fun w => handshake_any c s w h0 h1)
    (Lib.hid fun w => path_any (kvA c s [105, 100]) (kvB c s [105, 100]) (kvA c s [99, 108, 105, 101, 110, 116]) (kvB c s [99, 108, 105, 101, 110, 116]) (kvA c s [115, 101, 114, 118, 101, 114]) (kvB c s [115, 101, 114, 118, 101, 114]) (kvA c s [106, 111, 105, 110]) (kvB c s [106, 111, 105, 110]) (tkn c s) a b w (kvA_lt c s _ h0 h1) (kvB_lt c s _ h0 h1) ha hbb) (Lib.hid fun w => rpath_any _ _ a b w (kvA_lt c s _ h0 h1) (kvB_lt c s _ h0 h1) ha hbb)
end Go.Proofs.Ytcgcglngjfijnaa
