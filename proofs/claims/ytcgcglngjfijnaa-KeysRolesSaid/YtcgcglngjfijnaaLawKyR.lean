/- Layer 9: the law KeysRoles answers true, and nothing that was there has turned. -/
import Derived.Test.YtcgcglngjfijnaaKy5
import Derived.Test.YtcgcglngjfijnaaSipLt
namespace Go.Proofs.Ytcgcglngjfijnaa
open Go.RowKit
set_option linter.unusedVariables false
set_option linter.unusedSimpArgs false
theorem other_1 (w : World) : Calls Try.prog 19 #[.int .i64 1] w fun e w' => e = .returned (.int .i64 2) ∧ Below w.heap.size w w' := other_any 1 w
theorem other_2 (w : World) : Calls Try.prog 19 #[.int .i64 2] w fun e w' => e = .returned (.int .i64 1) ∧ Below w.heap.size w w' := other_any 2 w
set_option maxRecDepth 20000 in
set_option maxHeartbeats 4000000 in
theorem keysRoles_1 (x0 x1 x2 x3 x4 x5 x6 x7 x8 : Nat) (w : World) :
    Calls Try.prog 4 #[.agg #[.int .u64 (x0 : Nat), .int .u64 (x1 : Nat), .int .u64 (x2 : Nat), .int .u64 (x3 : Nat), .int .u64 (x4 : Nat), .int .u64 (x5 : Nat), .int .u64 (x6 : Nat), .int .u64 (x7 : Nat), .int .u32 (x8 : Nat)], .int .i64 1] w fun e w' => e = .returned (.bool true) ∧ Below w.heap.size w w' := by
  go_enter Try.func4, Try.ntmps4
  go_wp2_with fail
  have hx0 := Lib.hid (Blk.new w 29 #[.int .u64 (x0 : Nat), .int .u64 (x1 : Nat), .int .u64 (x2 : Nat), .int .u64 (x3 : Nat), .int .u64 (x4 : Nat), .int .u64 (x5 : Nat), .int .u64 (x6 : Nat), .int .u64 (x7 : Nat), .int .u32 (x8 : Nat)])
  have b0 := Lib.hid ((Below.refl w.heap.size w).alloc (Nat.le_refl _) (.cells #[.int .u64 (x0 : Nat), .int .u64 (x1 : Nat), .int .u64 (x2 : Nat), .int .u64 (x3 : Nat), .int .u64 (x4 : Nat), .int .u64 (x5 : Nat), .int .u64 (x6 : Nat), .int .u64 (x7 : Nat), .int .u32 (x8 : Nat)] 29))
  generalize w.alloc (.cells #[.int .u64 (x0 : Nat), .int .u64 (x1 : Nat), .int .u64 (x2 : Nat), .int .u64 (x3 : Nat), .int .u64 (x4 : Nat), .int .u64 (x5 : Nat), .int .u64 (x6 : Nat), .int .u64 (x7 : Nat), .int .u32 (x8 : Nat)] 29) = wa at hx0 b0 ⊢
  refine (other_any 1 wa).mono ?_
  rintro e w1 ⟨rfl, hb1⟩
  have HX := Lib.hid (hx0.out.below hb1 hx0.out.lt)
  have HB1 := Lib.hid (b0.out.trans (hb1.mono b0.out.size))
  clear hb1 hx0 b0
  have q2 := HX.out.cell 2; have q3 := HX.out.cell 3; have q4 := HX.out.cell 4; have q5 := HX.out.cell 5
  have q2 : w1.cell? ⟨w.heap.size, 2, none⟩ = some (.int .u64 (x2 : Nat)) := q2
  have q3 : w1.cell? ⟨w.heap.size, 3, none⟩ = some (.int .u64 (x3 : Nat)) := q3
  have q4 : w1.cell? ⟨w.heap.size, 4, none⟩ = some (.int .u64 (x4 : Nat)) := q4
  have q5 : w1.cell? ⟨w.heap.size, 5, none⟩ = some (.int .u64 (x5 : Nat)) := q5
  have HU := Lib.hid (show w.heap.size ≤ w1.heap.size from HB1.out.size)
  have HXU := Lib.hid HX.out.lt
  go_upto_region 3 with fail
  have hw0 := Lib.hid (Blk.new w1 27 #[.int .u64 (x4 : Nat), .int .u64 (x5 : Nat)])
  have hx0 := Lib.hid (HX.out.alloc (.cells #[.int .u64 (x4 : Nat), .int .u64 (x5 : Nat)] 27))
  have b1 := Lib.hid (HB1.out.alloc HB1.out.size (.cells #[.int .u64 (x4 : Nat), .int .u64 (x5 : Nat)] 27))
  clear HB1 HX q2 q3 q4 q5
  generalize w1.alloc (.cells #[.int .u64 (x4 : Nat), .int .u64 (x5 : Nat)] 27) = w2 at hw0 hx0 b1 ⊢
  generalize w1.heap.size = U at hw0 HU HXU ⊢
  obtain ⟨X, hX⟩ : ∃ X, X = w.heap.size := ⟨_, rfl⟩
  rw [← hX] at hx0 HU HXU ⊢
  have HXX := Lib.hid hX
  clear hX
  go_upto_region 4 with fail
  refine GH.wp_ghs (M := false) 2 ((GH.SP.eq (.pointer (some ⟨X, 2, none⟩))) :: (GH.SP.eq (.agg #[.int .u64 (x2 : Nat), .int .u64 (x3 : Nat)])) :: []) (none :: none :: none :: none :: none :: none :: none :: none :: none :: none :: none :: none :: none :: (some 0) :: (some 1) :: none :: none :: none :: none :: none :: none :: none :: none :: none :: none :: none :: none :: none :: none :: none :: none :: none :: none :: none :: none :: none :: none :: none :: none :: none :: none :: none :: none :: none :: none :: none :: none :: none :: none :: none :: none :: none :: none :: []) [13, 14] (by rfl) (by kernel_rfl) ?_ ?_ ?_
  · intro S j v hj
    match j, hj with
    | 0, _ => rfl
    | 1, _ => rfl
    | n + 2, hj => omega
  · intro j hj S w' hb hd
    match j, hj, hd with
    | 0, _, hd =>
      simp only [GH.mkL, List.getD_cons_succ, List.getD_cons_zero]
      clear hd
      refine GH.st_eq (by rfl) ?_
      go_simp
      (try with_reducible rfl)
    | 1, _, hd =>
      simp only [GH.mkL, List.getD_cons_succ, List.getD_cons_zero]
      have d0 : S 0 = .pointer (some ⟨X, 2, none⟩) := (hd 0 (by kernel_rfl)).2
      rw [d0]
      clear d0
      clear hd
      exact GH.st_loads _ [.int .u64 (x2 : Nat), .int .u64 (x3 : Nat)] (by rfl) rfl rfl (((hx0.out.below hb.below hx0.out.lt)).loads 2 _ (by rfl)) (by kernel_rfl) (by kernel_rfl)
    | n + 2, hj, _ => omega
  intro S w' hb hG
  simp only [GH.mkL, List.drop_succ_cons, List.drop_zero]
  have d1 : S 1 = .agg #[.int .u64 (x2 : Nat), .int .u64 (x3 : Nat)] := hG 1 (by omega)
  rw [d1]
  clear d1
  clear hG
  have KU := Lib.hid (hw0.out.below hb.below hw0.out.lt)
  have KX := Lib.hid (hx0.out.below hb.below hx0.out.lt)
  have BF := Lib.hid (b1.out.trans (hb.below.mono b1.out.size))
  clear hw0 hx0 b1 hb
  refine stm_store (cs' := #[.int .u64 (x2 : Nat), .int .u64 (x3 : Nat)]) KU.out rfl _ _ rfl rfl rfl (by simp) (by kernel_rfl) (by simp [Value.oneCell']) (by simp [setL]) fun w9 hw0 hs => ?_
  have hx0 := Lib.hid (hs.blk KX.out (by have := HXU.out; omega))
  have b1 := Lib.hid (BF.out.trans (hs.1.mono (by have := HXX.out; have := HU.out; omega)))
  replace hw0 := Lib.hid hw0
  clear KU KX BF hs
  refine wpList_nil ?_
  go_wp2_with fail
  refine GH.wp_ghl (M := false) 39 ((GH.SP.eq (.agg #[.int .u64 (x0 : Nat), .int .u64 (x1 : Nat), .int .u64 (x2 : Nat), .int .u64 (x3 : Nat), .int .u64 (x4 : Nat), .int .u64 (x5 : Nat), .int .u64 (x6 : Nat), .int .u64 (x7 : Nat), .int .u32 (x8 : Nat)])) :: (GH.SP.eq (.int .i64 1)) :: (GH.SP.eq (.agg #[.int .u64 (x2 : Nat), .int .u64 (x3 : Nat)])) :: (GH.SP.eq (.agg #[.int .u64 (x0 : Nat), .int .u64 (x1 : Nat), .int .u64 (x2 : Nat), .int .u64 (x3 : Nat), .int .u64 (x4 : Nat), .int .u64 (x5 : Nat), .int .u64 (x6 : Nat), .int .u64 (x7 : Nat), .int .u32 (x8 : Nat)])) :: (GH.SP.eq (.int .i64 2)) :: (GH.SP.eq (.agg #[.int .u64 (x2 : Nat), .int .u64 (x3 : Nat)])) :: (GH.SP.eq (.bool true)) :: (GH.SP.eq (.bool true)) :: (GH.SP.eq (.agg #[.int .u64 (x0 : Nat), .int .u64 (x1 : Nat), .int .u64 (x2 : Nat), .int .u64 (x3 : Nat), .int .u64 (x4 : Nat), .int .u64 (x5 : Nat), .int .u64 (x6 : Nat), .int .u64 (x7 : Nat), .int .u32 (x8 : Nat)])) :: (GH.SP.eq (.int .i64 1)) :: (GH.SP.eq (.agg #[.int .u64 (x2 : Nat), .int .u64 (x3 : Nat)])) :: (GH.SP.eq (.agg #[.int .u64 (x2 : Nat), .int .u64 (x3 : Nat)])) :: (GH.SP.eq (.bool true)) :: (GH.SP.eq (.bool true)) :: (GH.SP.eq (.bool true)) :: (GH.SP.eq (.int .i64 2)) :: (GH.SP.eq (.int .i64 1)) :: (GH.SP.eq (.int .i64 1)) :: (GH.SP.eq (.bool true)) :: (GH.SP.eq (.bool true)) :: (GH.SP.eq (undef)) :: (GH.SP.eq (undef)) :: (GH.SP.eq (undef)) :: (GH.SP.eq (undef)) :: (GH.SP.eq (undef)) :: (GH.SP.eq (undef)) :: (GH.SP.eq (.bool true)) :: (GH.SP.eq (.bool true)) :: (GH.SP.eq (.bool true)) :: (GH.SP.eq (.int .i64 2)) :: (GH.SP.eq (.bool false)) :: (GH.SP.eq (.int .i64 1)) :: (GH.SP.eq (.bool false)) :: (GH.SP.eq (.bool true)) :: (GH.SP.eq (.bool true)) :: (GH.SP.eq (.bool true)) :: (GH.SP.eq (.bool true)) :: (GH.SP.eq (.bool true)) :: (GH.SP.eq (.bool true)) :: []) (none :: none :: none :: none :: (some 38) :: none :: none :: none :: none :: none :: none :: none :: none :: none :: none :: (some 0) :: (some 1) :: (some 2) :: (some 3) :: (some 4) :: (some 5) :: (some 6) :: (some 7) :: (some 8) :: (some 9) :: (some 10) :: (some 11) :: (some 12) :: (some 13) :: (some 14) :: (some 15) :: (some 16) :: (some 17) :: (some 18) :: (some 19) :: (some 20) :: (some 21) :: (some 22) :: (some 23) :: (some 24) :: (some 25) :: (some 26) :: (some 27) :: (some 28) :: (some 29) :: (some 30) :: (some 31) :: (some 32) :: (some 33) :: (some 34) :: (some 35) :: (some 36) :: (some 37) :: []) [15, 16, 17, 18, 19, 20, 21, 22, 23, 24, 25, 26, 27, 28, 29, 30, 31, 32, 33, 34, 35, 36, 37, 38, 39, 40, 41, 42, 43, 44, 45, 46, 47, 48, 49, 50, 51, 52, 4] (by rfl) (by kernel_rfl) (by kernel_rfl) ?_ ?_ ?_
  · intro S j v hj
    match j, hj with
    | 0, _ => rfl
    | 1, _ => rfl
    | 2, _ => rfl
    | 3, _ => rfl
    | 4, _ => rfl
    | 5, _ => rfl
    | 6, _ => rfl
    | 7, _ => rfl
    | 8, _ => rfl
    | 9, _ => rfl
    | 10, _ => rfl
    | 11, _ => rfl
    | 12, _ => rfl
    | 13, _ => rfl
    | 14, _ => rfl
    | 15, _ => rfl
    | 16, _ => rfl
    | 17, _ => rfl
    | 18, _ => rfl
    | 19, _ => rfl
    | 20, _ => rfl
    | 21, _ => rfl
    | 22, _ => rfl
    | 23, _ => rfl
    | 24, _ => rfl
    | 25, _ => rfl
    | 26, _ => rfl
    | 27, _ => rfl
    | 28, _ => rfl
    | 29, _ => rfl
    | 30, _ => rfl
    | 31, _ => rfl
    | 32, _ => rfl
    | 33, _ => rfl
    | 34, _ => rfl
    | 35, _ => rfl
    | 36, _ => rfl
    | 37, _ => rfl
    | 38, _ => rfl
    | n + 39, hj => omega
  · intro j hj S w' hb hd
    match j, hj, hd with
    | 0, _, hd =>
      simp only [GH.mkL, List.getD_cons_succ, List.getD_cons_zero]
      clear hd
      exact GH.st_loads _ [.int .u64 (x0 : Nat), .int .u64 (x1 : Nat), .int .u64 (x2 : Nat), .int .u64 (x3 : Nat), .int .u64 (x4 : Nat), .int .u64 (x5 : Nat), .int .u64 (x6 : Nat), .int .u64 (x7 : Nat), .int .u32 (x8 : Nat)] (by rfl) rfl rfl (((hx0.out.below hb.below hx0.out.lt)).loads 0 _ (by rfl)) (by kernel_rfl) (by kernel_rfl)
    | 1, _, hd =>
      simp only [GH.mkL, List.getD_cons_succ, List.getD_cons_zero]
      clear hd
      refine GH.st_eq (by rfl) ?_
      go_simp
      (try with_reducible rfl)
    | 2, _, hd =>
      simp only [GH.mkL, List.getD_cons_succ, List.getD_cons_zero]
      have d0 : S 0 = .agg #[.int .u64 (x0 : Nat), .int .u64 (x1 : Nat), .int .u64 (x2 : Nat), .int .u64 (x3 : Nat), .int .u64 (x4 : Nat), .int .u64 (x5 : Nat), .int .u64 (x6 : Nat), .int .u64 (x7 : Nat), .int .u32 (x8 : Nat)] := (hd 0 (by kernel_rfl)).2
      rw [d0]
      clear d0
      have d1 : S 1 = .int .i64 1 := (hd 1 (by kernel_rfl)).2
      rw [d1]
      clear d1
      clear hd
      refine GH.st_call (by rfl) hb.below.size (by go_simp) ((out_any x0 x1 x2 x3 x4 x5 x6 x7 x8 1 w').mono ?_)
      rintro e w9 ⟨rfl, hb9⟩
      exact ⟨_, rfl, hb9, rfl⟩
    | 3, _, hd =>
      simp only [GH.mkL, List.getD_cons_succ, List.getD_cons_zero]
      clear hd
      exact GH.st_loads _ [.int .u64 (x0 : Nat), .int .u64 (x1 : Nat), .int .u64 (x2 : Nat), .int .u64 (x3 : Nat), .int .u64 (x4 : Nat), .int .u64 (x5 : Nat), .int .u64 (x6 : Nat), .int .u64 (x7 : Nat), .int .u32 (x8 : Nat)] (by rfl) rfl rfl (((hx0.out.below hb.below hx0.out.lt)).loads 0 _ (by rfl)) (by kernel_rfl) (by kernel_rfl)
    | 4, _, hd =>
      simp only [GH.mkL, List.getD_cons_succ, List.getD_cons_zero]
      clear hd
      refine GH.st_eq (by rfl) ?_
      go_simp
      (try with_reducible rfl)
    | 5, _, hd =>
      simp only [GH.mkL, List.getD_cons_succ, List.getD_cons_zero]
      have d2 : S 2 = .agg #[.int .u64 (x2 : Nat), .int .u64 (x3 : Nat)] := (hd 2 (by kernel_rfl)).2
      rw [d2]
      clear d2
      have d3 : S 3 = .agg #[.int .u64 (x0 : Nat), .int .u64 (x1 : Nat), .int .u64 (x2 : Nat), .int .u64 (x3 : Nat), .int .u64 (x4 : Nat), .int .u64 (x5 : Nat), .int .u64 (x6 : Nat), .int .u64 (x7 : Nat), .int .u32 (x8 : Nat)] := (hd 3 (by kernel_rfl)).2
      rw [d3]
      clear d3
      have d4 : S 4 = .int .i64 2 := (hd 4 (by kernel_rfl)).2
      rw [d4]
      clear d4
      clear hd
      refine GH.st_call (by rfl) hb.below.size (by go_simp) ((in_any x0 x1 x2 x3 x4 x5 x6 x7 x8 2 w').mono ?_)
      rintro e w9 ⟨rfl, hb9⟩
      exact ⟨_, rfl, hb9, rfl⟩
    | 6, _, hd =>
      simp only [GH.mkL, List.getD_cons_succ, List.getD_cons_zero]
      have d2 : S 2 = .agg #[.int .u64 (x2 : Nat), .int .u64 (x3 : Nat)] := (hd 2 (by kernel_rfl)).2
      rw [d2]
      clear d2
      have d5 : S 5 = .agg #[.int .u64 (x2 : Nat), .int .u64 (x3 : Nat)] := (hd 5 (by kernel_rfl)).2
      rw [d5]
      clear d5
      clear hd
      refine GH.st_eq (by rfl) ?_
      go_simp
      (try with_reducible rfl)
    | 7, _, hd =>
      simp only [GH.mkL, List.getD_cons_succ, List.getD_cons_zero]
      have d5 : S 5 = .agg #[.int .u64 (x2 : Nat), .int .u64 (x3 : Nat)] := (hd 5 (by kernel_rfl)).2
      rw [d5]
      clear d5
      have d6 : S 6 = .bool true := (hd 6 (by kernel_rfl)).2
      rw [d6]
      clear d6
      clear hd
      refine GH.st_eq (by rfl) ?_
      go_simp
      (try with_reducible rfl)
    | 8, _, hd =>
      simp only [GH.mkL, List.getD_cons_succ, List.getD_cons_zero]
      have d7 : S 7 = .bool true := (hd 7 (by kernel_rfl)).2
      rw [d7]
      clear d7
      clear hd
      exact GH.st_loads _ [.int .u64 (x0 : Nat), .int .u64 (x1 : Nat), .int .u64 (x2 : Nat), .int .u64 (x3 : Nat), .int .u64 (x4 : Nat), .int .u64 (x5 : Nat), .int .u64 (x6 : Nat), .int .u64 (x7 : Nat), .int .u32 (x8 : Nat)] (by rfl) rfl rfl (((hx0.out.below hb.below hx0.out.lt)).loads 0 _ (by rfl)) (by kernel_rfl) (by kernel_rfl)
    | 9, _, hd =>
      simp only [GH.mkL, List.getD_cons_succ, List.getD_cons_zero]
      have d7 : S 7 = .bool true := (hd 7 (by kernel_rfl)).2
      rw [d7]
      clear d7
      clear hd
      refine GH.st_eq (by rfl) ?_
      go_simp
      (try with_reducible rfl)
    | 10, _, hd =>
      simp only [GH.mkL, List.getD_cons_succ, List.getD_cons_zero]
      have d7 : S 7 = .bool true := (hd 7 (by kernel_rfl)).2
      rw [d7]
      clear d7
      have d8 : S 8 = .agg #[.int .u64 (x0 : Nat), .int .u64 (x1 : Nat), .int .u64 (x2 : Nat), .int .u64 (x3 : Nat), .int .u64 (x4 : Nat), .int .u64 (x5 : Nat), .int .u64 (x6 : Nat), .int .u64 (x7 : Nat), .int .u32 (x8 : Nat)] := (hd 8 (by kernel_rfl)).2
      rw [d8]
      clear d8
      have d9 : S 9 = .int .i64 1 := (hd 9 (by kernel_rfl)).2
      rw [d9]
      clear d9
      clear hd
      refine GH.st_call (by rfl) hb.below.size (by go_simp) ((out_any x0 x1 x2 x3 x4 x5 x6 x7 x8 1 w').mono ?_)
      rintro e w9 ⟨rfl, hb9⟩
      exact ⟨_, rfl, hb9, rfl⟩
    | 11, _, hd =>
      simp only [GH.mkL, List.getD_cons_succ, List.getD_cons_zero]
      have d7 : S 7 = .bool true := (hd 7 (by kernel_rfl)).2
      rw [d7]
      clear d7
      clear hd
      exact GH.st_loads _ [.int .u64 (x2 : Nat), .int .u64 (x3 : Nat)] (by rfl) rfl rfl (((hw0.out.below hb.below hw0.out.lt)).loads 0 _ (by rfl)) (by kernel_rfl) (by kernel_rfl)
    | 12, _, hd =>
      simp only [GH.mkL, List.getD_cons_succ, List.getD_cons_zero]
      have d7 : S 7 = .bool true := (hd 7 (by kernel_rfl)).2
      rw [d7]
      clear d7
      have d10 : S 10 = .agg #[.int .u64 (x2 : Nat), .int .u64 (x3 : Nat)] := (hd 10 (by kernel_rfl)).2
      rw [d10]
      clear d10
      have d11 : S 11 = .agg #[.int .u64 (x2 : Nat), .int .u64 (x3 : Nat)] := (hd 11 (by kernel_rfl)).2
      rw [d11]
      clear d11
      clear hd
      refine GH.st_eq (by rfl) ?_
      go_simp
      (try with_reducible rfl)
    | 13, _, hd =>
      simp only [GH.mkL, List.getD_cons_succ, List.getD_cons_zero]
      have d7 : S 7 = .bool true := (hd 7 (by kernel_rfl)).2
      rw [d7]
      clear d7
      have d12 : S 12 = .bool true := (hd 12 (by kernel_rfl)).2
      rw [d12]
      clear d12
      clear hd
      refine GH.st_eq (by rfl) ?_
      go_simp
      (try with_reducible rfl)
    | 14, _, hd =>
      simp only [GH.mkL, List.getD_cons_succ, List.getD_cons_zero]
      have d10 : S 10 = .agg #[.int .u64 (x2 : Nat), .int .u64 (x3 : Nat)] := (hd 10 (by kernel_rfl)).2
      rw [d10]
      clear d10
      have d13 : S 13 = .bool true := (hd 13 (by kernel_rfl)).2
      rw [d13]
      clear d13
      clear hd
      refine GH.st_eq (by rfl) ?_
      go_simp
      (try with_reducible rfl)
    | 15, _, hd =>
      simp only [GH.mkL, List.getD_cons_succ, List.getD_cons_zero]
      have d14 : S 14 = .bool true := (hd 14 (by kernel_rfl)).2
      rw [d14]
      clear d14
      clear hd
      refine GH.st_eq (by rfl) ?_
      go_simp
      (try with_reducible rfl)
    | 16, _, hd =>
      simp only [GH.mkL, List.getD_cons_succ, List.getD_cons_zero]
      have d14 : S 14 = .bool true := (hd 14 (by kernel_rfl)).2
      rw [d14]
      clear d14
      have d15 : S 15 = .int .i64 2 := (hd 15 (by kernel_rfl)).2
      rw [d15]
      clear d15
      clear hd
      refine GH.st_call (by rfl) hb.below.size (by go_simp) ((other_any 2 w').mono ?_)
      rintro e w9 ⟨rfl, hb9⟩
      exact ⟨_, rfl, hb9, rfl⟩
    | 17, _, hd =>
      simp only [GH.mkL, List.getD_cons_succ, List.getD_cons_zero]
      have d14 : S 14 = .bool true := (hd 14 (by kernel_rfl)).2
      rw [d14]
      clear d14
      clear hd
      refine GH.st_eq (by rfl) ?_
      go_simp
      (try with_reducible rfl)
    | 18, _, hd =>
      simp only [GH.mkL, List.getD_cons_succ, List.getD_cons_zero]
      have d14 : S 14 = .bool true := (hd 14 (by kernel_rfl)).2
      rw [d14]
      clear d14
      have d16 : S 16 = .int .i64 1 := (hd 16 (by kernel_rfl)).2
      rw [d16]
      clear d16
      have d17 : S 17 = .int .i64 1 := (hd 17 (by kernel_rfl)).2
      rw [d17]
      clear d17
      clear hd
      refine GH.st_eq (by rfl) ?_
      go_simp
      (try with_reducible rfl)
    | 19, _, hd =>
      simp only [GH.mkL, List.getD_cons_succ, List.getD_cons_zero]
      have d14 : S 14 = .bool true := (hd 14 (by kernel_rfl)).2
      rw [d14]
      clear d14
      have d16 : S 16 = .int .i64 1 := (hd 16 (by kernel_rfl)).2
      rw [d16]
      clear d16
      have d18 : S 18 = .bool true := (hd 18 (by kernel_rfl)).2
      rw [d18]
      clear d18
      clear hd
      refine GH.st_eq (by rfl) ?_
      go_simp
      (try with_reducible rfl)
    | 20, _, hd =>
      simp only [GH.mkL, List.getD_cons_succ, List.getD_cons_zero]
      have d19 : S 19 = .bool true := (hd 19 (by kernel_rfl)).2
      rw [d19]
      clear d19
      clear hd
      exact GH.st_skip (by rfl) rfl
    | 21, _, hd =>
      simp only [GH.mkL, List.getD_cons_succ, List.getD_cons_zero]
      have d19 : S 19 = .bool true := (hd 19 (by kernel_rfl)).2
      rw [d19]
      clear d19
      have d20 : S 20 = undef := (hd 20 (by kernel_rfl)).2
      rw [d20]
      clear d20
      clear hd
      exact GH.st_skip (by rfl) rfl
    | 22, _, hd =>
      simp only [GH.mkL, List.getD_cons_succ, List.getD_cons_zero]
      have d19 : S 19 = .bool true := (hd 19 (by kernel_rfl)).2
      rw [d19]
      clear d19
      have d21 : S 21 = undef := (hd 21 (by kernel_rfl)).2
      rw [d21]
      clear d21
      clear hd
      exact GH.st_skip (by rfl) rfl
    | 23, _, hd =>
      simp only [GH.mkL, List.getD_cons_succ, List.getD_cons_zero]
      have d22 : S 22 = undef := (hd 22 (by kernel_rfl)).2
      rw [d22]
      clear d22
      clear hd
      exact GH.st_skip (by rfl) rfl
    | 24, _, hd =>
      simp only [GH.mkL, List.getD_cons_succ, List.getD_cons_zero]
      have d22 : S 22 = undef := (hd 22 (by kernel_rfl)).2
      rw [d22]
      clear d22
      have d23 : S 23 = undef := (hd 23 (by kernel_rfl)).2
      rw [d23]
      clear d23
      clear hd
      exact GH.st_skip (by rfl) rfl
    | 25, _, hd =>
      simp only [GH.mkL, List.getD_cons_succ, List.getD_cons_zero]
      have d19 : S 19 = .bool true := (hd 19 (by kernel_rfl)).2
      rw [d19]
      clear d19
      have d22 : S 22 = undef := (hd 22 (by kernel_rfl)).2
      rw [d22]
      clear d22
      have d24 : S 24 = undef := (hd 24 (by kernel_rfl)).2
      rw [d24]
      clear d24
      clear hd
      exact GH.st_skip (by rfl) rfl
    | 26, _, hd =>
      simp only [GH.mkL, List.getD_cons_succ, List.getD_cons_zero]
      have d14 : S 14 = .bool true := (hd 14 (by kernel_rfl)).2
      rw [d14]
      clear d14
      have d19 : S 19 = .bool true := (hd 19 (by kernel_rfl)).2
      rw [d19]
      clear d19
      have d25 : S 25 = undef := (hd 25 (by kernel_rfl)).2
      rw [d25]
      clear d25
      clear hd
      refine GH.st_eq (by rfl) ?_
      go_simp
      (try with_reducible rfl)
    | 27, _, hd =>
      simp only [GH.mkL, List.getD_cons_succ, List.getD_cons_zero]
      have d14 : S 14 = .bool true := (hd 14 (by kernel_rfl)).2
      rw [d14]
      clear d14
      have d26 : S 26 = .bool true := (hd 26 (by kernel_rfl)).2
      rw [d26]
      clear d26
      clear hd
      refine GH.st_eq (by rfl) ?_
      go_simp
      (try with_reducible rfl)
    | 28, _, hd =>
      simp only [GH.mkL, List.getD_cons_succ, List.getD_cons_zero]
      have d22 : S 22 = undef := (hd 22 (by kernel_rfl)).2
      rw [d22]
      clear d22
      have d27 : S 27 = .bool true := (hd 27 (by kernel_rfl)).2
      rw [d27]
      clear d27
      clear hd
      refine GH.st_eq (by rfl) ?_
      go_simp
      (try with_reducible rfl)
    | 29, _, hd =>
      simp only [GH.mkL, List.getD_cons_succ, List.getD_cons_zero]
      have d28 : S 28 = .bool true := (hd 28 (by kernel_rfl)).2
      rw [d28]
      clear d28
      clear hd
      refine GH.st_eq (by rfl) ?_
      go_simp
      (try with_reducible rfl)
    | 30, _, hd =>
      simp only [GH.mkL, List.getD_cons_succ, List.getD_cons_zero]
      have d28 : S 28 = .bool true := (hd 28 (by kernel_rfl)).2
      rw [d28]
      clear d28
      have d29 : S 29 = .int .i64 2 := (hd 29 (by kernel_rfl)).2
      rw [d29]
      clear d29
      clear hd
      refine GH.st_eq (by rfl) ?_
      go_simp
      (try with_reducible rfl)
    | 31, _, hd =>
      simp only [GH.mkL, List.getD_cons_succ, List.getD_cons_zero]
      have d28 : S 28 = .bool true := (hd 28 (by kernel_rfl)).2
      rw [d28]
      clear d28
      clear hd
      refine GH.st_eq (by rfl) ?_
      go_simp
      (try with_reducible rfl)
    | 32, _, hd =>
      simp only [GH.mkL, List.getD_cons_succ, List.getD_cons_zero]
      have d28 : S 28 = .bool true := (hd 28 (by kernel_rfl)).2
      rw [d28]
      clear d28
      have d31 : S 31 = .int .i64 1 := (hd 31 (by kernel_rfl)).2
      rw [d31]
      clear d31
      clear hd
      refine GH.st_eq (by rfl) ?_
      go_simp
      (try with_reducible rfl)
    | 33, _, hd =>
      simp only [GH.mkL, List.getD_cons_succ, List.getD_cons_zero]
      have d28 : S 28 = .bool true := (hd 28 (by kernel_rfl)).2
      rw [d28]
      clear d28
      have d30 : S 30 = .bool false := (hd 30 (by kernel_rfl)).2
      rw [d30]
      clear d30
      have d32 : S 32 = .bool false := (hd 32 (by kernel_rfl)).2
      rw [d32]
      clear d32
      clear hd
      refine GH.st_eq (by rfl) ?_
      go_simp
      (try with_reducible rfl)
    | 34, _, hd =>
      simp only [GH.mkL, List.getD_cons_succ, List.getD_cons_zero]
      have d28 : S 28 = .bool true := (hd 28 (by kernel_rfl)).2
      rw [d28]
      clear d28
      have d33 : S 33 = .bool true := (hd 33 (by kernel_rfl)).2
      rw [d33]
      clear d33
      clear hd
      refine GH.st_eq (by rfl) ?_
      go_simp
      (try with_reducible rfl)
    | 35, _, hd =>
      simp only [GH.mkL, List.getD_cons_succ, List.getD_cons_zero]
      have d28 : S 28 = .bool true := (hd 28 (by kernel_rfl)).2
      rw [d28]
      clear d28
      have d34 : S 34 = .bool true := (hd 34 (by kernel_rfl)).2
      rw [d34]
      clear d34
      clear hd
      refine GH.st_eq (by rfl) ?_
      go_simp
      (try with_reducible rfl)
    | 36, _, hd =>
      simp only [GH.mkL, List.getD_cons_succ, List.getD_cons_zero]
      have d35 : S 35 = .bool true := (hd 35 (by kernel_rfl)).2
      rw [d35]
      clear d35
      clear hd
      refine GH.st_call (by rfl) hb.below.size (by go_simp) ((alive09_any w').mono ?_)
      rintro e w9 ⟨rfl, hb9⟩
      exact ⟨_, rfl, hb9, rfl⟩
    | 37, _, hd =>
      simp only [GH.mkL, List.getD_cons_succ, List.getD_cons_zero]
      have d35 : S 35 = .bool true := (hd 35 (by kernel_rfl)).2
      rw [d35]
      clear d35
      have d36 : S 36 = .bool true := (hd 36 (by kernel_rfl)).2
      rw [d36]
      clear d36
      clear hd
      refine GH.st_eq (by rfl) ?_
      go_simp
      (try with_reducible rfl)
    | 38, _, hd =>
      simp only [GH.mkL, List.getD_cons_succ, List.getD_cons_zero]
      have d0 : S 0 = .agg #[.int .u64 (x0 : Nat), .int .u64 (x1 : Nat), .int .u64 (x2 : Nat), .int .u64 (x3 : Nat), .int .u64 (x4 : Nat), .int .u64 (x5 : Nat), .int .u64 (x6 : Nat), .int .u64 (x7 : Nat), .int .u32 (x8 : Nat)] := (hd 0 (by kernel_rfl)).2
      rw [d0]
      clear d0
      have d1 : S 1 = .int .i64 1 := (hd 1 (by kernel_rfl)).2
      rw [d1]
      clear d1
      have d2 : S 2 = .agg #[.int .u64 (x2 : Nat), .int .u64 (x3 : Nat)] := (hd 2 (by kernel_rfl)).2
      rw [d2]
      clear d2
      have d3 : S 3 = .agg #[.int .u64 (x0 : Nat), .int .u64 (x1 : Nat), .int .u64 (x2 : Nat), .int .u64 (x3 : Nat), .int .u64 (x4 : Nat), .int .u64 (x5 : Nat), .int .u64 (x6 : Nat), .int .u64 (x7 : Nat), .int .u32 (x8 : Nat)] := (hd 3 (by kernel_rfl)).2
      rw [d3]
      clear d3
      have d4 : S 4 = .int .i64 2 := (hd 4 (by kernel_rfl)).2
      rw [d4]
      clear d4
      have d5 : S 5 = .agg #[.int .u64 (x2 : Nat), .int .u64 (x3 : Nat)] := (hd 5 (by kernel_rfl)).2
      rw [d5]
      clear d5
      have d6 : S 6 = .bool true := (hd 6 (by kernel_rfl)).2
      rw [d6]
      clear d6
      have d7 : S 7 = .bool true := (hd 7 (by kernel_rfl)).2
      rw [d7]
      clear d7
      have d8 : S 8 = .agg #[.int .u64 (x0 : Nat), .int .u64 (x1 : Nat), .int .u64 (x2 : Nat), .int .u64 (x3 : Nat), .int .u64 (x4 : Nat), .int .u64 (x5 : Nat), .int .u64 (x6 : Nat), .int .u64 (x7 : Nat), .int .u32 (x8 : Nat)] := (hd 8 (by kernel_rfl)).2
      rw [d8]
      clear d8
      have d9 : S 9 = .int .i64 1 := (hd 9 (by kernel_rfl)).2
      rw [d9]
      clear d9
      have d10 : S 10 = .agg #[.int .u64 (x2 : Nat), .int .u64 (x3 : Nat)] := (hd 10 (by kernel_rfl)).2
      rw [d10]
      clear d10
      have d11 : S 11 = .agg #[.int .u64 (x2 : Nat), .int .u64 (x3 : Nat)] := (hd 11 (by kernel_rfl)).2
      rw [d11]
      clear d11
      have d12 : S 12 = .bool true := (hd 12 (by kernel_rfl)).2
      rw [d12]
      clear d12
      have d13 : S 13 = .bool true := (hd 13 (by kernel_rfl)).2
      rw [d13]
      clear d13
      have d14 : S 14 = .bool true := (hd 14 (by kernel_rfl)).2
      rw [d14]
      clear d14
      have d15 : S 15 = .int .i64 2 := (hd 15 (by kernel_rfl)).2
      rw [d15]
      clear d15
      have d16 : S 16 = .int .i64 1 := (hd 16 (by kernel_rfl)).2
      rw [d16]
      clear d16
      have d17 : S 17 = .int .i64 1 := (hd 17 (by kernel_rfl)).2
      rw [d17]
      clear d17
      have d18 : S 18 = .bool true := (hd 18 (by kernel_rfl)).2
      rw [d18]
      clear d18
      have d19 : S 19 = .bool true := (hd 19 (by kernel_rfl)).2
      rw [d19]
      clear d19
      have d20 : S 20 = undef := (hd 20 (by kernel_rfl)).2
      rw [d20]
      clear d20
      have d21 : S 21 = undef := (hd 21 (by kernel_rfl)).2
      rw [d21]
      clear d21
      have d22 : S 22 = undef := (hd 22 (by kernel_rfl)).2
      rw [d22]
      clear d22
      have d23 : S 23 = undef := (hd 23 (by kernel_rfl)).2
      rw [d23]
      clear d23
      have d24 : S 24 = undef := (hd 24 (by kernel_rfl)).2
      rw [d24]
      clear d24
      have d25 : S 25 = undef := (hd 25 (by kernel_rfl)).2
      rw [d25]
      clear d25
      have d26 : S 26 = .bool true := (hd 26 (by kernel_rfl)).2
      rw [d26]
      clear d26
      have d27 : S 27 = .bool true := (hd 27 (by kernel_rfl)).2
      rw [d27]
      clear d27
      have d28 : S 28 = .bool true := (hd 28 (by kernel_rfl)).2
      rw [d28]
      clear d28
      have d29 : S 29 = .int .i64 2 := (hd 29 (by kernel_rfl)).2
      rw [d29]
      clear d29
      have d30 : S 30 = .bool false := (hd 30 (by kernel_rfl)).2
      rw [d30]
      clear d30
      have d31 : S 31 = .int .i64 1 := (hd 31 (by kernel_rfl)).2
      rw [d31]
      clear d31
      have d32 : S 32 = .bool false := (hd 32 (by kernel_rfl)).2
      rw [d32]
      clear d32
      have d33 : S 33 = .bool true := (hd 33 (by kernel_rfl)).2
      rw [d33]
      clear d33
      have d34 : S 34 = .bool true := (hd 34 (by kernel_rfl)).2
      rw [d34]
      clear d34
      have d35 : S 35 = .bool true := (hd 35 (by kernel_rfl)).2
      rw [d35]
      clear d35
      have d36 : S 36 = .bool true := (hd 36 (by kernel_rfl)).2
      rw [d36]
      clear d36
      have d37 : S 37 = .bool true := (hd 37 (by kernel_rfl)).2
      rw [d37]
      clear d37
      clear hd
      refine GH.st_eq (by rfl) ?_
      go_simp
      (try with_reducible rfl)
    | n + 39, hj, _ => omega
  intro S w' hb hG
  simp only [GH.mkL, List.drop_succ_cons, List.drop_zero]
  have d38 : S 38 = .bool true := hG 38 (by omega)
  rw [d38]
  clear d38
  clear hG
  have BF := Lib.hid (b1.out.trans (hb.below.mono b1.out.size))
  clear b1 hb
  refine wpList_nil ?_
  go_wp2_with fail
  go_ret
  exact ⟨rfl, BF.out⟩
set_option maxRecDepth 20000 in
set_option maxHeartbeats 4000000 in
theorem keysRoles_2 (x0 x1 x2 x3 x4 x5 x6 x7 x8 : Nat) (w : World) :
    Calls Try.prog 4 #[.agg #[.int .u64 (x0 : Nat), .int .u64 (x1 : Nat), .int .u64 (x2 : Nat), .int .u64 (x3 : Nat), .int .u64 (x4 : Nat), .int .u64 (x5 : Nat), .int .u64 (x6 : Nat), .int .u64 (x7 : Nat), .int .u32 (x8 : Nat)], .int .i64 2] w fun e w' => e = .returned (.bool true) ∧ Below w.heap.size w w' := by
  go_enter Try.func4, Try.ntmps4
  go_wp2_with fail
  have hx0 := Lib.hid (Blk.new w 29 #[.int .u64 (x0 : Nat), .int .u64 (x1 : Nat), .int .u64 (x2 : Nat), .int .u64 (x3 : Nat), .int .u64 (x4 : Nat), .int .u64 (x5 : Nat), .int .u64 (x6 : Nat), .int .u64 (x7 : Nat), .int .u32 (x8 : Nat)])
  have b0 := Lib.hid ((Below.refl w.heap.size w).alloc (Nat.le_refl _) (.cells #[.int .u64 (x0 : Nat), .int .u64 (x1 : Nat), .int .u64 (x2 : Nat), .int .u64 (x3 : Nat), .int .u64 (x4 : Nat), .int .u64 (x5 : Nat), .int .u64 (x6 : Nat), .int .u64 (x7 : Nat), .int .u32 (x8 : Nat)] 29))
  generalize w.alloc (.cells #[.int .u64 (x0 : Nat), .int .u64 (x1 : Nat), .int .u64 (x2 : Nat), .int .u64 (x3 : Nat), .int .u64 (x4 : Nat), .int .u64 (x5 : Nat), .int .u64 (x6 : Nat), .int .u64 (x7 : Nat), .int .u32 (x8 : Nat)] 29) = wa at hx0 b0 ⊢
  refine (other_any 2 wa).mono ?_
  rintro e w1 ⟨rfl, hb1⟩
  have HX := Lib.hid (hx0.out.below hb1 hx0.out.lt)
  have HB1 := Lib.hid (b0.out.trans (hb1.mono b0.out.size))
  clear hb1 hx0 b0
  have q2 := HX.out.cell 2; have q3 := HX.out.cell 3; have q4 := HX.out.cell 4; have q5 := HX.out.cell 5
  have q2 : w1.cell? ⟨w.heap.size, 2, none⟩ = some (.int .u64 (x2 : Nat)) := q2
  have q3 : w1.cell? ⟨w.heap.size, 3, none⟩ = some (.int .u64 (x3 : Nat)) := q3
  have q4 : w1.cell? ⟨w.heap.size, 4, none⟩ = some (.int .u64 (x4 : Nat)) := q4
  have q5 : w1.cell? ⟨w.heap.size, 5, none⟩ = some (.int .u64 (x5 : Nat)) := q5
  have HU := Lib.hid (show w.heap.size ≤ w1.heap.size from HB1.out.size)
  have HXU := Lib.hid HX.out.lt
  go_wp2_with fail -- with fail
  have hw0 := Lib.hid (Blk.new w1 27 #[.int .u64 (x4 : Nat), .int .u64 (x5 : Nat)])
  have hx0 := Lib.hid (HX.out.alloc (.cells #[.int .u64 (x4 : Nat), .int .u64 (x5 : Nat)] 27))
  have b1 := Lib.hid (HB1.out.alloc HB1.out.size (.cells #[.int .u64 (x4 : Nat), .int .u64 (x5 : Nat)] 27))
  clear HB1 HX q2 q3 q4 q5
  generalize w1.alloc (.cells #[.int .u64 (x4 : Nat), .int .u64 (x5 : Nat)] 27) = w2 at hw0 hx0 b1 ⊢
  generalize w1.heap.size = U at hw0 HU HXU ⊢
  obtain ⟨X, hX⟩ : ∃ X, X = w.heap.size := ⟨_, rfl⟩
  rw [← hX] at hx0 HU HXU ⊢
  have HXX := Lib.hid hX
  clear hX
  refine GH.wp_ghl (M := false) 39 ((GH.SP.eq (.agg #[.int .u64 (x0 : Nat), .int .u64 (x1 : Nat), .int .u64 (x2 : Nat), .int .u64 (x3 : Nat), .int .u64 (x4 : Nat), .int .u64 (x5 : Nat), .int .u64 (x6 : Nat), .int .u64 (x7 : Nat), .int .u32 (x8 : Nat)])) :: (GH.SP.eq (.int .i64 2)) :: (GH.SP.eq (.agg #[.int .u64 (x4 : Nat), .int .u64 (x5 : Nat)])) :: (GH.SP.eq (.agg #[.int .u64 (x0 : Nat), .int .u64 (x1 : Nat), .int .u64 (x2 : Nat), .int .u64 (x3 : Nat), .int .u64 (x4 : Nat), .int .u64 (x5 : Nat), .int .u64 (x6 : Nat), .int .u64 (x7 : Nat), .int .u32 (x8 : Nat)])) :: (GH.SP.eq (.int .i64 1)) :: (GH.SP.eq (.agg #[.int .u64 (x4 : Nat), .int .u64 (x5 : Nat)])) :: (GH.SP.eq (.bool true)) :: (GH.SP.eq (.bool true)) :: (GH.SP.eq (.agg #[.int .u64 (x0 : Nat), .int .u64 (x1 : Nat), .int .u64 (x2 : Nat), .int .u64 (x3 : Nat), .int .u64 (x4 : Nat), .int .u64 (x5 : Nat), .int .u64 (x6 : Nat), .int .u64 (x7 : Nat), .int .u32 (x8 : Nat)])) :: (GH.SP.eq (.int .i64 2)) :: (GH.SP.eq (.agg #[.int .u64 (x4 : Nat), .int .u64 (x5 : Nat)])) :: (GH.SP.eq (.agg #[.int .u64 (x4 : Nat), .int .u64 (x5 : Nat)])) :: (GH.SP.eq (.bool true)) :: (GH.SP.eq (.bool true)) :: (GH.SP.eq (.bool true)) :: (GH.SP.eq (.int .i64 1)) :: (GH.SP.eq (.int .i64 2)) :: (GH.SP.eq (.int .i64 2)) :: (GH.SP.eq (.bool true)) :: (GH.SP.eq (.bool true)) :: (GH.SP.eq (undef)) :: (GH.SP.eq (undef)) :: (GH.SP.eq (undef)) :: (GH.SP.eq (undef)) :: (GH.SP.eq (undef)) :: (GH.SP.eq (undef)) :: (GH.SP.eq (.bool true)) :: (GH.SP.eq (.bool true)) :: (GH.SP.eq (.bool true)) :: (GH.SP.eq (.int .i64 1)) :: (GH.SP.eq (.bool true)) :: (GH.SP.eq (.int .i64 2)) :: (GH.SP.eq (.bool true)) :: (GH.SP.eq (.bool true)) :: (GH.SP.eq (.bool true)) :: (GH.SP.eq (.bool true)) :: (GH.SP.eq (.bool true)) :: (GH.SP.eq (.bool true)) :: (GH.SP.eq (.bool true)) :: []) (none :: none :: none :: none :: (some 38) :: none :: none :: none :: none :: none :: none :: none :: none :: none :: none :: (some 0) :: (some 1) :: (some 2) :: (some 3) :: (some 4) :: (some 5) :: (some 6) :: (some 7) :: (some 8) :: (some 9) :: (some 10) :: (some 11) :: (some 12) :: (some 13) :: (some 14) :: (some 15) :: (some 16) :: (some 17) :: (some 18) :: (some 19) :: (some 20) :: (some 21) :: (some 22) :: (some 23) :: (some 24) :: (some 25) :: (some 26) :: (some 27) :: (some 28) :: (some 29) :: (some 30) :: (some 31) :: (some 32) :: (some 33) :: (some 34) :: (some 35) :: (some 36) :: (some 37) :: []) [15, 16, 17, 18, 19, 20, 21, 22, 23, 24, 25, 26, 27, 28, 29, 30, 31, 32, 33, 34, 35, 36, 37, 38, 39, 40, 41, 42, 43, 44, 45, 46, 47, 48, 49, 50, 51, 52, 4] (by rfl) (by kernel_rfl) (by kernel_rfl) ?_ ?_ ?_
  · intro S j v hj
    match j, hj with
    | 0, _ => rfl
    | 1, _ => rfl
    | 2, _ => rfl
    | 3, _ => rfl
    | 4, _ => rfl
    | 5, _ => rfl
    | 6, _ => rfl
    | 7, _ => rfl
    | 8, _ => rfl
    | 9, _ => rfl
    | 10, _ => rfl
    | 11, _ => rfl
    | 12, _ => rfl
    | 13, _ => rfl
    | 14, _ => rfl
    | 15, _ => rfl
    | 16, _ => rfl
    | 17, _ => rfl
    | 18, _ => rfl
    | 19, _ => rfl
    | 20, _ => rfl
    | 21, _ => rfl
    | 22, _ => rfl
    | 23, _ => rfl
    | 24, _ => rfl
    | 25, _ => rfl
    | 26, _ => rfl
    | 27, _ => rfl
    | 28, _ => rfl
    | 29, _ => rfl
    | 30, _ => rfl
    | 31, _ => rfl
    | 32, _ => rfl
    | 33, _ => rfl
    | 34, _ => rfl
    | 35, _ => rfl
    | 36, _ => rfl
    | 37, _ => rfl
    | 38, _ => rfl
    | n + 39, hj => omega
  · intro j hj S w' hb hd
    match j, hj, hd with
    | 0, _, hd =>
      simp only [GH.mkL, List.getD_cons_succ, List.getD_cons_zero]
      clear hd
      exact GH.st_loads _ [.int .u64 (x0 : Nat), .int .u64 (x1 : Nat), .int .u64 (x2 : Nat), .int .u64 (x3 : Nat), .int .u64 (x4 : Nat), .int .u64 (x5 : Nat), .int .u64 (x6 : Nat), .int .u64 (x7 : Nat), .int .u32 (x8 : Nat)] (by rfl) rfl rfl (((hx0.out.below hb.below hx0.out.lt)).loads 0 _ (by rfl)) (by kernel_rfl) (by kernel_rfl)
    | 1, _, hd =>
      simp only [GH.mkL, List.getD_cons_succ, List.getD_cons_zero]
      clear hd
      refine GH.st_eq (by rfl) ?_
      go_simp
      (try with_reducible rfl)
    | 2, _, hd =>
      simp only [GH.mkL, List.getD_cons_succ, List.getD_cons_zero]
      have d0 : S 0 = .agg #[.int .u64 (x0 : Nat), .int .u64 (x1 : Nat), .int .u64 (x2 : Nat), .int .u64 (x3 : Nat), .int .u64 (x4 : Nat), .int .u64 (x5 : Nat), .int .u64 (x6 : Nat), .int .u64 (x7 : Nat), .int .u32 (x8 : Nat)] := (hd 0 (by kernel_rfl)).2
      rw [d0]
      clear d0
      have d1 : S 1 = .int .i64 2 := (hd 1 (by kernel_rfl)).2
      rw [d1]
      clear d1
      clear hd
      refine GH.st_call (by rfl) hb.below.size (by go_simp) ((out_any x0 x1 x2 x3 x4 x5 x6 x7 x8 2 w').mono ?_)
      rintro e w9 ⟨rfl, hb9⟩
      exact ⟨_, rfl, hb9, rfl⟩
    | 3, _, hd =>
      simp only [GH.mkL, List.getD_cons_succ, List.getD_cons_zero]
      clear hd
      exact GH.st_loads _ [.int .u64 (x0 : Nat), .int .u64 (x1 : Nat), .int .u64 (x2 : Nat), .int .u64 (x3 : Nat), .int .u64 (x4 : Nat), .int .u64 (x5 : Nat), .int .u64 (x6 : Nat), .int .u64 (x7 : Nat), .int .u32 (x8 : Nat)] (by rfl) rfl rfl (((hx0.out.below hb.below hx0.out.lt)).loads 0 _ (by rfl)) (by kernel_rfl) (by kernel_rfl)
    | 4, _, hd =>
      simp only [GH.mkL, List.getD_cons_succ, List.getD_cons_zero]
      clear hd
      refine GH.st_eq (by rfl) ?_
      go_simp
      (try with_reducible rfl)
    | 5, _, hd =>
      simp only [GH.mkL, List.getD_cons_succ, List.getD_cons_zero]
      have d2 : S 2 = .agg #[.int .u64 (x4 : Nat), .int .u64 (x5 : Nat)] := (hd 2 (by kernel_rfl)).2
      rw [d2]
      clear d2
      have d3 : S 3 = .agg #[.int .u64 (x0 : Nat), .int .u64 (x1 : Nat), .int .u64 (x2 : Nat), .int .u64 (x3 : Nat), .int .u64 (x4 : Nat), .int .u64 (x5 : Nat), .int .u64 (x6 : Nat), .int .u64 (x7 : Nat), .int .u32 (x8 : Nat)] := (hd 3 (by kernel_rfl)).2
      rw [d3]
      clear d3
      have d4 : S 4 = .int .i64 1 := (hd 4 (by kernel_rfl)).2
      rw [d4]
      clear d4
      clear hd
      refine GH.st_call (by rfl) hb.below.size (by go_simp) ((in_any x0 x1 x2 x3 x4 x5 x6 x7 x8 1 w').mono ?_)
      rintro e w9 ⟨rfl, hb9⟩
      exact ⟨_, rfl, hb9, rfl⟩
    | 6, _, hd =>
      simp only [GH.mkL, List.getD_cons_succ, List.getD_cons_zero]
      have d2 : S 2 = .agg #[.int .u64 (x4 : Nat), .int .u64 (x5 : Nat)] := (hd 2 (by kernel_rfl)).2
      rw [d2]
      clear d2
      have d5 : S 5 = .agg #[.int .u64 (x4 : Nat), .int .u64 (x5 : Nat)] := (hd 5 (by kernel_rfl)).2
      rw [d5]
      clear d5
      clear hd
      refine GH.st_eq (by rfl) ?_
      go_simp
      (try with_reducible rfl)
    | 7, _, hd =>
      simp only [GH.mkL, List.getD_cons_succ, List.getD_cons_zero]
      have d5 : S 5 = .agg #[.int .u64 (x4 : Nat), .int .u64 (x5 : Nat)] := (hd 5 (by kernel_rfl)).2
      rw [d5]
      clear d5
      have d6 : S 6 = .bool true := (hd 6 (by kernel_rfl)).2
      rw [d6]
      clear d6
      clear hd
      refine GH.st_eq (by rfl) ?_
      go_simp
      (try with_reducible rfl)
    | 8, _, hd =>
      simp only [GH.mkL, List.getD_cons_succ, List.getD_cons_zero]
      have d7 : S 7 = .bool true := (hd 7 (by kernel_rfl)).2
      rw [d7]
      clear d7
      clear hd
      exact GH.st_loads _ [.int .u64 (x0 : Nat), .int .u64 (x1 : Nat), .int .u64 (x2 : Nat), .int .u64 (x3 : Nat), .int .u64 (x4 : Nat), .int .u64 (x5 : Nat), .int .u64 (x6 : Nat), .int .u64 (x7 : Nat), .int .u32 (x8 : Nat)] (by rfl) rfl rfl (((hx0.out.below hb.below hx0.out.lt)).loads 0 _ (by rfl)) (by kernel_rfl) (by kernel_rfl)
    | 9, _, hd =>
      simp only [GH.mkL, List.getD_cons_succ, List.getD_cons_zero]
      have d7 : S 7 = .bool true := (hd 7 (by kernel_rfl)).2
      rw [d7]
      clear d7
      clear hd
      refine GH.st_eq (by rfl) ?_
      go_simp
      (try with_reducible rfl)
    | 10, _, hd =>
      simp only [GH.mkL, List.getD_cons_succ, List.getD_cons_zero]
      have d7 : S 7 = .bool true := (hd 7 (by kernel_rfl)).2
      rw [d7]
      clear d7
      have d8 : S 8 = .agg #[.int .u64 (x0 : Nat), .int .u64 (x1 : Nat), .int .u64 (x2 : Nat), .int .u64 (x3 : Nat), .int .u64 (x4 : Nat), .int .u64 (x5 : Nat), .int .u64 (x6 : Nat), .int .u64 (x7 : Nat), .int .u32 (x8 : Nat)] := (hd 8 (by kernel_rfl)).2
      rw [d8]
      clear d8
      have d9 : S 9 = .int .i64 2 := (hd 9 (by kernel_rfl)).2
      rw [d9]
      clear d9
      clear hd
      refine GH.st_call (by rfl) hb.below.size (by go_simp) ((out_any x0 x1 x2 x3 x4 x5 x6 x7 x8 2 w').mono ?_)
      rintro e w9 ⟨rfl, hb9⟩
      exact ⟨_, rfl, hb9, rfl⟩
    | 11, _, hd =>
      simp only [GH.mkL, List.getD_cons_succ, List.getD_cons_zero]
      have d7 : S 7 = .bool true := (hd 7 (by kernel_rfl)).2
      rw [d7]
      clear d7
      clear hd
      exact GH.st_loads _ [.int .u64 (x4 : Nat), .int .u64 (x5 : Nat)] (by rfl) rfl rfl (((hw0.out.below hb.below hw0.out.lt)).loads 0 _ (by rfl)) (by kernel_rfl) (by kernel_rfl)
    | 12, _, hd =>
      simp only [GH.mkL, List.getD_cons_succ, List.getD_cons_zero]
      have d7 : S 7 = .bool true := (hd 7 (by kernel_rfl)).2
      rw [d7]
      clear d7
      have d10 : S 10 = .agg #[.int .u64 (x4 : Nat), .int .u64 (x5 : Nat)] := (hd 10 (by kernel_rfl)).2
      rw [d10]
      clear d10
      have d11 : S 11 = .agg #[.int .u64 (x4 : Nat), .int .u64 (x5 : Nat)] := (hd 11 (by kernel_rfl)).2
      rw [d11]
      clear d11
      clear hd
      refine GH.st_eq (by rfl) ?_
      go_simp
      (try with_reducible rfl)
    | 13, _, hd =>
      simp only [GH.mkL, List.getD_cons_succ, List.getD_cons_zero]
      have d7 : S 7 = .bool true := (hd 7 (by kernel_rfl)).2
      rw [d7]
      clear d7
      have d12 : S 12 = .bool true := (hd 12 (by kernel_rfl)).2
      rw [d12]
      clear d12
      clear hd
      refine GH.st_eq (by rfl) ?_
      go_simp
      (try with_reducible rfl)
    | 14, _, hd =>
      simp only [GH.mkL, List.getD_cons_succ, List.getD_cons_zero]
      have d10 : S 10 = .agg #[.int .u64 (x4 : Nat), .int .u64 (x5 : Nat)] := (hd 10 (by kernel_rfl)).2
      rw [d10]
      clear d10
      have d13 : S 13 = .bool true := (hd 13 (by kernel_rfl)).2
      rw [d13]
      clear d13
      clear hd
      refine GH.st_eq (by rfl) ?_
      go_simp
      (try with_reducible rfl)
    | 15, _, hd =>
      simp only [GH.mkL, List.getD_cons_succ, List.getD_cons_zero]
      have d14 : S 14 = .bool true := (hd 14 (by kernel_rfl)).2
      rw [d14]
      clear d14
      clear hd
      refine GH.st_eq (by rfl) ?_
      go_simp
      (try with_reducible rfl)
    | 16, _, hd =>
      simp only [GH.mkL, List.getD_cons_succ, List.getD_cons_zero]
      have d14 : S 14 = .bool true := (hd 14 (by kernel_rfl)).2
      rw [d14]
      clear d14
      have d15 : S 15 = .int .i64 1 := (hd 15 (by kernel_rfl)).2
      rw [d15]
      clear d15
      clear hd
      refine GH.st_call (by rfl) hb.below.size (by go_simp) ((other_any 1 w').mono ?_)
      rintro e w9 ⟨rfl, hb9⟩
      exact ⟨_, rfl, hb9, rfl⟩
    | 17, _, hd =>
      simp only [GH.mkL, List.getD_cons_succ, List.getD_cons_zero]
      have d14 : S 14 = .bool true := (hd 14 (by kernel_rfl)).2
      rw [d14]
      clear d14
      clear hd
      refine GH.st_eq (by rfl) ?_
      go_simp
      (try with_reducible rfl)
    | 18, _, hd =>
      simp only [GH.mkL, List.getD_cons_succ, List.getD_cons_zero]
      have d14 : S 14 = .bool true := (hd 14 (by kernel_rfl)).2
      rw [d14]
      clear d14
      have d16 : S 16 = .int .i64 2 := (hd 16 (by kernel_rfl)).2
      rw [d16]
      clear d16
      have d17 : S 17 = .int .i64 2 := (hd 17 (by kernel_rfl)).2
      rw [d17]
      clear d17
      clear hd
      refine GH.st_eq (by rfl) ?_
      go_simp
      (try with_reducible rfl)
    | 19, _, hd =>
      simp only [GH.mkL, List.getD_cons_succ, List.getD_cons_zero]
      have d14 : S 14 = .bool true := (hd 14 (by kernel_rfl)).2
      rw [d14]
      clear d14
      have d16 : S 16 = .int .i64 2 := (hd 16 (by kernel_rfl)).2
      rw [d16]
      clear d16
      have d18 : S 18 = .bool true := (hd 18 (by kernel_rfl)).2
      rw [d18]
      clear d18
      clear hd
      refine GH.st_eq (by rfl) ?_
      go_simp
      (try with_reducible rfl)
    | 20, _, hd =>
      simp only [GH.mkL, List.getD_cons_succ, List.getD_cons_zero]
      have d19 : S 19 = .bool true := (hd 19 (by kernel_rfl)).2
      rw [d19]
      clear d19
      clear hd
      exact GH.st_skip (by rfl) rfl
    | 21, _, hd =>
      simp only [GH.mkL, List.getD_cons_succ, List.getD_cons_zero]
      have d19 : S 19 = .bool true := (hd 19 (by kernel_rfl)).2
      rw [d19]
      clear d19
      have d20 : S 20 = undef := (hd 20 (by kernel_rfl)).2
      rw [d20]
      clear d20
      clear hd
      exact GH.st_skip (by rfl) rfl
    | 22, _, hd =>
      simp only [GH.mkL, List.getD_cons_succ, List.getD_cons_zero]
      have d19 : S 19 = .bool true := (hd 19 (by kernel_rfl)).2
      rw [d19]
      clear d19
      have d21 : S 21 = undef := (hd 21 (by kernel_rfl)).2
      rw [d21]
      clear d21
      clear hd
      exact GH.st_skip (by rfl) rfl
    | 23, _, hd =>
      simp only [GH.mkL, List.getD_cons_succ, List.getD_cons_zero]
      have d22 : S 22 = undef := (hd 22 (by kernel_rfl)).2
      rw [d22]
      clear d22
      clear hd
      exact GH.st_skip (by rfl) rfl
    | 24, _, hd =>
      simp only [GH.mkL, List.getD_cons_succ, List.getD_cons_zero]
      have d22 : S 22 = undef := (hd 22 (by kernel_rfl)).2
      rw [d22]
      clear d22
      have d23 : S 23 = undef := (hd 23 (by kernel_rfl)).2
      rw [d23]
      clear d23
      clear hd
      exact GH.st_skip (by rfl) rfl
    | 25, _, hd =>
      simp only [GH.mkL, List.getD_cons_succ, List.getD_cons_zero]
      have d19 : S 19 = .bool true := (hd 19 (by kernel_rfl)).2
      rw [d19]
      clear d19
      have d22 : S 22 = undef := (hd 22 (by kernel_rfl)).2
      rw [d22]
      clear d22
      have d24 : S 24 = undef := (hd 24 (by kernel_rfl)).2
      rw [d24]
      clear d24
      clear hd
      exact GH.st_skip (by rfl) rfl
    | 26, _, hd =>
      simp only [GH.mkL, List.getD_cons_succ, List.getD_cons_zero]
      have d14 : S 14 = .bool true := (hd 14 (by kernel_rfl)).2
      rw [d14]
      clear d14
      have d19 : S 19 = .bool true := (hd 19 (by kernel_rfl)).2
      rw [d19]
      clear d19
      have d25 : S 25 = undef := (hd 25 (by kernel_rfl)).2
      rw [d25]
      clear d25
      clear hd
      refine GH.st_eq (by rfl) ?_
      go_simp
      (try with_reducible rfl)
    | 27, _, hd =>
      simp only [GH.mkL, List.getD_cons_succ, List.getD_cons_zero]
      have d14 : S 14 = .bool true := (hd 14 (by kernel_rfl)).2
      rw [d14]
      clear d14
      have d26 : S 26 = .bool true := (hd 26 (by kernel_rfl)).2
      rw [d26]
      clear d26
      clear hd
      refine GH.st_eq (by rfl) ?_
      go_simp
      (try with_reducible rfl)
    | 28, _, hd =>
      simp only [GH.mkL, List.getD_cons_succ, List.getD_cons_zero]
      have d22 : S 22 = undef := (hd 22 (by kernel_rfl)).2
      rw [d22]
      clear d22
      have d27 : S 27 = .bool true := (hd 27 (by kernel_rfl)).2
      rw [d27]
      clear d27
      clear hd
      refine GH.st_eq (by rfl) ?_
      go_simp
      (try with_reducible rfl)
    | 29, _, hd =>
      simp only [GH.mkL, List.getD_cons_succ, List.getD_cons_zero]
      have d28 : S 28 = .bool true := (hd 28 (by kernel_rfl)).2
      rw [d28]
      clear d28
      clear hd
      refine GH.st_eq (by rfl) ?_
      go_simp
      (try with_reducible rfl)
    | 30, _, hd =>
      simp only [GH.mkL, List.getD_cons_succ, List.getD_cons_zero]
      have d28 : S 28 = .bool true := (hd 28 (by kernel_rfl)).2
      rw [d28]
      clear d28
      have d29 : S 29 = .int .i64 1 := (hd 29 (by kernel_rfl)).2
      rw [d29]
      clear d29
      clear hd
      refine GH.st_eq (by rfl) ?_
      go_simp
      (try with_reducible rfl)
    | 31, _, hd =>
      simp only [GH.mkL, List.getD_cons_succ, List.getD_cons_zero]
      have d28 : S 28 = .bool true := (hd 28 (by kernel_rfl)).2
      rw [d28]
      clear d28
      clear hd
      refine GH.st_eq (by rfl) ?_
      go_simp
      (try with_reducible rfl)
    | 32, _, hd =>
      simp only [GH.mkL, List.getD_cons_succ, List.getD_cons_zero]
      have d28 : S 28 = .bool true := (hd 28 (by kernel_rfl)).2
      rw [d28]
      clear d28
      have d31 : S 31 = .int .i64 2 := (hd 31 (by kernel_rfl)).2
      rw [d31]
      clear d31
      clear hd
      refine GH.st_eq (by rfl) ?_
      go_simp
      (try with_reducible rfl)
    | 33, _, hd =>
      simp only [GH.mkL, List.getD_cons_succ, List.getD_cons_zero]
      have d28 : S 28 = .bool true := (hd 28 (by kernel_rfl)).2
      rw [d28]
      clear d28
      have d30 : S 30 = .bool true := (hd 30 (by kernel_rfl)).2
      rw [d30]
      clear d30
      have d32 : S 32 = .bool true := (hd 32 (by kernel_rfl)).2
      rw [d32]
      clear d32
      clear hd
      refine GH.st_eq (by rfl) ?_
      go_simp
      (try with_reducible rfl)
    | 34, _, hd =>
      simp only [GH.mkL, List.getD_cons_succ, List.getD_cons_zero]
      have d28 : S 28 = .bool true := (hd 28 (by kernel_rfl)).2
      rw [d28]
      clear d28
      have d33 : S 33 = .bool true := (hd 33 (by kernel_rfl)).2
      rw [d33]
      clear d33
      clear hd
      refine GH.st_eq (by rfl) ?_
      go_simp
      (try with_reducible rfl)
    | 35, _, hd =>
      simp only [GH.mkL, List.getD_cons_succ, List.getD_cons_zero]
      have d28 : S 28 = .bool true := (hd 28 (by kernel_rfl)).2
      rw [d28]
      clear d28
      have d34 : S 34 = .bool true := (hd 34 (by kernel_rfl)).2
      rw [d34]
      clear d34
      clear hd
      refine GH.st_eq (by rfl) ?_
      go_simp
      (try with_reducible rfl)
    | 36, _, hd =>
      simp only [GH.mkL, List.getD_cons_succ, List.getD_cons_zero]
      have d35 : S 35 = .bool true := (hd 35 (by kernel_rfl)).2
      rw [d35]
      clear d35
      clear hd
      refine GH.st_call (by rfl) hb.below.size (by go_simp) ((alive09_any w').mono ?_)
      rintro e w9 ⟨rfl, hb9⟩
      exact ⟨_, rfl, hb9, rfl⟩
    | 37, _, hd =>
      simp only [GH.mkL, List.getD_cons_succ, List.getD_cons_zero]
      have d35 : S 35 = .bool true := (hd 35 (by kernel_rfl)).2
      rw [d35]
      clear d35
      have d36 : S 36 = .bool true := (hd 36 (by kernel_rfl)).2
      rw [d36]
      clear d36
      clear hd
      refine GH.st_eq (by rfl) ?_
      go_simp
      (try with_reducible rfl)
    | 38, _, hd =>
      simp only [GH.mkL, List.getD_cons_succ, List.getD_cons_zero]
      have d0 : S 0 = .agg #[.int .u64 (x0 : Nat), .int .u64 (x1 : Nat), .int .u64 (x2 : Nat), .int .u64 (x3 : Nat), .int .u64 (x4 : Nat), .int .u64 (x5 : Nat), .int .u64 (x6 : Nat), .int .u64 (x7 : Nat), .int .u32 (x8 : Nat)] := (hd 0 (by kernel_rfl)).2
      rw [d0]
      clear d0
      have d1 : S 1 = .int .i64 2 := (hd 1 (by kernel_rfl)).2
      rw [d1]
      clear d1
      have d2 : S 2 = .agg #[.int .u64 (x4 : Nat), .int .u64 (x5 : Nat)] := (hd 2 (by kernel_rfl)).2
      rw [d2]
      clear d2
      have d3 : S 3 = .agg #[.int .u64 (x0 : Nat), .int .u64 (x1 : Nat), .int .u64 (x2 : Nat), .int .u64 (x3 : Nat), .int .u64 (x4 : Nat), .int .u64 (x5 : Nat), .int .u64 (x6 : Nat), .int .u64 (x7 : Nat), .int .u32 (x8 : Nat)] := (hd 3 (by kernel_rfl)).2
      rw [d3]
      clear d3
      have d4 : S 4 = .int .i64 1 := (hd 4 (by kernel_rfl)).2
      rw [d4]
      clear d4
      have d5 : S 5 = .agg #[.int .u64 (x4 : Nat), .int .u64 (x5 : Nat)] := (hd 5 (by kernel_rfl)).2
      rw [d5]
      clear d5
      have d6 : S 6 = .bool true := (hd 6 (by kernel_rfl)).2
      rw [d6]
      clear d6
      have d7 : S 7 = .bool true := (hd 7 (by kernel_rfl)).2
      rw [d7]
      clear d7
      have d8 : S 8 = .agg #[.int .u64 (x0 : Nat), .int .u64 (x1 : Nat), .int .u64 (x2 : Nat), .int .u64 (x3 : Nat), .int .u64 (x4 : Nat), .int .u64 (x5 : Nat), .int .u64 (x6 : Nat), .int .u64 (x7 : Nat), .int .u32 (x8 : Nat)] := (hd 8 (by kernel_rfl)).2
      rw [d8]
      clear d8
      have d9 : S 9 = .int .i64 2 := (hd 9 (by kernel_rfl)).2
      rw [d9]
      clear d9
      have d10 : S 10 = .agg #[.int .u64 (x4 : Nat), .int .u64 (x5 : Nat)] := (hd 10 (by kernel_rfl)).2
      rw [d10]
      clear d10
      have d11 : S 11 = .agg #[.int .u64 (x4 : Nat), .int .u64 (x5 : Nat)] := (hd 11 (by kernel_rfl)).2
      rw [d11]
      clear d11
      have d12 : S 12 = .bool true := (hd 12 (by kernel_rfl)).2
      rw [d12]
      clear d12
      have d13 : S 13 = .bool true := (hd 13 (by kernel_rfl)).2
      rw [d13]
      clear d13
      have d14 : S 14 = .bool true := (hd 14 (by kernel_rfl)).2
      rw [d14]
      clear d14
      have d15 : S 15 = .int .i64 1 := (hd 15 (by kernel_rfl)).2
      rw [d15]
      clear d15
      have d16 : S 16 = .int .i64 2 := (hd 16 (by kernel_rfl)).2
      rw [d16]
      clear d16
      have d17 : S 17 = .int .i64 2 := (hd 17 (by kernel_rfl)).2
      rw [d17]
      clear d17
      have d18 : S 18 = .bool true := (hd 18 (by kernel_rfl)).2
      rw [d18]
      clear d18
      have d19 : S 19 = .bool true := (hd 19 (by kernel_rfl)).2
      rw [d19]
      clear d19
      have d20 : S 20 = undef := (hd 20 (by kernel_rfl)).2
      rw [d20]
      clear d20
      have d21 : S 21 = undef := (hd 21 (by kernel_rfl)).2
      rw [d21]
      clear d21
      have d22 : S 22 = undef := (hd 22 (by kernel_rfl)).2
      rw [d22]
      clear d22
      have d23 : S 23 = undef := (hd 23 (by kernel_rfl)).2
      rw [d23]
      clear d23
      have d24 : S 24 = undef := (hd 24 (by kernel_rfl)).2
      rw [d24]
      clear d24
      have d25 : S 25 = undef := (hd 25 (by kernel_rfl)).2
      rw [d25]
      clear d25
      have d26 : S 26 = .bool true := (hd 26 (by kernel_rfl)).2
      rw [d26]
      clear d26
      have d27 : S 27 = .bool true := (hd 27 (by kernel_rfl)).2
      rw [d27]
      clear d27
      have d28 : S 28 = .bool true := (hd 28 (by kernel_rfl)).2
      rw [d28]
      clear d28
      have d29 : S 29 = .int .i64 1 := (hd 29 (by kernel_rfl)).2
      rw [d29]
      clear d29
      have d30 : S 30 = .bool true := (hd 30 (by kernel_rfl)).2
      rw [d30]
      clear d30
      have d31 : S 31 = .int .i64 2 := (hd 31 (by kernel_rfl)).2
      rw [d31]
      clear d31
      have d32 : S 32 = .bool true := (hd 32 (by kernel_rfl)).2
      rw [d32]
      clear d32
      have d33 : S 33 = .bool true := (hd 33 (by kernel_rfl)).2
      rw [d33]
      clear d33
      have d34 : S 34 = .bool true := (hd 34 (by kernel_rfl)).2
      rw [d34]
      clear d34
      have d35 : S 35 = .bool true := (hd 35 (by kernel_rfl)).2
      rw [d35]
      clear d35
      have d36 : S 36 = .bool true := (hd 36 (by kernel_rfl)).2
      rw [d36]
      clear d36
      have d37 : S 37 = .bool true := (hd 37 (by kernel_rfl)).2
      rw [d37]
      clear d37
      clear hd
      refine GH.st_eq (by rfl) ?_
      go_simp
      (try with_reducible rfl)
    | n + 39, hj, _ => omega
  intro S w' hb hG
  simp only [GH.mkL, List.drop_succ_cons, List.drop_zero]
  have d38 : S 38 = .bool true := hG 38 (by omega)
  rw [d38]
  clear d38
  clear hG
  have BF := Lib.hid (b1.out.trans (hb.below.mono b1.out.size))
  clear b1 hb
  refine wpList_nil ?_
  go_wp2_with fail
  go_ret
  exact ⟨rfl, BF.out⟩
set_option maxRecDepth 20000 in
set_option maxHeartbeats 4000000 in
theorem keysRoles_r (x0 x1 x2 x3 x4 x5 x6 x7 x8 : Nat) (r : Int) (w : World) (hr1 : Hid (¬ r = 1)) (hr2 : Hid (¬ r = 2)) :
    Calls Try.prog 4 #[.agg #[.int .u64 (x0 : Nat), .int .u64 (x1 : Nat), .int .u64 (x2 : Nat), .int .u64 (x3 : Nat), .int .u64 (x4 : Nat), .int .u64 (x5 : Nat), .int .u64 (x6 : Nat), .int .u64 (x7 : Nat), .int .u32 (x8 : Nat)], .int .i64 r] w fun e w' => e = .returned (.bool true) ∧ Below w.heap.size w w' := by
  have n1 : ¬ r = 1 := hr1.out
  have n2 : ¬ r = 2 := hr2.out
  have n3 : ¬ 2 = r := by have := hr2.out; omega
  have f1 : (r == 1) = false := by have := hr1.out; simp; omega
  have f2 : (r == 2) = false := by have := hr2.out; simp; omega
  have f3 : (2 == r) = false := by have := hr2.out; simp; omega
  have d1 : decide (r = 1) = false := by have := hr1.out; simp; omega
  have d2 : decide (r = 2) = false := by have := hr2.out; simp; omega
  have d3 : decide (2 = r) = false := by have := hr2.out; simp; omega
  go_enter Try.func4, Try.ntmps4
  go_wp2_with fail
  have hx0 := Lib.hid (Blk.new w 29 #[.int .u64 (x0 : Nat), .int .u64 (x1 : Nat), .int .u64 (x2 : Nat), .int .u64 (x3 : Nat), .int .u64 (x4 : Nat), .int .u64 (x5 : Nat), .int .u64 (x6 : Nat), .int .u64 (x7 : Nat), .int .u32 (x8 : Nat)])
  have b0 := Lib.hid ((Below.refl w.heap.size w).alloc (Nat.le_refl _) (.cells #[.int .u64 (x0 : Nat), .int .u64 (x1 : Nat), .int .u64 (x2 : Nat), .int .u64 (x3 : Nat), .int .u64 (x4 : Nat), .int .u64 (x5 : Nat), .int .u64 (x6 : Nat), .int .u64 (x7 : Nat), .int .u32 (x8 : Nat)] 29))
  generalize w.alloc (.cells #[.int .u64 (x0 : Nat), .int .u64 (x1 : Nat), .int .u64 (x2 : Nat), .int .u64 (x3 : Nat), .int .u64 (x4 : Nat), .int .u64 (x5 : Nat), .int .u64 (x6 : Nat), .int .u64 (x7 : Nat), .int .u32 (x8 : Nat)] 29) = wa at hx0 b0 ⊢
  refine (other_any r wa).mono ?_
  rintro e w1 ⟨rfl, hb1⟩
  rw [if_neg hr1.out]
  have HX := Lib.hid (hx0.out.below hb1 hx0.out.lt)
  have HB1 := Lib.hid (b0.out.trans (hb1.mono b0.out.size))
  clear hb1 hx0 b0
  have q2 := HX.out.cell 2; have q3 := HX.out.cell 3; have q4 := HX.out.cell 4; have q5 := HX.out.cell 5
  have q2 : w1.cell? ⟨w.heap.size, 2, none⟩ = some (.int .u64 (x2 : Nat)) := q2
  have q3 : w1.cell? ⟨w.heap.size, 3, none⟩ = some (.int .u64 (x3 : Nat)) := q3
  have q4 : w1.cell? ⟨w.heap.size, 4, none⟩ = some (.int .u64 (x4 : Nat)) := q4
  have q5 : w1.cell? ⟨w.heap.size, 5, none⟩ = some (.int .u64 (x5 : Nat)) := q5
  have HU := Lib.hid (show w.heap.size ≤ w1.heap.size from HB1.out.size)
  have HXU := Lib.hid HX.out.lt
  go_wp2_with fail -- with fail
  have hw0 := Lib.hid (Blk.new w1 27 #[.int .u64 (x4 : Nat), .int .u64 (x5 : Nat)])
  have hx0 := Lib.hid (HX.out.alloc (.cells #[.int .u64 (x4 : Nat), .int .u64 (x5 : Nat)] 27))
  have b1 := Lib.hid (HB1.out.alloc HB1.out.size (.cells #[.int .u64 (x4 : Nat), .int .u64 (x5 : Nat)] 27))
  clear HB1 HX q2 q3 q4 q5
  generalize w1.alloc (.cells #[.int .u64 (x4 : Nat), .int .u64 (x5 : Nat)] 27) = w2 at hw0 hx0 b1 ⊢
  generalize w1.heap.size = U at hw0 HU HXU ⊢
  obtain ⟨X, hX⟩ : ∃ X, X = w.heap.size := ⟨_, rfl⟩
  rw [← hX] at hx0 HU HXU ⊢
  have HXX := Lib.hid hX
  clear hX
  refine GH.wp_ghl (M := false) 39 ((GH.SP.eq (.agg #[.int .u64 (x0 : Nat), .int .u64 (x1 : Nat), .int .u64 (x2 : Nat), .int .u64 (x3 : Nat), .int .u64 (x4 : Nat), .int .u64 (x5 : Nat), .int .u64 (x6 : Nat), .int .u64 (x7 : Nat), .int .u32 (x8 : Nat)])) :: (GH.SP.eq (.int .i64 r)) :: (GH.SP.eq (.agg #[.int .u64 (x4 : Nat), .int .u64 (x5 : Nat)])) :: (GH.SP.eq (.agg #[.int .u64 (x0 : Nat), .int .u64 (x1 : Nat), .int .u64 (x2 : Nat), .int .u64 (x3 : Nat), .int .u64 (x4 : Nat), .int .u64 (x5 : Nat), .int .u64 (x6 : Nat), .int .u64 (x7 : Nat), .int .u32 (x8 : Nat)])) :: (GH.SP.eq (.int .i64 1)) :: (GH.SP.eq (.agg #[.int .u64 (x4 : Nat), .int .u64 (x5 : Nat)])) :: (GH.SP.eq (.bool true)) :: (GH.SP.eq (.bool true)) :: (GH.SP.eq (.agg #[.int .u64 (x0 : Nat), .int .u64 (x1 : Nat), .int .u64 (x2 : Nat), .int .u64 (x3 : Nat), .int .u64 (x4 : Nat), .int .u64 (x5 : Nat), .int .u64 (x6 : Nat), .int .u64 (x7 : Nat), .int .u32 (x8 : Nat)])) :: (GH.SP.eq (.int .i64 r)) :: (GH.SP.eq (.agg #[.int .u64 (x4 : Nat), .int .u64 (x5 : Nat)])) :: (GH.SP.eq (.agg #[.int .u64 (x4 : Nat), .int .u64 (x5 : Nat)])) :: (GH.SP.eq (.bool true)) :: (GH.SP.eq (.bool true)) :: (GH.SP.eq (.bool true)) :: (GH.SP.eq (.int .i64 1)) :: (GH.SP.eq (.int .i64 2)) :: (GH.SP.eq (.int .i64 r)) :: (GH.SP.eq (.bool false)) :: (GH.SP.eq (.bool false)) :: (GH.SP.eq (.int .i64 r)) :: (GH.SP.eq (.bool true)) :: (GH.SP.eq (.bool true)) :: (GH.SP.eq (.int .i64 r)) :: (GH.SP.eq (.bool true)) :: (GH.SP.eq (.bool true)) :: (GH.SP.eq (.bool true)) :: (GH.SP.eq (.bool true)) :: (GH.SP.eq (.bool true)) :: (GH.SP.eq (.int .i64 1)) :: (GH.SP.eq (.bool true)) :: (GH.SP.eq (.int .i64 r)) :: (GH.SP.eq (.bool true)) :: (GH.SP.eq (.bool true)) :: (GH.SP.eq (.bool true)) :: (GH.SP.eq (.bool true)) :: (GH.SP.eq (.bool true)) :: (GH.SP.eq (.bool true)) :: (GH.SP.eq (.bool true)) :: []) (none :: none :: none :: none :: (some 38) :: none :: none :: none :: none :: none :: none :: none :: none :: none :: none :: (some 0) :: (some 1) :: (some 2) :: (some 3) :: (some 4) :: (some 5) :: (some 6) :: (some 7) :: (some 8) :: (some 9) :: (some 10) :: (some 11) :: (some 12) :: (some 13) :: (some 14) :: (some 15) :: (some 16) :: (some 17) :: (some 18) :: (some 19) :: (some 20) :: (some 21) :: (some 22) :: (some 23) :: (some 24) :: (some 25) :: (some 26) :: (some 27) :: (some 28) :: (some 29) :: (some 30) :: (some 31) :: (some 32) :: (some 33) :: (some 34) :: (some 35) :: (some 36) :: (some 37) :: []) [15, 16, 17, 18, 19, 20, 21, 22, 23, 24, 25, 26, 27, 28, 29, 30, 31, 32, 33, 34, 35, 36, 37, 38, 39, 40, 41, 42, 43, 44, 45, 46, 47, 48, 49, 50, 51, 52, 4] (by rfl) (by kernel_rfl) (by kernel_rfl) ?_ ?_ ?_
  · intro S j v hj
    match j, hj with
    | 0, _ => rfl
    | 1, _ => rfl
    | 2, _ => rfl
    | 3, _ => rfl
    | 4, _ => rfl
    | 5, _ => rfl
    | 6, _ => rfl
    | 7, _ => rfl
    | 8, _ => rfl
    | 9, _ => rfl
    | 10, _ => rfl
    | 11, _ => rfl
    | 12, _ => rfl
    | 13, _ => rfl
    | 14, _ => rfl
    | 15, _ => rfl
    | 16, _ => rfl
    | 17, _ => rfl
    | 18, _ => rfl
    | 19, _ => rfl
    | 20, _ => rfl
    | 21, _ => rfl
    | 22, _ => rfl
    | 23, _ => rfl
    | 24, _ => rfl
    | 25, _ => rfl
    | 26, _ => rfl
    | 27, _ => rfl
    | 28, _ => rfl
    | 29, _ => rfl
    | 30, _ => rfl
    | 31, _ => rfl
    | 32, _ => rfl
    | 33, _ => rfl
    | 34, _ => rfl
    | 35, _ => rfl
    | 36, _ => rfl
    | 37, _ => rfl
    | 38, _ => rfl
    | n + 39, hj => omega
  · intro j hj S w' hb hd
    match j, hj, hd with
    | 0, _, hd =>
      simp only [GH.mkL, List.getD_cons_succ, List.getD_cons_zero]
      clear hd
      exact GH.st_loads _ [.int .u64 (x0 : Nat), .int .u64 (x1 : Nat), .int .u64 (x2 : Nat), .int .u64 (x3 : Nat), .int .u64 (x4 : Nat), .int .u64 (x5 : Nat), .int .u64 (x6 : Nat), .int .u64 (x7 : Nat), .int .u32 (x8 : Nat)] (by rfl) rfl rfl (((hx0.out.below hb.below hx0.out.lt)).loads 0 _ (by rfl)) (by kernel_rfl) (by kernel_rfl)
    | 1, _, hd =>
      simp only [GH.mkL, List.getD_cons_succ, List.getD_cons_zero]
      clear hd
      refine GH.st_eq (by rfl) ?_
      go_simp
      (try with_reducible rfl)
    | 2, _, hd =>
      simp only [GH.mkL, List.getD_cons_succ, List.getD_cons_zero]
      have d0 : S 0 = .agg #[.int .u64 (x0 : Nat), .int .u64 (x1 : Nat), .int .u64 (x2 : Nat), .int .u64 (x3 : Nat), .int .u64 (x4 : Nat), .int .u64 (x5 : Nat), .int .u64 (x6 : Nat), .int .u64 (x7 : Nat), .int .u32 (x8 : Nat)] := (hd 0 (by kernel_rfl)).2
      rw [d0]
      clear d0
      have d1 : S 1 = .int .i64 r := (hd 1 (by kernel_rfl)).2
      rw [d1]
      clear d1
      clear hd
      refine GH.st_call (by rfl) hb.below.size (by go_simp) ((out_any x0 x1 x2 x3 x4 x5 x6 x7 x8 r w').mono ?_)
      rintro e w9 ⟨rfl, hb9⟩
      exact ⟨_, rfl, hb9, (by rw [if_neg hr1.out]; rfl)⟩
    | 3, _, hd =>
      simp only [GH.mkL, List.getD_cons_succ, List.getD_cons_zero]
      clear hd
      exact GH.st_loads _ [.int .u64 (x0 : Nat), .int .u64 (x1 : Nat), .int .u64 (x2 : Nat), .int .u64 (x3 : Nat), .int .u64 (x4 : Nat), .int .u64 (x5 : Nat), .int .u64 (x6 : Nat), .int .u64 (x7 : Nat), .int .u32 (x8 : Nat)] (by rfl) rfl rfl (((hx0.out.below hb.below hx0.out.lt)).loads 0 _ (by rfl)) (by kernel_rfl) (by kernel_rfl)
    | 4, _, hd =>
      simp only [GH.mkL, List.getD_cons_succ, List.getD_cons_zero]
      clear hd
      refine GH.st_eq (by rfl) ?_
      go_simp
      (try with_reducible rfl)
    | 5, _, hd =>
      simp only [GH.mkL, List.getD_cons_succ, List.getD_cons_zero]
      have d2 : S 2 = .agg #[.int .u64 (x4 : Nat), .int .u64 (x5 : Nat)] := (hd 2 (by kernel_rfl)).2
      rw [d2]
      clear d2
      have d3 : S 3 = .agg #[.int .u64 (x0 : Nat), .int .u64 (x1 : Nat), .int .u64 (x2 : Nat), .int .u64 (x3 : Nat), .int .u64 (x4 : Nat), .int .u64 (x5 : Nat), .int .u64 (x6 : Nat), .int .u64 (x7 : Nat), .int .u32 (x8 : Nat)] := (hd 3 (by kernel_rfl)).2
      rw [d3]
      clear d3
      have d4 : S 4 = .int .i64 1 := (hd 4 (by kernel_rfl)).2
      rw [d4]
      clear d4
      clear hd
      refine GH.st_call (by rfl) hb.below.size (by go_simp) ((in_any x0 x1 x2 x3 x4 x5 x6 x7 x8 1 w').mono ?_)
      rintro e w9 ⟨rfl, hb9⟩
      exact ⟨_, rfl, hb9, rfl⟩
    | 6, _, hd =>
      simp only [GH.mkL, List.getD_cons_succ, List.getD_cons_zero]
      have d2 : S 2 = .agg #[.int .u64 (x4 : Nat), .int .u64 (x5 : Nat)] := (hd 2 (by kernel_rfl)).2
      rw [d2]
      clear d2
      have d5 : S 5 = .agg #[.int .u64 (x4 : Nat), .int .u64 (x5 : Nat)] := (hd 5 (by kernel_rfl)).2
      rw [d5]
      clear d5
      clear hd
      refine GH.st_eq (by rfl) ?_
      go_simp
      (try with_reducible rfl)
    | 7, _, hd =>
      simp only [GH.mkL, List.getD_cons_succ, List.getD_cons_zero]
      have d5 : S 5 = .agg #[.int .u64 (x4 : Nat), .int .u64 (x5 : Nat)] := (hd 5 (by kernel_rfl)).2
      rw [d5]
      clear d5
      have d6 : S 6 = .bool true := (hd 6 (by kernel_rfl)).2
      rw [d6]
      clear d6
      clear hd
      refine GH.st_eq (by rfl) ?_
      go_simp
      (try with_reducible rfl)
    | 8, _, hd =>
      simp only [GH.mkL, List.getD_cons_succ, List.getD_cons_zero]
      have d7 : S 7 = .bool true := (hd 7 (by kernel_rfl)).2
      rw [d7]
      clear d7
      clear hd
      exact GH.st_loads _ [.int .u64 (x0 : Nat), .int .u64 (x1 : Nat), .int .u64 (x2 : Nat), .int .u64 (x3 : Nat), .int .u64 (x4 : Nat), .int .u64 (x5 : Nat), .int .u64 (x6 : Nat), .int .u64 (x7 : Nat), .int .u32 (x8 : Nat)] (by rfl) rfl rfl (((hx0.out.below hb.below hx0.out.lt)).loads 0 _ (by rfl)) (by kernel_rfl) (by kernel_rfl)
    | 9, _, hd =>
      simp only [GH.mkL, List.getD_cons_succ, List.getD_cons_zero]
      have d7 : S 7 = .bool true := (hd 7 (by kernel_rfl)).2
      rw [d7]
      clear d7
      clear hd
      refine GH.st_eq (by rfl) ?_
      go_simp
      (try with_reducible rfl)
    | 10, _, hd =>
      simp only [GH.mkL, List.getD_cons_succ, List.getD_cons_zero]
      have d7 : S 7 = .bool true := (hd 7 (by kernel_rfl)).2
      rw [d7]
      clear d7
      have d8 : S 8 = .agg #[.int .u64 (x0 : Nat), .int .u64 (x1 : Nat), .int .u64 (x2 : Nat), .int .u64 (x3 : Nat), .int .u64 (x4 : Nat), .int .u64 (x5 : Nat), .int .u64 (x6 : Nat), .int .u64 (x7 : Nat), .int .u32 (x8 : Nat)] := (hd 8 (by kernel_rfl)).2
      rw [d8]
      clear d8
      have d9 : S 9 = .int .i64 r := (hd 9 (by kernel_rfl)).2
      rw [d9]
      clear d9
      clear hd
      refine GH.st_call (by rfl) hb.below.size (by go_simp) ((out_any x0 x1 x2 x3 x4 x5 x6 x7 x8 r w').mono ?_)
      rintro e w9 ⟨rfl, hb9⟩
      exact ⟨_, rfl, hb9, (by rw [if_neg hr1.out]; rfl)⟩
    | 11, _, hd =>
      simp only [GH.mkL, List.getD_cons_succ, List.getD_cons_zero]
      have d7 : S 7 = .bool true := (hd 7 (by kernel_rfl)).2
      rw [d7]
      clear d7
      clear hd
      exact GH.st_loads _ [.int .u64 (x4 : Nat), .int .u64 (x5 : Nat)] (by rfl) rfl rfl (((hw0.out.below hb.below hw0.out.lt)).loads 0 _ (by rfl)) (by kernel_rfl) (by kernel_rfl)
    | 12, _, hd =>
      simp only [GH.mkL, List.getD_cons_succ, List.getD_cons_zero]
      have d7 : S 7 = .bool true := (hd 7 (by kernel_rfl)).2
      rw [d7]
      clear d7
      have d10 : S 10 = .agg #[.int .u64 (x4 : Nat), .int .u64 (x5 : Nat)] := (hd 10 (by kernel_rfl)).2
      rw [d10]
      clear d10
      have d11 : S 11 = .agg #[.int .u64 (x4 : Nat), .int .u64 (x5 : Nat)] := (hd 11 (by kernel_rfl)).2
      rw [d11]
      clear d11
      clear hd
      refine GH.st_eq (by rfl) ?_
      go_simp
      (try with_reducible rfl)
    | 13, _, hd =>
      simp only [GH.mkL, List.getD_cons_succ, List.getD_cons_zero]
      have d7 : S 7 = .bool true := (hd 7 (by kernel_rfl)).2
      rw [d7]
      clear d7
      have d12 : S 12 = .bool true := (hd 12 (by kernel_rfl)).2
      rw [d12]
      clear d12
      clear hd
      refine GH.st_eq (by rfl) ?_
      go_simp
      (try with_reducible rfl)
    | 14, _, hd =>
      simp only [GH.mkL, List.getD_cons_succ, List.getD_cons_zero]
      have d10 : S 10 = .agg #[.int .u64 (x4 : Nat), .int .u64 (x5 : Nat)] := (hd 10 (by kernel_rfl)).2
      rw [d10]
      clear d10
      have d13 : S 13 = .bool true := (hd 13 (by kernel_rfl)).2
      rw [d13]
      clear d13
      clear hd
      refine GH.st_eq (by rfl) ?_
      go_simp
      (try with_reducible rfl)
    | 15, _, hd =>
      simp only [GH.mkL, List.getD_cons_succ, List.getD_cons_zero]
      have d14 : S 14 = .bool true := (hd 14 (by kernel_rfl)).2
      rw [d14]
      clear d14
      clear hd
      refine GH.st_eq (by rfl) ?_
      go_simp
      (try with_reducible rfl)
    | 16, _, hd =>
      simp only [GH.mkL, List.getD_cons_succ, List.getD_cons_zero]
      have d14 : S 14 = .bool true := (hd 14 (by kernel_rfl)).2
      rw [d14]
      clear d14
      have d15 : S 15 = .int .i64 1 := (hd 15 (by kernel_rfl)).2
      rw [d15]
      clear d15
      clear hd
      refine GH.st_call (by rfl) hb.below.size (by go_simp) ((other_any 1 w').mono ?_)
      rintro e w9 ⟨rfl, hb9⟩
      exact ⟨_, rfl, hb9, rfl⟩
    | 17, _, hd =>
      simp only [GH.mkL, List.getD_cons_succ, List.getD_cons_zero]
      have d14 : S 14 = .bool true := (hd 14 (by kernel_rfl)).2
      rw [d14]
      clear d14
      clear hd
      refine GH.st_eq (by rfl) ?_
      go_simp
      (try with_reducible rfl)
    | 18, _, hd =>
      simp only [GH.mkL, List.getD_cons_succ, List.getD_cons_zero]
      have d14 : S 14 = .bool true := (hd 14 (by kernel_rfl)).2
      rw [d14]
      clear d14
      have d16 : S 16 = .int .i64 2 := (hd 16 (by kernel_rfl)).2
      rw [d16]
      clear d16
      have d17 : S 17 = .int .i64 r := (hd 17 (by kernel_rfl)).2
      rw [d17]
      clear d17
      clear hd
      refine GH.st_eq (by rfl) ?_
      go_simp
      (try with_reducible rfl)
    | 19, _, hd =>
      simp only [GH.mkL, List.getD_cons_succ, List.getD_cons_zero]
      have d14 : S 14 = .bool true := (hd 14 (by kernel_rfl)).2
      rw [d14]
      clear d14
      have d16 : S 16 = .int .i64 2 := (hd 16 (by kernel_rfl)).2
      rw [d16]
      clear d16
      have d18 : S 18 = .bool false := (hd 18 (by kernel_rfl)).2
      rw [d18]
      clear d18
      clear hd
      refine GH.st_eq (by rfl) ?_
      go_simp
      (try with_reducible rfl)
    | 20, _, hd =>
      simp only [GH.mkL, List.getD_cons_succ, List.getD_cons_zero]
      have d19 : S 19 = .bool false := (hd 19 (by kernel_rfl)).2
      rw [d19]
      clear d19
      clear hd
      refine GH.st_eq (by rfl) ?_
      go_simp
      (try with_reducible rfl)
    | 21, _, hd =>
      simp only [GH.mkL, List.getD_cons_succ, List.getD_cons_zero]
      have d19 : S 19 = .bool false := (hd 19 (by kernel_rfl)).2
      rw [d19]
      clear d19
      have d20 : S 20 = .int .i64 r := (hd 20 (by kernel_rfl)).2
      rw [d20]
      clear d20
      clear hd
      refine GH.st_eq (by rfl) ?_
      go_simp
      (try with_reducible rfl)
    | 22, _, hd =>
      simp only [GH.mkL, List.getD_cons_succ, List.getD_cons_zero]
      have d19 : S 19 = .bool false := (hd 19 (by kernel_rfl)).2
      rw [d19]
      clear d19
      have d21 : S 21 = .bool true := (hd 21 (by kernel_rfl)).2
      rw [d21]
      clear d21
      clear hd
      refine GH.st_eq (by rfl) ?_
      go_simp
      (try with_reducible rfl)
    | 23, _, hd =>
      simp only [GH.mkL, List.getD_cons_succ, List.getD_cons_zero]
      have d22 : S 22 = .bool true := (hd 22 (by kernel_rfl)).2
      rw [d22]
      clear d22
      clear hd
      refine GH.st_eq (by rfl) ?_
      go_simp
      (try with_reducible rfl)
    | 24, _, hd =>
      simp only [GH.mkL, List.getD_cons_succ, List.getD_cons_zero]
      have d22 : S 22 = .bool true := (hd 22 (by kernel_rfl)).2
      rw [d22]
      clear d22
      have d23 : S 23 = .int .i64 r := (hd 23 (by kernel_rfl)).2
      rw [d23]
      clear d23
      clear hd
      refine GH.st_eq (by rfl) ?_
      go_simp
      (try with_reducible rfl)
    | 25, _, hd =>
      simp only [GH.mkL, List.getD_cons_succ, List.getD_cons_zero]
      have d19 : S 19 = .bool false := (hd 19 (by kernel_rfl)).2
      rw [d19]
      clear d19
      have d22 : S 22 = .bool true := (hd 22 (by kernel_rfl)).2
      rw [d22]
      clear d22
      have d24 : S 24 = .bool true := (hd 24 (by kernel_rfl)).2
      rw [d24]
      clear d24
      clear hd
      refine GH.st_eq (by rfl) ?_
      go_simp
      (try with_reducible rfl)
    | 26, _, hd =>
      simp only [GH.mkL, List.getD_cons_succ, List.getD_cons_zero]
      have d14 : S 14 = .bool true := (hd 14 (by kernel_rfl)).2
      rw [d14]
      clear d14
      have d19 : S 19 = .bool false := (hd 19 (by kernel_rfl)).2
      rw [d19]
      clear d19
      have d25 : S 25 = .bool true := (hd 25 (by kernel_rfl)).2
      rw [d25]
      clear d25
      clear hd
      refine GH.st_eq (by rfl) ?_
      go_simp
      (try with_reducible rfl)
    | 27, _, hd =>
      simp only [GH.mkL, List.getD_cons_succ, List.getD_cons_zero]
      have d14 : S 14 = .bool true := (hd 14 (by kernel_rfl)).2
      rw [d14]
      clear d14
      have d26 : S 26 = .bool true := (hd 26 (by kernel_rfl)).2
      rw [d26]
      clear d26
      clear hd
      refine GH.st_eq (by rfl) ?_
      go_simp
      (try with_reducible rfl)
    | 28, _, hd =>
      simp only [GH.mkL, List.getD_cons_succ, List.getD_cons_zero]
      have d22 : S 22 = .bool true := (hd 22 (by kernel_rfl)).2
      rw [d22]
      clear d22
      have d27 : S 27 = .bool true := (hd 27 (by kernel_rfl)).2
      rw [d27]
      clear d27
      clear hd
      refine GH.st_eq (by rfl) ?_
      go_simp
      (try with_reducible rfl)
    | 29, _, hd =>
      simp only [GH.mkL, List.getD_cons_succ, List.getD_cons_zero]
      have d28 : S 28 = .bool true := (hd 28 (by kernel_rfl)).2
      rw [d28]
      clear d28
      clear hd
      refine GH.st_eq (by rfl) ?_
      go_simp
      (try with_reducible rfl)
    | 30, _, hd =>
      simp only [GH.mkL, List.getD_cons_succ, List.getD_cons_zero]
      have d28 : S 28 = .bool true := (hd 28 (by kernel_rfl)).2
      rw [d28]
      clear d28
      have d29 : S 29 = .int .i64 1 := (hd 29 (by kernel_rfl)).2
      rw [d29]
      clear d29
      clear hd
      refine GH.st_eq (by rfl) ?_
      go_simp
      (try with_reducible rfl)
    | 31, _, hd =>
      simp only [GH.mkL, List.getD_cons_succ, List.getD_cons_zero]
      have d28 : S 28 = .bool true := (hd 28 (by kernel_rfl)).2
      rw [d28]
      clear d28
      clear hd
      refine GH.st_eq (by rfl) ?_
      go_simp
      (try with_reducible rfl)
    | 32, _, hd =>
      simp only [GH.mkL, List.getD_cons_succ, List.getD_cons_zero]
      have d28 : S 28 = .bool true := (hd 28 (by kernel_rfl)).2
      rw [d28]
      clear d28
      have d31 : S 31 = .int .i64 r := (hd 31 (by kernel_rfl)).2
      rw [d31]
      clear d31
      clear hd
      refine GH.st_eq (by rfl) ?_
      go_simp
      (try with_reducible rfl)
    | 33, _, hd =>
      simp only [GH.mkL, List.getD_cons_succ, List.getD_cons_zero]
      have d28 : S 28 = .bool true := (hd 28 (by kernel_rfl)).2
      rw [d28]
      clear d28
      have d30 : S 30 = .bool true := (hd 30 (by kernel_rfl)).2
      rw [d30]
      clear d30
      have d32 : S 32 = .bool true := (hd 32 (by kernel_rfl)).2
      rw [d32]
      clear d32
      clear hd
      refine GH.st_eq (by rfl) ?_
      go_simp
      (try with_reducible rfl)
    | 34, _, hd =>
      simp only [GH.mkL, List.getD_cons_succ, List.getD_cons_zero]
      have d28 : S 28 = .bool true := (hd 28 (by kernel_rfl)).2
      rw [d28]
      clear d28
      have d33 : S 33 = .bool true := (hd 33 (by kernel_rfl)).2
      rw [d33]
      clear d33
      clear hd
      refine GH.st_eq (by rfl) ?_
      go_simp
      (try with_reducible rfl)
    | 35, _, hd =>
      simp only [GH.mkL, List.getD_cons_succ, List.getD_cons_zero]
      have d28 : S 28 = .bool true := (hd 28 (by kernel_rfl)).2
      rw [d28]
      clear d28
      have d34 : S 34 = .bool true := (hd 34 (by kernel_rfl)).2
      rw [d34]
      clear d34
      clear hd
      refine GH.st_eq (by rfl) ?_
      go_simp
      (try with_reducible rfl)
    | 36, _, hd =>
      simp only [GH.mkL, List.getD_cons_succ, List.getD_cons_zero]
      have d35 : S 35 = .bool true := (hd 35 (by kernel_rfl)).2
      rw [d35]
      clear d35
      clear hd
      refine GH.st_call (by rfl) hb.below.size (by go_simp) ((alive09_any w').mono ?_)
      rintro e w9 ⟨rfl, hb9⟩
      exact ⟨_, rfl, hb9, rfl⟩
    | 37, _, hd =>
      simp only [GH.mkL, List.getD_cons_succ, List.getD_cons_zero]
      have d35 : S 35 = .bool true := (hd 35 (by kernel_rfl)).2
      rw [d35]
      clear d35
      have d36 : S 36 = .bool true := (hd 36 (by kernel_rfl)).2
      rw [d36]
      clear d36
      clear hd
      refine GH.st_eq (by rfl) ?_
      go_simp
      (try with_reducible rfl)
    | 38, _, hd =>
      simp only [GH.mkL, List.getD_cons_succ, List.getD_cons_zero]
      have d0 : S 0 = .agg #[.int .u64 (x0 : Nat), .int .u64 (x1 : Nat), .int .u64 (x2 : Nat), .int .u64 (x3 : Nat), .int .u64 (x4 : Nat), .int .u64 (x5 : Nat), .int .u64 (x6 : Nat), .int .u64 (x7 : Nat), .int .u32 (x8 : Nat)] := (hd 0 (by kernel_rfl)).2
      rw [d0]
      clear d0
      have d1 : S 1 = .int .i64 r := (hd 1 (by kernel_rfl)).2
      rw [d1]
      clear d1
      have d2 : S 2 = .agg #[.int .u64 (x4 : Nat), .int .u64 (x5 : Nat)] := (hd 2 (by kernel_rfl)).2
      rw [d2]
      clear d2
      have d3 : S 3 = .agg #[.int .u64 (x0 : Nat), .int .u64 (x1 : Nat), .int .u64 (x2 : Nat), .int .u64 (x3 : Nat), .int .u64 (x4 : Nat), .int .u64 (x5 : Nat), .int .u64 (x6 : Nat), .int .u64 (x7 : Nat), .int .u32 (x8 : Nat)] := (hd 3 (by kernel_rfl)).2
      rw [d3]
      clear d3
      have d4 : S 4 = .int .i64 1 := (hd 4 (by kernel_rfl)).2
      rw [d4]
      clear d4
      have d5 : S 5 = .agg #[.int .u64 (x4 : Nat), .int .u64 (x5 : Nat)] := (hd 5 (by kernel_rfl)).2
      rw [d5]
      clear d5
      have d6 : S 6 = .bool true := (hd 6 (by kernel_rfl)).2
      rw [d6]
      clear d6
      have d7 : S 7 = .bool true := (hd 7 (by kernel_rfl)).2
      rw [d7]
      clear d7
      have d8 : S 8 = .agg #[.int .u64 (x0 : Nat), .int .u64 (x1 : Nat), .int .u64 (x2 : Nat), .int .u64 (x3 : Nat), .int .u64 (x4 : Nat), .int .u64 (x5 : Nat), .int .u64 (x6 : Nat), .int .u64 (x7 : Nat), .int .u32 (x8 : Nat)] := (hd 8 (by kernel_rfl)).2
      rw [d8]
      clear d8
      have d9 : S 9 = .int .i64 r := (hd 9 (by kernel_rfl)).2
      rw [d9]
      clear d9
      have d10 : S 10 = .agg #[.int .u64 (x4 : Nat), .int .u64 (x5 : Nat)] := (hd 10 (by kernel_rfl)).2
      rw [d10]
      clear d10
      have d11 : S 11 = .agg #[.int .u64 (x4 : Nat), .int .u64 (x5 : Nat)] := (hd 11 (by kernel_rfl)).2
      rw [d11]
      clear d11
      have d12 : S 12 = .bool true := (hd 12 (by kernel_rfl)).2
      rw [d12]
      clear d12
      have d13 : S 13 = .bool true := (hd 13 (by kernel_rfl)).2
      rw [d13]
      clear d13
      have d14 : S 14 = .bool true := (hd 14 (by kernel_rfl)).2
      rw [d14]
      clear d14
      have d15 : S 15 = .int .i64 1 := (hd 15 (by kernel_rfl)).2
      rw [d15]
      clear d15
      have d16 : S 16 = .int .i64 2 := (hd 16 (by kernel_rfl)).2
      rw [d16]
      clear d16
      have d17 : S 17 = .int .i64 r := (hd 17 (by kernel_rfl)).2
      rw [d17]
      clear d17
      have d18 : S 18 = .bool false := (hd 18 (by kernel_rfl)).2
      rw [d18]
      clear d18
      have d19 : S 19 = .bool false := (hd 19 (by kernel_rfl)).2
      rw [d19]
      clear d19
      have d20 : S 20 = .int .i64 r := (hd 20 (by kernel_rfl)).2
      rw [d20]
      clear d20
      have d21 : S 21 = .bool true := (hd 21 (by kernel_rfl)).2
      rw [d21]
      clear d21
      have d22 : S 22 = .bool true := (hd 22 (by kernel_rfl)).2
      rw [d22]
      clear d22
      have d23 : S 23 = .int .i64 r := (hd 23 (by kernel_rfl)).2
      rw [d23]
      clear d23
      have d24 : S 24 = .bool true := (hd 24 (by kernel_rfl)).2
      rw [d24]
      clear d24
      have d25 : S 25 = .bool true := (hd 25 (by kernel_rfl)).2
      rw [d25]
      clear d25
      have d26 : S 26 = .bool true := (hd 26 (by kernel_rfl)).2
      rw [d26]
      clear d26
      have d27 : S 27 = .bool true := (hd 27 (by kernel_rfl)).2
      rw [d27]
      clear d27
      have d28 : S 28 = .bool true := (hd 28 (by kernel_rfl)).2
      rw [d28]
      clear d28
      have d29 : S 29 = .int .i64 1 := (hd 29 (by kernel_rfl)).2
      rw [d29]
      clear d29
      have d30 : S 30 = .bool true := (hd 30 (by kernel_rfl)).2
      rw [d30]
      clear d30
      have d31 : S 31 = .int .i64 r := (hd 31 (by kernel_rfl)).2
      rw [d31]
      clear d31
      have d32 : S 32 = .bool true := (hd 32 (by kernel_rfl)).2
      rw [d32]
      clear d32
      have d33 : S 33 = .bool true := (hd 33 (by kernel_rfl)).2
      rw [d33]
      clear d33
      have d34 : S 34 = .bool true := (hd 34 (by kernel_rfl)).2
      rw [d34]
      clear d34
      have d35 : S 35 = .bool true := (hd 35 (by kernel_rfl)).2
      rw [d35]
      clear d35
      have d36 : S 36 = .bool true := (hd 36 (by kernel_rfl)).2
      rw [d36]
      clear d36
      have d37 : S 37 = .bool true := (hd 37 (by kernel_rfl)).2
      rw [d37]
      clear d37
      clear hd
      refine GH.st_eq (by rfl) ?_
      go_simp
      (try with_reducible rfl)
    | n + 39, hj, _ => omega
  intro S w' hb hG
  simp only [GH.mkL, List.drop_succ_cons, List.drop_zero]
  have d38 : S 38 = .bool true := hG 38 (by omega)
  rw [d38]
  clear d38
  clear hG
  have BF := Lib.hid (b1.out.trans (hb.below.mono b1.out.size))
  clear b1 hb
  refine wpList_nil ?_
  go_wp2_with fail
  go_ret
  exact ⟨rfl, BF.out⟩
theorem keysRoles_walk (x0 x1 x2 x3 x4 x5 x6 x7 x8 : Nat) (r : Int) (w : World) :
    Calls Try.prog 4 #[.agg #[.int .u64 (x0 : Nat), .int .u64 (x1 : Nat), .int .u64 (x2 : Nat), .int .u64 (x3 : Nat), .int .u64 (x4 : Nat), .int .u64 (x5 : Nat), .int .u64 (x6 : Nat), .int .u64 (x7 : Nat), .int .u32 (x8 : Nat)], .int .i64 r] w fun e w' => e = .returned (.bool true) ∧ Below w.heap.size w w' := by
  by_cases h1 : r = 1
  · subst h1; exact keysRoles_1 x0 x1 x2 x3 x4 x5 x6 x7 x8 w
  by_cases h2 : r = 2
  · subst h2; exact keysRoles_2 x0 x1 x2 x3 x4 x5 x6 x7 x8 w
  exact keysRoles_r x0 x1 x2 x3 x4 x5 x6 x7 x8 r w (Lib.hid h1) (Lib.hid h2)
end Go.Proofs.Ytcgcglngjfijnaa
