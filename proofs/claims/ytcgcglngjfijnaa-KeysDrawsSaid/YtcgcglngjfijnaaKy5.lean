/- Layer 9: the chapter's example; the laws answer true, and nothing that was there has turned. -/
import Derived.Test.YtcgcglngjfijnaaKy4
namespace Go.Proofs.Ytcgcglngjfijnaa
open Go.RowKit
set_option linter.unusedVariables false
set_option linter.unusedSimpArgs false
/-- The cells by names of their own. -/
theorem session_at (c s x0 x1 x2 x3 x4 x5 x6 x7 x8 : Nat) (w : World) (h0 : c < 18446744073709551616) (h1 : s < 18446744073709551616) (h : keyV c s = .agg #[.int .u64 (x0 : Nat), .int .u64 (x1 : Nat), .int .u64 (x2 : Nat), .int .u64 (x3 : Nat), .int .u64 (x4 : Nat), .int .u64 (x5 : Nat), .int .u64 (x6 : Nat), .int .u64 (x7 : Nat), .int .u32 (x8 : Nat)]) :
    Calls Try.prog 12 #[.int .u64 c, .int .u64 s] w fun e w' => e = .returned (.agg #[.int .u64 (x0 : Nat), .int .u64 (x1 : Nat), .int .u64 (x2 : Nat), .int .u64 (x3 : Nat), .int .u64 (x4 : Nat), .int .u64 (x5 : Nat), .int .u64 (x6 : Nat), .int .u64 (x7 : Nat), .int .u32 (x8 : Nat)]) ∧ Below w.heap.size w w' := by
  rw [← h]
  exact session_any c s w h0 h1
theorem made_lit (c s : Nat) (l : List Nat) (b : ByteArray) (w : World) (h0 : c < 18446744073709551616) (h1 : s < 18446744073709551616) (hs : strN l = b) (hb8 : ∀ x ∈ l, x < 256) (hl : l.length ≤ 1000) :
    Calls Try.prog 13 #[.int .u64 c, .int .u64 s, .string b] w fun e w' => e = .returned (.agg #[.int .u64 (kvA c s l : Nat), .int .u64 (kvB c s l : Nat)]) ∧ Below w.heap.size w w' := by
  subst hs
  exact made_any c s l w h0 h1 hb8 hl
set_option maxRecDepth 20000 in
set_option maxHeartbeats 4000000 in
theorem alive09_names : ∃ (x0 x1 x2 x3 x4 x5 x6 x7 x8 z0 z1 z2 z3 z4 z5 z6 z7 z8 : Nat), keyV 1 2 = .agg #[.int .u64 (x0 : Nat), .int .u64 (x1 : Nat), .int .u64 (x2 : Nat), .int .u64 (x3 : Nat), .int .u64 (x4 : Nat), .int .u64 (x5 : Nat), .int .u64 (x6 : Nat), .int .u64 (x7 : Nat), .int .u32 (x8 : Nat)] ∧ keyV 2 1 = .agg #[.int .u64 (z0 : Nat), .int .u64 (z1 : Nat), .int .u64 (z2 : Nat), .int .u64 (z3 : Nat), .int .u64 (z4 : Nat), .int .u64 (z5 : Nat), .int .u64 (z6 : Nat), .int .u64 (z7 : Nat), .int .u32 (z8 : Nat)] ∧ x2 ≠ x4 ∧ x0 ≠ z0 :=
  ⟨_, _, _, _, _, _, _, _, _, _, _, _, _, _, _, _, _, _, rfl, rfl, by decide +kernel, by decide +kernel⟩
set_option maxRecDepth 20000 in
set_option maxHeartbeats 4000000 in
theorem alive09_any (w : World) : Calls Try.prog 18 #[] w fun e w' => e = .returned (.bool true) ∧ Below w.heap.size w w' := by
  obtain ⟨x0, x1, x2, x3, x4, x5, x6, x7, x8, z0, z1, z2, z3, z4, z5, z6, z7, z8, h12, h21, n24, n00⟩ := alive09_names
  have HZ1 := Lib.hid h12; have HZ2 := Lib.hid h21
  clear h12 h21
  have g24 : ((x2 : Int) == (x4 : Int)) = false := by simp; omega
  have g00 : ((x0 : Int) == (z0 : Int)) = false := by simp; omega
  have e24 : ((x2 : Int) = (x4 : Int)) = False := by simp; omega
  have e00 : ((x0 : Int) = (z0 : Int)) = False := by simp; omega
  have d24 : decide ((x2 : Int) = (x4 : Int)) = false := by simp; omega
  have d00 : decide ((x0 : Int) = (z0 : Int)) = false := by simp; omega
  clear n24 n00
  go_enter Try.func18, Try.ntmps18
  go_wp2_with fail
  refine (session_at 1 2 x0 x1 x2 x3 x4 x5 x6 x7 x8 w (by omega) (by omega) HZ1.out).mono ?_
  rintro e w1 ⟨rfl, hb1⟩
  have HB1 := Lib.hid hb1
  clear hb1
  go_wp2_with fail
  have hk0 := Lib.hid (Blk.new w1 29 #[.int .u64 (x0 : Nat), .int .u64 (x1 : Nat), .int .u64 (x2 : Nat), .int .u64 (x3 : Nat), .int .u64 (x4 : Nat), .int .u64 (x5 : Nat), .int .u64 (x6 : Nat), .int .u64 (x7 : Nat), .int .u32 (x8 : Nat)])
  have b1 := Lib.hid (HB1.out.alloc HB1.out.size (.cells #[.int .u64 (x0 : Nat), .int .u64 (x1 : Nat), .int .u64 (x2 : Nat), .int .u64 (x3 : Nat), .int .u64 (x4 : Nat), .int .u64 (x5 : Nat), .int .u64 (x6 : Nat), .int .u64 (x7 : Nat), .int .u32 (x8 : Nat)] 29))
  clear HB1
  generalize w1.alloc (.cells #[.int .u64 (x0 : Nat), .int .u64 (x1 : Nat), .int .u64 (x2 : Nat), .int .u64 (x3 : Nat), .int .u64 (x4 : Nat), .int .u64 (x5 : Nat), .int .u64 (x6 : Nat), .int .u64 (x7 : Nat), .int .u32 (x8 : Nat)] 29) = w2 at hk0 b1 ⊢
  generalize w1.heap.size = U at hk0 ⊢
  refine GH.wp_ghl (M := false) 20 ((GH.SP.eq (.agg #[.int .u64 (x0 : Nat), .int .u64 (x1 : Nat), .int .u64 (x2 : Nat), .int .u64 (x3 : Nat), .int .u64 (x4 : Nat), .int .u64 (x5 : Nat), .int .u64 (x6 : Nat), .int .u64 (x7 : Nat), .int .u32 (x8 : Nat)])) :: (GH.SP.eq (.agg #[.int .u64 (x2 : Nat), .int .u64 (x3 : Nat)])) :: (GH.SP.eq (.agg #[.int .u64 (x0 : Nat), .int .u64 (x1 : Nat), .int .u64 (x2 : Nat), .int .u64 (x3 : Nat), .int .u64 (x4 : Nat), .int .u64 (x5 : Nat), .int .u64 (x6 : Nat), .int .u64 (x7 : Nat), .int .u32 (x8 : Nat)])) :: (GH.SP.eq (.agg #[.int .u64 (x2 : Nat), .int .u64 (x3 : Nat)])) :: (GH.SP.eq (.bool true)) :: (GH.SP.eq (.bool true)) :: (GH.SP.eq (.agg #[.int .u64 (x0 : Nat), .int .u64 (x1 : Nat), .int .u64 (x2 : Nat), .int .u64 (x3 : Nat), .int .u64 (x4 : Nat), .int .u64 (x5 : Nat), .int .u64 (x6 : Nat), .int .u64 (x7 : Nat), .int .u32 (x8 : Nat)])) :: (GH.SP.eq (.agg #[.int .u64 (x2 : Nat), .int .u64 (x3 : Nat)])) :: (GH.SP.eq (.agg #[.int .u64 (x0 : Nat), .int .u64 (x1 : Nat), .int .u64 (x2 : Nat), .int .u64 (x3 : Nat), .int .u64 (x4 : Nat), .int .u64 (x5 : Nat), .int .u64 (x6 : Nat), .int .u64 (x7 : Nat), .int .u32 (x8 : Nat)])) :: (GH.SP.eq (.agg #[.int .u64 (x4 : Nat), .int .u64 (x5 : Nat)])) :: (GH.SP.eq (.bool true)) :: (GH.SP.eq (.bool true)) :: (GH.SP.eq (.bool true)) :: (GH.SP.eq (.pointer (some ⟨U, 0, none⟩))) :: (GH.SP.eq (.agg #[.int .u64 (x0 : Nat), .int .u64 (x1 : Nat)])) :: (GH.SP.eq (.agg #[.int .u64 (z0 : Nat), .int .u64 (z1 : Nat), .int .u64 (z2 : Nat), .int .u64 (z3 : Nat), .int .u64 (z4 : Nat), .int .u64 (z5 : Nat), .int .u64 (z6 : Nat), .int .u64 (z7 : Nat), .int .u32 (z8 : Nat)])) :: (GH.SP.eq (.agg #[.int .u64 (z0 : Nat), .int .u64 (z1 : Nat)])) :: (GH.SP.eq (.bool true)) :: (GH.SP.eq (.bool true)) :: (GH.SP.eq (.bool true)) :: []) ((some 19) :: none :: none :: (some 0) :: (some 1) :: (some 2) :: (some 3) :: (some 4) :: (some 5) :: (some 6) :: (some 7) :: (some 8) :: (some 9) :: (some 10) :: (some 11) :: (some 12) :: (some 13) :: (some 14) :: (some 15) :: (some 16) :: (some 17) :: (some 18) :: []) [3, 4, 5, 6, 7, 8, 9, 10, 11, 12, 13, 14, 15, 16, 17, 18, 19, 20, 21, 0] (by rfl) (by kernel_rfl) (by kernel_rfl) ?_ ?_ ?_
  · intro S j v hj
    match j, hj with
    | 0, _ => rfl
    | 1, _ => rfl
    | 2, _ => rfl
    | 3, _ => rfl
    | 4, _ => rfl
    | 5, _ => rfl
    | 6, _ => rfl
    | 7, _ => rfl
    | 8, _ => rfl
    | 9, _ => rfl
    | 10, _ => rfl
    | 11, _ => rfl
    | 12, _ => rfl
    | 13, _ => rfl
    | 14, _ => rfl
    | 15, _ => rfl
    | 16, _ => rfl
    | 17, _ => rfl
    | 18, _ => rfl
    | 19, _ => rfl
    | n + 20, hj => omega
  · intro j hj S w' hb hd
    match j, hj, hd with
    | 0, _, hd =>
      simp only [GH.mkL, List.getD_cons_succ, List.getD_cons_zero]
      clear hd
      exact GH.st_loads _ [.int .u64 (x0 : Nat), .int .u64 (x1 : Nat), .int .u64 (x2 : Nat), .int .u64 (x3 : Nat), .int .u64 (x4 : Nat), .int .u64 (x5 : Nat), .int .u64 (x6 : Nat), .int .u64 (x7 : Nat), .int .u32 (x8 : Nat)] (by rfl) rfl rfl (((hk0.out.below hb.below hk0.out.lt)).loads 0 _ (by rfl)) (by kernel_rfl) (by kernel_rfl)
    | 1, _, hd =>
      simp only [GH.mkL, List.getD_cons_succ, List.getD_cons_zero]
      have d0 : S 0 = .agg #[.int .u64 (x0 : Nat), .int .u64 (x1 : Nat), .int .u64 (x2 : Nat), .int .u64 (x3 : Nat), .int .u64 (x4 : Nat), .int .u64 (x5 : Nat), .int .u64 (x6 : Nat), .int .u64 (x7 : Nat), .int .u32 (x8 : Nat)] := (hd 0 (by kernel_rfl)).2
      rw [d0]
      clear d0
      clear hd
      refine GH.st_call (by rfl) hb.below.size (by go_simp) ((out_any x0 x1 x2 x3 x4 x5 x6 x7 x8 1 w').mono ?_)
      rintro e w9 ⟨rfl, hb9⟩
      exact ⟨_, rfl, hb9, rfl⟩
    | 2, _, hd =>
      simp only [GH.mkL, List.getD_cons_succ, List.getD_cons_zero]
      clear hd
      exact GH.st_loads _ [.int .u64 (x0 : Nat), .int .u64 (x1 : Nat), .int .u64 (x2 : Nat), .int .u64 (x3 : Nat), .int .u64 (x4 : Nat), .int .u64 (x5 : Nat), .int .u64 (x6 : Nat), .int .u64 (x7 : Nat), .int .u32 (x8 : Nat)] (by rfl) rfl rfl (((hk0.out.below hb.below hk0.out.lt)).loads 0 _ (by rfl)) (by kernel_rfl) (by kernel_rfl)
    | 3, _, hd =>
      simp only [GH.mkL, List.getD_cons_succ, List.getD_cons_zero]
      have d1 : S 1 = .agg #[.int .u64 (x2 : Nat), .int .u64 (x3 : Nat)] := (hd 1 (by kernel_rfl)).2
      rw [d1]
      clear d1
      have d2 : S 2 = .agg #[.int .u64 (x0 : Nat), .int .u64 (x1 : Nat), .int .u64 (x2 : Nat), .int .u64 (x3 : Nat), .int .u64 (x4 : Nat), .int .u64 (x5 : Nat), .int .u64 (x6 : Nat), .int .u64 (x7 : Nat), .int .u32 (x8 : Nat)] := (hd 2 (by kernel_rfl)).2
      rw [d2]
      clear d2
      clear hd
      refine GH.st_call (by rfl) hb.below.size (by go_simp) ((in_any x0 x1 x2 x3 x4 x5 x6 x7 x8 2 w').mono ?_)
      rintro e w9 ⟨rfl, hb9⟩
      exact ⟨_, rfl, hb9, rfl⟩
    | 4, _, hd =>
      simp only [GH.mkL, List.getD_cons_succ, List.getD_cons_zero]
      have d1 : S 1 = .agg #[.int .u64 (x2 : Nat), .int .u64 (x3 : Nat)] := (hd 1 (by kernel_rfl)).2
      rw [d1]
      clear d1
      have d3 : S 3 = .agg #[.int .u64 (x2 : Nat), .int .u64 (x3 : Nat)] := (hd 3 (by kernel_rfl)).2
      rw [d3]
      clear d3
      clear hd
      refine GH.st_eq (by rfl) ?_
      go_simp
      (try with_reducible rfl)
    | 5, _, hd =>
      simp only [GH.mkL, List.getD_cons_succ, List.getD_cons_zero]
      have d3 : S 3 = .agg #[.int .u64 (x2 : Nat), .int .u64 (x3 : Nat)] := (hd 3 (by kernel_rfl)).2
      rw [d3]
      clear d3
      have d4 : S 4 = .bool true := (hd 4 (by kernel_rfl)).2
      rw [d4]
      clear d4
      clear hd
      refine GH.st_eq (by rfl) ?_
      go_simp
      (try with_reducible rfl)
    | 6, _, hd =>
      simp only [GH.mkL, List.getD_cons_succ, List.getD_cons_zero]
      have d5 : S 5 = .bool true := (hd 5 (by kernel_rfl)).2
      rw [d5]
      clear d5
      clear hd
      exact GH.st_loads _ [.int .u64 (x0 : Nat), .int .u64 (x1 : Nat), .int .u64 (x2 : Nat), .int .u64 (x3 : Nat), .int .u64 (x4 : Nat), .int .u64 (x5 : Nat), .int .u64 (x6 : Nat), .int .u64 (x7 : Nat), .int .u32 (x8 : Nat)] (by rfl) rfl rfl (((hk0.out.below hb.below hk0.out.lt)).loads 0 _ (by rfl)) (by kernel_rfl) (by kernel_rfl)
    | 7, _, hd =>
      simp only [GH.mkL, List.getD_cons_succ, List.getD_cons_zero]
      have d5 : S 5 = .bool true := (hd 5 (by kernel_rfl)).2
      rw [d5]
      clear d5
      have d6 : S 6 = .agg #[.int .u64 (x0 : Nat), .int .u64 (x1 : Nat), .int .u64 (x2 : Nat), .int .u64 (x3 : Nat), .int .u64 (x4 : Nat), .int .u64 (x5 : Nat), .int .u64 (x6 : Nat), .int .u64 (x7 : Nat), .int .u32 (x8 : Nat)] := (hd 6 (by kernel_rfl)).2
      rw [d6]
      clear d6
      clear hd
      refine GH.st_call (by rfl) hb.below.size (by go_simp) ((out_any x0 x1 x2 x3 x4 x5 x6 x7 x8 1 w').mono ?_)
      rintro e w9 ⟨rfl, hb9⟩
      exact ⟨_, rfl, hb9, rfl⟩
    | 8, _, hd =>
      simp only [GH.mkL, List.getD_cons_succ, List.getD_cons_zero]
      have d5 : S 5 = .bool true := (hd 5 (by kernel_rfl)).2
      rw [d5]
      clear d5
      clear hd
      exact GH.st_loads _ [.int .u64 (x0 : Nat), .int .u64 (x1 : Nat), .int .u64 (x2 : Nat), .int .u64 (x3 : Nat), .int .u64 (x4 : Nat), .int .u64 (x5 : Nat), .int .u64 (x6 : Nat), .int .u64 (x7 : Nat), .int .u32 (x8 : Nat)] (by rfl) rfl rfl (((hk0.out.below hb.below hk0.out.lt)).loads 0 _ (by rfl)) (by kernel_rfl) (by kernel_rfl)
    | 9, _, hd =>
      simp only [GH.mkL, List.getD_cons_succ, List.getD_cons_zero]
      have d5 : S 5 = .bool true := (hd 5 (by kernel_rfl)).2
      rw [d5]
      clear d5
      have d7 : S 7 = .agg #[.int .u64 (x2 : Nat), .int .u64 (x3 : Nat)] := (hd 7 (by kernel_rfl)).2
      rw [d7]
      clear d7
      have d8 : S 8 = .agg #[.int .u64 (x0 : Nat), .int .u64 (x1 : Nat), .int .u64 (x2 : Nat), .int .u64 (x3 : Nat), .int .u64 (x4 : Nat), .int .u64 (x5 : Nat), .int .u64 (x6 : Nat), .int .u64 (x7 : Nat), .int .u32 (x8 : Nat)] := (hd 8 (by kernel_rfl)).2
      rw [d8]
      clear d8
      clear hd
      refine GH.st_call (by rfl) hb.below.size (by go_simp) ((out_any x0 x1 x2 x3 x4 x5 x6 x7 x8 2 w').mono ?_)
      rintro e w9 ⟨rfl, hb9⟩
      exact ⟨_, rfl, hb9, rfl⟩
    | 10, _, hd =>
      simp only [GH.mkL, List.getD_cons_succ, List.getD_cons_zero]
      have d5 : S 5 = .bool true := (hd 5 (by kernel_rfl)).2
      rw [d5]
      clear d5
      have d7 : S 7 = .agg #[.int .u64 (x2 : Nat), .int .u64 (x3 : Nat)] := (hd 7 (by kernel_rfl)).2
      rw [d7]
      clear d7
      have d9 : S 9 = .agg #[.int .u64 (x4 : Nat), .int .u64 (x5 : Nat)] := (hd 9 (by kernel_rfl)).2
      rw [d9]
      clear d9
      clear hd
      refine GH.st_eq (by rfl) ?_
      go_simp
      (try with_reducible rfl)
    | 11, _, hd =>
      simp only [GH.mkL, List.getD_cons_succ, List.getD_cons_zero]
      have d5 : S 5 = .bool true := (hd 5 (by kernel_rfl)).2
      rw [d5]
      clear d5
      have d10 : S 10 = .bool true := (hd 10 (by kernel_rfl)).2
      rw [d10]
      clear d10
      clear hd
      refine GH.st_eq (by rfl) ?_
      go_simp
      (try with_reducible rfl)
    | 12, _, hd =>
      simp only [GH.mkL, List.getD_cons_succ, List.getD_cons_zero]
      have d9 : S 9 = .agg #[.int .u64 (x4 : Nat), .int .u64 (x5 : Nat)] := (hd 9 (by kernel_rfl)).2
      rw [d9]
      clear d9
      have d11 : S 11 = .bool true := (hd 11 (by kernel_rfl)).2
      rw [d11]
      clear d11
      clear hd
      refine GH.st_eq (by rfl) ?_
      go_simp
      (try with_reducible rfl)
    | 13, _, hd =>
      simp only [GH.mkL, List.getD_cons_succ, List.getD_cons_zero]
      have d12 : S 12 = .bool true := (hd 12 (by kernel_rfl)).2
      rw [d12]
      clear d12
      clear hd
      refine GH.st_eq (by rfl) ?_
      go_simp
      (try with_reducible rfl)
    | 14, _, hd =>
      simp only [GH.mkL, List.getD_cons_succ, List.getD_cons_zero]
      have d12 : S 12 = .bool true := (hd 12 (by kernel_rfl)).2
      rw [d12]
      clear d12
      have d13 : S 13 = .pointer (some ⟨U, 0, none⟩) := (hd 13 (by kernel_rfl)).2
      rw [d13]
      clear d13
      clear hd
      exact GH.st_loads _ [.int .u64 (x0 : Nat), .int .u64 (x1 : Nat)] (by rfl) rfl rfl (((hk0.out.below hb.below hk0.out.lt)).loads 0 _ (by rfl)) (by kernel_rfl) (by kernel_rfl)
    | 15, _, hd =>
      simp only [GH.mkL, List.getD_cons_succ, List.getD_cons_zero]
      have d12 : S 12 = .bool true := (hd 12 (by kernel_rfl)).2
      rw [d12]
      clear d12
      clear hd
      refine GH.st_call (by rfl) hb.below.size (by go_simp) ((session_at 2 1 z0 z1 z2 z3 z4 z5 z6 z7 z8 w' (by omega) (by omega) HZ2.out).mono ?_)
      rintro e w9 ⟨rfl, hb9⟩
      exact ⟨_, rfl, hb9, rfl⟩
    | 16, _, hd =>
      simp only [GH.mkL, List.getD_cons_succ, List.getD_cons_zero]
      have d12 : S 12 = .bool true := (hd 12 (by kernel_rfl)).2
      rw [d12]
      clear d12
      have d15 : S 15 = .agg #[.int .u64 (z0 : Nat), .int .u64 (z1 : Nat), .int .u64 (z2 : Nat), .int .u64 (z3 : Nat), .int .u64 (z4 : Nat), .int .u64 (z5 : Nat), .int .u64 (z6 : Nat), .int .u64 (z7 : Nat), .int .u32 (z8 : Nat)] := (hd 15 (by kernel_rfl)).2
      rw [d15]
      clear d15
      clear hd
      have hfd : (Instr.field 29 (.agg #[.int .u64 (z0 : Nat), .int .u64 (z1 : Nat), .int .u64 (z2 : Nat), .int .u64 (z3 : Nat), .int .u64 (z4 : Nat), .int .u64 (z5 : Nat), .int .u64 (z6 : Nat), .int .u64 (z7 : Nat), .int .u32 (z8 : Nat)]) 0).run Try.prog w' = .ok (.agg #[.int .u64 (z0 : Nat), .int .u64 (z1 : Nat)]) w' := by kernel_rfl
      refine GH.st_eq (by rfl) ?_
      go_simp
      (try with_reducible rfl)
    | 17, _, hd =>
      simp only [GH.mkL, List.getD_cons_succ, List.getD_cons_zero]
      have d12 : S 12 = .bool true := (hd 12 (by kernel_rfl)).2
      rw [d12]
      clear d12
      have d14 : S 14 = .agg #[.int .u64 (x0 : Nat), .int .u64 (x1 : Nat)] := (hd 14 (by kernel_rfl)).2
      rw [d14]
      clear d14
      have d16 : S 16 = .agg #[.int .u64 (z0 : Nat), .int .u64 (z1 : Nat)] := (hd 16 (by kernel_rfl)).2
      rw [d16]
      clear d16
      clear hd
      refine GH.st_eq (by rfl) ?_
      go_simp
      (try with_reducible rfl)
    | 18, _, hd =>
      simp only [GH.mkL, List.getD_cons_succ, List.getD_cons_zero]
      have d12 : S 12 = .bool true := (hd 12 (by kernel_rfl)).2
      rw [d12]
      clear d12
      have d17 : S 17 = .bool true := (hd 17 (by kernel_rfl)).2
      rw [d17]
      clear d17
      clear hd
      refine GH.st_eq (by rfl) ?_
      go_simp
      (try with_reducible rfl)
    | 19, _, hd =>
      simp only [GH.mkL, List.getD_cons_succ, List.getD_cons_zero]
      have d0 : S 0 = .agg #[.int .u64 (x0 : Nat), .int .u64 (x1 : Nat), .int .u64 (x2 : Nat), .int .u64 (x3 : Nat), .int .u64 (x4 : Nat), .int .u64 (x5 : Nat), .int .u64 (x6 : Nat), .int .u64 (x7 : Nat), .int .u32 (x8 : Nat)] := (hd 0 (by kernel_rfl)).2
      rw [d0]
      clear d0
      have d1 : S 1 = .agg #[.int .u64 (x2 : Nat), .int .u64 (x3 : Nat)] := (hd 1 (by kernel_rfl)).2
      rw [d1]
      clear d1
      have d2 : S 2 = .agg #[.int .u64 (x0 : Nat), .int .u64 (x1 : Nat), .int .u64 (x2 : Nat), .int .u64 (x3 : Nat), .int .u64 (x4 : Nat), .int .u64 (x5 : Nat), .int .u64 (x6 : Nat), .int .u64 (x7 : Nat), .int .u32 (x8 : Nat)] := (hd 2 (by kernel_rfl)).2
      rw [d2]
      clear d2
      have d3 : S 3 = .agg #[.int .u64 (x2 : Nat), .int .u64 (x3 : Nat)] := (hd 3 (by kernel_rfl)).2
      rw [d3]
      clear d3
      have d4 : S 4 = .bool true := (hd 4 (by kernel_rfl)).2
      rw [d4]
      clear d4
      have d5 : S 5 = .bool true := (hd 5 (by kernel_rfl)).2
      rw [d5]
      clear d5
      have d6 : S 6 = .agg #[.int .u64 (x0 : Nat), .int .u64 (x1 : Nat), .int .u64 (x2 : Nat), .int .u64 (x3 : Nat), .int .u64 (x4 : Nat), .int .u64 (x5 : Nat), .int .u64 (x6 : Nat), .int .u64 (x7 : Nat), .int .u32 (x8 : Nat)] := (hd 6 (by kernel_rfl)).2
      rw [d6]
      clear d6
      have d7 : S 7 = .agg #[.int .u64 (x2 : Nat), .int .u64 (x3 : Nat)] := (hd 7 (by kernel_rfl)).2
      rw [d7]
      clear d7
      have d8 : S 8 = .agg #[.int .u64 (x0 : Nat), .int .u64 (x1 : Nat), .int .u64 (x2 : Nat), .int .u64 (x3 : Nat), .int .u64 (x4 : Nat), .int .u64 (x5 : Nat), .int .u64 (x6 : Nat), .int .u64 (x7 : Nat), .int .u32 (x8 : Nat)] := (hd 8 (by kernel_rfl)).2
      rw [d8]
      clear d8
      have d9 : S 9 = .agg #[.int .u64 (x4 : Nat), .int .u64 (x5 : Nat)] := (hd 9 (by kernel_rfl)).2
      rw [d9]
      clear d9
      have d10 : S 10 = .bool true := (hd 10 (by kernel_rfl)).2
      rw [d10]
      clear d10
      have d11 : S 11 = .bool true := (hd 11 (by kernel_rfl)).2
      rw [d11]
      clear d11
      have d12 : S 12 = .bool true := (hd 12 (by kernel_rfl)).2
      rw [d12]
      clear d12
      have d13 : S 13 = .pointer (some ⟨U, 0, none⟩) := (hd 13 (by kernel_rfl)).2
      rw [d13]
      clear d13
      have d14 : S 14 = .agg #[.int .u64 (x0 : Nat), .int .u64 (x1 : Nat)] := (hd 14 (by kernel_rfl)).2
      rw [d14]
      clear d14
      have d15 : S 15 = .agg #[.int .u64 (z0 : Nat), .int .u64 (z1 : Nat), .int .u64 (z2 : Nat), .int .u64 (z3 : Nat), .int .u64 (z4 : Nat), .int .u64 (z5 : Nat), .int .u64 (z6 : Nat), .int .u64 (z7 : Nat), .int .u32 (z8 : Nat)] := (hd 15 (by kernel_rfl)).2
      rw [d15]
      clear d15
      have d16 : S 16 = .agg #[.int .u64 (z0 : Nat), .int .u64 (z1 : Nat)] := (hd 16 (by kernel_rfl)).2
      rw [d16]
      clear d16
      have d17 : S 17 = .bool true := (hd 17 (by kernel_rfl)).2
      rw [d17]
      clear d17
      have d18 : S 18 = .bool true := (hd 18 (by kernel_rfl)).2
      rw [d18]
      clear d18
      clear hd
      refine GH.st_eq (by rfl) ?_
      go_simp
      (try with_reducible rfl)
    | n + 20, hj, _ => omega
  intro S w' hb hG
  simp only [GH.mkL, List.drop_succ_cons, List.drop_zero]
  have d19 : S 19 = .bool true := hG 19 (by omega)
  rw [d19]
  clear d19
  clear hG
  have BF := Lib.hid (b1.out.trans (hb.below.mono b1.out.size))
  clear b1 hb
  refine wpList_nil ?_
  go_wp2_with fail
  go_ret
  exact ⟨rfl, BF.out⟩
end Go.Proofs.Ytcgcglngjfijnaa
