/- Package keys: keys of two drawn numbers. -/
import Derived.Test.YtcgcglngjfijnaaGhoP
import Derived.Test.YtcgcglngjfijnaaSip5
import Derived.Test.YtcgcglngjfijnaaUnd
import Derived.Test.YtcgcglngjfijnaaStm
namespace Go.Proofs.Ytcgcglngjfijnaa
open Go.RowKit
set_option linter.unusedVariables false
set_option linter.unusedSimpArgs false
/-- A key that is made of bytes. -/
def kvA (k0 k1 : Nat) (l : List Nat) : Nat := sumB k0 k1 (1 :: l)
def kvB (k0 k1 : Nat) (l : List Nat) : Nat := sumB k0 k1 (2 :: l)
/-- Bytes alone: each below 256, not many. -/
theorem pair_one (k0 k1 n c : Nat) (A : Option Addr) (l : List Nat) (w : World) (h0 : k0 < 18446744073709551616) (h1 : k1 < 18446744073709551616) (hp : Pts w w.heap.size A n [l]) (hnc : n ≤ c) (hn : [l].length = n) (hb : (l.all fun x => decide (x < 256)) = true) (hl : l.length ≤ 1000) :
    Calls Try.prog 65 #[.agg #[.int .u64 k0, .int .u64 k1], .slice A n c] w fun e w' => e = .returned (.agg #[.int .u64 (kvA k0 k1 l : Nat), .int .u64 (kvB k0 k1 l : Nat)]) ∧ Below w.heap.size w w' := by
  have hb' : ∀ bs ∈ [l], ∀ x ∈ bs, x < 256 := fun bs hbs x hx => by
    obtain rfl : bs = l := by simpa using hbs
    simpa using List.all_eq_true.1 hb x hx
  refine (pair_any k0 k1 n c A [l] w h0 h1 hp hnc (by simp at hn; omega) hb' (by simp; omega)).mono ?_
  rintro e w' ⟨rfl, hbl⟩
  rw [show [l].flatten = l by simp]
  exact ⟨rfl, hbl⟩
theorem sum_one (k0 k1 n c : Nat) (A : Option Addr) (l : List Nat) (w : World) (h0 : k0 < 18446744073709551616) (h1 : k1 < 18446744073709551616) (hp : Pts w w.heap.size A n [l]) (hnc : n ≤ c) (hn : [l].length = n) (hb : (l.all fun x => decide (x < 256)) = true) (hl : l.length ≤ 1000) :
    Calls Try.prog 66 #[.agg #[.int .u64 k0, .int .u64 k1], .slice A n c] w fun e w' => e = .returned (.int .u64 (sumB k0 k1 l : Nat)) ∧ Below w.heap.size w w' := by
  have hb' : ∀ bs ∈ [l], ∀ x ∈ bs, x < 256 := fun bs hbs x hx => by
    obtain rfl : bs = l := by simpa using hbs
    simpa using List.all_eq_true.1 hb x hx
  refine (sum_any k0 k1 n c A [l] w h0 h1 hp hnc (by simp at hn; omega) hb' (by simp; omega)).mono ?_
  rintro e w' ⟨rfl, hbl⟩
  rw [show [l].flatten = l by simp]
  exact ⟨rfl, hbl⟩
theorem both_any (c s : Nat) (w : World) : Calls Try.prog 64 #[.int .u64 c, .int .u64 s] w fun e w' => e = .returned (.agg #[.int .u64 c, .int .u64 s]) ∧ Below w.heap.size w w' := by
  go_enter Try.func64, Try.ntmps64
  go_wp2_with fail
  exact bodyPost_ret (results_agg Try.results64 (Blk.new w _ _) (by rfl) (by kernel_rfl) (by kernel_rfl)) rfl ⟨rfl, (Below.refl _ _).alloc (Nat.le_refl _) _⟩
def tkn (c s : Nat) : Nat := sumB c s [116, 111, 107, 101, 110] % 4294967296
/-- The cells of a connection's keys. -/
def keyC (c s : Nat) : List Value := [.int .u64 (kvA c s [105, 100] : Nat), .int .u64 (kvB c s [105, 100] : Nat), .int .u64 (kvA c s [99, 108, 105, 101, 110, 116] : Nat), .int .u64 (kvB c s [99, 108, 105, 101, 110, 116] : Nat), .int .u64 (kvA c s [115, 101, 114, 118, 101, 114] : Nat), .int .u64 (kvB c s [115, 101, 114, 118, 101, 114] : Nat), .int .u64 (kvA c s [106, 111, 105, 110] : Nat), .int .u64 (kvB c s [106, 111, 105, 110] : Nat), .int .u32 (tkn c s : Nat)]
def keyV (c s : Nat) : Value := .agg (keyC c s).toArray
set_option maxRecDepth 20000 in
set_option maxHeartbeats 4000000 in
theorem session_any (c s : Nat) (w : World) (h0 : c < 18446744073709551616) (h1 : s < 18446744073709551616) :
    Calls Try.prog 12 #[.int .u64 c, .int .u64 s] w fun e w' => e = .returned (keyV c s) ∧ Below w.heap.size w w' := by
  go_enter Try.func12, Try.ntmps12
  go_wp2_with fail
  refine (both_any c s _).mono ?_
  rintro e w1 ⟨rfl, hb1⟩
  have k0 := Lib.hid ((Blk.new w 29 #[.int .u64 0, .int .u64 0, .int .u64 0, .int .u64 0, .int .u64 0, .int .u64 0, .int .u64 0, .int .u64 0, .int .u32 0]).below hb1 (by simp))
  have b0 := Lib.hid (((Below.refl w.heap.size w).alloc (Nat.le_refl _) (.cells #[.int .u64 0, .int .u64 0, .int .u64 0, .int .u64 0, .int .u64 0, .int .u64 0, .int .u64 0, .int .u64 0, .int .u32 0] 29)).trans (hb1.mono (by simp)))
  clear hb1
  go_wp2_with fail
  have KK := Lib.hid (Blk.new w1 27 #[.int .u64 c, .int .u64 s])
  have k1 := Lib.hid (k0.out.alloc (.cells #[.int .u64 c, .int .u64 s] 27))
  have b1 := Lib.hid (b0.out.alloc b0.out.size (.cells #[.int .u64 c, .int .u64 s] 27))
  have HU := Lib.hid (show w.heap.size ≤ w1.heap.size from b0.out.size)
  clear k0 b0
  generalize w1.heap.size = U at KK HU ⊢
  generalize w1.alloc (.cells #[.int .u64 c, .int .u64 s] 27) = w2 at KK k1 b1 ⊢
  have hT : IntKind.u32.wrap (sumB c s [116, 111, 107, 101, 110] : Nat) = (tkn c s : Nat) := by unfold tkn; rw [IntKind.wrap_u32]; omega
  refine GH.wp_ghl (M := true) 27 ((GH.SP.eq (.agg #[.int .u64 (c : Nat), .int .u64 (s : Nat)])) :: (GH.SP.lit w2.heap.size .u8 ([105, 100])) :: (GH.SP.lit w2.heap.size .u8 ([105, 100])) :: (GH.SP.pts [[105, 100]]) :: (GH.SP.eq (.agg #[.int .u64 (kvA c s [105, 100] : Nat), .int .u64 (kvB c s [105, 100] : Nat)])) :: (GH.SP.eq (.agg #[.int .u64 (c : Nat), .int .u64 (s : Nat)])) :: (GH.SP.lit w2.heap.size .u8 ([99, 108, 105, 101, 110, 116])) :: (GH.SP.lit w2.heap.size .u8 ([99, 108, 105, 101, 110, 116])) :: (GH.SP.pts [[99, 108, 105, 101, 110, 116]]) :: (GH.SP.eq (.agg #[.int .u64 (kvA c s [99, 108, 105, 101, 110, 116] : Nat), .int .u64 (kvB c s [99, 108, 105, 101, 110, 116] : Nat)])) :: (GH.SP.eq (.agg #[.int .u64 (c : Nat), .int .u64 (s : Nat)])) :: (GH.SP.lit w2.heap.size .u8 ([115, 101, 114, 118, 101, 114])) :: (GH.SP.lit w2.heap.size .u8 ([115, 101, 114, 118, 101, 114])) :: (GH.SP.pts [[115, 101, 114, 118, 101, 114]]) :: (GH.SP.eq (.agg #[.int .u64 (kvA c s [115, 101, 114, 118, 101, 114] : Nat), .int .u64 (kvB c s [115, 101, 114, 118, 101, 114] : Nat)])) :: (GH.SP.eq (.agg #[.int .u64 (c : Nat), .int .u64 (s : Nat)])) :: (GH.SP.lit w2.heap.size .u8 ([106, 111, 105, 110])) :: (GH.SP.lit w2.heap.size .u8 ([106, 111, 105, 110])) :: (GH.SP.pts [[106, 111, 105, 110]]) :: (GH.SP.eq (.agg #[.int .u64 (kvA c s [106, 111, 105, 110] : Nat), .int .u64 (kvB c s [106, 111, 105, 110] : Nat)])) :: (GH.SP.eq (.agg #[.int .u64 (c : Nat), .int .u64 (s : Nat)])) :: (GH.SP.lit w2.heap.size .u8 ([116, 111, 107, 101, 110])) :: (GH.SP.lit w2.heap.size .u8 ([116, 111, 107, 101, 110])) :: (GH.SP.pts [[116, 111, 107, 101, 110]]) :: (GH.SP.eq (.int .u64 (sumB c s [116, 111, 107, 101, 110] : Nat))) :: (GH.SP.eq (.int .u32 (tkn c s : Nat))) :: (GH.SP.eq (.agg #[.int .u64 (kvA c s [105, 100] : Nat), .int .u64 (kvB c s [105, 100] : Nat), .int .u64 (kvA c s [99, 108, 105, 101, 110, 116] : Nat), .int .u64 (kvB c s [99, 108, 105, 101, 110, 116] : Nat), .int .u64 (kvA c s [115, 101, 114, 118, 101, 114] : Nat), .int .u64 (kvB c s [115, 101, 114, 118, 101, 114] : Nat), .int .u64 (kvA c s [106, 111, 105, 110] : Nat), .int .u64 (kvB c s [106, 111, 105, 110] : Nat), .int .u32 (tkn c s : Nat)])) :: []) (none :: none :: none :: none :: none :: none :: none :: none :: none :: (some 0) :: (some 1) :: (some 2) :: (some 3) :: (some 4) :: (some 5) :: (some 6) :: (some 7) :: (some 8) :: (some 9) :: (some 10) :: (some 11) :: (some 12) :: (some 13) :: (some 14) :: (some 15) :: (some 16) :: (some 17) :: (some 18) :: (some 19) :: (some 20) :: (some 21) :: (some 22) :: (some 23) :: (some 24) :: (some 25) :: (some 26) :: []) [9, 10, 11, 12, 13, 14, 15, 16, 17, 18, 19, 20, 21, 22, 23, 24, 25, 26, 27, 28, 29, 30, 31, 32, 33, 34, 35] (by rfl) (by kernel_rfl) (by kernel_rfl) ?_ ?_ ?_
  · intro S j v hj
    match j, hj with
    | 0, _ => rfl
    | 1, _ => rfl
    | 2, _ => rfl
    | 3, _ => rfl
    | 4, _ => rfl
    | 5, _ => rfl
    | 6, _ => rfl
    | 7, _ => rfl
    | 8, _ => rfl
    | 9, _ => rfl
    | 10, _ => rfl
    | 11, _ => rfl
    | 12, _ => rfl
    | 13, _ => rfl
    | 14, _ => rfl
    | 15, _ => rfl
    | 16, _ => rfl
    | 17, _ => rfl
    | 18, _ => rfl
    | 19, _ => rfl
    | 20, _ => rfl
    | 21, _ => rfl
    | 22, _ => rfl
    | 23, _ => rfl
    | 24, _ => rfl
    | 25, _ => rfl
    | 26, _ => rfl
    | n + 27, hj => omega
  · intro j hj S w' hb hd
    match j, hj, hd with
    | 0, _, hd =>
      simp only [GH.mkL, List.getD_cons_succ, List.getD_cons_zero]
      clear hd
      exact GH.st_loads _ [.int .u64 (c : Nat), .int .u64 (s : Nat)] (by rfl) rfl rfl (((KK.out.below hb.below KK.out.lt)).loads 0 _ (by rfl)) (by kernel_rfl) (by kernel_rfl)
    | 1, _, hd =>
      simp only [GH.mkL, List.getD_cons_succ, List.getD_cons_zero]
      clear hd
      refine ⟨fun K hK => ?_⟩
      go_wp2_with fail
      exact hK _ _ (GH.Gr.of ((Below.refl _ _).alloc (Nat.le_refl _) _) hb.below.size) (GH.lit_lit .u8 _ _ hb.below.size rfl rfl)
    | 2, _, hd =>
      simp only [GH.mkL, List.getD_cons_succ, List.getD_cons_zero]
      obtain ⟨A1, d1, e1, H1⟩ := (hd 1 (by kernel_rfl)).2
      rw [d1]
      clear d1
      replace H1 := Lib.hid H1
      replace e1 := Lib.hid e1
      clear hd
      exact GH.st_mark _ Try.underlying51 Try.underlying5 (by rfl) rfl ⟨_, rfl, e1.out, H1.out⟩
    | 3, _, hd =>
      simp only [GH.mkL, List.getD_cons_succ, List.getD_cons_zero]
      obtain ⟨A2, d2, e2, H2⟩ := (hd 2 (by kernel_rfl)).2
      rw [d2]
      clear d2
      replace H2 := Lib.hid H2
      replace e2 := Lib.hid e2
      clear hd
      refine ⟨fun K hK => ?_⟩
      go_wp2_with fail
      exact hK _ _ (GH.Gr.of ((Below.refl _ _).alloc (Nat.le_refl _) _) hb.below.size) (GH.pts_lit _ H2.out (Nat.le_refl _))
    | 4, _, hd =>
      simp only [GH.mkL, List.getD_cons_succ, List.getD_cons_zero]
      have d0 : S 0 = .agg #[.int .u64 (c : Nat), .int .u64 (s : Nat)] := (hd 0 (by kernel_rfl)).2
      rw [d0]
      clear d0
      obtain ⟨A3, n3, c3, d3, e3, l3, H3⟩ := (hd 3 (by kernel_rfl)).2
      rw [d3]
      clear d3
      replace H3 := Lib.hid H3
      replace l3 := Lib.hid l3
      clear hd
      refine GH.st_call (by rfl) hb.below.size (by go_simp) ((pair_one c s n3 c3 A3 [105, 100] w' h0 h1 H3.out e3 l3.out (by rfl) (by decide)).mono ?_)
      rintro e w9 ⟨rfl, hb9⟩
      exact ⟨_, rfl, hb9, rfl⟩
    | 5, _, hd =>
      simp only [GH.mkL, List.getD_cons_succ, List.getD_cons_zero]
      clear hd
      exact GH.st_loads _ [.int .u64 (c : Nat), .int .u64 (s : Nat)] (by rfl) rfl rfl (((KK.out.below hb.below KK.out.lt)).loads 0 _ (by rfl)) (by kernel_rfl) (by kernel_rfl)
    | 6, _, hd =>
      simp only [GH.mkL, List.getD_cons_succ, List.getD_cons_zero]
      clear hd
      refine ⟨fun K hK => ?_⟩
      go_wp2_with fail
      exact hK _ _ (GH.Gr.of ((Below.refl _ _).alloc (Nat.le_refl _) _) hb.below.size) (GH.lit_lit .u8 _ _ hb.below.size rfl rfl)
    | 7, _, hd =>
      simp only [GH.mkL, List.getD_cons_succ, List.getD_cons_zero]
      obtain ⟨A6, d6, e6, H6⟩ := (hd 6 (by kernel_rfl)).2
      rw [d6]
      clear d6
      replace H6 := Lib.hid H6
      replace e6 := Lib.hid e6
      clear hd
      exact GH.st_mark _ Try.underlying51 Try.underlying5 (by rfl) rfl ⟨_, rfl, e6.out, H6.out⟩
    | 8, _, hd =>
      simp only [GH.mkL, List.getD_cons_succ, List.getD_cons_zero]
      obtain ⟨A7, d7, e7, H7⟩ := (hd 7 (by kernel_rfl)).2
      rw [d7]
      clear d7
      replace H7 := Lib.hid H7
      replace e7 := Lib.hid e7
      clear hd
      refine ⟨fun K hK => ?_⟩
      go_wp2_with fail
      exact hK _ _ (GH.Gr.of ((Below.refl _ _).alloc (Nat.le_refl _) _) hb.below.size) (GH.pts_lit _ H7.out (Nat.le_refl _))
    | 9, _, hd =>
      simp only [GH.mkL, List.getD_cons_succ, List.getD_cons_zero]
      have d4 : S 4 = .agg #[.int .u64 (kvA c s [105, 100] : Nat), .int .u64 (kvB c s [105, 100] : Nat)] := (hd 4 (by kernel_rfl)).2
      rw [d4]
      clear d4
      have d5 : S 5 = .agg #[.int .u64 (c : Nat), .int .u64 (s : Nat)] := (hd 5 (by kernel_rfl)).2
      rw [d5]
      clear d5
      obtain ⟨A8, n8, c8, d8, e8, l8, H8⟩ := (hd 8 (by kernel_rfl)).2
      rw [d8]
      clear d8
      replace H8 := Lib.hid H8
      replace l8 := Lib.hid l8
      clear hd
      refine GH.st_call (by rfl) hb.below.size (by go_simp) ((pair_one c s n8 c8 A8 [99, 108, 105, 101, 110, 116] w' h0 h1 H8.out e8 l8.out (by rfl) (by decide)).mono ?_)
      rintro e w9 ⟨rfl, hb9⟩
      exact ⟨_, rfl, hb9, rfl⟩
    | 10, _, hd =>
      simp only [GH.mkL, List.getD_cons_succ, List.getD_cons_zero]
      clear hd
      exact GH.st_loads _ [.int .u64 (c : Nat), .int .u64 (s : Nat)] (by rfl) rfl rfl (((KK.out.below hb.below KK.out.lt)).loads 0 _ (by rfl)) (by kernel_rfl) (by kernel_rfl)
    | 11, _, hd =>
      simp only [GH.mkL, List.getD_cons_succ, List.getD_cons_zero]
      clear hd
      refine ⟨fun K hK => ?_⟩
      go_wp2_with fail
      exact hK _ _ (GH.Gr.of ((Below.refl _ _).alloc (Nat.le_refl _) _) hb.below.size) (GH.lit_lit .u8 _ _ hb.below.size rfl rfl)
    | 12, _, hd =>
      simp only [GH.mkL, List.getD_cons_succ, List.getD_cons_zero]
      obtain ⟨A11, d11, e11, H11⟩ := (hd 11 (by kernel_rfl)).2
      rw [d11]
      clear d11
      replace H11 := Lib.hid H11
      replace e11 := Lib.hid e11
      clear hd
      exact GH.st_mark _ Try.underlying51 Try.underlying5 (by rfl) rfl ⟨_, rfl, e11.out, H11.out⟩
    | 13, _, hd =>
      simp only [GH.mkL, List.getD_cons_succ, List.getD_cons_zero]
      obtain ⟨A12, d12, e12, H12⟩ := (hd 12 (by kernel_rfl)).2
      rw [d12]
      clear d12
      replace H12 := Lib.hid H12
      replace e12 := Lib.hid e12
      clear hd
      refine ⟨fun K hK => ?_⟩
      go_wp2_with fail
      exact hK _ _ (GH.Gr.of ((Below.refl _ _).alloc (Nat.le_refl _) _) hb.below.size) (GH.pts_lit _ H12.out (Nat.le_refl _))
    | 14, _, hd =>
      simp only [GH.mkL, List.getD_cons_succ, List.getD_cons_zero]
      have d9 : S 9 = .agg #[.int .u64 (kvA c s [99, 108, 105, 101, 110, 116] : Nat), .int .u64 (kvB c s [99, 108, 105, 101, 110, 116] : Nat)] := (hd 9 (by kernel_rfl)).2
      rw [d9]
      clear d9
      have d10 : S 10 = .agg #[.int .u64 (c : Nat), .int .u64 (s : Nat)] := (hd 10 (by kernel_rfl)).2
      rw [d10]
      clear d10
      obtain ⟨A13, n13, c13, d13, e13, l13, H13⟩ := (hd 13 (by kernel_rfl)).2
      rw [d13]
      clear d13
      replace H13 := Lib.hid H13
      replace l13 := Lib.hid l13
      clear hd
      refine GH.st_call (by rfl) hb.below.size (by go_simp) ((pair_one c s n13 c13 A13 [115, 101, 114, 118, 101, 114] w' h0 h1 H13.out e13 l13.out (by rfl) (by decide)).mono ?_)
      rintro e w9 ⟨rfl, hb9⟩
      exact ⟨_, rfl, hb9, rfl⟩
    | 15, _, hd =>
      simp only [GH.mkL, List.getD_cons_succ, List.getD_cons_zero]
      clear hd
      exact GH.st_loads _ [.int .u64 (c : Nat), .int .u64 (s : Nat)] (by rfl) rfl rfl (((KK.out.below hb.below KK.out.lt)).loads 0 _ (by rfl)) (by kernel_rfl) (by kernel_rfl)
    | 16, _, hd =>
      simp only [GH.mkL, List.getD_cons_succ, List.getD_cons_zero]
      clear hd
      refine ⟨fun K hK => ?_⟩
      go_wp2_with fail
      exact hK _ _ (GH.Gr.of ((Below.refl _ _).alloc (Nat.le_refl _) _) hb.below.size) (GH.lit_lit .u8 _ _ hb.below.size rfl rfl)
    | 17, _, hd =>
      simp only [GH.mkL, List.getD_cons_succ, List.getD_cons_zero]
      obtain ⟨A16, d16, e16, H16⟩ := (hd 16 (by kernel_rfl)).2
      rw [d16]
      clear d16
      replace H16 := Lib.hid H16
      replace e16 := Lib.hid e16
      clear hd
      exact GH.st_mark _ Try.underlying51 Try.underlying5 (by rfl) rfl ⟨_, rfl, e16.out, H16.out⟩
    | 18, _, hd =>
      simp only [GH.mkL, List.getD_cons_succ, List.getD_cons_zero]
      obtain ⟨A17, d17, e17, H17⟩ := (hd 17 (by kernel_rfl)).2
      rw [d17]
      clear d17
      replace H17 := Lib.hid H17
      replace e17 := Lib.hid e17
      clear hd
      refine ⟨fun K hK => ?_⟩
      go_wp2_with fail
      exact hK _ _ (GH.Gr.of ((Below.refl _ _).alloc (Nat.le_refl _) _) hb.below.size) (GH.pts_lit _ H17.out (Nat.le_refl _))
    | 19, _, hd =>
      simp only [GH.mkL, List.getD_cons_succ, List.getD_cons_zero]
      have d14 : S 14 = .agg #[.int .u64 (kvA c s [115, 101, 114, 118, 101, 114] : Nat), .int .u64 (kvB c s [115, 101, 114, 118, 101, 114] : Nat)] := (hd 14 (by kernel_rfl)).2
      rw [d14]
      clear d14
      have d15 : S 15 = .agg #[.int .u64 (c : Nat), .int .u64 (s : Nat)] := (hd 15 (by kernel_rfl)).2
      rw [d15]
      clear d15
      obtain ⟨A18, n18, c18, d18, e18, l18, H18⟩ := (hd 18 (by kernel_rfl)).2
      rw [d18]
      clear d18
      replace H18 := Lib.hid H18
      replace l18 := Lib.hid l18
      clear hd
      refine GH.st_call (by rfl) hb.below.size (by go_simp) ((pair_one c s n18 c18 A18 [106, 111, 105, 110] w' h0 h1 H18.out e18 l18.out (by rfl) (by decide)).mono ?_)
      rintro e w9 ⟨rfl, hb9⟩
      exact ⟨_, rfl, hb9, rfl⟩
    | 20, _, hd =>
      simp only [GH.mkL, List.getD_cons_succ, List.getD_cons_zero]
      clear hd
      exact GH.st_loads _ [.int .u64 (c : Nat), .int .u64 (s : Nat)] (by rfl) rfl rfl (((KK.out.below hb.below KK.out.lt)).loads 0 _ (by rfl)) (by kernel_rfl) (by kernel_rfl)
    | 21, _, hd =>
      simp only [GH.mkL, List.getD_cons_succ, List.getD_cons_zero]
      clear hd
      refine ⟨fun K hK => ?_⟩
      go_wp2_with fail
      exact hK _ _ (GH.Gr.of ((Below.refl _ _).alloc (Nat.le_refl _) _) hb.below.size) (GH.lit_lit .u8 _ _ hb.below.size rfl rfl)
    | 22, _, hd =>
      simp only [GH.mkL, List.getD_cons_succ, List.getD_cons_zero]
      obtain ⟨A21, d21, e21, H21⟩ := (hd 21 (by kernel_rfl)).2
      rw [d21]
      clear d21
      replace H21 := Lib.hid H21
      replace e21 := Lib.hid e21
      clear hd
      exact GH.st_mark _ Try.underlying51 Try.underlying5 (by rfl) rfl ⟨_, rfl, e21.out, H21.out⟩
    | 23, _, hd =>
      simp only [GH.mkL, List.getD_cons_succ, List.getD_cons_zero]
      obtain ⟨A22, d22, e22, H22⟩ := (hd 22 (by kernel_rfl)).2
      rw [d22]
      clear d22
      replace H22 := Lib.hid H22
      replace e22 := Lib.hid e22
      clear hd
      refine ⟨fun K hK => ?_⟩
      go_wp2_with fail
      exact hK _ _ (GH.Gr.of ((Below.refl _ _).alloc (Nat.le_refl _) _) hb.below.size) (GH.pts_lit _ H22.out (Nat.le_refl _))
    | 24, _, hd =>
      simp only [GH.mkL, List.getD_cons_succ, List.getD_cons_zero]
      have d19 : S 19 = .agg #[.int .u64 (kvA c s [106, 111, 105, 110] : Nat), .int .u64 (kvB c s [106, 111, 105, 110] : Nat)] := (hd 19 (by kernel_rfl)).2
      rw [d19]
      clear d19
      have d20 : S 20 = .agg #[.int .u64 (c : Nat), .int .u64 (s : Nat)] := (hd 20 (by kernel_rfl)).2
      rw [d20]
      clear d20
      obtain ⟨A23, n23, c23, d23, e23, l23, H23⟩ := (hd 23 (by kernel_rfl)).2
      rw [d23]
      clear d23
      replace H23 := Lib.hid H23
      replace l23 := Lib.hid l23
      clear hd
      refine GH.st_call (by rfl) hb.below.size (by go_simp) ((sum_one c s n23 c23 A23 [116, 111, 107, 101, 110] w' h0 h1 H23.out e23 l23.out (by rfl) (by decide)).mono ?_)
      rintro e w9 ⟨rfl, hb9⟩
      exact ⟨_, rfl, hb9, rfl⟩
    | 25, _, hd =>
      simp only [GH.mkL, List.getD_cons_succ, List.getD_cons_zero]
      have d24 : S 24 = .int .u64 (sumB c s [116, 111, 107, 101, 110] : Nat) := (hd 24 (by kernel_rfl)).2
      rw [d24]
      clear d24
      clear hd
      refine GH.st_eq (by rfl) ?_
      go_simp
      (try with_reducible rfl)
    | 26, _, hd =>
      simp only [GH.mkL, List.getD_cons_succ, List.getD_cons_zero]
      have d4 : S 4 = .agg #[.int .u64 (kvA c s [105, 100] : Nat), .int .u64 (kvB c s [105, 100] : Nat)] := (hd 4 (by kernel_rfl)).2
      rw [d4]
      clear d4
      have d9 : S 9 = .agg #[.int .u64 (kvA c s [99, 108, 105, 101, 110, 116] : Nat), .int .u64 (kvB c s [99, 108, 105, 101, 110, 116] : Nat)] := (hd 9 (by kernel_rfl)).2
      rw [d9]
      clear d9
      have d14 : S 14 = .agg #[.int .u64 (kvA c s [115, 101, 114, 118, 101, 114] : Nat), .int .u64 (kvB c s [115, 101, 114, 118, 101, 114] : Nat)] := (hd 14 (by kernel_rfl)).2
      rw [d14]
      clear d14
      have d19 : S 19 = .agg #[.int .u64 (kvA c s [106, 111, 105, 110] : Nat), .int .u64 (kvB c s [106, 111, 105, 110] : Nat)] := (hd 19 (by kernel_rfl)).2
      rw [d19]
      clear d19
      have d25 : S 25 = .int .u32 (tkn c s : Nat) := (hd 25 (by kernel_rfl)).2
      rw [d25]
      clear d25
      clear hd
      refine GH.st_eq (by rfl) ?_
      go_simp
      (try with_reducible rfl)
    | n + 27, hj, _ => omega
  intro S w' hb hG
  simp only [GH.mkL, List.drop_succ_cons, List.drop_zero]
  have d26 : S 26 = .agg #[.int .u64 (kvA c s [105, 100] : Nat), .int .u64 (kvB c s [105, 100] : Nat), .int .u64 (kvA c s [99, 108, 105, 101, 110, 116] : Nat), .int .u64 (kvB c s [99, 108, 105, 101, 110, 116] : Nat), .int .u64 (kvA c s [115, 101, 114, 118, 101, 114] : Nat), .int .u64 (kvB c s [115, 101, 114, 118, 101, 114] : Nat), .int .u64 (kvA c s [106, 111, 105, 110] : Nat), .int .u64 (kvB c s [106, 111, 105, 110] : Nat), .int .u32 (tkn c s : Nat)] := hG 26 (by omega)
  rw [d26]
  clear d26
  clear hG
  have KF := Lib.hid (k1.out.below hb.below k1.out.lt)
  have BF := Lib.hid (b1.out.trans (hb.below.mono b1.out.size))
  clear k1 b1 hb
  refine stm_store (cs' := (keyC c s).toArray) KF.out rfl _ _ rfl rfl rfl (by simp) (by kernel_rfl) (by simp [Value.oneCell']) (by simp [setL, keyC]) fun w9 hk hs => ?_
  refine wpList_nil ?_
  go_wp2_with fail
  exact bodyPost_ret (results_agg Try.results12 hk (by rfl) (by kernel_rfl) (by kernel_rfl)) rfl ⟨rfl, BF.out.trans (hs.1)⟩
end Go.Proofs.Ytcgcglngjfijnaa
