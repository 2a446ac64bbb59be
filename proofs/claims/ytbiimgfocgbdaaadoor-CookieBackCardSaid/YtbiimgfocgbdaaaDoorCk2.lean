/- Layer 30: what a cookie says, Make. -/
import Derived.Test.YtbiimgfocgbdaaaDoorCk1
import Derived.Test.YtbiimgfocgbdaaaDoorGhoP
import Derived.Test.YtbiimgfocgbdaaaDoorPutN
import Derived.Test.YtbiimgfocgbdaaaDoorKy1
import Derived.Test.YtbiimgfocgbdaaaDoorSipLt
import Derived.Test.YtbiimgfocgbdaaaDoorPk2
import Derived.Deep.Cut
namespace Go.Proofs.YtbiimgfocgbdaaaDoor
open Go.RowKit
set_option linter.unusedVariables false
set_option linter.unusedSimpArgs false
/-- The bytes that are summed up. -/
def ckL (pw lo re fi e n : Nat) : List Nat := be pw 4 ++ (be lo 2 ++ (be re 2 ++ (be fi 4 ++ (be e 4 ++ be n 4))))
theorem ckL_eq (pw lo re fi e n : Nat) : fbs [(4, pw), (2, lo), (2, re), (4, fi), (4, e), (4, n)] = ckL pw lo re fi e n := by simp [fbs, ckL, okS]
theorem ckL_byte (pw lo re fi e n : Nat) : ((ckL pw lo re fi e n).all fun x => decide (x < 256)) = true := by
  rw [List.all_eq_true]
  intro x hx
  simp only [ckL, List.mem_append] at hx
  rcases hx with hx | hx | hx | hx | hx | hx <;> exact decide_eq_true (be_byte _ _ _ hx)
theorem ckL_len (pw lo re fi e n : Nat) : (ckL pw lo re fi e n).length ≤ 1000 := by simp [ckL, be_len]
def ckPw (p : Int) : Nat := (p % 4294967296).toNat
def ckSum (k0 k1 : Nat) (p : Int) (lo re fi e n : Nat) : Nat := sumB k0 k1 (ckL (ckPw p) lo re fi e n)
def ckSay (k0 k1 : Nat) (p : Int) (lo re fi e n : Nat) : Nat := ckMk e n (ckSum k0 k1 p lo re fi e n)
set_option maxRecDepth 20000 in
set_option maxHeartbeats 4000000 in
theorem say_any (k0 k1 : Nat) (p : Int) (lo re fi e n : Nat) (w : World) (h0 : k0 < 18446744073709551616) (h1 : k1 < 18446744073709551616) (hlo : lo < 65536) (hre : re < 65536) (hfi : fi < 4294967296) (he : e < 4294967296) (hn : n < 8) :
    Calls Tryd.prog 8 #[.agg #[.int .u64 (k0 : Nat), .int .u64 (k1 : Nat)], .agg #[.int .i64 p, .int .u16 (lo : Nat), .int .u16 (re : Nat), .int .u32 (fi : Nat)], .int .u32 (e : Nat), .int .u32 (n : Nat)] w fun e' w' => e' = .returned (.int .u32 (ckSay k0 k1 p lo re fi e n : Nat)) ∧ Below w.heap.size w w' := by
  obtain ⟨pw, hpw⟩ : ∃ pw, pw = ckPw p := ⟨_, rfl⟩
  have hpl : pw < 4294967296 := by rw [hpw]; unfold ckPw; omega
  have hwp : IntKind.u32.wrap p = (pw : Nat) := by rw [hpw, IntKind.wrap_u32]; unfold ckPw; omega
  obtain ⟨ss, hss⟩ : ∃ ss, ss = ckSum k0 k1 p lo re fi e n := ⟨_, rfl⟩
  have hsl : ss < 18446744073709551616 := by rw [hss]; exact sumB_lt _ _ _ h0 h1
  have HSM : Hid (∀ w' nn c A, Pts w' w'.heap.size A nn [ckL pw lo re fi e n] → nn ≤ c → [ckL pw lo re fi e n].length = nn → Calls Tryd.prog 11 #[.agg #[.int .u64 (k0 : Nat), .int .u64 (k1 : Nat)], .slice A nn c] w' fun e' w'' => e' = .returned (.int .u64 (ss : Nat)) ∧ Below w'.heap.size w' w'') := Lib.hid (fun w' nn c A hp hc hl => by
    rw [hss, ckSum, ← hpw]
    exact sum_one k0 k1 nn c A _ w' h0 h1 hp hc hl (ckL_byte _ _ _ _ _ _) (ckL_len _ _ _ _ _ _))
  have HV := Lib.hid (show ckSay k0 k1 p lo re fi e n = ckMk e n ss from by rw [hss]; rfl)
  have hws : IntKind.u32.wrap (ss : Int) = ((ss % 4294967296 : Nat) : Int) := by rw [IntKind.wrap_u32]; omega
  have hsl2 : ss % 4294967296 < 4294967296 := Nat.mod_lt _ (by decide)
  clear hpw hss
  go_enter Tryd.func8, Tryd.ntmps8
  go_upto_region 1 with fail
  have hk0 : Hid (Blk (w.alloc (.cells #[.int .u64 (k0 : Nat), .int .u64 (k1 : Nat)] 24)) (w.heap.size) 24 #[.int .u64 (k0 : Nat), .int .u64 (k1 : Nat)]) := Lib.hid ((Blk.new w 24 #[.int .u64 (k0 : Nat), .int .u64 (k1 : Nat)]))
  replace hk0 : Hid (Blk ((w.alloc (.cells #[.int .u64 (k0 : Nat), .int .u64 (k1 : Nat)] 24)).alloc (.cells #[.int .i64 p, .int .u16 (lo : Nat), .int .u16 (re : Nat), .int .u32 (fi : Nat)] 28)) (w.heap.size) 24 #[.int .u64 (k0 : Nat), .int .u64 (k1 : Nat)]) := Lib.hid (hk0.out.alloc _)
  have hk1 : Hid (Blk ((w.alloc (.cells #[.int .u64 (k0 : Nat), .int .u64 (k1 : Nat)] 24)).alloc (.cells #[.int .i64 p, .int .u16 (lo : Nat), .int .u16 (re : Nat), .int .u32 (fi : Nat)] 28)) (w.heap.size + 1) 28 #[.int .i64 p, .int .u16 (lo : Nat), .int .u16 (re : Nat), .int .u32 (fi : Nat)]) := Lib.hid ((Blk.new (w.alloc (.cells #[.int .u64 (k0 : Nat), .int .u64 (k1 : Nat)] 24)) 28 #[.int .i64 p, .int .u16 (lo : Nat), .int .u16 (re : Nat), .int .u32 (fi : Nat)]) |> fun h => by simpa using h)
  have b1 : Hid (Below w.heap.size w ((w.alloc (.cells #[.int .u64 (k0 : Nat), .int .u64 (k1 : Nat)] 24)).alloc (.cells #[.int .i64 p, .int .u16 (lo : Nat), .int .u16 (re : Nat), .int .u32 (fi : Nat)] 28))) := Lib.hid (((Below.refl w.heap.size w).alloc (Nat.le_refl _) (.cells #[.int .u64 (k0 : Nat), .int .u64 (k1 : Nat)] 24)).alloc (by simp <;> omega) (.cells #[.int .i64 p, .int .u16 (lo : Nat), .int .u16 (re : Nat), .int .u32 (fi : Nat)] 28))
  have hz : ((w.alloc (.cells #[.int .u64 (k0 : Nat), .int .u64 (k1 : Nat)] 24)).alloc (.cells #[.int .i64 p, .int .u16 (lo : Nat), .int .u16 (re : Nat), .int .u32 (fi : Nat)] 28)).heap.size = w.heap.size + 2 := by simp
  generalize ((w.alloc (.cells #[.int .u64 (k0 : Nat), .int .u64 (k1 : Nat)] 24)).alloc (.cells #[.int .i64 p, .int .u16 (lo : Nat), .int .u16 (re : Nat), .int .u32 (fi : Nat)] 28)) = w2 at hk0 hk1 b1 hz ⊢
  have HZ := Lib.hid hz
  clear hz
  have KB := hk0
  have KA := hk1
  clear hk0 hk1 HZ
  obtain ⟨sm, hsm⟩ : ∃ sm, sm = ss % 4294967296 := ⟨_, rfl⟩
  rw [← hsm] at hws hsl2
  refine GH.wp_ghl (M := false) 23 ((GH.SP.eq (.agg #[.int .u64 (k0 : Nat), .int .u64 (k1 : Nat)])) :: (GH.SP.eq (.pointer (some ⟨w.heap.size + 1, 0, none⟩))) :: (GH.SP.eq (.int .i64 p)) :: (GH.SP.eq (.int .u32 (pw : Nat))) :: (GH.SP.eq (.agg #[.int .i64 4, .int .u64 (pw : Nat)])) :: (GH.SP.eq (.pointer (some ⟨w.heap.size + 1, 1, none⟩))) :: (GH.SP.eq (.int .u16 (lo : Nat))) :: (GH.SP.eq (.agg #[.int .i64 2, .int .u64 (lo : Nat)])) :: (GH.SP.eq (.pointer (some ⟨w.heap.size + 1, 2, none⟩))) :: (GH.SP.eq (.int .u16 (re : Nat))) :: (GH.SP.eq (.agg #[.int .i64 2, .int .u64 (re : Nat)])) :: (GH.SP.eq (.pointer (some ⟨w.heap.size + 1, 3, none⟩))) :: (GH.SP.eq (.int .u32 (fi : Nat))) :: (GH.SP.eq (.agg #[.int .i64 4, .int .u64 (fi : Nat)])) :: (GH.SP.eq (.int .u32 (e : Nat))) :: (GH.SP.eq (.agg #[.int .i64 4, .int .u64 (e : Nat)])) :: (GH.SP.eq (.int .u32 (n : Nat))) :: (GH.SP.eq (.agg #[.int .i64 4, .int .u64 (n : Nat)])) :: (GH.SP.rd 2 6 (fs [(4, pw), (2, lo), (2, re), (4, fi), (4, e), (4, n)])) :: (GH.SP.ns .u8 (ckL pw lo re fi e n)) :: (GH.SP.pts [ckL pw lo re fi e n]) :: (GH.SP.eq (.int .u64 (ss : Nat))) :: (GH.SP.eq (.int .u32 (sm : Nat))) :: []) (none :: none :: none :: none :: none :: none :: none :: none :: none :: none :: (some 0) :: (some 1) :: (some 2) :: (some 3) :: (some 4) :: (some 5) :: (some 6) :: (some 7) :: (some 8) :: (some 9) :: (some 10) :: (some 11) :: (some 12) :: (some 13) :: (some 14) :: (some 15) :: (some 16) :: (some 17) :: (some 18) :: (some 19) :: (some 20) :: (some 21) :: (some 22) :: none :: none :: none :: none :: none :: none :: none :: none :: []) [10, 11, 12, 13, 14, 15, 16, 17, 18, 19, 20, 21, 22, 23, 24, 25, 26, 27, 28, 29, 30, 31, 32] (by rfl) (by kernel_rfl) (by kernel_rfl) ?_ ?_ ?_
  · intro S jx v hjx
    match jx, hjx with
    | 0, _ => rfl
    | 1, _ => rfl
    | 2, _ => rfl
    | 3, _ => rfl
    | 4, _ => rfl
    | 5, _ => rfl
    | 6, _ => rfl
    | 7, _ => rfl
    | 8, _ => rfl
    | 9, _ => rfl
    | 10, _ => rfl
    | 11, _ => rfl
    | 12, _ => rfl
    | 13, _ => rfl
    | 14, _ => rfl
    | 15, _ => rfl
    | 16, _ => rfl
    | 17, _ => rfl
    | 18, _ => rfl
    | 19, _ => rfl
    | 20, _ => rfl
    | 21, _ => rfl
    | 22, _ => rfl
    | nx + 23, hjx => omega
  · intro jx hjx S w' hb hd
    match jx, hjx, hd with
    | 0, _, hd =>
      simp only [GH.mkL, List.getD_cons_succ, List.getD_cons_zero]
      clear hd
      exact GH.st_loads _ [.int .u64 (k0 : Nat), .int .u64 (k1 : Nat)] (by rfl) rfl rfl (((KB.out.below hb.below KB.out.lt)).loads 0 _ (by rfl)) (by kernel_rfl) (by kernel_rfl)
    | 1, _, hd =>
      simp only [GH.mkL, List.getD_cons_succ, List.getD_cons_zero]
      clear hd
      refine GH.st_eq (by rfl) ?_
      go_simp
      (try with_reducible rfl)
    | 2, _, hd =>
      simp only [GH.mkL, List.getD_cons_succ, List.getD_cons_zero]
      have d1 : S 1 = .pointer (some ⟨w.heap.size + 1, 0, none⟩) := (hd 1 (by kernel_rfl)).2
      rw [d1]
      clear d1
      clear hd
      exact GH.st_load _ (by rfl) rfl rfl (((KA.out.below hb.below KA.out.lt)).cell 0) (by kernel_rfl)
    | 3, _, hd =>
      simp only [GH.mkL, List.getD_cons_succ, List.getD_cons_zero]
      have d2 : S 2 = .int .i64 p := (hd 2 (by kernel_rfl)).2
      rw [d2]
      clear d2
      clear hd
      refine GH.st_eq (by rfl) ?_
      go_simp
      (try with_reducible rfl)
    | 4, _, hd =>
      simp only [GH.mkL, List.getD_cons_succ, List.getD_cons_zero]
      have d3 : S 3 = .int .u32 (pw : Nat) := (hd 3 (by kernel_rfl)).2
      rw [d3]
      clear d3
      clear hd
      refine GH.st_call (by rfl) hb.below.size (by go_simp) ((pW_any (pw : Nat) w' (by omega) (by omega)).mono ?_)
      rintro e w9 ⟨rfl, hb9⟩
      exact ⟨_, rfl, hb9, rfl⟩
    | 5, _, hd =>
      simp only [GH.mkL, List.getD_cons_succ, List.getD_cons_zero]
      clear hd
      refine GH.st_eq (by rfl) ?_
      go_simp
      (try with_reducible rfl)
    | 6, _, hd =>
      simp only [GH.mkL, List.getD_cons_succ, List.getD_cons_zero]
      have d5 : S 5 = .pointer (some ⟨w.heap.size + 1, 1, none⟩) := (hd 5 (by kernel_rfl)).2
      rw [d5]
      clear d5
      clear hd
      exact GH.st_load _ (by rfl) rfl rfl (((KA.out.below hb.below KA.out.lt)).cell 1) (by kernel_rfl)
    | 7, _, hd =>
      simp only [GH.mkL, List.getD_cons_succ, List.getD_cons_zero]
      have d4 : S 4 = .agg #[.int .i64 4, .int .u64 (pw : Nat)] := (hd 4 (by kernel_rfl)).2
      rw [d4]
      clear d4
      have d6 : S 6 = .int .u16 (lo : Nat) := (hd 6 (by kernel_rfl)).2
      rw [d6]
      clear d6
      clear hd
      refine GH.st_call (by rfl) hb.below.size (by go_simp) ((pH_any (lo : Nat) w' (by omega) (by omega)).mono ?_)
      rintro e w9 ⟨rfl, hb9⟩
      exact ⟨_, rfl, hb9, rfl⟩
    | 8, _, hd =>
      simp only [GH.mkL, List.getD_cons_succ, List.getD_cons_zero]
      clear hd
      refine GH.st_eq (by rfl) ?_
      go_simp
      (try with_reducible rfl)
    | 9, _, hd =>
      simp only [GH.mkL, List.getD_cons_succ, List.getD_cons_zero]
      have d8 : S 8 = .pointer (some ⟨w.heap.size + 1, 2, none⟩) := (hd 8 (by kernel_rfl)).2
      rw [d8]
      clear d8
      clear hd
      exact GH.st_load _ (by rfl) rfl rfl (((KA.out.below hb.below KA.out.lt)).cell 2) (by kernel_rfl)
    | 10, _, hd =>
      simp only [GH.mkL, List.getD_cons_succ, List.getD_cons_zero]
      have d7 : S 7 = .agg #[.int .i64 2, .int .u64 (lo : Nat)] := (hd 7 (by kernel_rfl)).2
      rw [d7]
      clear d7
      have d9 : S 9 = .int .u16 (re : Nat) := (hd 9 (by kernel_rfl)).2
      rw [d9]
      clear d9
      clear hd
      refine GH.st_call (by rfl) hb.below.size (by go_simp) ((pH_any (re : Nat) w' (by omega) (by omega)).mono ?_)
      rintro e w9 ⟨rfl, hb9⟩
      exact ⟨_, rfl, hb9, rfl⟩
    | 11, _, hd =>
      simp only [GH.mkL, List.getD_cons_succ, List.getD_cons_zero]
      clear hd
      refine GH.st_eq (by rfl) ?_
      go_simp
      (try with_reducible rfl)
    | 12, _, hd =>
      simp only [GH.mkL, List.getD_cons_succ, List.getD_cons_zero]
      have d11 : S 11 = .pointer (some ⟨w.heap.size + 1, 3, none⟩) := (hd 11 (by kernel_rfl)).2
      rw [d11]
      clear d11
      clear hd
      exact GH.st_load _ (by rfl) rfl rfl (((KA.out.below hb.below KA.out.lt)).cell 3) (by kernel_rfl)
    | 13, _, hd =>
      simp only [GH.mkL, List.getD_cons_succ, List.getD_cons_zero]
      have d10 : S 10 = .agg #[.int .i64 2, .int .u64 (re : Nat)] := (hd 10 (by kernel_rfl)).2
      rw [d10]
      clear d10
      have d12 : S 12 = .int .u32 (fi : Nat) := (hd 12 (by kernel_rfl)).2
      rw [d12]
      clear d12
      clear hd
      refine GH.st_call (by rfl) hb.below.size (by go_simp) ((pW_any (fi : Nat) w' (by omega) (by omega)).mono ?_)
      rintro e w9 ⟨rfl, hb9⟩
      exact ⟨_, rfl, hb9, rfl⟩
    | 14, _, hd =>
      simp only [GH.mkL, List.getD_cons_succ, List.getD_cons_zero]
      clear hd
      refine GH.st_eq (by rfl) ?_
      go_simp
      (try with_reducible rfl)
    | 15, _, hd =>
      simp only [GH.mkL, List.getD_cons_succ, List.getD_cons_zero]
      have d13 : S 13 = .agg #[.int .i64 4, .int .u64 (fi : Nat)] := (hd 13 (by kernel_rfl)).2
      rw [d13]
      clear d13
      have d14 : S 14 = .int .u32 (e : Nat) := (hd 14 (by kernel_rfl)).2
      rw [d14]
      clear d14
      clear hd
      refine GH.st_call (by rfl) hb.below.size (by go_simp) ((pW_any (e : Nat) w' (by omega) (by omega)).mono ?_)
      rintro e w9 ⟨rfl, hb9⟩
      exact ⟨_, rfl, hb9, rfl⟩
    | 16, _, hd =>
      simp only [GH.mkL, List.getD_cons_succ, List.getD_cons_zero]
      clear hd
      refine GH.st_eq (by rfl) ?_
      go_simp
      (try with_reducible rfl)
    | 17, _, hd =>
      simp only [GH.mkL, List.getD_cons_succ, List.getD_cons_zero]
      have d15 : S 15 = .agg #[.int .i64 4, .int .u64 (e : Nat)] := (hd 15 (by kernel_rfl)).2
      rw [d15]
      clear d15
      have d16 : S 16 = .int .u32 (n : Nat) := (hd 16 (by kernel_rfl)).2
      rw [d16]
      clear d16
      clear hd
      refine GH.st_call (by rfl) hb.below.size (by go_simp) ((pW_any (n : Nat) w' (by omega) (by omega)).mono ?_)
      rintro e w9 ⟨rfl, hb9⟩
      exact ⟨_, rfl, hb9, rfl⟩
    | 18, _, hd =>
      simp only [GH.mkL, List.getD_cons_succ, List.getD_cons_zero]
      have d4 : S 4 = .agg #[.int .i64 4, .int .u64 (pw : Nat)] := (hd 4 (by kernel_rfl)).2
      rw [d4]
      clear d4
      have d7 : S 7 = .agg #[.int .i64 2, .int .u64 (lo : Nat)] := (hd 7 (by kernel_rfl)).2
      rw [d7]
      clear d7
      have d10 : S 10 = .agg #[.int .i64 2, .int .u64 (re : Nat)] := (hd 10 (by kernel_rfl)).2
      rw [d10]
      clear d10
      have d13 : S 13 = .agg #[.int .i64 4, .int .u64 (fi : Nat)] := (hd 13 (by kernel_rfl)).2
      rw [d13]
      clear d13
      have d15 : S 15 = .agg #[.int .i64 4, .int .u64 (e : Nat)] := (hd 15 (by kernel_rfl)).2
      rw [d15]
      clear d15
      have d17 : S 17 = .agg #[.int .i64 4, .int .u64 (n : Nat)] := (hd 17 (by kernel_rfl)).2
      rw [d17]
      clear d17
      clear hd
      refine ⟨fun K hK => ?_⟩
      go_wp2_with fail
      exact hK _ _ (GH.Gr.of ((Below.refl _ _).alloc (Nat.le_refl _) _) hb.below.size) (GH.rd_lit rfl rfl)
    | 19, _, hd =>
      simp only [GH.mkL, List.getD_cons_succ, List.getD_cons_zero]
      have d17 : S 17 = .agg #[.int .i64 4, .int .u64 (n : Nat)] := (hd 17 (by kernel_rfl)).2
      rw [d17]
      clear d17
      obtain ⟨A18, c18, d18, e18, H18⟩ := (hd 18 (by kernel_rfl)).2
      rw [d18]
      clear d18
      replace H18 := Lib.hid H18
      clear hd
      refine GH.st_call (by rfl) hb.below.size (by go_simp) ((put_nil 6 c18 A18 [(4, pw), (2, lo), (2, re), (4, fi), (4, e), (4, n)] w' H18.out (by omega) (by intro p hp; simp at hp; rcases hp with rfl | rfl | rfl | rfl | rfl | rfl <;> simp <;> omega)).mono ?_)
      rintro e w9 ⟨v, rfl, hb9, hq⟩
      exact ⟨_, rfl, hb9, (by rw [← ckL_eq]; exact hq _)⟩
    | 20, _, hd =>
      simp only [GH.mkL, List.getD_cons_succ, List.getD_cons_zero]
      obtain ⟨A19, n19, c19, d19, e19, l19, H19⟩ := (hd 19 (by kernel_rfl)).2
      rw [d19]
      clear d19
      replace H19 := Lib.hid H19
      replace l19 := Lib.hid l19
      clear hd
      refine ⟨fun K hK => ?_⟩
      go_wp2_with fail
      exact hK _ _ (GH.Gr.of ((Below.refl _ _).alloc (Nat.le_refl _) _) hb.below.size) (GH.pts_lit _ H19.out e19)
    | 21, _, hd =>
      simp only [GH.mkL, List.getD_cons_succ, List.getD_cons_zero]
      have d0 : S 0 = .agg #[.int .u64 (k0 : Nat), .int .u64 (k1 : Nat)] := (hd 0 (by kernel_rfl)).2
      rw [d0]
      clear d0
      obtain ⟨A19, n19, c19, d19, e19, l19, H19⟩ := (hd 19 (by kernel_rfl)).2
      rw [d19]
      clear d19
      replace H19 := Lib.hid H19
      replace l19 := Lib.hid l19
      obtain ⟨A20, n20, c20, d20, e20, l20, H20⟩ := (hd 20 (by kernel_rfl)).2
      rw [d20]
      clear d20
      replace H20 := Lib.hid H20
      replace l20 := Lib.hid l20
      clear hd
      refine GH.st_call (by rfl) hb.below.size (by go_simp) ((HSM.out w' n20 c20 A20 H20.out e20 l20.out).mono ?_)
      rintro e w9 ⟨rfl, hb9⟩
      exact ⟨_, rfl, hb9, rfl⟩
    | 22, _, hd =>
      simp only [GH.mkL, List.getD_cons_succ, List.getD_cons_zero]
      have d21 : S 21 = .int .u64 (ss : Nat) := (hd 21 (by kernel_rfl)).2
      rw [d21]
      clear d21
      clear hd
      refine GH.st_eq (by rfl) ?_
      go_simp
      (try with_reducible rfl)
    | nx + 23, hjx, _ => omega
  intro S w' hb hG
  simp only [GH.mkL, List.drop_succ_cons, List.drop_zero]
  have d22 : S 22 = .int .u32 (sm : Nat) := hG 22 (by omega)
  rw [d22]
  clear d22
  clear hG
  have BF := Lib.hid (b1.out.trans (hb.below.mono b1.out.size))
  clear hb KB KA HSM
  have hres : bits .or .u32 (bits .or .u32 ((e : Int) * 134217728 % 4294967296) ((n : Int) * 16777216)) ((ss : Int) % 16777216) = (ckMk e n ss : Nat) := by
    rw [show (e : Int) * 134217728 % 4294967296 = ((e * 134217728 % 4294967296 : Nat) : Int) by omega, show (n : Int) * 16777216 = ((n * 16777216 % 4294967296 : Nat) : Int) by omega, show (ss : Int) % 16777216 = ((ss % 16777216 : Nat) : Int) by omega, u32_or_nat _ _ (Nat.mod_lt _ (by decide)) (Nat.mod_lt _ (by decide)), u32_or_nat _ _ (Nat.or_lt_two_pow (n := 32) (Nat.mod_lt _ (by decide)) (Nat.mod_lt _ (by decide))) (by omega), ck_or hn]
  have HRS := Lib.hid hres
  clear hres
  go_wp2_with fail
  go_ret
  exact ⟨by first | rfl | (rw [HV.out, ← HRS.out]; rfl), BF.out⟩
theorem Tz.gr {M : Bool} {B : Nat} {w w' : World} (h : Tz w) (hb : GH.Gr M B w w') : Tz w' := fun i hi => (hb.cell _ _ h.lt).trans (h i hi)
set_option maxRecDepth 20000 in
set_option maxHeartbeats 4000000 in
theorem make_any (k0 k1 : Nat) (p : Int) (lo re fi : Nat) (t m : Int) (w : World) (h0 : k0 < 18446744073709551616) (h1 : k1 < 18446744073709551616) (hlo : lo < 65536) (hre : re < 65536) (hfi : fi < 4294967296) (ht0 : -9223372036854775808 ≤ t) (ht1 : t < 9223372036854775808) (hT : Tz w) :
    Calls Tryd.prog 5 #[.agg #[.int .u64 (k0 : Nat), .int .u64 (k1 : Nat)], .agg #[.int .i64 p, .int .u16 (lo : Nat), .int .u16 (re : Nat), .int .u32 (fi : Nat)], .int .i64 t, .int .i64 m] w fun e' w' => e' = .returned (.int .u32 (ckSay k0 k1 p lo re fi (ckEp t) (ckNum m) : Nat)) ∧ Below w.heap.size w w' := by
  obtain ⟨ee, hee⟩ : ∃ ee, ee = ckEp t := ⟨_, rfl⟩
  obtain ⟨nn, hnn⟩ : ∃ nn, nn = ckNum m := ⟨_, rfl⟩
  have hel : ee < 4294967296 := by rw [hee]; exact ckEp_lt t
  have hnl : nn < 8 := by have := ckNum_le m; omega
  have HE : Hid (∀ w', Calls Tryd.prog 9 #[.int .i64 t] w' fun e' w'' => e' = .returned (.int .u32 (ee : Nat)) ∧ Below w'.heap.size w' w'') := Lib.hid (fun w' => by
    rw [hee]
    exact (epoch_any t w' ht0 ht1).mono (by rintro e' w'' ⟨rfl, rfl⟩; exact ⟨rfl, Below.refl _ _⟩))
  have HN : Hid (∀ w', Tz w' → Calls Tryd.prog 10 #[.int .i64 m] w' fun e' w'' => e' = .returned (.int .u32 (nn : Nat)) ∧ Below w'.heap.size w' w'') := Lib.hid (fun w' h => by
    rw [hnn]
    exact (sizeNumber_any m w' h).mono (by rintro e' w'' ⟨rfl, rfl⟩; exact ⟨rfl, Below.refl _ _⟩))
  rw [← hee, ← hnn]
  obtain ⟨x, hx⟩ : ∃ x, x = ckSay k0 k1 p lo re fi ee nn := ⟨_, rfl⟩
  have HX : Hid (∀ w', Calls Tryd.prog 8 #[.agg #[.int .u64 (k0 : Nat), .int .u64 (k1 : Nat)], .agg #[.int .i64 p, .int .u16 (lo : Nat), .int .u16 (re : Nat), .int .u32 (fi : Nat)], .int .u32 (ee : Nat), .int .u32 (nn : Nat)] w' fun e' w'' => e' = .returned (.int .u32 (x : Nat)) ∧ Below w'.heap.size w' w'') := Lib.hid (fun w' => by
    rw [hx]
    exact say_any k0 k1 p lo re fi ee nn w' h0 h1 hlo hre hfi hel hnl)
  rw [← hx]
  clear hx hee hnn
  go_enter Tryd.func5, Tryd.ntmps5
  go_upto_region 1 with fail
  have hk0 : Hid (Blk (w.alloc (.cells #[.int .u64 (k0 : Nat), .int .u64 (k1 : Nat)] 24)) (w.heap.size) 24 #[.int .u64 (k0 : Nat), .int .u64 (k1 : Nat)]) := Lib.hid ((Blk.new w 24 #[.int .u64 (k0 : Nat), .int .u64 (k1 : Nat)]))
  replace hk0 : Hid (Blk ((w.alloc (.cells #[.int .u64 (k0 : Nat), .int .u64 (k1 : Nat)] 24)).alloc (.cells #[.int .i64 p, .int .u16 (lo : Nat), .int .u16 (re : Nat), .int .u32 (fi : Nat)] 28)) (w.heap.size) 24 #[.int .u64 (k0 : Nat), .int .u64 (k1 : Nat)]) := Lib.hid (hk0.out.alloc _)
  have hk1 : Hid (Blk ((w.alloc (.cells #[.int .u64 (k0 : Nat), .int .u64 (k1 : Nat)] 24)).alloc (.cells #[.int .i64 p, .int .u16 (lo : Nat), .int .u16 (re : Nat), .int .u32 (fi : Nat)] 28)) (w.heap.size + 1) 28 #[.int .i64 p, .int .u16 (lo : Nat), .int .u16 (re : Nat), .int .u32 (fi : Nat)]) := Lib.hid ((Blk.new (w.alloc (.cells #[.int .u64 (k0 : Nat), .int .u64 (k1 : Nat)] 24)) 28 #[.int .i64 p, .int .u16 (lo : Nat), .int .u16 (re : Nat), .int .u32 (fi : Nat)]) |> fun h => by simpa using h)
  have b1 : Hid (Below w.heap.size w ((w.alloc (.cells #[.int .u64 (k0 : Nat), .int .u64 (k1 : Nat)] 24)).alloc (.cells #[.int .i64 p, .int .u16 (lo : Nat), .int .u16 (re : Nat), .int .u32 (fi : Nat)] 28))) := Lib.hid (((Below.refl w.heap.size w).alloc (Nat.le_refl _) (.cells #[.int .u64 (k0 : Nat), .int .u64 (k1 : Nat)] 24)).alloc (by simp <;> omega) (.cells #[.int .i64 p, .int .u16 (lo : Nat), .int .u16 (re : Nat), .int .u32 (fi : Nat)] 28))
  have hz : ((w.alloc (.cells #[.int .u64 (k0 : Nat), .int .u64 (k1 : Nat)] 24)).alloc (.cells #[.int .i64 p, .int .u16 (lo : Nat), .int .u16 (re : Nat), .int .u32 (fi : Nat)] 28)).heap.size = w.heap.size + 2 := by simp
  generalize ((w.alloc (.cells #[.int .u64 (k0 : Nat), .int .u64 (k1 : Nat)] 24)).alloc (.cells #[.int .i64 p, .int .u16 (lo : Nat), .int .u16 (re : Nat), .int .u32 (fi : Nat)] 28)) = w2 at hk0 hk1 b1 hz ⊢
  have HZ := Lib.hid hz
  clear hz
  have HT := Lib.hid (hT.below b1.out)
  have KB := hk0
  have KA := hk1
  clear hk0 hk1 HZ hT
  refine GH.wp_ghl (M := false) 7 ((GH.SP.eq (.agg #[.int .u64 (k0 : Nat), .int .u64 (k1 : Nat)])) :: (GH.SP.eq (.agg #[.int .i64 p, .int .u16 (lo : Nat), .int .u16 (re : Nat), .int .u32 (fi : Nat)])) :: (GH.SP.eq (.int .i64 t)) :: (GH.SP.eq (.int .u32 (ee : Nat))) :: (GH.SP.eq (.int .i64 m)) :: (GH.SP.eq (.int .u32 (nn : Nat))) :: (GH.SP.eq (.int .u32 (x : Nat))) :: []) (none :: none :: none :: none :: none :: none :: none :: none :: none :: (some 0) :: (some 1) :: (some 2) :: (some 3) :: (some 4) :: (some 5) :: (some 6) :: []) [9, 10, 11, 12, 13, 14, 15] (by rfl) (by kernel_rfl) (by kernel_rfl) ?_ ?_ ?_
  · intro S jx v hjx
    match jx, hjx with
    | 0, _ => rfl
    | 1, _ => rfl
    | 2, _ => rfl
    | 3, _ => rfl
    | 4, _ => rfl
    | 5, _ => rfl
    | 6, _ => rfl
    | nx + 7, hjx => omega
  · intro jx hjx S w' hb hd
    match jx, hjx, hd with
    | 0, _, hd =>
      simp only [GH.mkL, List.getD_cons_succ, List.getD_cons_zero]
      clear hd
      exact GH.st_loads _ [.int .u64 (k0 : Nat), .int .u64 (k1 : Nat)] (by rfl) rfl rfl (((KB.out.below hb.below KB.out.lt)).loads 0 _ (by rfl)) (by kernel_rfl) (by kernel_rfl)
    | 1, _, hd =>
      simp only [GH.mkL, List.getD_cons_succ, List.getD_cons_zero]
      clear hd
      exact GH.st_loads _ [.int .i64 p, .int .u16 (lo : Nat), .int .u16 (re : Nat), .int .u32 (fi : Nat)] (by rfl) rfl rfl (((KA.out.below hb.below KA.out.lt)).loads 0 _ (by rfl)) (by kernel_rfl) (by kernel_rfl)
    | 2, _, hd =>
      simp only [GH.mkL, List.getD_cons_succ, List.getD_cons_zero]
      clear hd
      refine GH.st_eq (by rfl) ?_
      go_simp
      (try with_reducible rfl)
    | 3, _, hd =>
      simp only [GH.mkL, List.getD_cons_succ, List.getD_cons_zero]
      have d2 : S 2 = .int .i64 t := (hd 2 (by kernel_rfl)).2
      rw [d2]
      clear d2
      clear hd
      refine GH.st_call (by rfl) hb.below.size (by go_simp) ((HE.out w').mono ?_)
      rintro e w9 ⟨rfl, hb9⟩
      exact ⟨_, rfl, hb9, rfl⟩
    | 4, _, hd =>
      simp only [GH.mkL, List.getD_cons_succ, List.getD_cons_zero]
      clear hd
      refine GH.st_eq (by rfl) ?_
      go_simp
      (try with_reducible rfl)
    | 5, _, hd =>
      simp only [GH.mkL, List.getD_cons_succ, List.getD_cons_zero]
      have d3 : S 3 = .int .u32 (ee : Nat) := (hd 3 (by kernel_rfl)).2
      rw [d3]
      clear d3
      have d4 : S 4 = .int .i64 m := (hd 4 (by kernel_rfl)).2
      rw [d4]
      clear d4
      clear hd
      refine GH.st_call (by rfl) hb.below.size (by go_simp) ((HN.out w' (HT.out.gr hb)).mono ?_)
      rintro e w9 ⟨rfl, hb9⟩
      exact ⟨_, rfl, hb9, rfl⟩
    | 6, _, hd =>
      simp only [GH.mkL, List.getD_cons_succ, List.getD_cons_zero]
      have d0 : S 0 = .agg #[.int .u64 (k0 : Nat), .int .u64 (k1 : Nat)] := (hd 0 (by kernel_rfl)).2
      rw [d0]
      clear d0
      have d1 : S 1 = .agg #[.int .i64 p, .int .u16 (lo : Nat), .int .u16 (re : Nat), .int .u32 (fi : Nat)] := (hd 1 (by kernel_rfl)).2
      rw [d1]
      clear d1
      have d3 : S 3 = .int .u32 (ee : Nat) := (hd 3 (by kernel_rfl)).2
      rw [d3]
      clear d3
      have d5 : S 5 = .int .u32 (nn : Nat) := (hd 5 (by kernel_rfl)).2
      rw [d5]
      clear d5
      clear hd
      refine GH.st_call (by rfl) hb.below.size (by go_simp) ((HX.out w').mono ?_)
      rintro e w9 ⟨rfl, hb9⟩
      exact ⟨_, rfl, hb9, rfl⟩
    | nx + 7, hjx, _ => omega
  intro S w' hb hG
  simp only [GH.mkL, List.drop_succ_cons, List.drop_zero]
  have d6 : S 6 = .int .u32 (x : Nat) := hG 6 (by omega)
  rw [d6]
  clear d6
  clear hG
  have BF := Lib.hid (b1.out.trans (hb.below.mono b1.out.size))
  clear hb KB KA HE HN HX HT
  go_wp2_with fail
  go_ret
  exact ⟨rfl, BF.out⟩
end Go.Proofs.YtbiimgfocgbdaaaDoor
