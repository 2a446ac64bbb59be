/- Layer 30: the law CookieBack answers true, and nothing that was there has turned. -/
import Derived.Test.YtbiimgfocgbdaaaDoorCk3
import Derived.Test.YtbiimgfocgbdaaaDoorPut
import Derived.Test.YtbiimgfocgbdaaaDoorUnd
import Derived.Deep.Cut
namespace Go.Proofs.YtbiimgfocgbdaaaDoor
open Go.RowKit
set_option linter.unusedVariables false
set_option linter.unusedSimpArgs false
theorem ck_size (k0 k1 : Nat) (p : Int) (lo re fi : Nat) (t m : Int) : ckSay k0 k1 p lo re fi (ckEp t) (ckNum m) / 16777216 % 8 = ckNum m := ckMk_size (by have := ckNum_le m; omega)
theorem ckSay_lt (k0 k1 : Nat) (p : Int) (lo re fi : Nat) (t m : Int) : ckSay k0 k1 p lo re fi (ckEp t) (ckNum m) < 4294967296 := ckMk_lt (by have := ckNum_le m; omega)
set_option maxRecDepth 20000 in
set_option maxHeartbeats 4000000 in
theorem alive30_any (w : World) (hT : Tz w) : Calls Tryd.prog 7 #[] w fun e w' => e = .returned (.bool true) ∧ Below w.heap.size w w' := by
  obtain ⟨x, hx⟩ : ∃ x, x = ckSay 1 0 1 80 5 7 (ckEp 100) (ckNum 100) := ⟨_, rfl⟩
  have HM : Hid (∀ w', Tz w' → Calls Tryd.prog 5 #[.agg #[.int .u64 1, .int .u64 0], .agg #[.int .i64 1, .int .u16 80, .int .u16 5, .int .u32 7], .int .i64 100, .int .i64 100] w' fun e' w'' => e' = .returned (.int .u32 (x : Nat)) ∧ Below w'.heap.size w' w'') := Lib.hid (fun w' h => by
    rw [hx]
    exact make_any 1 0 1 80 5 7 100 100 w' (by omega) (by omega) (by omega) (by omega) (by omega) (by omega) (by omega) h)
  have HC : Hid (∀ w', Tz w' → Calls Tryd.prog 4 #[.agg #[.int .u64 1, .int .u64 0], .agg #[.int .i64 1, .int .u16 80, .int .u16 5, .int .u32 7], .int .i64 130, .int .u32 (x : Nat)] w' fun e' w'' => e' = .returned (.tuple #[.int .i64 64, .bool true]) ∧ Below w'.heap.size w' w'') := Lib.hid (fun w' h => by
    have hxl : x < 4294967296 := by rw [hx]; exact ckSay_lt _ _ _ _ _ _ _ _
    have hok : ckOk 1 0 1 80 5 7 130 x := by rw [hx]; exact ck_back 1 0 1 80 5 7 100 30 100 (by omega) (by omega) (by omega) (by omega)
    have := check_yes 1 0 1 80 5 7 130 x w' (by omega) (by omega) (by omega) (by omega) (by omega) (by omega) (by omega) hxl h hok
    have hs : ckSz (x / 16777216 % 8) = 64 := by rw [hx, ck_size]; rfl
    rw [hs] at this
    exact this)
  have HT := Lib.hid hT
  clear hx hT
  go_enter Tryd.func7, Tryd.ntmps7
  go_upto_region 2 with fail
  have hk0 : Hid (Blk (w.alloc (.cells #[.int .i64 1, .int .u16 80, .int .u16 5, .int .u32 7] 28)) (w.heap.size) 28 #[.int .i64 1, .int .u16 80, .int .u16 5, .int .u32 7]) := Lib.hid ((Blk.new w 28 #[.int .i64 1, .int .u16 80, .int .u16 5, .int .u32 7]))
  have b1 : Hid (Below w.heap.size w (w.alloc (.cells #[.int .i64 1, .int .u16 80, .int .u16 5, .int .u32 7] 28))) := Lib.hid ((Below.refl w.heap.size w).alloc (Nat.le_refl _) (.cells #[.int .i64 1, .int .u16 80, .int .u16 5, .int .u32 7] 28))
  have hz : (w.alloc (.cells #[.int .i64 1, .int .u16 80, .int .u16 5, .int .u32 7] 28)).heap.size = w.heap.size + 1 := by simp
  generalize (w.alloc (.cells #[.int .i64 1, .int .u16 80, .int .u16 5, .int .u32 7] 28)) = w2 at hk0 b1 hz ⊢
  have HZ := Lib.hid hz
  clear hz
  replace HT := Lib.hid (HT.out.below b1.out)
  obtain ⟨a0, a1, a2, a3⟩ := ptc4 hk0.out
  go_wp2_with fail
  refine (HM.out _ HT.out).mono ?_
  rintro e w3 ⟨rfl, hb3⟩
  have hk3 := Lib.hid (hk0.out.below hb3 hk0.out.lt)
  have b3 := Lib.hid (b1.out.trans (hb3.mono b1.out.size))
  replace HT := Lib.hid (HT.out.below hb3)
  clear hb3 b1 hk0 a0 a1 a2 a3 HM
  obtain ⟨a0, a1, a2, a3⟩ := ptc4 hk3.out
  go_wp2_with fail
  refine (HC.out _ HT.out).mono ?_
  rintro e w4 ⟨rfl, hb4⟩
  have b4 := Lib.hid (b3.out.trans (hb4.mono b3.out.size))
  replace HT := Lib.hid (HT.out.below hb4)
  clear hb4 b3 hk3 a0 a1 a2 a3 HC
  go_wp2_with fail
  refine (size_any 100 w4 HT.out).mono ?_
  rintro e w5 ⟨rfl, rfl⟩
  rw [show ckSz (ckNum 100) = 64 from rfl]
  go_wp2_with fail
  refine (size_any 0 w5 HT.out).mono ?_
  rintro e w6 ⟨rfl, rfl⟩
  rw [show ckSz (ckNum 0) = 1 from rfl]
  go_wp2_with fail
  go_ret
  exact ⟨rfl, b4.out⟩
set_option maxRecDepth 20000 in
set_option maxHeartbeats 4000000 in
theorem cookieBack_walk (k0 k1 : Nat) (p : Int) (lo re fi : Nat) (tk ms la : Int) (w : World) (h0 : k0 < 18446744073709551616) (h1 : k1 < 18446744073709551616) (hlo : lo < 65536) (hre : re < 65536) (hfi : fi < 4294967296) (hT : Tz w) :
    Calls Tryd.prog 3 #[.agg #[.int .u64 (k0 : Nat), .int .u64 (k1 : Nat)], .agg #[.int .i64 p, .int .u16 (lo : Nat), .int .u16 (re : Nat), .int .u32 (fi : Nat)], .agg #[.int .i64 tk, .int .i64 ms, .int .i64 la]] w fun e w' => e = .returned (.bool true) ∧ Below w.heap.size w w' := by
  go_enter Tryd.func3, Tryd.ntmps3
  go_upto_region 1 with fail
  have hk0 : Hid (Blk (w.alloc (.cells #[.int .u64 (k0 : Nat), .int .u64 (k1 : Nat)] 24)) (w.heap.size) 24 #[.int .u64 (k0 : Nat), .int .u64 (k1 : Nat)]) := Lib.hid ((Blk.new w 24 #[.int .u64 (k0 : Nat), .int .u64 (k1 : Nat)]))
  replace hk0 : Hid (Blk ((w.alloc (.cells #[.int .u64 (k0 : Nat), .int .u64 (k1 : Nat)] 24)).alloc (.cells #[.int .i64 p, .int .u16 (lo : Nat), .int .u16 (re : Nat), .int .u32 (fi : Nat)] 28)) (w.heap.size) 24 #[.int .u64 (k0 : Nat), .int .u64 (k1 : Nat)]) := Lib.hid (hk0.out.alloc _)
  replace hk0 : Hid (Blk (((w.alloc (.cells #[.int .u64 (k0 : Nat), .int .u64 (k1 : Nat)] 24)).alloc (.cells #[.int .i64 p, .int .u16 (lo : Nat), .int .u16 (re : Nat), .int .u32 (fi : Nat)] 28)).alloc (.cells #[.int .i64 tk, .int .i64 ms, .int .i64 la] 30)) (w.heap.size) 24 #[.int .u64 (k0 : Nat), .int .u64 (k1 : Nat)]) := Lib.hid (hk0.out.alloc _)
  have hk1 : Hid (Blk ((w.alloc (.cells #[.int .u64 (k0 : Nat), .int .u64 (k1 : Nat)] 24)).alloc (.cells #[.int .i64 p, .int .u16 (lo : Nat), .int .u16 (re : Nat), .int .u32 (fi : Nat)] 28)) (w.heap.size + 1) 28 #[.int .i64 p, .int .u16 (lo : Nat), .int .u16 (re : Nat), .int .u32 (fi : Nat)]) := Lib.hid ((Blk.new (w.alloc (.cells #[.int .u64 (k0 : Nat), .int .u64 (k1 : Nat)] 24)) 28 #[.int .i64 p, .int .u16 (lo : Nat), .int .u16 (re : Nat), .int .u32 (fi : Nat)]) |> fun h => by simpa using h)
  replace hk1 : Hid (Blk (((w.alloc (.cells #[.int .u64 (k0 : Nat), .int .u64 (k1 : Nat)] 24)).alloc (.cells #[.int .i64 p, .int .u16 (lo : Nat), .int .u16 (re : Nat), .int .u32 (fi : Nat)] 28)).alloc (.cells #[.int .i64 tk, .int .i64 ms, .int .i64 la] 30)) (w.heap.size + 1) 28 #[.int .i64 p, .int .u16 (lo : Nat), .int .u16 (re : Nat), .int .u32 (fi : Nat)]) := Lib.hid (hk1.out.alloc _)
  have hk2 : Hid (Blk (((w.alloc (.cells #[.int .u64 (k0 : Nat), .int .u64 (k1 : Nat)] 24)).alloc (.cells #[.int .i64 p, .int .u16 (lo : Nat), .int .u16 (re : Nat), .int .u32 (fi : Nat)] 28)).alloc (.cells #[.int .i64 tk, .int .i64 ms, .int .i64 la] 30)) (w.heap.size + 2) 30 #[.int .i64 tk, .int .i64 ms, .int .i64 la]) := Lib.hid ((Blk.new ((w.alloc (.cells #[.int .u64 (k0 : Nat), .int .u64 (k1 : Nat)] 24)).alloc (.cells #[.int .i64 p, .int .u16 (lo : Nat), .int .u16 (re : Nat), .int .u32 (fi : Nat)] 28)) 30 #[.int .i64 tk, .int .i64 ms, .int .i64 la]) |> fun h => by simpa using h)
  have b1 : Hid (Below w.heap.size w (((w.alloc (.cells #[.int .u64 (k0 : Nat), .int .u64 (k1 : Nat)] 24)).alloc (.cells #[.int .i64 p, .int .u16 (lo : Nat), .int .u16 (re : Nat), .int .u32 (fi : Nat)] 28)).alloc (.cells #[.int .i64 tk, .int .i64 ms, .int .i64 la] 30))) := Lib.hid ((((Below.refl w.heap.size w).alloc (Nat.le_refl _) (.cells #[.int .u64 (k0 : Nat), .int .u64 (k1 : Nat)] 24)).alloc (by simp <;> omega) (.cells #[.int .i64 p, .int .u16 (lo : Nat), .int .u16 (re : Nat), .int .u32 (fi : Nat)] 28)).alloc (by simp <;> omega) (.cells #[.int .i64 tk, .int .i64 ms, .int .i64 la] 30))
  have hz : (((w.alloc (.cells #[.int .u64 (k0 : Nat), .int .u64 (k1 : Nat)] 24)).alloc (.cells #[.int .i64 p, .int .u16 (lo : Nat), .int .u16 (re : Nat), .int .u32 (fi : Nat)] 28)).alloc (.cells #[.int .i64 tk, .int .i64 ms, .int .i64 la] 30)).heap.size = w.heap.size + 3 := by simp
  generalize (((w.alloc (.cells #[.int .u64 (k0 : Nat), .int .u64 (k1 : Nat)] 24)).alloc (.cells #[.int .i64 p, .int .u16 (lo : Nat), .int .u16 (re : Nat), .int .u32 (fi : Nat)] 28)).alloc (.cells #[.int .i64 tk, .int .i64 ms, .int .i64 la] 30)) = w2 at hk0 hk1 hk2 b1 hz ⊢
  have HZ := Lib.hid hz
  clear hz
  have HT := Lib.hid (hT.below b1.out)
  have KB := hk0
  have KA := hk1
  have KL := hk2
  clear hk0 hk1 hk2 HZ hT
  obtain ⟨y0, y1, y2⟩ := ptc3 KL.out
  by_cases g1 : tk < 0
  · go_wp2_with fail
    go_ret
    exact ⟨rfl, b1.out⟩
  by_cases g2 : 2147483648 ≤ tk
  · go_wp2_with fail
    go_ret
    exact ⟨rfl, b1.out⟩
  by_cases g3 : la < 0
  · go_wp2_with fail
    go_ret
    exact ⟨rfl, b1.out⟩
  by_cases g4 : 64 < la
  · go_wp2_with fail
    go_ret
    exact ⟨rfl, b1.out⟩
  obtain ⟨x, hx⟩ : ∃ x, x = ckSay k0 k1 p lo re fi (ckEp tk) (ckNum ms) := ⟨_, rfl⟩
  obtain ⟨z, hz⟩ : ∃ z, z = ckSz (ckNum ms) := ⟨_, rfl⟩
  have HM : Hid (∀ w', Tz w' → Calls Tryd.prog 5 #[.agg #[.int .u64 (k0 : Nat), .int .u64 (k1 : Nat)], .agg #[.int .i64 p, .int .u16 (lo : Nat), .int .u16 (re : Nat), .int .u32 (fi : Nat)], .int .i64 tk, .int .i64 ms] w' fun e' w'' => e' = .returned (.int .u32 (x : Nat)) ∧ Below w'.heap.size w' w'') := Lib.hid (fun w' h => by
    rw [hx]
    exact make_any k0 k1 p lo re fi tk ms w' h0 h1 hlo hre hfi (by omega) (by omega) h)
  have HC : Hid (∀ w', Tz w' → Calls Tryd.prog 4 #[.agg #[.int .u64 (k0 : Nat), .int .u64 (k1 : Nat)], .agg #[.int .i64 p, .int .u16 (lo : Nat), .int .u16 (re : Nat), .int .u32 (fi : Nat)], .int .i64 (tk + la), .int .u32 (x : Nat)] w' fun e' w'' => e' = .returned (.tuple #[.int .i64 (z : Nat), .bool true]) ∧ Below w'.heap.size w' w'') := Lib.hid (fun w' h => by
    have hxl : x < 4294967296 := by rw [hx]; exact ckSay_lt _ _ _ _ _ _ _ _
    have hok : ckOk k0 k1 p lo re fi (tk + la) x := by rw [hx]; exact ck_back k0 k1 p lo re fi tk la ms (by omega) (by omega) (by omega) (by omega)
    have := check_yes k0 k1 p lo re fi (tk + la) x w' h0 h1 hlo hre hfi (by omega) (by omega) hxl h hok
    have hs : ckSz (x / 16777216 % 8) = z := by rw [hx, ck_size, hz]
    rw [hs] at this
    exact this)
  have HS : Hid (∀ w', Tz w' → Calls Tryd.prog 6 #[.int .i64 ms] w' fun e' w'' => e' = .returned (.int .i64 (z : Nat)) ∧ w'' = w') := Lib.hid (fun w' h => by
    rw [hz]
    exact size_any ms w' h)
  have hz1 : (z : Int) ≤ 1024 := by have h := ckSz_le (ckNum_le ms); rw [← hz] at h; omega
  have hz2 : (z : Int) ≤ ms ∨ z = 1 := by rw [hz]; exact ckNum_fits ms
  have HZ1 := Lib.hid hz1
  have HZ2 := Lib.hid hz2
  have hwa : IntKind.i64.wrap (tk + la) = tk + la := by
    have := wrap_i64_ediv (tk + la) 1 (by omega) (by omega) (by omega)
    rwa [Int.ediv_one] at this
  clear hx hz hz1 hz2
  go_upto_region 3 with fail
  clear y0 y1 y2 g1 g2 g3 g4
  refine GH.wp_ghl (M := false) 20 ((GH.SP.eq (.agg #[.int .u64 (k0 : Nat), .int .u64 (k1 : Nat)])) :: (GH.SP.eq (.agg #[.int .i64 p, .int .u16 (lo : Nat), .int .u16 (re : Nat), .int .u32 (fi : Nat)])) :: (GH.SP.eq (.pointer (some ⟨w.heap.size + 2, 0, none⟩))) :: (GH.SP.eq (.int .i64 tk)) :: (GH.SP.eq (.pointer (some ⟨w.heap.size + 2, 2, none⟩))) :: (GH.SP.eq (.int .i64 la)) :: (GH.SP.eq (.int .i64 (tk + la))) :: (GH.SP.eq (.agg #[.int .u64 (k0 : Nat), .int .u64 (k1 : Nat)])) :: (GH.SP.eq (.agg #[.int .i64 p, .int .u16 (lo : Nat), .int .u16 (re : Nat), .int .u32 (fi : Nat)])) :: (GH.SP.eq (.pointer (some ⟨w.heap.size + 2, 0, none⟩))) :: (GH.SP.eq (.int .i64 tk)) :: (GH.SP.eq (.pointer (some ⟨w.heap.size + 2, 1, none⟩))) :: (GH.SP.eq (.int .i64 ms)) :: (GH.SP.eq (.int .u32 (x : Nat))) :: (GH.SP.eq (.tuple #[.int .i64 (z : Nat), .bool true])) :: (GH.SP.eq (.tuple #[.int .i64 (z : Nat), .bool true])) :: (GH.SP.eq (.int .i64 (z : Nat))) :: (GH.SP.eq (.bool true)) :: (GH.SP.eq (.int .i64 (z : Nat))) :: (GH.SP.eq (.bool true)) :: []) (none :: none :: none :: none :: none :: none :: none :: (some 18) :: (some 19) :: none :: none :: none :: none :: none :: none :: none :: none :: none :: none :: none :: none :: none :: none :: none :: none :: none :: none :: (some 15) :: (some 0) :: (some 1) :: (some 2) :: (some 3) :: (some 4) :: (some 5) :: (some 6) :: (some 7) :: (some 8) :: (some 9) :: (some 10) :: (some 11) :: (some 12) :: (some 13) :: (some 14) :: (some 16) :: (some 17) :: none :: none :: none :: none :: none :: none :: none :: none :: none :: none :: none :: none :: none :: none :: none :: none :: none :: none :: none :: none :: none :: none :: none :: none :: none :: []) [28, 29, 30, 31, 32, 33, 34, 35, 36, 37, 38, 39, 40, 41, 42, 27, 43, 44, 7, 8] (by rfl) (by kernel_rfl) (by kernel_rfl) ?_ ?_ ?_
  · intro S jx v hjx
    match jx, hjx with
    | 0, _ => rfl
    | 1, _ => rfl
    | 2, _ => rfl
    | 3, _ => rfl
    | 4, _ => rfl
    | 5, _ => rfl
    | 6, _ => rfl
    | 7, _ => rfl
    | 8, _ => rfl
    | 9, _ => rfl
    | 10, _ => rfl
    | 11, _ => rfl
    | 12, _ => rfl
    | 13, _ => rfl
    | 14, _ => rfl
    | 15, _ => rfl
    | 16, _ => rfl
    | 17, _ => rfl
    | 18, _ => rfl
    | 19, _ => rfl
    | nx + 20, hjx => omega
  · intro jx hjx S w' hb hd
    match jx, hjx, hd with
    | 0, _, hd =>
      simp only [GH.mkL, List.getD_cons_succ, List.getD_cons_zero]
      clear hd
      exact GH.st_loads _ [.int .u64 (k0 : Nat), .int .u64 (k1 : Nat)] (by rfl) rfl rfl (((KB.out.below hb.below KB.out.lt)).loads 0 _ (by rfl)) (by kernel_rfl) (by kernel_rfl)
    | 1, _, hd =>
      simp only [GH.mkL, List.getD_cons_succ, List.getD_cons_zero]
      clear hd
      exact GH.st_loads _ [.int .i64 p, .int .u16 (lo : Nat), .int .u16 (re : Nat), .int .u32 (fi : Nat)] (by rfl) rfl rfl (((KA.out.below hb.below KA.out.lt)).loads 0 _ (by rfl)) (by kernel_rfl) (by kernel_rfl)
    | 2, _, hd =>
      simp only [GH.mkL, List.getD_cons_succ, List.getD_cons_zero]
      clear hd
      refine GH.st_eq (by rfl) ?_
      go_simp
      (try with_reducible rfl)
    | 3, _, hd =>
      simp only [GH.mkL, List.getD_cons_succ, List.getD_cons_zero]
      have d2 : S 2 = .pointer (some ⟨w.heap.size + 2, 0, none⟩) := (hd 2 (by kernel_rfl)).2
      rw [d2]
      clear d2
      clear hd
      exact GH.st_load _ (by rfl) rfl rfl (((KL.out.below hb.below KL.out.lt)).cell 0) (by kernel_rfl)
    | 4, _, hd =>
      simp only [GH.mkL, List.getD_cons_succ, List.getD_cons_zero]
      clear hd
      refine GH.st_eq (by rfl) ?_
      go_simp
      (try with_reducible rfl)
    | 5, _, hd =>
      simp only [GH.mkL, List.getD_cons_succ, List.getD_cons_zero]
      have d4 : S 4 = .pointer (some ⟨w.heap.size + 2, 2, none⟩) := (hd 4 (by kernel_rfl)).2
      rw [d4]
      clear d4
      clear hd
      exact GH.st_load _ (by rfl) rfl rfl (((KL.out.below hb.below KL.out.lt)).cell 2) (by kernel_rfl)
    | 6, _, hd =>
      simp only [GH.mkL, List.getD_cons_succ, List.getD_cons_zero]
      have d3 : S 3 = .int .i64 tk := (hd 3 (by kernel_rfl)).2
      rw [d3]
      clear d3
      have d5 : S 5 = .int .i64 la := (hd 5 (by kernel_rfl)).2
      rw [d5]
      clear d5
      clear hd
      refine GH.st_eq (by rfl) ?_
      go_simp
      (try with_reducible rfl)
    | 7, _, hd =>
      simp only [GH.mkL, List.getD_cons_succ, List.getD_cons_zero]
      clear hd
      exact GH.st_loads _ [.int .u64 (k0 : Nat), .int .u64 (k1 : Nat)] (by rfl) rfl rfl (((KB.out.below hb.below KB.out.lt)).loads 0 _ (by rfl)) (by kernel_rfl) (by kernel_rfl)
    | 8, _, hd =>
      simp only [GH.mkL, List.getD_cons_succ, List.getD_cons_zero]
      clear hd
      exact GH.st_loads _ [.int .i64 p, .int .u16 (lo : Nat), .int .u16 (re : Nat), .int .u32 (fi : Nat)] (by rfl) rfl rfl (((KA.out.below hb.below KA.out.lt)).loads 0 _ (by rfl)) (by kernel_rfl) (by kernel_rfl)
    | 9, _, hd =>
      simp only [GH.mkL, List.getD_cons_succ, List.getD_cons_zero]
      clear hd
      refine GH.st_eq (by rfl) ?_
      go_simp
      (try with_reducible rfl)
    | 10, _, hd =>
      simp only [GH.mkL, List.getD_cons_succ, List.getD_cons_zero]
      have d9 : S 9 = .pointer (some ⟨w.heap.size + 2, 0, none⟩) := (hd 9 (by kernel_rfl)).2
      rw [d9]
      clear d9
      clear hd
      exact GH.st_load _ (by rfl) rfl rfl (((KL.out.below hb.below KL.out.lt)).cell 0) (by kernel_rfl)
    | 11, _, hd =>
      simp only [GH.mkL, List.getD_cons_succ, List.getD_cons_zero]
      clear hd
      refine GH.st_eq (by rfl) ?_
      go_simp
      (try with_reducible rfl)
    | 12, _, hd =>
      simp only [GH.mkL, List.getD_cons_succ, List.getD_cons_zero]
      have d11 : S 11 = .pointer (some ⟨w.heap.size + 2, 1, none⟩) := (hd 11 (by kernel_rfl)).2
      rw [d11]
      clear d11
      clear hd
      exact GH.st_load _ (by rfl) rfl rfl (((KL.out.below hb.below KL.out.lt)).cell 1) (by kernel_rfl)
    | 13, _, hd =>
      simp only [GH.mkL, List.getD_cons_succ, List.getD_cons_zero]
      have d7 : S 7 = .agg #[.int .u64 (k0 : Nat), .int .u64 (k1 : Nat)] := (hd 7 (by kernel_rfl)).2
      rw [d7]
      clear d7
      have d8 : S 8 = .agg #[.int .i64 p, .int .u16 (lo : Nat), .int .u16 (re : Nat), .int .u32 (fi : Nat)] := (hd 8 (by kernel_rfl)).2
      rw [d8]
      clear d8
      have d10 : S 10 = .int .i64 tk := (hd 10 (by kernel_rfl)).2
      rw [d10]
      clear d10
      have d12 : S 12 = .int .i64 ms := (hd 12 (by kernel_rfl)).2
      rw [d12]
      clear d12
      clear hd
      refine GH.st_call (by rfl) hb.below.size (by go_simp) ((HM.out w' (HT.out.gr hb)).mono ?_)
      rintro e w9 ⟨rfl, hb9⟩
      exact ⟨_, rfl, hb9, rfl⟩
    | 14, _, hd =>
      simp only [GH.mkL, List.getD_cons_succ, List.getD_cons_zero]
      have d0 : S 0 = .agg #[.int .u64 (k0 : Nat), .int .u64 (k1 : Nat)] := (hd 0 (by kernel_rfl)).2
      rw [d0]
      clear d0
      have d1 : S 1 = .agg #[.int .i64 p, .int .u16 (lo : Nat), .int .u16 (re : Nat), .int .u32 (fi : Nat)] := (hd 1 (by kernel_rfl)).2
      rw [d1]
      clear d1
      have d6 : S 6 = .int .i64 (tk + la) := (hd 6 (by kernel_rfl)).2
      rw [d6]
      clear d6
      have d13 : S 13 = .int .u32 (x : Nat) := (hd 13 (by kernel_rfl)).2
      rw [d13]
      clear d13
      clear hd
      refine GH.st_call (by rfl) hb.below.size (by go_simp) ((HC.out w' (HT.out.gr hb)).mono ?_)
      rintro e w9 ⟨rfl, hb9⟩
      exact ⟨_, rfl, hb9, rfl⟩
    | 15, _, hd =>
      simp only [GH.mkL, List.getD_cons_succ, List.getD_cons_zero]
      have d14 : S 14 = .tuple #[.int .i64 (z : Nat), .bool true] := (hd 14 (by kernel_rfl)).2
      rw [d14]
      clear d14
      clear hd
      refine GH.st_eq (by rfl) ?_
      go_simp
      (try with_reducible rfl)
    | 16, _, hd =>
      simp only [GH.mkL, List.getD_cons_succ, List.getD_cons_zero]
      have d15 : S 15 = .tuple #[.int .i64 (z : Nat), .bool true] := (hd 15 (by kernel_rfl)).2
      rw [d15]
      clear d15
      clear hd
      refine GH.st_eq (by rfl) ?_
      go_simp
      (try with_reducible rfl)
    | 17, _, hd =>
      simp only [GH.mkL, List.getD_cons_succ, List.getD_cons_zero]
      have d15 : S 15 = .tuple #[.int .i64 (z : Nat), .bool true] := (hd 15 (by kernel_rfl)).2
      rw [d15]
      clear d15
      clear hd
      refine GH.st_eq (by rfl) ?_
      go_simp
      (try with_reducible rfl)
    | 18, _, hd =>
      simp only [GH.mkL, List.getD_cons_succ, List.getD_cons_zero]
      have d0 : S 0 = .agg #[.int .u64 (k0 : Nat), .int .u64 (k1 : Nat)] := (hd 0 (by kernel_rfl)).2
      rw [d0]
      clear d0
      have d1 : S 1 = .agg #[.int .i64 p, .int .u16 (lo : Nat), .int .u16 (re : Nat), .int .u32 (fi : Nat)] := (hd 1 (by kernel_rfl)).2
      rw [d1]
      clear d1
      have d2 : S 2 = .pointer (some ⟨w.heap.size + 2, 0, none⟩) := (hd 2 (by kernel_rfl)).2
      rw [d2]
      clear d2
      have d3 : S 3 = .int .i64 tk := (hd 3 (by kernel_rfl)).2
      rw [d3]
      clear d3
      have d4 : S 4 = .pointer (some ⟨w.heap.size + 2, 2, none⟩) := (hd 4 (by kernel_rfl)).2
      rw [d4]
      clear d4
      have d5 : S 5 = .int .i64 la := (hd 5 (by kernel_rfl)).2
      rw [d5]
      clear d5
      have d6 : S 6 = .int .i64 (tk + la) := (hd 6 (by kernel_rfl)).2
      rw [d6]
      clear d6
      have d7 : S 7 = .agg #[.int .u64 (k0 : Nat), .int .u64 (k1 : Nat)] := (hd 7 (by kernel_rfl)).2
      rw [d7]
      clear d7
      have d8 : S 8 = .agg #[.int .i64 p, .int .u16 (lo : Nat), .int .u16 (re : Nat), .int .u32 (fi : Nat)] := (hd 8 (by kernel_rfl)).2
      rw [d8]
      clear d8
      have d9 : S 9 = .pointer (some ⟨w.heap.size + 2, 0, none⟩) := (hd 9 (by kernel_rfl)).2
      rw [d9]
      clear d9
      have d10 : S 10 = .int .i64 tk := (hd 10 (by kernel_rfl)).2
      rw [d10]
      clear d10
      have d11 : S 11 = .pointer (some ⟨w.heap.size + 2, 1, none⟩) := (hd 11 (by kernel_rfl)).2
      rw [d11]
      clear d11
      have d12 : S 12 = .int .i64 ms := (hd 12 (by kernel_rfl)).2
      rw [d12]
      clear d12
      have d13 : S 13 = .int .u32 (x : Nat) := (hd 13 (by kernel_rfl)).2
      rw [d13]
      clear d13
      have d14 : S 14 = .tuple #[.int .i64 (z : Nat), .bool true] := (hd 14 (by kernel_rfl)).2
      rw [d14]
      clear d14
      have d15 : S 15 = .tuple #[.int .i64 (z : Nat), .bool true] := (hd 15 (by kernel_rfl)).2
      rw [d15]
      clear d15
      have d16 : S 16 = .int .i64 (z : Nat) := (hd 16 (by kernel_rfl)).2
      rw [d16]
      clear d16
      clear hd
      refine GH.st_eq (by rfl) ?_
      go_simp
      (try with_reducible rfl)
    | 19, _, hd =>
      simp only [GH.mkL, List.getD_cons_succ, List.getD_cons_zero]
      have d0 : S 0 = .agg #[.int .u64 (k0 : Nat), .int .u64 (k1 : Nat)] := (hd 0 (by kernel_rfl)).2
      rw [d0]
      clear d0
      have d1 : S 1 = .agg #[.int .i64 p, .int .u16 (lo : Nat), .int .u16 (re : Nat), .int .u32 (fi : Nat)] := (hd 1 (by kernel_rfl)).2
      rw [d1]
      clear d1
      have d2 : S 2 = .pointer (some ⟨w.heap.size + 2, 0, none⟩) := (hd 2 (by kernel_rfl)).2
      rw [d2]
      clear d2
      have d3 : S 3 = .int .i64 tk := (hd 3 (by kernel_rfl)).2
      rw [d3]
      clear d3
      have d4 : S 4 = .pointer (some ⟨w.heap.size + 2, 2, none⟩) := (hd 4 (by kernel_rfl)).2
      rw [d4]
      clear d4
      have d5 : S 5 = .int .i64 la := (hd 5 (by kernel_rfl)).2
      rw [d5]
      clear d5
      have d6 : S 6 = .int .i64 (tk + la) := (hd 6 (by kernel_rfl)).2
      rw [d6]
      clear d6
      have d7 : S 7 = .agg #[.int .u64 (k0 : Nat), .int .u64 (k1 : Nat)] := (hd 7 (by kernel_rfl)).2
      rw [d7]
      clear d7
      have d8 : S 8 = .agg #[.int .i64 p, .int .u16 (lo : Nat), .int .u16 (re : Nat), .int .u32 (fi : Nat)] := (hd 8 (by kernel_rfl)).2
      rw [d8]
      clear d8
      have d9 : S 9 = .pointer (some ⟨w.heap.size + 2, 0, none⟩) := (hd 9 (by kernel_rfl)).2
      rw [d9]
      clear d9
      have d10 : S 10 = .int .i64 tk := (hd 10 (by kernel_rfl)).2
      rw [d10]
      clear d10
      have d11 : S 11 = .pointer (some ⟨w.heap.size + 2, 1, none⟩) := (hd 11 (by kernel_rfl)).2
      rw [d11]
      clear d11
      have d12 : S 12 = .int .i64 ms := (hd 12 (by kernel_rfl)).2
      rw [d12]
      clear d12
      have d13 : S 13 = .int .u32 (x : Nat) := (hd 13 (by kernel_rfl)).2
      rw [d13]
      clear d13
      have d14 : S 14 = .tuple #[.int .i64 (z : Nat), .bool true] := (hd 14 (by kernel_rfl)).2
      rw [d14]
      clear d14
      have d15 : S 15 = .tuple #[.int .i64 (z : Nat), .bool true] := (hd 15 (by kernel_rfl)).2
      rw [d15]
      clear d15
      have d16 : S 16 = .int .i64 (z : Nat) := (hd 16 (by kernel_rfl)).2
      rw [d16]
      clear d16
      have d17 : S 17 = .bool true := (hd 17 (by kernel_rfl)).2
      rw [d17]
      clear d17
      have d18 : S 18 = .int .i64 (z : Nat) := (hd 18 (by kernel_rfl)).2
      rw [d18]
      clear d18
      clear hd
      refine GH.st_eq (by rfl) ?_
      go_simp
      (try with_reducible rfl)
    | nx + 20, hjx, _ => omega
  intro S w' hb hG
  simp only [GH.mkL, List.drop_succ_cons, List.drop_zero]
  have d18 : S 18 = .int .i64 (z : Nat) := hG 18 (by omega)
  rw [d18]
  clear d18
  have d19 : S 19 = .bool true := hG 19 (by omega)
  rw [d19]
  clear d19
  clear hG
  have KLr := Lib.hid (KL.out.below hb.below KL.out.lt)
  replace HT := Lib.hid (HT.out.gr hb)
  have B3 := Lib.hid (b1.out.trans (hb.below.mono b1.out.size))
  clear hb KB KA KL HM HC b1 hwa
  generalize w' = w3 at *
  refine wpList_nil ?_
  obtain ⟨y0, y1, y2⟩ := ptc3 KLr.out
  go_wp2_with fail
  refine (HS.out w3 HT.out).mono ?_
  rintro e w4 ⟨rfl, rfl⟩
  clear HS KLr
  have hz1 := HZ1.out
  by_cases hle : (z : Int) ≤ ms
  · go_wp2_with fail
    refine (alive30_any w4 HT.out).mono ?_
    rintro e w5 ⟨rfl, hb5⟩
    have BF := Lib.hid (B3.out.trans (hb5.mono B3.out.size))
    clear y0 y1 y2 hb5
    go_wp2_with fail
    go_ret
    exact ⟨rfl, BF.out⟩
  · obtain rfl : z = 1 := HZ2.out.resolve_left hle
    go_wp2_with fail
    refine (alive30_any w4 HT.out).mono ?_
    rintro e w5 ⟨rfl, hb5⟩
    have BF := Lib.hid (B3.out.trans (hb5.mono B3.out.size))
    clear y0 y1 y2 hb5
    go_wp2_with fail
    go_ret
    exact ⟨rfl, BF.out⟩
end Go.Proofs.YtbiimgfocgbdaaaDoor
