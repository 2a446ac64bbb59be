/- Layer 9: the document's further paths and draws; roles; the chapter's example. -/
import Derived.Test.YtcgcglngjfijnaaKy3
import Derived.Test.YtcgcglngjfijnaaOrdB
namespace Go.Proofs.Ytcgcglngjfijnaa
open Go.RowKit
set_option linter.unusedVariables false
set_option linter.unusedSimpArgs false
/-- The document's Put of no bytes. -/
theorem rput_nil (k n : Nat) (w : World) (hk : k ≤ 8) (hn : n < 18446744073709551616) :
    Calls Try.prog 71 #[.slice none 0 0, .int .u64 n, .int .i64 k] w fun e w' => ∃ v, e = .returned v ∧ Below w.heap.size w w' ∧ ∀ M, (GH.SP.ns (M := M) .u8 (be n k)).G v w' := by
  refine (rput_any k (.slice none 0 0) [] n w.heap.size w hk (Nats.nil _ _ _ _) (Nat.le_refl _) (by simp; omega) hn).mono ?_
  rintro e w' ⟨v, rfl, h1, h2⟩
  exact ⟨v, rfl, h2, fun M => GH.ns_of_own h1⟩
theorem rpathL (a b : Nat) : [] ++ be a 4 ++ be b 4 = pathL a b := by simp [pathL]
set_option maxRecDepth 20000 in
set_option maxHeartbeats 4000000 in
theorem rdrawn_any (k0 k1 n : Nat) (w : World) (h0 : k0 < 18446744073709551616) (h1 : k1 < 18446744073709551616) (hn : n < 18446744073709551616) :
    Calls Try.prog 22 #[.agg #[.int .u64 (k0 : Nat), .int .u64 (k1 : Nat)], .int .u64 n] w fun e w' => e = .returned (.int .u64 (sumB k0 k1 (be n 8) : Nat)) ∧ Below w.heap.size w w' := by
  go_enter Try.func22, Try.ntmps22
  go_upto_region 1 with fail
  have hk0 : Hid (Blk (w.alloc (.cells #[.int .u64 (k0 : Nat), .int .u64 (k1 : Nat)] 27)) (w.heap.size) 27 #[.int .u64 (k0 : Nat), .int .u64 (k1 : Nat)]) := Lib.hid ((Blk.new w 27 #[.int .u64 (k0 : Nat), .int .u64 (k1 : Nat)]))
  have b1 : Hid (Below w.heap.size w (w.alloc (.cells #[.int .u64 (k0 : Nat), .int .u64 (k1 : Nat)] 27))) := Lib.hid ((Below.refl w.heap.size w).alloc (Nat.le_refl _) (.cells #[.int .u64 (k0 : Nat), .int .u64 (k1 : Nat)] 27))
  have hz : (w.alloc (.cells #[.int .u64 (k0 : Nat), .int .u64 (k1 : Nat)] 27)).heap.size = w.heap.size + 1 := by simp
  generalize (w.alloc (.cells #[.int .u64 (k0 : Nat), .int .u64 (k1 : Nat)] 27)) = w2 at hk0 b1 hz ⊢
  have HZ := Lib.hid hz
  clear hz
  refine GH.wp_ghl (M := false) 5 ((GH.SP.eq (.agg #[.int .u64 (k0 : Nat), .int .u64 (k1 : Nat)])) :: (GH.SP.eq (.int .u64 (n : Nat))) :: (GH.SP.ns .u8 (be n 8)) :: (GH.SP.eq (.int .u64 (sumB k0 k1 (be n 8) : Nat))) :: (GH.SP.eq (.int .u64 (sumB k0 k1 (be n 8) : Nat))) :: []) (none :: none :: none :: none :: (some 4) :: (some 0) :: (some 1) :: (some 2) :: (some 3) :: []) [5, 6, 7, 8, 4] (by rfl) (by kernel_rfl) (by kernel_rfl) ?_ ?_ ?_
  · intro S j v hj
    match j, hj with
    | 0, _ => rfl
    | 1, _ => rfl
    | 2, _ => rfl
    | 3, _ => rfl
    | 4, _ => rfl
    | n + 5, hj => omega
  · intro j hj S w' hb hd
    match j, hj, hd with
    | 0, _, hd =>
      simp only [GH.mkL, List.getD_cons_succ, List.getD_cons_zero]
      clear hd
      exact GH.st_loads _ [.int .u64 (k0 : Nat), .int .u64 (k1 : Nat)] (by rfl) rfl rfl (((hk0.out.below hb.below hk0.out.lt)).loads 0 _ (by rfl)) (by kernel_rfl) (by kernel_rfl)
    | 1, _, hd =>
      simp only [GH.mkL, List.getD_cons_succ, List.getD_cons_zero]
      clear hd
      refine GH.st_eq (by rfl) ?_
      go_simp
      (try with_reducible rfl)
    | 2, _, hd =>
      simp only [GH.mkL, List.getD_cons_succ, List.getD_cons_zero]
      have d1 : S 1 = .int .u64 (n : Nat) := (hd 1 (by kernel_rfl)).2
      rw [d1]
      clear d1
      clear hd
      refine GH.st_call (by rfl) hb.below.size (by go_simp) ((rput_nil 8 n w' (by omega) (by omega)).mono ?_)
      rintro e w9 ⟨v, rfl, hb9, hq⟩
      exact ⟨_, rfl, hb9, hq _⟩
    | 3, _, hd =>
      simp only [GH.mkL, List.getD_cons_succ, List.getD_cons_zero]
      have d0 : S 0 = .agg #[.int .u64 (k0 : Nat), .int .u64 (k1 : Nat)] := (hd 0 (by kernel_rfl)).2
      rw [d0]
      clear d0
      obtain ⟨A2, n2, c2, d2, e2, l2, H2⟩ := (hd 2 (by kernel_rfl)).2
      rw [d2]
      clear d2
      replace H2 := Lib.hid H2
      replace l2 := Lib.hid l2
      clear hd
      refine GH.st_call (by rfl) hb.below.size (by go_simp) ((rsum_row k0 k1 n2 c2 A2 (be n 8) w' h0 h1 H2.out e2 l2.out (be_byte 8 n) (by rw [be_len]; decide)).mono ?_)
      rintro e w9 ⟨rfl, hb9⟩
      exact ⟨_, rfl, hb9, rfl⟩
    | 4, _, hd =>
      simp only [GH.mkL, List.getD_cons_succ, List.getD_cons_zero]
      have d0 : S 0 = .agg #[.int .u64 (k0 : Nat), .int .u64 (k1 : Nat)] := (hd 0 (by kernel_rfl)).2
      rw [d0]
      clear d0
      have d1 : S 1 = .int .u64 (n : Nat) := (hd 1 (by kernel_rfl)).2
      rw [d1]
      clear d1
      obtain ⟨A2, n2, c2, d2, e2, l2, H2⟩ := (hd 2 (by kernel_rfl)).2
      rw [d2]
      clear d2
      replace H2 := Lib.hid H2
      replace l2 := Lib.hid l2
      have d3 : S 3 = .int .u64 (sumB k0 k1 (be n 8) : Nat) := (hd 3 (by kernel_rfl)).2
      rw [d3]
      clear d3
      clear hd
      refine GH.st_eq (by rfl) ?_
      go_simp
      (try with_reducible rfl)
    | n + 5, hj, _ => omega
  intro S w' hb hG
  simp only [GH.mkL, List.drop_succ_cons, List.drop_zero]
  have d4 : S 4 = .int .u64 (sumB k0 k1 (be n 8) : Nat) := hG 4 (by omega)
  rw [d4]
  clear d4
  clear hG
  have BF := Lib.hid (b1.out.trans (hb.below.mono b1.out.size))
  clear b1 hb
  refine wpList_nil ?_
  go_wp2_with fail
  go_ret
  exact ⟨rfl, BF.out⟩
set_option maxRecDepth 20000 in
set_option maxHeartbeats 4000000 in
theorem rflow_any (k0 k1 id : Nat) (w : World) (h0 : k0 < 18446744073709551616) (h1 : k1 < 18446744073709551616) (hi : id < 256) :
    Calls Try.prog 26 #[.agg #[.int .u64 (k0 : Nat), .int .u64 (k1 : Nat)], .int .u8 id] w fun e w' => e = .returned (.agg #[.int .u64 (kvA k0 k1 [102, id] : Nat), .int .u64 (kvB k0 k1 [102, id] : Nat)]) ∧ Below w.heap.size w w' := by
  go_enter Try.func26, Try.ntmps26
  go_upto_region 1 with fail
  have hk0 : Hid (Blk (w.alloc (.cells #[.int .u64 (k0 : Nat), .int .u64 (k1 : Nat)] 27)) (w.heap.size) 27 #[.int .u64 (k0 : Nat), .int .u64 (k1 : Nat)]) := Lib.hid ((Blk.new w 27 #[.int .u64 (k0 : Nat), .int .u64 (k1 : Nat)]))
  replace hk0 : Hid (Blk ((w.alloc (.cells #[.int .u64 (k0 : Nat), .int .u64 (k1 : Nat)] 27)).alloc (.cells #[.int .u64 0, .int .u64 0] 27)) (w.heap.size) 27 #[.int .u64 (k0 : Nat), .int .u64 (k1 : Nat)]) := Lib.hid (hk0.out.alloc _)
  have hk1 : Hid (Blk ((w.alloc (.cells #[.int .u64 (k0 : Nat), .int .u64 (k1 : Nat)] 27)).alloc (.cells #[.int .u64 0, .int .u64 0] 27)) (w.heap.size + 1) 27 #[.int .u64 0, .int .u64 0]) := Lib.hid ((Blk.new (w.alloc (.cells #[.int .u64 (k0 : Nat), .int .u64 (k1 : Nat)] 27)) 27 #[.int .u64 0, .int .u64 0]) |> fun h => by simpa using h)
  have b1 : Hid (Below w.heap.size w ((w.alloc (.cells #[.int .u64 (k0 : Nat), .int .u64 (k1 : Nat)] 27)).alloc (.cells #[.int .u64 0, .int .u64 0] 27))) := Lib.hid (((Below.refl w.heap.size w).alloc (Nat.le_refl _) (.cells #[.int .u64 (k0 : Nat), .int .u64 (k1 : Nat)] 27)).alloc (by simp) (.cells #[.int .u64 0, .int .u64 0] 27))
  have hz : ((w.alloc (.cells #[.int .u64 (k0 : Nat), .int .u64 (k1 : Nat)] 27)).alloc (.cells #[.int .u64 0, .int .u64 0] 27)).heap.size = w.heap.size + 2 := by simp
  generalize ((w.alloc (.cells #[.int .u64 (k0 : Nat), .int .u64 (k1 : Nat)] 27)).alloc (.cells #[.int .u64 0, .int .u64 0] 27)) = w2 at hk0 hk1 b1 hz ⊢
  have HZ := Lib.hid hz
  clear hz
  refine GH.wp_ghs (M := false) 4 ((GH.SP.eq (.agg #[.int .u64 (k0 : Nat), .int .u64 (k1 : Nat)])) :: (GH.SP.eq (.int .u8 (id : Nat))) :: (GH.SP.ns .u8 ([102, id])) :: (GH.SP.eq (.agg #[.int .u64 (kvA k0 k1 ([102, id]) : Nat), .int .u64 (kvB k0 k1 ([102, id]) : Nat)])) :: []) (none :: none :: none :: none :: none :: (some 0) :: (some 1) :: (some 2) :: (some 3) :: []) [5, 6, 7, 8] (by rfl) (by kernel_rfl) ?_ ?_ ?_
  · intro S j v hj
    match j, hj with
    | 0, _ => rfl
    | 1, _ => rfl
    | 2, _ => rfl
    | 3, _ => rfl
    | n + 4, hj => omega
  · intro j hj S w' hb hd
    match j, hj, hd with
    | 0, _, hd =>
      simp only [GH.mkL, List.getD_cons_succ, List.getD_cons_zero]
      clear hd
      exact GH.st_loads _ [.int .u64 (k0 : Nat), .int .u64 (k1 : Nat)] (by rfl) rfl rfl (((hk0.out.below hb.below hk0.out.lt)).loads 0 _ (by rfl)) (by kernel_rfl) (by kernel_rfl)
    | 1, _, hd =>
      simp only [GH.mkL, List.getD_cons_succ, List.getD_cons_zero]
      clear hd
      refine GH.st_eq (by rfl) ?_
      go_simp
      (try with_reducible rfl)
    | 2, _, hd =>
      simp only [GH.mkL, List.getD_cons_succ, List.getD_cons_zero]
      have d1 : S 1 = .int .u8 (id : Nat) := (hd 1 (by kernel_rfl)).2
      rw [d1]
      clear d1
      clear hd
      refine ⟨fun K hK => ?_⟩
      go_wp2_with fail
      exact hK _ _ (GH.Gr.of ((Below.refl _ _).alloc (Nat.le_refl _) _) hb.below.size) (GH.ns_lit .u8 _ _ rfl rfl)
    | 3, _, hd =>
      simp only [GH.mkL, List.getD_cons_succ, List.getD_cons_zero]
      have d0 : S 0 = .agg #[.int .u64 (k0 : Nat), .int .u64 (k1 : Nat)] := (hd 0 (by kernel_rfl)).2
      rw [d0]
      clear d0
      obtain ⟨A2, n2, c2, d2, e2, l2, H2⟩ := (hd 2 (by kernel_rfl)).2
      rw [d2]
      clear d2
      replace H2 := Lib.hid H2
      replace l2 := Lib.hid l2
      clear hd
      refine GH.st_call (by rfl) hb.below.size (by go_simp) ((rpair_row k0 k1 n2 c2 A2 ([102, id]) w' h0 h1 H2.out e2 l2.out (by intro x hx; simp at hx; omega) (by simp)).mono ?_)
      rintro e w9 ⟨rfl, hb9⟩
      exact ⟨_, rfl, hb9, rfl⟩
    | n + 4, hj, _ => omega
  intro S w' hb hG
  simp only [GH.mkL, List.drop_succ_cons, List.drop_zero]
  have d3 : S 3 = .agg #[.int .u64 (kvA k0 k1 ([102, id]) : Nat), .int .u64 (kvB k0 k1 ([102, id]) : Nat)] := hG 3 (by omega)
  rw [d3]
  clear d3
  clear hG
  have KF := Lib.hid (hk1.out.below hb.below hk1.out.lt)
  have BF := Lib.hid (b1.out.trans (hb.below.mono b1.out.size))
  clear b1 hb
  refine stm_store (cs' := #[.int .u64 (kvA k0 k1 [102, id] : Nat), .int .u64 (kvB k0 k1 [102, id] : Nat)]) KF.out rfl _ _ rfl rfl rfl (by simp) (by kernel_rfl) (by simp [Value.oneCell']) (by simp [setL]) fun w9 hk hs => ?_
  refine wpList_nil ?_
  go_wp2_with fail
  exact bodyPost_ret (results_agg Try.results26 hk (by rfl) (by kernel_rfl) (by kernel_rfl)) rfl ⟨rfl, BF.out.trans (hs.1.mono (by simp))⟩
set_option maxRecDepth 20000 in
set_option maxHeartbeats 4000000 in
theorem rpath_any (k0 k1 a b : Nat) (w : World) (h0 : k0 < 18446744073709551616) (h1 : k1 < 18446744073709551616) (ha : a < 4294967296) (hbb : b < 4294967296) :
    Calls Try.prog 17 #[.agg #[.int .u64 (k0 : Nat), .int .u64 (k1 : Nat)], .int .u32 a, .int .u32 b] w fun e w' => e = .returned (.agg #[.int .u64 (kvA k0 k1 (pathL a b) : Nat), .int .u64 (kvB k0 k1 (pathL a b) : Nat)]) ∧ Below w.heap.size w w' := by
  have va : IntKind.u64.wrap (a : Int) = (a : Int) := by rw [IntKind.wrap_u64]; omega
  have vb : IntKind.u64.wrap (b : Int) = (b : Int) := by rw [IntKind.wrap_u64]; omega
  go_enter Try.func17, Try.ntmps17
  go_wp2_with fail
  have hk0 : Hid (Blk (w.alloc (.cells #[.int .u64 (k0 : Nat), .int .u64 (k1 : Nat)] 27)) (w.heap.size) 27 #[.int .u64 (k0 : Nat), .int .u64 (k1 : Nat)]) := Lib.hid ((Blk.new w 27 #[.int .u64 (k0 : Nat), .int .u64 (k1 : Nat)]))
  replace hk0 : Hid (Blk ((w.alloc (.cells #[.int .u64 (k0 : Nat), .int .u64 (k1 : Nat)] 27)).alloc (.cells #[.int .u64 0, .int .u64 0] 27)) (w.heap.size) 27 #[.int .u64 (k0 : Nat), .int .u64 (k1 : Nat)]) := Lib.hid (hk0.out.alloc _)
  have hk1 : Hid (Blk ((w.alloc (.cells #[.int .u64 (k0 : Nat), .int .u64 (k1 : Nat)] 27)).alloc (.cells #[.int .u64 0, .int .u64 0] 27)) (w.heap.size + 1) 27 #[.int .u64 0, .int .u64 0]) := Lib.hid ((Blk.new (w.alloc (.cells #[.int .u64 (k0 : Nat), .int .u64 (k1 : Nat)] 27)) 27 #[.int .u64 0, .int .u64 0]) |> fun h => by simpa using h)
  have b1 : Hid (Below w.heap.size w ((w.alloc (.cells #[.int .u64 (k0 : Nat), .int .u64 (k1 : Nat)] 27)).alloc (.cells #[.int .u64 0, .int .u64 0] 27))) := Lib.hid (((Below.refl w.heap.size w).alloc (Nat.le_refl _) (.cells #[.int .u64 (k0 : Nat), .int .u64 (k1 : Nat)] 27)).alloc (by simp) (.cells #[.int .u64 0, .int .u64 0] 27))
  have hz : ((w.alloc (.cells #[.int .u64 (k0 : Nat), .int .u64 (k1 : Nat)] 27)).alloc (.cells #[.int .u64 0, .int .u64 0] 27)).heap.size = w.heap.size + 2 := by simp
  generalize ((w.alloc (.cells #[.int .u64 (k0 : Nat), .int .u64 (k1 : Nat)] 27)).alloc (.cells #[.int .u64 0, .int .u64 0] 27)) = w2 at hk0 hk1 b1 hz ⊢
  have HZ := Lib.hid hz
  clear hz
  refine OB.wp_ord [(0, .read), (1, .pure), (2, .pure), (4, .pure), (5, .pure), (3, .sole), (6, .sole), (7, .sole), (8, .sole)] ⟨fun k => k < w.heap.size + 2, [8]⟩ (by kernel_rfl) (by kernel_rfl) (fun QQ hQ wd hwd => ?_); (try simp only [List.map_cons, List.map_nil, List.getD_cons_zero, List.getD_cons_succ])
  have K0 := Lib.hid (show Blk wd w.heap.size _ _ from by rw [hwd.out]; exact hk0.out.drew)
  have K1 := Lib.hid (show Blk wd (w.heap.size + 1) _ _ from by rw [hwd.out]; exact hk1.out.drew)
  have B1 := Lib.hid (show Below w.heap.size w wd from by rw [hwd.out]; exact b1.out.drew)
  have HZ2 := Lib.hid (show wd.heap.size = w.heap.size + 2 from by rw [hwd.out]; exact HZ.out)
  clear hwd hk0 hk1 b1 HZ
  (refine OB.o_loads _ [.int .u64 (k0 : Nat), .int .u64 (k1 : Nat)] (by rfl) rfl rfl (by dsimp only; first | assumption | omega) (K0.out.loads 0 _ (by rfl)) (Nat.succ_pos _) (by kernel_rfl) (by kernel_rfl) ?_; simp only [Act.put, List.setIfInBounds_toArray, List.set_cons_zero, List.set_cons_succ])
  (refine OB.o_pure (v := ?_) (by rfl) (fun w' => ?_) ?_; rotate_left; (focus (go_simp; (try with_reducible rfl))); (try simp only [Act.put, List.setIfInBounds_toArray, List.set_cons_zero, List.set_cons_succ]))
  (refine OB.o_pure (v := ?_) (by rfl) (fun w' => ?_) ?_; rotate_left; (focus (go_simp; (try with_reducible rfl))); (try simp only [Act.put, List.setIfInBounds_toArray, List.set_cons_zero, List.set_cons_succ]))
  (refine OB.o_pure (v := ?_) (by rfl) (fun w' => ?_) ?_; rotate_left; (focus (go_simp; (try with_reducible rfl))); (try simp only [Act.put, List.setIfInBounds_toArray, List.set_cons_zero, List.set_cons_succ]))
  (refine OB.o_pure (v := ?_) (by rfl) (fun w' => ?_) ?_; rotate_left; (focus (go_simp; (try with_reducible rfl))); (try simp only [Act.put, List.setIfInBounds_toArray, List.set_cons_zero, List.set_cons_succ]))
  refine OB.o_sole (fun K hK => ?_)
  go_wp2_with fail
  refine (rput_any 4 (.slice none 0 0) [] a wd.heap.size wd (by omega) (Nats.nil _ _ _ _) (Nat.le_refl _) (by simp) (by omega)).mono ?_
  rintro e w3 ⟨v3, rfl, h3, hb3⟩
  have H3 := Lib.hid h3
  go_wp2_with fail
  refine hK _ _ (fun _ => OB.ExtB.of (hb3.mono (by have := HZ2.out; omega))) ?_; clear hK K
  have HB3 := Lib.hid hb3
  clear h3 hb3
  refine OB.o_sole (fun K hK => ?_)
  go_wp2_with fail
  refine (rput_any 4 v3 ([] ++ be a 4) b wd.heap.size w3 (by omega) H3.out HB3.out.size (by simp [be_len]) (by omega)).mono ?_
  rintro e w4 ⟨v4, rfl, h4, hb4⟩
  rw [rpathL] at h4
  have H4 := Lib.hid h4
  have HB4 := Lib.hid (HB3.out.trans hb4)
  go_wp2_with fail
  refine hK _ _ (fun _ => OB.ExtB.of (hb4.mono (by have := HZ2.out; omega))) ?_; clear hK K
  clear h4 hb4 HB3 H3
  obtain ⟨A4, c4, rfl, hc4⟩ := H4.out.form
  have HL4 := Lib.hid (pathL_len a b)
  have R4 := Lib.hid H4.out.rd
  generalize (pathL a b).length = n4 at *
  refine OB.o_sole (fun K hK => ?_)
  go_wp2_with fail
  refine (rpair_row k0 k1 n4 c4 A4 (pathL a b) w4 h0 h1 R4.out hc4 (by rw [pathL_len]; exact HL4.out.symm) (pathL_byte a b) (by rw [pathL_len]; decide)).mono ?_
  rintro e w5 ⟨rfl, hb5⟩
  have HB5 := Lib.hid (HB4.out.trans (hb5.mono HB4.out.size))
  go_wp2_with fail
  refine hK _ _ (fun _ => OB.ExtB.of (hb5.mono (by have := HB4.out.size; have := HZ2.out; omega))) ?_; clear hK K
  clear hb5 HB4 H4 R4
  have K5 := Lib.hid (K1.out.below HB5.out (by have := HZ2.out; omega))
  have B5 := Lib.hid (B1.out.trans (HB5.out.mono (by have := HZ2.out; omega)))
  refine OB.o_sole (fun K hK => ?_)
  refine stm_store (cs' := #[.int .u64 (kvA k0 k1 (pathL a b) : Nat), .int .u64 (kvB k0 k1 (pathL a b) : Nat)]) K5.out rfl _ _ rfl rfl rfl (by simp) (by kernel_rfl) (by simp [Value.oneCell']) (by simp [setL]) fun w9 hk hs => ?_
  refine wpList_nil ?_
  refine hK _ _ (fun h => by cases h) ?_; clear hK K
  refine OB.o_nil (hQ.out _ _ ?_); clear hQ QQ
  go_wp2_with fail
  exact bodyPost_ret (results_agg Try.results17 hk (by rfl) (by kernel_rfl) (by kernel_rfl)) rfl ⟨rfl, B5.out.trans (hs.1.mono (by simp))⟩
set_option maxRecDepth 20000 in
set_option maxHeartbeats 4000000 in
theorem out_any (x0 x1 x2 x3 x4 x5 x6 x7 x8 : Nat) (r : Int) (w : World) : Calls Try.prog 20 #[.agg #[.int .u64 (x0 : Nat), .int .u64 (x1 : Nat), .int .u64 (x2 : Nat), .int .u64 (x3 : Nat), .int .u64 (x4 : Nat), .int .u64 (x5 : Nat), .int .u64 (x6 : Nat), .int .u64 (x7 : Nat), .int .u32 (x8 : Nat)], .int .i64 r] w fun e w' => e = .returned (if r = 1 then .agg #[.int .u64 (x2 : Nat), .int .u64 (x3 : Nat)] else .agg #[.int .u64 (x4 : Nat), .int .u64 (x5 : Nat)]) ∧ Below w.heap.size w w' := by
  by_cases h : r = 1
  · subst h
    rw [if_pos rfl]
    go_enter Try.func20, Try.ntmps20
    go_wp2_with fail
    exact bodyPost_ret (results_agg Try.results20 (g := w.heap.size + 1) (by have h := Blk.new (w.alloc (.cells #[.int .u64 (x0 : Nat), .int .u64 (x1 : Nat), .int .u64 (x2 : Nat), .int .u64 (x3 : Nat), .int .u64 (x4 : Nat), .int .u64 (x5 : Nat), .int .u64 (x6 : Nat), .int .u64 (x7 : Nat), .int .u32 (x8 : Nat)] 29)) 27 #[.int .u64 (x2 : Nat), .int .u64 (x3 : Nat)]; simpa using h) (by rfl) (by kernel_rfl) (by kernel_rfl)) rfl ⟨rfl, ((Below.refl _ _).alloc (Nat.le_refl _) _).alloc (by simp) _⟩
  · rw [if_neg h]
    go_enter Try.func20, Try.ntmps20
    go_wp2_with fail
    exact bodyPost_ret (results_agg Try.results20 (g := w.heap.size + 1) (by have h := Blk.new (w.alloc (.cells #[.int .u64 (x0 : Nat), .int .u64 (x1 : Nat), .int .u64 (x2 : Nat), .int .u64 (x3 : Nat), .int .u64 (x4 : Nat), .int .u64 (x5 : Nat), .int .u64 (x6 : Nat), .int .u64 (x7 : Nat), .int .u32 (x8 : Nat)] 29)) 27 #[.int .u64 (x4 : Nat), .int .u64 (x5 : Nat)]; simpa using h) (by rfl) (by kernel_rfl) (by kernel_rfl)) rfl ⟨rfl, ((Below.refl _ _).alloc (Nat.le_refl _) _).alloc (by simp) _⟩
set_option maxRecDepth 20000 in
set_option maxHeartbeats 4000000 in
theorem in_any (x0 x1 x2 x3 x4 x5 x6 x7 x8 : Nat) (r : Int) (w : World) : Calls Try.prog 21 #[.agg #[.int .u64 (x0 : Nat), .int .u64 (x1 : Nat), .int .u64 (x2 : Nat), .int .u64 (x3 : Nat), .int .u64 (x4 : Nat), .int .u64 (x5 : Nat), .int .u64 (x6 : Nat), .int .u64 (x7 : Nat), .int .u32 (x8 : Nat)], .int .i64 r] w fun e w' => e = .returned (if r = 1 then .agg #[.int .u64 (x4 : Nat), .int .u64 (x5 : Nat)] else .agg #[.int .u64 (x2 : Nat), .int .u64 (x3 : Nat)]) ∧ Below w.heap.size w w' := by
  by_cases h : r = 1
  · subst h
    rw [if_pos rfl]
    go_enter Try.func21, Try.ntmps21
    go_wp2_with fail
    exact bodyPost_ret (results_agg Try.results21 (g := w.heap.size + 1) (by have h := Blk.new (w.alloc (.cells #[.int .u64 (x0 : Nat), .int .u64 (x1 : Nat), .int .u64 (x2 : Nat), .int .u64 (x3 : Nat), .int .u64 (x4 : Nat), .int .u64 (x5 : Nat), .int .u64 (x6 : Nat), .int .u64 (x7 : Nat), .int .u32 (x8 : Nat)] 29)) 27 #[.int .u64 (x4 : Nat), .int .u64 (x5 : Nat)]; simpa using h) (by rfl) (by kernel_rfl) (by kernel_rfl)) rfl ⟨rfl, ((Below.refl _ _).alloc (Nat.le_refl _) _).alloc (by simp) _⟩
  · rw [if_neg h]
    go_enter Try.func21, Try.ntmps21
    go_wp2_with fail
    exact bodyPost_ret (results_agg Try.results21 (g := w.heap.size + 1) (by have h := Blk.new (w.alloc (.cells #[.int .u64 (x0 : Nat), .int .u64 (x1 : Nat), .int .u64 (x2 : Nat), .int .u64 (x3 : Nat), .int .u64 (x4 : Nat), .int .u64 (x5 : Nat), .int .u64 (x6 : Nat), .int .u64 (x7 : Nat), .int .u32 (x8 : Nat)] 29)) 27 #[.int .u64 (x2 : Nat), .int .u64 (x3 : Nat)]; simpa using h) (by rfl) (by kernel_rfl) (by kernel_rfl)) rfl ⟨rfl, ((Below.refl _ _).alloc (Nat.le_refl _) _).alloc (by simp) _⟩
set_option maxRecDepth 20000 in
set_option maxHeartbeats 4000000 in
theorem other_any (r : Int) (w : World) : Calls Try.prog 19 #[.int .i64 r] w fun e w' => e = .returned (.int .i64 (if r = 1 then 2 else 1)) ∧ Below w.heap.size w w' := by
  by_cases h : r = 1
  · subst h
    go_enter Try.func19, Try.ntmps19
    go_wp2_with fail
    go_ret
    exact ⟨rfl, Below.refl _ _⟩
  · rw [if_neg h]
    go_enter Try.func19, Try.ntmps19
    go_wp2_with fail
    go_ret
    exact ⟨rfl, Below.refl _ _⟩
end Go.Proofs.Ytcgcglngjfijnaa
