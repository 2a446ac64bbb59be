/- Layer 8: options as they are written. -/
import Derived.Test.YtbiimgfocgbdaaaG27MacOpens
import Derived.Test.YtbiimgfocgbdaaaOrd

namespace Go.Proofs.Ytbiimgfocgbdaaa
open Go.RowKit
set_option linter.unusedVariables false

/-- What Option answers. -/
def OptPost (kd : Nat) (b : List Nat) (B : Nat) (w' : World) (e : Ending) : Prop := ∃ v, e = .returned (.agg #[.int .u8 (kd : Int), v]) ∧ Nats w' 5 .u8 B v b
theorem keyF (k t : Nat) (a : Bool) : fbs [((8 : Int), k)] ++ tagB t a = keyB k t a := by rw [fbs_one 8 k rfl]; rfl
theorem fbs_four (s1 s2 s3 s4 : Int) (n1 n2 n3 n4 : Nat) (h1 : okS s1 = true) (h2 : okS s2 = true) (h3 : okS s3 = true) (h4 : okS s4 = true) : fbs [(s1, n1), (s2, n2), (s3, n3), (s4, n4)] = be n1 s1.toNat ++ (be n2 s2.toNat ++ (be n3 s3.toNat ++ be n4 s4.toNat)) := by
  unfold fbs
  simp only [List.flatMap_cons, List.flatMap_nil]
  rw [if_pos h1, if_pos h2, if_pos h3, if_pos h4, List.append_nil]
theorem joinF (tk nc id : Nat) (bk a : Bool) (t : Nat) (h : id < 256) : fbs [((4 : Int), tk), ((4 : Int), nc), ((1 : Int), id), ((1 : Int), bitN bk)] ++ tagB t a = joinB tk nc id bk a t := by
  rw [fbs_four 4 4 1 1 _ _ _ _ rfl rfl rfl rfl]
  show be tk 4 ++ (be nc 4 ++ (be id 1 ++ be (bitN bk) 1)) ++ tagB t a = _
  rw [ope1 h, ope1 (by have := bitN_lt bk; omega)]
  unfold joinB
  simp
theorem wordF (nm id pa : Nat) (bk : Bool) (t : Nat) (h : id < 256) (h2 : pa < 256) : fbs [((4 : Int), nm), ((1 : Int), id), ((1 : Int), pa), ((1 : Int), bitN bk)] ++ tagB t true = wordB nm id pa bk t := by
  rw [fbs_four 4 1 1 1 _ _ _ _ rfl rfl rfl rfl]
  show be nm 4 ++ (be id 1 ++ (be pa 1 ++ be (bitN bk) 1)) ++ tagB t true = _
  rw [ope1 h, ope1 h2, ope1 (by have := bitN_lt bk; omega)]
  unfold wordB tagB
  simp
theorem dataF (m sq ak wn t : Nat) (f p : Bool) (h : m = bitN f + 2 * bitN p) : fbs [((1 : Int), m), ((8 : Int), sq), ((8 : Int), ak), ((4 : Int), wn)] ++ tagB t true = dataB f p sq ak wn t := by
  rw [fbs_four 1 8 8 4 _ _ _ _ rfl rfl rfl rfl]
  show be m 1 ++ (be sq 8 ++ (be ak 8 ++ be wn 4)) ++ tagB t true = _
  have h1 := bitN_lt f
  have h2 := bitN_lt p
  rw [ope1 (by omega), h]
  unfold dataB tagB
  simp
set_option maxRecDepth 20000 in
set_option maxHeartbeats 4000000 in
theorem keyOpt_any (k t : Nat) (a : Bool) (w : World) (hk : q64 k) (ht : q64 t) :
    Calls Try.prog 136 #[.agg #[.int .u64 (k : Int), .bool a, .int .u64 (t : Int)]] w fun e w' => OptPost 1 (keyB k t a) w.heap.size w' e ∧ Below w.heap.size w w' := by
  have hk1 := (Blk.new w 34 #[.int .u64 (k : Int), .bool a, .int .u64 (t : Int)]).alloc (.cells #[.int .u8 0, .slice none 0 0] 45)
  have hk2 := Blk.new (w.alloc (.cells #[.int .u64 (k : Int), .bool a, .int .u64 (t : Int)] 34)) 45 #[.int .u8 0, .slice none 0 0]
  rw [show (w.alloc (.cells #[.int .u64 (k : Int), .bool a, .int .u64 (t : Int)] 34)).heap.size = w.heap.size + 1 by simp] at hk2
  have hb0 : Below w.heap.size w ((w.alloc (.cells #[.int .u64 (k : Int), .bool a, .int .u64 (t : Int)] 34)).alloc (.cells #[.int .u8 0, .slice none 0 0] 45)) := ((Below.refl _ _).alloc (Nat.le_refl _) _).alloc (by simp) _
  have K1 := Lib.hid hk1
  have K2 := Lib.hid hk2
  have B := Lib.hid hb0
  have Hhk := Lib.hid hk
  have Hht := Lib.hid ht
  clear hk1 hk2 hb0 hk ht
  go_enter Try.func136, Try.ntmps136
  go_wp2_with fail
  generalize (w.alloc (.cells #[.int .u64 (k : Int), .bool a, .int .u64 (t : Int)] 34)).alloc (.cells #[.int .u8 0, .slice none 0 0] 45) = W at *
  obtain ⟨T, hT⟩ : ∃ T, T = w.heap.size := ⟨_, rfl⟩
  rw [← hT] at K1 K2 ⊢
  have HT := Lib.hid hT
  clear hT
  refine wp_ord [(0, .pure), (1, .read), (2, .pure), (3, .read), (4, .pure), (5, .read), (6, .sole), (7, .sole), (8, .sole), (9, .pure), (10, .sole)] [10] (by kernel_rfl) (by kernel_rfl) (fun QQ hQ wd hwd => ?_); simp only [List.map_cons, List.map_nil, List.getD_cons_zero, List.getD_cons_succ]
  have hD : Below W.heap.size W wd := by rw [hwd.out]; exact (Below.refl _ _).drew
  have B0 := Lib.hid (B.out.trans (hD.mono B.out.size))
  have K1d := K1.out.below hD K1.out.lt
  have K20 := Lib.hid (K2.out.below hD K2.out.lt)
  obtain ⟨t0, t1, t2⟩ := ptc3 K1d
  have HTG := cells_at (o := 2) (k := 1) (xs := [.int .u64 (t : Int)]) K1d rfl
  clear hD hwd B K1 K2 K1d
  (refine o_pure (v := ?_) (by rfl) (fun w' => ?_) ?_; rotate_left; (focus (go_simp; (try with_reducible rfl))); (try simp only [Act.put, List.setIfInBounds_toArray, List.set_cons_zero, List.set_cons_succ]))
  (refine o_loads _ [.int .u64 (t : Int)] (by rfl) rfl rfl (HTG) (Nat.succ_pos _) (by kernel_rfl) (by kernel_rfl) ?_; simp only [Act.put, List.setIfInBounds_toArray, List.set_cons_zero, List.set_cons_succ])
  (refine o_pure (v := ?_) (by rfl) (fun w' => ?_) ?_; rotate_left; (focus (go_simp; (try with_reducible rfl))); (try simp only [Act.put, List.setIfInBounds_toArray, List.set_cons_zero, List.set_cons_succ]))
  (refine o_load _ (by rfl) rfl rfl (by assumption) (by kernel_rfl) ?_; simp only [Act.put, List.setIfInBounds_toArray, List.set_cons_zero, List.set_cons_succ])
  (refine o_pure (v := ?_) (by rfl) (fun w' => ?_) ?_; rotate_left; (focus (go_simp; (try with_reducible rfl))); (try simp only [Act.put, List.setIfInBounds_toArray, List.set_cons_zero, List.set_cons_succ]))
  (refine o_load _ (by rfl) rfl rfl (by assumption) (by kernel_rfl) ?_; simp only [Act.put, List.setIfInBounds_toArray, List.set_cons_zero, List.set_cons_succ])
  clear HTG t0 t1 t2
  refine o_sole (fun K hK => ?_)
  go_wp2_with fail
  refine (pQ_any (k : Int) wd (by omega) (by have := Hhk.out; unfold q64 at this; omega)).mono ?_
  rintro e w1 ⟨rfl, hb⟩
  have B1 := Lib.hid (B0.out.trans (hb.mono B0.out.size))
  have K21 := Lib.hid (K20.out.below hb K20.out.lt)
  go_wp2_with fail
  refine hK _ _ (fun _ => Ext.of hb) ?_; clear hK K
  clear hb K20 B0
  refine o_sole (fun K hK => ?_)
  go_wp2_with fail
  refine hK _ _ (fun _ => Ext.of ((Below.refl _ _).alloc (Nat.le_refl _) _)) ?_; clear hK K
  have hrd : Rd (w1.alloc (.cells #[.int .i64 8, .int .u64 (k : Int)] 113)) (w1.heap.size + 1) 2 (some ⟨w1.heap.size, 0, none⟩) 1 (fs [((8 : Int), k)]) := Rd.made w1 113 #[.int .i64 8, .int .u64 (k : Int)] rfl
  have hz : (w1.alloc (.cells #[.int .i64 8, .int .u64 (k : Int)] 113)).heap.size = w1.heap.size + 1 := by simp
  rw [← hz] at hrd
  have hb6 : Below w1.heap.size w1 (w1.alloc (.cells #[.int .i64 8, .int .u64 (k : Int)] 113)) := (Below.refl _ _).alloc (Nat.le_refl _) _
  have B2 := Lib.hid (B1.out.trans (hb6.mono B1.out.size))
  have K22 := Lib.hid (K21.out.below hb6 K21.out.lt)
  have HRD := Lib.hid hrd
  clear hrd hz hb6 K21 B1
  refine o_sole (fun K hK => ?_)
  go_wp2_with fail
  generalize w1.alloc (.cells #[.int .i64 8, .int .u64 (k : Int)] 113) = w2 at *
  refine (body_any t a _ 1 1 [((8 : Int), k)] w2 Hht.out HRD.out (by omega) ?_).mono ?_
  · intro p hp
    have h0 := Hhk.out
    (try unfold q64 at *)
    (try unfold q32 at *)
    simp only [List.mem_cons, List.not_mem_nil, or_false] at hp
    rcases hp with rfl <;> dsimp only <;> omega
  rintro e w3 ⟨v, rfl, hN, hb⟩
  rw [keyF] at hN
  have B3 := Lib.hid (B2.out.trans (hb.mono B2.out.size))
  have hTb : T + 2 ≤ w2.heap.size := K22.out.lt
  have HN := Lib.hid (hN.mono hTb)
  have K23 := Lib.hid (K22.out.below hb K22.out.lt)
  obtain ⟨A5, n5, c5, rfl, _, _, _⟩ := HN.out.out
  go_wp2_with fail
  refine hK _ _ (fun _ => Ext.of hb) ?_; clear hK K
  clear hb hN hTb HRD K22 B2
  (refine o_pure (v := ?_) (by rfl) (fun w' => ?_) ?_; rotate_left; (focus (go_simp; (try with_reducible rfl))); (try simp only [Act.put, List.setIfInBounds_toArray, List.set_cons_zero, List.set_cons_succ]))
  obtain ⟨z0, z1⟩ := ptc2 K23.out
  have f0 := K23.out.frozen 0
  have f1 := K23.out.frozen 1
  refine o_sole (fun K hK => ?_)
  go_wp2_with fail
  refine hK _ _ (fun h => by cases h) ?_; clear hK K
  refine o_nil (hQ.out _ _ ?_); clear hQ QQ
  have hkz := pt2 (.int .u8 1) (.slice A5 n5 c5) K23.out
  have hbz := ptb2 (.int .u8 1) (.slice A5 n5 c5) B3.out (show w.heap.size ≤ T + 1 by rw [← HT.out]; omega)
  have hsz := nats_past HN.out (show T + 1 < T + 2 by omega) (pts2 (w := w3) (T := T + 1) (.int .u8 1) (.slice A5 n5 c5))
  unfold ptw2 at hkz hbz hsz
  generalize (w3.setCell ⟨T + 1, 0, none⟩ (.int .u8 1)).setCell ⟨T + 1, 1, none⟩ (.slice A5 n5 c5) = wz at *
  clear z0 z1 f0 f1
  obtain ⟨z0, z1⟩ := ptc2 hkz
  go_wp2_with fail
  refine bodyPost_ret (v := .agg #[.int .u8 1, .slice A5 n5 c5]) (by simp [results, Try.results136, go_sem, z0, z1]) rfl ⟨⟨_, rfl, hsz.mono (by have := HT.out; omega)⟩, hbz⟩
set_option maxRecDepth 20000 in
set_option maxHeartbeats 4000000 in
theorem joinOpt_any (tk nc id t : Nat) (bk a : Bool) (w : World) (htk : q32 tk) (hnc : q32 nc) (hid : id < 256) (ht : q64 t) :
    Calls Try.prog 137 #[.agg #[.int .u32 (tk : Int), .int .u32 (nc : Int), .int .u8 (id : Int), .bool bk, .bool a, .int .u64 (t : Int)]] w fun e w' => OptPost 2 (joinB tk nc id bk a t) w.heap.size w' e ∧ Below w.heap.size w w' := by
  have hk1 := (Blk.new w 36 #[.int .u32 (tk : Int), .int .u32 (nc : Int), .int .u8 (id : Int), .bool bk, .bool a, .int .u64 (t : Int)]).alloc (.cells #[.int .u8 0, .slice none 0 0] 45)
  have hk2 := Blk.new (w.alloc (.cells #[.int .u32 (tk : Int), .int .u32 (nc : Int), .int .u8 (id : Int), .bool bk, .bool a, .int .u64 (t : Int)] 36)) 45 #[.int .u8 0, .slice none 0 0]
  rw [show (w.alloc (.cells #[.int .u32 (tk : Int), .int .u32 (nc : Int), .int .u8 (id : Int), .bool bk, .bool a, .int .u64 (t : Int)] 36)).heap.size = w.heap.size + 1 by simp] at hk2
  have hb0 : Below w.heap.size w ((w.alloc (.cells #[.int .u32 (tk : Int), .int .u32 (nc : Int), .int .u8 (id : Int), .bool bk, .bool a, .int .u64 (t : Int)] 36)).alloc (.cells #[.int .u8 0, .slice none 0 0] 45)) := ((Below.refl _ _).alloc (Nat.le_refl _) _).alloc (by simp) _
  have K1 := Lib.hid hk1
  have K2 := Lib.hid hk2
  have B := Lib.hid hb0
  have Hhtk := Lib.hid htk
  have Hhnc := Lib.hid hnc
  have Hhid := Lib.hid hid
  have Hht := Lib.hid ht
  clear hk1 hk2 hb0 htk hnc hid ht
  go_enter Try.func137, Try.ntmps137
  go_wp2_with fail
  generalize (w.alloc (.cells #[.int .u32 (tk : Int), .int .u32 (nc : Int), .int .u8 (id : Int), .bool bk, .bool a, .int .u64 (t : Int)] 36)).alloc (.cells #[.int .u8 0, .slice none 0 0] 45) = W at *
  obtain ⟨T, hT⟩ : ∃ T, T = w.heap.size := ⟨_, rfl⟩
  rw [← hT] at K1 K2 ⊢
  have HT := Lib.hid hT
  clear hT
  refine wp_ord [(0, .pure), (1, .read), (2, .pure), (3, .read), (4, .pure), (5, .read), (7, .pure), (8, .read), (10, .pure), (11, .read), (13, .pure), (14, .read), (6, .sole), (9, .sole), (12, .sole), (15, .sole), (16, .sole), (17, .sole), (18, .pure), (19, .sole)] [19] (by kernel_rfl) (by kernel_rfl) (fun QQ hQ wd hwd => ?_); simp only [List.map_cons, List.map_nil, List.getD_cons_zero, List.getD_cons_succ]
  have hD : Below W.heap.size W wd := by rw [hwd.out]; exact (Below.refl _ _).drew
  have B0 := Lib.hid (B.out.trans (hD.mono B.out.size))
  have K1d := K1.out.below hD K1.out.lt
  have K20 := Lib.hid (K2.out.below hD K2.out.lt)
  obtain ⟨t0, t1, t2, t3, t4, t5⟩ := ptc6 K1d
  have HTG := cells_at (o := 5) (k := 1) (xs := [.int .u64 (t : Int)]) K1d rfl
  clear hD hwd B K1 K2 K1d
  (refine o_pure (v := ?_) (by rfl) (fun w' => ?_) ?_; rotate_left; (focus (go_simp; (try with_reducible rfl))); (try simp only [Act.put, List.setIfInBounds_toArray, List.set_cons_zero, List.set_cons_succ]))
  (refine o_loads _ [.int .u64 (t : Int)] (by rfl) rfl rfl (HTG) (Nat.succ_pos _) (by kernel_rfl) (by kernel_rfl) ?_; simp only [Act.put, List.setIfInBounds_toArray, List.set_cons_zero, List.set_cons_succ])
  (refine o_pure (v := ?_) (by rfl) (fun w' => ?_) ?_; rotate_left; (focus (go_simp; (try with_reducible rfl))); (try simp only [Act.put, List.setIfInBounds_toArray, List.set_cons_zero, List.set_cons_succ]))
  (refine o_load _ (by rfl) rfl rfl (by assumption) (by kernel_rfl) ?_; simp only [Act.put, List.setIfInBounds_toArray, List.set_cons_zero, List.set_cons_succ])
  (refine o_pure (v := ?_) (by rfl) (fun w' => ?_) ?_; rotate_left; (focus (go_simp; (try with_reducible rfl))); (try simp only [Act.put, List.setIfInBounds_toArray, List.set_cons_zero, List.set_cons_succ]))
  (refine o_load _ (by rfl) rfl rfl (by assumption) (by kernel_rfl) ?_; simp only [Act.put, List.setIfInBounds_toArray, List.set_cons_zero, List.set_cons_succ])
  (refine o_pure (v := ?_) (by rfl) (fun w' => ?_) ?_; rotate_left; (focus (go_simp; (try with_reducible rfl))); (try simp only [Act.put, List.setIfInBounds_toArray, List.set_cons_zero, List.set_cons_succ]))
  (refine o_load _ (by rfl) rfl rfl (by assumption) (by kernel_rfl) ?_; simp only [Act.put, List.setIfInBounds_toArray, List.set_cons_zero, List.set_cons_succ])
  (refine o_pure (v := ?_) (by rfl) (fun w' => ?_) ?_; rotate_left; (focus (go_simp; (try with_reducible rfl))); (try simp only [Act.put, List.setIfInBounds_toArray, List.set_cons_zero, List.set_cons_succ]))
  (refine o_load _ (by rfl) rfl rfl (by assumption) (by kernel_rfl) ?_; simp only [Act.put, List.setIfInBounds_toArray, List.set_cons_zero, List.set_cons_succ])
  (refine o_pure (v := ?_) (by rfl) (fun w' => ?_) ?_; rotate_left; (focus (go_simp; (try with_reducible rfl))); (try simp only [Act.put, List.setIfInBounds_toArray, List.set_cons_zero, List.set_cons_succ]))
  (refine o_load _ (by rfl) rfl rfl (by assumption) (by kernel_rfl) ?_; simp only [Act.put, List.setIfInBounds_toArray, List.set_cons_zero, List.set_cons_succ])
  clear HTG t0 t1 t2 t3 t4 t5
  refine o_sole (fun K hK => ?_)
  go_wp2_with fail
  refine (pW_any (tk : Int) wd (by omega) (by have := Hhtk.out; unfold q32 at this; omega)).mono ?_
  rintro e w1 ⟨rfl, hb⟩
  have B1 := Lib.hid (B0.out.trans (hb.mono B0.out.size))
  have K21 := Lib.hid (K20.out.below hb K20.out.lt)
  go_wp2_with fail
  refine hK _ _ (fun _ => Ext.of hb) ?_; clear hK K
  clear hb K20 B0
  refine o_sole (fun K hK => ?_)
  go_wp2_with fail
  refine (pW_any (nc : Int) w1 (by omega) (by have := Hhnc.out; unfold q32 at this; omega)).mono ?_
  rintro e w2 ⟨rfl, hb⟩
  have B2 := Lib.hid (B1.out.trans (hb.mono B1.out.size))
  have K22 := Lib.hid (K21.out.below hb K21.out.lt)
  go_wp2_with fail
  refine hK _ _ (fun _ => Ext.of hb) ?_; clear hK K
  clear hb K21 B1
  refine o_sole (fun K hK => ?_)
  go_wp2_with fail
  refine (pB_any (id : Int) w2 (by omega) (by have := Hhid.out; omega)).mono ?_
  rintro e w3 ⟨rfl, hb⟩
  have B3 := Lib.hid (B2.out.trans (hb.mono B2.out.size))
  have K23 := Lib.hid (K22.out.below hb K22.out.lt)
  go_wp2_with fail
  refine hK _ _ (fun _ => Ext.of hb) ?_; clear hK K
  clear hb K22 B2
  refine o_sole (fun K hK => ?_)
  go_wp2_with fail
  refine (pFlagN_any bk w3).mono ?_
  rintro e w4 ⟨rfl, hb⟩
  have B4 := Lib.hid (B3.out.trans (hb.mono B3.out.size))
  have K24 := Lib.hid (K23.out.below hb K23.out.lt)
  go_wp2_with fail
  refine hK _ _ (fun _ => Ext.of hb) ?_; clear hK K
  clear hb K23 B3
  refine o_sole (fun K hK => ?_)
  go_wp2_with fail
  refine hK _ _ (fun _ => Ext.of ((Below.refl _ _).alloc (Nat.le_refl _) _)) ?_; clear hK K
  have hrd : Rd (w4.alloc (.cells #[.int .i64 4, .int .u64 (tk : Int), .int .i64 4, .int .u64 (nc : Int), .int .i64 1, .int .u64 (id : Int), .int .i64 1, .int .u64 (bitN bk : Int)] 113)) (w4.heap.size + 1) 2 (some ⟨w4.heap.size, 0, none⟩) 4 (fs [((4 : Int), tk), ((4 : Int), nc), ((1 : Int), id), ((1 : Int), bitN bk)]) := Rd.made w4 113 #[.int .i64 4, .int .u64 (tk : Int), .int .i64 4, .int .u64 (nc : Int), .int .i64 1, .int .u64 (id : Int), .int .i64 1, .int .u64 (bitN bk : Int)] rfl
  have hz : (w4.alloc (.cells #[.int .i64 4, .int .u64 (tk : Int), .int .i64 4, .int .u64 (nc : Int), .int .i64 1, .int .u64 (id : Int), .int .i64 1, .int .u64 (bitN bk : Int)] 113)).heap.size = w4.heap.size + 1 := by simp
  rw [← hz] at hrd
  have hb6 : Below w4.heap.size w4 (w4.alloc (.cells #[.int .i64 4, .int .u64 (tk : Int), .int .i64 4, .int .u64 (nc : Int), .int .i64 1, .int .u64 (id : Int), .int .i64 1, .int .u64 (bitN bk : Int)] 113)) := (Below.refl _ _).alloc (Nat.le_refl _) _
  have B5 := Lib.hid (B4.out.trans (hb6.mono B4.out.size))
  have K25 := Lib.hid (K24.out.below hb6 K24.out.lt)
  have HRD := Lib.hid hrd
  clear hrd hz hb6 K24 B4
  refine o_sole (fun K hK => ?_)
  go_wp2_with fail
  generalize w4.alloc (.cells #[.int .i64 4, .int .u64 (tk : Int), .int .i64 4, .int .u64 (nc : Int), .int .i64 1, .int .u64 (id : Int), .int .i64 1, .int .u64 (bitN bk : Int)] 113) = w5 at *
  refine (body_any t a _ 4 4 [((4 : Int), tk), ((4 : Int), nc), ((1 : Int), id), ((1 : Int), bitN bk)] w5 Hht.out HRD.out (by omega) ?_).mono ?_
  · intro p hp
    have h0 := Hhtk.out
    have h1 := Hhnc.out
    have h2 := Hhid.out
    have h3 := bitN_lt bk
    (try unfold q64 at *)
    (try unfold q32 at *)
    simp only [List.mem_cons, List.not_mem_nil, or_false] at hp
    rcases hp with rfl | rfl | rfl | rfl <;> dsimp only <;> omega
  rintro e w6 ⟨v, rfl, hN, hb⟩
  rw [joinF _ _ _ _ _ _ Hhid.out] at hN
  have B6 := Lib.hid (B5.out.trans (hb.mono B5.out.size))
  have hTb : T + 2 ≤ w5.heap.size := K25.out.lt
  have HN := Lib.hid (hN.mono hTb)
  have K26 := Lib.hid (K25.out.below hb K25.out.lt)
  obtain ⟨A5, n5, c5, rfl, _, _, _⟩ := HN.out.out
  go_wp2_with fail
  refine hK _ _ (fun _ => Ext.of hb) ?_; clear hK K
  clear hb hN hTb HRD K25 B5
  (refine o_pure (v := ?_) (by rfl) (fun w' => ?_) ?_; rotate_left; (focus (go_simp; (try with_reducible rfl))); (try simp only [Act.put, List.setIfInBounds_toArray, List.set_cons_zero, List.set_cons_succ]))
  obtain ⟨z0, z1⟩ := ptc2 K26.out
  have f0 := K26.out.frozen 0
  have f1 := K26.out.frozen 1
  refine o_sole (fun K hK => ?_)
  go_wp2_with fail
  refine hK _ _ (fun h => by cases h) ?_; clear hK K
  refine o_nil (hQ.out _ _ ?_); clear hQ QQ
  have hkz := pt2 (.int .u8 2) (.slice A5 n5 c5) K26.out
  have hbz := ptb2 (.int .u8 2) (.slice A5 n5 c5) B6.out (show w.heap.size ≤ T + 1 by rw [← HT.out]; omega)
  have hsz := nats_past HN.out (show T + 1 < T + 2 by omega) (pts2 (w := w6) (T := T + 1) (.int .u8 2) (.slice A5 n5 c5))
  unfold ptw2 at hkz hbz hsz
  generalize (w6.setCell ⟨T + 1, 0, none⟩ (.int .u8 2)).setCell ⟨T + 1, 1, none⟩ (.slice A5 n5 c5) = wz at *
  clear z0 z1 f0 f1
  obtain ⟨z0, z1⟩ := ptc2 hkz
  go_wp2_with fail
  refine bodyPost_ret (v := .agg #[.int .u8 2, .slice A5 n5 c5]) (by simp [results, Try.results137, go_sem, z0, z1]) rfl ⟨⟨_, rfl, hsz.mono (by have := HT.out; omega)⟩, hbz⟩
set_option maxRecDepth 20000 in
set_option maxHeartbeats 4000000 in
theorem wordOpt_any (kd nm id pa t : Nat) (bk : Bool) (w : World) (hnm : q32 nm) (hid : id < 256) (hpa : pa < 256) (ht : q64 t) :
    Calls Try.prog 32 #[.agg #[.int .u8 (kd : Int), .int .u32 (nm : Int), .int .u8 (id : Int), .int .u8 (pa : Int), .bool bk, .int .u64 (t : Int)]] w fun e w' => OptPost kd (wordB nm id pa bk t) w.heap.size w' e ∧ Below w.heap.size w w' := by
  have hk1 := (Blk.new w 40 #[.int .u8 (kd : Int), .int .u32 (nm : Int), .int .u8 (id : Int), .int .u8 (pa : Int), .bool bk, .int .u64 (t : Int)]).alloc (.cells #[.int .u8 0, .slice none 0 0] 45)
  have hk2 := Blk.new (w.alloc (.cells #[.int .u8 (kd : Int), .int .u32 (nm : Int), .int .u8 (id : Int), .int .u8 (pa : Int), .bool bk, .int .u64 (t : Int)] 40)) 45 #[.int .u8 0, .slice none 0 0]
  rw [show (w.alloc (.cells #[.int .u8 (kd : Int), .int .u32 (nm : Int), .int .u8 (id : Int), .int .u8 (pa : Int), .bool bk, .int .u64 (t : Int)] 40)).heap.size = w.heap.size + 1 by simp] at hk2
  have hb0 : Below w.heap.size w ((w.alloc (.cells #[.int .u8 (kd : Int), .int .u32 (nm : Int), .int .u8 (id : Int), .int .u8 (pa : Int), .bool bk, .int .u64 (t : Int)] 40)).alloc (.cells #[.int .u8 0, .slice none 0 0] 45)) := ((Below.refl _ _).alloc (Nat.le_refl _) _).alloc (by simp) _
  have K1 := Lib.hid hk1
  have K2 := Lib.hid hk2
  have B := Lib.hid hb0
  have Hhnm := Lib.hid hnm
  have Hhid := Lib.hid hid
  have Hhpa := Lib.hid hpa
  have Hht := Lib.hid ht
  clear hk1 hk2 hb0 hnm hid hpa ht
  go_enter Try.func32, Try.ntmps32
  go_wp2_with fail
  generalize (w.alloc (.cells #[.int .u8 (kd : Int), .int .u32 (nm : Int), .int .u8 (id : Int), .int .u8 (pa : Int), .bool bk, .int .u64 (t : Int)] 40)).alloc (.cells #[.int .u8 0, .slice none 0 0] 45) = W at *
  obtain ⟨T, hT⟩ : ∃ T, T = w.heap.size := ⟨_, rfl⟩
  rw [← hT] at K1 K2 ⊢
  have HT := Lib.hid hT
  clear hT
  refine wp_ord [(0, .pure), (1, .read), (2, .pure), (3, .read), (4, .pure), (5, .read), (7, .pure), (8, .read), (10, .pure), (11, .read), (13, .pure), (14, .read), (6, .sole), (9, .sole), (12, .sole), (15, .sole), (16, .sole), (17, .sole), (18, .pure), (19, .sole)] [19] (by kernel_rfl) (by kernel_rfl) (fun QQ hQ wd hwd => ?_); simp only [List.map_cons, List.map_nil, List.getD_cons_zero, List.getD_cons_succ]
  have hD : Below W.heap.size W wd := by rw [hwd.out]; exact (Below.refl _ _).drew
  have B0 := Lib.hid (B.out.trans (hD.mono B.out.size))
  have K1d := K1.out.below hD K1.out.lt
  have K20 := Lib.hid (K2.out.below hD K2.out.lt)
  obtain ⟨t0, t1, t2, t3, t4, t5⟩ := ptc6 K1d
  have HTG := cells_at (o := 5) (k := 1) (xs := [.int .u64 (t : Int)]) K1d rfl
  clear hD hwd B K1 K2 K1d
  (refine o_pure (v := ?_) (by rfl) (fun w' => ?_) ?_; rotate_left; (focus (go_simp; (try with_reducible rfl))); (try simp only [Act.put, List.setIfInBounds_toArray, List.set_cons_zero, List.set_cons_succ]))
  (refine o_load _ (by rfl) rfl rfl (by assumption) (by kernel_rfl) ?_; simp only [Act.put, List.setIfInBounds_toArray, List.set_cons_zero, List.set_cons_succ])
  (refine o_pure (v := ?_) (by rfl) (fun w' => ?_) ?_; rotate_left; (focus (go_simp; (try with_reducible rfl))); (try simp only [Act.put, List.setIfInBounds_toArray, List.set_cons_zero, List.set_cons_succ]))
  (refine o_loads _ [.int .u64 (t : Int)] (by rfl) rfl rfl (HTG) (Nat.succ_pos _) (by kernel_rfl) (by kernel_rfl) ?_; simp only [Act.put, List.setIfInBounds_toArray, List.set_cons_zero, List.set_cons_succ])
  (refine o_pure (v := ?_) (by rfl) (fun w' => ?_) ?_; rotate_left; (focus (go_simp; (try with_reducible rfl))); (try simp only [Act.put, List.setIfInBounds_toArray, List.set_cons_zero, List.set_cons_succ]))
  (refine o_load _ (by rfl) rfl rfl (by assumption) (by kernel_rfl) ?_; simp only [Act.put, List.setIfInBounds_toArray, List.set_cons_zero, List.set_cons_succ])
  (refine o_pure (v := ?_) (by rfl) (fun w' => ?_) ?_; rotate_left; (focus (go_simp; (try with_reducible rfl))); (try simp only [Act.put, List.setIfInBounds_toArray, List.set_cons_zero, List.set_cons_succ]))
  (refine o_load _ (by rfl) rfl rfl (by assumption) (by kernel_rfl) ?_; simp only [Act.put, List.setIfInBounds_toArray, List.set_cons_zero, List.set_cons_succ])
  (refine o_pure (v := ?_) (by rfl) (fun w' => ?_) ?_; rotate_left; (focus (go_simp; (try with_reducible rfl))); (try simp only [Act.put, List.setIfInBounds_toArray, List.set_cons_zero, List.set_cons_succ]))
  (refine o_load _ (by rfl) rfl rfl (by assumption) (by kernel_rfl) ?_; simp only [Act.put, List.setIfInBounds_toArray, List.set_cons_zero, List.set_cons_succ])
  (refine o_pure (v := ?_) (by rfl) (fun w' => ?_) ?_; rotate_left; (focus (go_simp; (try with_reducible rfl))); (try simp only [Act.put, List.setIfInBounds_toArray, List.set_cons_zero, List.set_cons_succ]))
  (refine o_load _ (by rfl) rfl rfl (by assumption) (by kernel_rfl) ?_; simp only [Act.put, List.setIfInBounds_toArray, List.set_cons_zero, List.set_cons_succ])
  clear HTG t0 t1 t2 t3 t4 t5
  refine o_sole (fun K hK => ?_)
  go_wp2_with fail
  refine (pW_any (nm : Int) wd (by omega) (by have := Hhnm.out; unfold q32 at this; omega)).mono ?_
  rintro e w1 ⟨rfl, hb⟩
  have B1 := Lib.hid (B0.out.trans (hb.mono B0.out.size))
  have K21 := Lib.hid (K20.out.below hb K20.out.lt)
  go_wp2_with fail
  refine hK _ _ (fun _ => Ext.of hb) ?_; clear hK K
  clear hb K20 B0
  refine o_sole (fun K hK => ?_)
  go_wp2_with fail
  refine (pB_any (id : Int) w1 (by omega) (by have := Hhid.out; omega)).mono ?_
  rintro e w2 ⟨rfl, hb⟩
  have B2 := Lib.hid (B1.out.trans (hb.mono B1.out.size))
  have K22 := Lib.hid (K21.out.below hb K21.out.lt)
  go_wp2_with fail
  refine hK _ _ (fun _ => Ext.of hb) ?_; clear hK K
  clear hb K21 B1
  refine o_sole (fun K hK => ?_)
  go_wp2_with fail
  refine (pB_any (pa : Int) w2 (by omega) (by have := Hhpa.out; omega)).mono ?_
  rintro e w3 ⟨rfl, hb⟩
  have B3 := Lib.hid (B2.out.trans (hb.mono B2.out.size))
  have K23 := Lib.hid (K22.out.below hb K22.out.lt)
  go_wp2_with fail
  refine hK _ _ (fun _ => Ext.of hb) ?_; clear hK K
  clear hb K22 B2
  refine o_sole (fun K hK => ?_)
  go_wp2_with fail
  refine (pFlagN_any bk w3).mono ?_
  rintro e w4 ⟨rfl, hb⟩
  have B4 := Lib.hid (B3.out.trans (hb.mono B3.out.size))
  have K24 := Lib.hid (K23.out.below hb K23.out.lt)
  go_wp2_with fail
  refine hK _ _ (fun _ => Ext.of hb) ?_; clear hK K
  clear hb K23 B3
  refine o_sole (fun K hK => ?_)
  go_wp2_with fail
  refine hK _ _ (fun _ => Ext.of ((Below.refl _ _).alloc (Nat.le_refl _) _)) ?_; clear hK K
  have hrd : Rd (w4.alloc (.cells #[.int .i64 4, .int .u64 (nm : Int), .int .i64 1, .int .u64 (id : Int), .int .i64 1, .int .u64 (pa : Int), .int .i64 1, .int .u64 (bitN bk : Int)] 113)) (w4.heap.size + 1) 2 (some ⟨w4.heap.size, 0, none⟩) 4 (fs [((4 : Int), nm), ((1 : Int), id), ((1 : Int), pa), ((1 : Int), bitN bk)]) := Rd.made w4 113 #[.int .i64 4, .int .u64 (nm : Int), .int .i64 1, .int .u64 (id : Int), .int .i64 1, .int .u64 (pa : Int), .int .i64 1, .int .u64 (bitN bk : Int)] rfl
  have hz : (w4.alloc (.cells #[.int .i64 4, .int .u64 (nm : Int), .int .i64 1, .int .u64 (id : Int), .int .i64 1, .int .u64 (pa : Int), .int .i64 1, .int .u64 (bitN bk : Int)] 113)).heap.size = w4.heap.size + 1 := by simp
  rw [← hz] at hrd
  have hb6 : Below w4.heap.size w4 (w4.alloc (.cells #[.int .i64 4, .int .u64 (nm : Int), .int .i64 1, .int .u64 (id : Int), .int .i64 1, .int .u64 (pa : Int), .int .i64 1, .int .u64 (bitN bk : Int)] 113)) := (Below.refl _ _).alloc (Nat.le_refl _) _
  have B5 := Lib.hid (B4.out.trans (hb6.mono B4.out.size))
  have K25 := Lib.hid (K24.out.below hb6 K24.out.lt)
  have HRD := Lib.hid hrd
  clear hrd hz hb6 K24 B4
  refine o_sole (fun K hK => ?_)
  go_wp2_with fail
  generalize w4.alloc (.cells #[.int .i64 4, .int .u64 (nm : Int), .int .i64 1, .int .u64 (id : Int), .int .i64 1, .int .u64 (pa : Int), .int .i64 1, .int .u64 (bitN bk : Int)] 113) = w5 at *
  refine (body_any t true _ 4 4 [((4 : Int), nm), ((1 : Int), id), ((1 : Int), pa), ((1 : Int), bitN bk)] w5 Hht.out HRD.out (by omega) ?_).mono ?_
  · intro p hp
    have h0 := Hhnm.out
    have h1 := Hhid.out
    have h2 := Hhpa.out
    have h3 := bitN_lt bk
    (try unfold q64 at *)
    (try unfold q32 at *)
    simp only [List.mem_cons, List.not_mem_nil, or_false] at hp
    rcases hp with rfl | rfl | rfl | rfl <;> dsimp only <;> omega
  rintro e w6 ⟨v, rfl, hN, hb⟩
  rw [wordF _ _ _ _ _ Hhid.out Hhpa.out] at hN
  have B6 := Lib.hid (B5.out.trans (hb.mono B5.out.size))
  have hTb : T + 2 ≤ w5.heap.size := K25.out.lt
  have HN := Lib.hid (hN.mono hTb)
  have K26 := Lib.hid (K25.out.below hb K25.out.lt)
  obtain ⟨A5, n5, c5, rfl, _, _, _⟩ := HN.out.out
  go_wp2_with fail
  refine hK _ _ (fun _ => Ext.of hb) ?_; clear hK K
  clear hb hN hTb HRD K25 B5
  (refine o_pure (v := ?_) (by rfl) (fun w' => ?_) ?_; rotate_left; (focus (go_simp; (try with_reducible rfl))); (try simp only [Act.put, List.setIfInBounds_toArray, List.set_cons_zero, List.set_cons_succ]))
  obtain ⟨z0, z1⟩ := ptc2 K26.out
  have f0 := K26.out.frozen 0
  have f1 := K26.out.frozen 1
  refine o_sole (fun K hK => ?_)
  go_wp2_with fail
  refine hK _ _ (fun h => by cases h) ?_; clear hK K
  refine o_nil (hQ.out _ _ ?_); clear hQ QQ
  have hkz := pt2 (.int .u8 (kd : Int)) (.slice A5 n5 c5) K26.out
  have hbz := ptb2 (.int .u8 (kd : Int)) (.slice A5 n5 c5) B6.out (show w.heap.size ≤ T + 1 by rw [← HT.out]; omega)
  have hsz := nats_past HN.out (show T + 1 < T + 2 by omega) (pts2 (w := w6) (T := T + 1) (.int .u8 (kd : Int)) (.slice A5 n5 c5))
  unfold ptw2 at hkz hbz hsz
  generalize (w6.setCell ⟨T + 1, 0, none⟩ (.int .u8 (kd : Int))).setCell ⟨T + 1, 1, none⟩ (.slice A5 n5 c5) = wz at *
  clear z0 z1 f0 f1
  obtain ⟨z0, z1⟩ := ptc2 hkz
  go_wp2_with fail
  refine bodyPost_ret (v := .agg #[.int .u8 (kd : Int), .slice A5 n5 c5]) (by simp [results, Try.results32, go_sem, z0, z1]) rfl ⟨⟨_, rfl, hsz.mono (by have := HT.out; omega)⟩, hbz⟩
set_option maxRecDepth 20000 in
set_option maxHeartbeats 4000000 in
theorem dataOpt_any (f p : Bool) (sq ak wn t : Nat) (w : World) (hsq : q64 sq) (hak : q64 ak) (hwn : q32 wn) (ht : q64 t) :
    Calls Try.prog 10 #[.agg #[.bool f, .bool p, .int .u64 (sq : Int), .int .u64 (ak : Int), .int .u32 (wn : Int), .int .u64 (t : Int)]] w fun e w' => OptPost 3 (dataB f p sq ak wn t) w.heap.size w' e ∧ Below w.heap.size w w' := by
  have hk1 := (Blk.new w 38 #[.bool f, .bool p, .int .u64 (sq : Int), .int .u64 (ak : Int), .int .u32 (wn : Int), .int .u64 (t : Int)]).alloc (.cells #[.int .u8 0, .slice none 0 0] 45)
  have hk2 := Blk.new (w.alloc (.cells #[.bool f, .bool p, .int .u64 (sq : Int), .int .u64 (ak : Int), .int .u32 (wn : Int), .int .u64 (t : Int)] 38)) 45 #[.int .u8 0, .slice none 0 0]
  rw [show (w.alloc (.cells #[.bool f, .bool p, .int .u64 (sq : Int), .int .u64 (ak : Int), .int .u32 (wn : Int), .int .u64 (t : Int)] 38)).heap.size = w.heap.size + 1 by simp] at hk2
  have hb0 : Below w.heap.size w ((w.alloc (.cells #[.bool f, .bool p, .int .u64 (sq : Int), .int .u64 (ak : Int), .int .u32 (wn : Int), .int .u64 (t : Int)] 38)).alloc (.cells #[.int .u8 0, .slice none 0 0] 45)) := ((Below.refl _ _).alloc (Nat.le_refl _) _).alloc (by simp) _
  have K1 := Lib.hid hk1
  have K2 := Lib.hid hk2
  have B := Lib.hid hb0
  have Hhsq := Lib.hid hsq
  have Hhak := Lib.hid hak
  have Hhwn := Lib.hid hwn
  have Hht := Lib.hid ht
  clear hk1 hk2 hb0 hsq hak hwn ht
  go_enter Try.func10, Try.ntmps10
  obtain ⟨k1f, k1p, _⟩ := ptc6 K1.out
  cases f <;> cases p
  ·
    go_wp2_with fail
    generalize (w.alloc (.cells #[.bool false, .bool false, .int .u64 (sq : Int), .int .u64 (ak : Int), .int .u32 (wn : Int), .int .u64 (t : Int)] 38)).alloc (.cells #[.int .u8 0, .slice none 0 0] 45) = W at *
    obtain ⟨T, hT⟩ : ∃ T, T = w.heap.size := ⟨_, rfl⟩
    rw [← hT] at K1 K2 ⊢
    have HT := Lib.hid hT
    clear hT k1f k1p
    refine wp_ord [(0, .pure), (1, .read), (2, .pure), (4, .pure), (5, .read), (7, .pure), (8, .read), (10, .pure), (11, .read), (3, .sole), (6, .sole), (9, .sole), (12, .sole), (13, .sole), (14, .sole), (15, .pure), (16, .sole)] [16] (by kernel_rfl) (by kernel_rfl) (fun QQ hQ wd hwd => ?_); simp only [List.map_cons, List.map_nil, List.getD_cons_zero, List.getD_cons_succ]
    have hD : Below W.heap.size W wd := by rw [hwd.out]; exact (Below.refl _ _).drew
    have B0 := Lib.hid (B.out.trans (hD.mono B.out.size))
    have K1d := K1.out.below hD K1.out.lt
    have K20 := Lib.hid (K2.out.below hD K2.out.lt)
    obtain ⟨t0, t1, t2, t3, t4, t5⟩ := ptc6 K1d
    have HTG := cells_at (o := 5) (k := 1) (xs := [.int .u64 (t : Int)]) K1d rfl
    clear hD hwd B K1 K2 K1d
    (refine o_pure (v := ?_) (by rfl) (fun w' => ?_) ?_; rotate_left; (focus (go_simp; (try with_reducible rfl))); (try simp only [Act.put, List.setIfInBounds_toArray, List.set_cons_zero, List.set_cons_succ]))
    (refine o_loads _ [.int .u64 (t : Int)] (by rfl) rfl rfl (HTG) (Nat.succ_pos _) (by kernel_rfl) (by kernel_rfl) ?_; simp only [Act.put, List.setIfInBounds_toArray, List.set_cons_zero, List.set_cons_succ])
    (refine o_pure (v := ?_) (by rfl) (fun w' => ?_) ?_; rotate_left; (focus (go_simp; (try with_reducible rfl))); (try simp only [Act.put, List.setIfInBounds_toArray, List.set_cons_zero, List.set_cons_succ]))
    (refine o_pure (v := ?_) (by rfl) (fun w' => ?_) ?_; rotate_left; (focus (go_simp; (try with_reducible rfl))); (try simp only [Act.put, List.setIfInBounds_toArray, List.set_cons_zero, List.set_cons_succ]))
    (refine o_load _ (by rfl) rfl rfl (by assumption) (by kernel_rfl) ?_; simp only [Act.put, List.setIfInBounds_toArray, List.set_cons_zero, List.set_cons_succ])
    (refine o_pure (v := ?_) (by rfl) (fun w' => ?_) ?_; rotate_left; (focus (go_simp; (try with_reducible rfl))); (try simp only [Act.put, List.setIfInBounds_toArray, List.set_cons_zero, List.set_cons_succ]))
    (refine o_load _ (by rfl) rfl rfl (by assumption) (by kernel_rfl) ?_; simp only [Act.put, List.setIfInBounds_toArray, List.set_cons_zero, List.set_cons_succ])
    (refine o_pure (v := ?_) (by rfl) (fun w' => ?_) ?_; rotate_left; (focus (go_simp; (try with_reducible rfl))); (try simp only [Act.put, List.setIfInBounds_toArray, List.set_cons_zero, List.set_cons_succ]))
    (refine o_load _ (by rfl) rfl rfl (by assumption) (by kernel_rfl) ?_; simp only [Act.put, List.setIfInBounds_toArray, List.set_cons_zero, List.set_cons_succ])
    clear HTG t0 t1 t2 t3 t4 t5
    refine o_sole (fun K hK => ?_)
    go_wp2_with fail
    refine (pB_any (0 : Int) wd (by omega) (by have := (show (0 : Nat) < 256 by omega); omega)).mono ?_
    rintro e w1 ⟨rfl, hb⟩
    have B1 := Lib.hid (B0.out.trans (hb.mono B0.out.size))
    have K21 := Lib.hid (K20.out.below hb K20.out.lt)
    go_wp2_with fail
    refine hK _ _ (fun _ => Ext.of hb) ?_; clear hK K
    clear hb K20 B0
    refine o_sole (fun K hK => ?_)
    go_wp2_with fail
    refine (pQ_any (sq : Int) w1 (by omega) (by have := Hhsq.out; unfold q64 at this; omega)).mono ?_
    rintro e w2 ⟨rfl, hb⟩
    have B2 := Lib.hid (B1.out.trans (hb.mono B1.out.size))
    have K22 := Lib.hid (K21.out.below hb K21.out.lt)
    go_wp2_with fail
    refine hK _ _ (fun _ => Ext.of hb) ?_; clear hK K
    clear hb K21 B1
    refine o_sole (fun K hK => ?_)
    go_wp2_with fail
    refine (pQ_any (ak : Int) w2 (by omega) (by have := Hhak.out; unfold q64 at this; omega)).mono ?_
    rintro e w3 ⟨rfl, hb⟩
    have B3 := Lib.hid (B2.out.trans (hb.mono B2.out.size))
    have K23 := Lib.hid (K22.out.below hb K22.out.lt)
    go_wp2_with fail
    refine hK _ _ (fun _ => Ext.of hb) ?_; clear hK K
    clear hb K22 B2
    refine o_sole (fun K hK => ?_)
    go_wp2_with fail
    refine (pW_any (wn : Int) w3 (by omega) (by have := Hhwn.out; unfold q32 at this; omega)).mono ?_
    rintro e w4 ⟨rfl, hb⟩
    have B4 := Lib.hid (B3.out.trans (hb.mono B3.out.size))
    have K24 := Lib.hid (K23.out.below hb K23.out.lt)
    go_wp2_with fail
    refine hK _ _ (fun _ => Ext.of hb) ?_; clear hK K
    clear hb K23 B3
    refine o_sole (fun K hK => ?_)
    go_wp2_with fail
    refine hK _ _ (fun _ => Ext.of ((Below.refl _ _).alloc (Nat.le_refl _) _)) ?_; clear hK K
    have hrd : Rd (w4.alloc (.cells #[.int .i64 1, .int .u64 (0 : Int), .int .i64 8, .int .u64 (sq : Int), .int .i64 8, .int .u64 (ak : Int), .int .i64 4, .int .u64 (wn : Int)] 113)) (w4.heap.size + 1) 2 (some ⟨w4.heap.size, 0, none⟩) 4 (fs [((1 : Int), 0), ((8 : Int), sq), ((8 : Int), ak), ((4 : Int), wn)]) := Rd.made w4 113 #[.int .i64 1, .int .u64 (0 : Int), .int .i64 8, .int .u64 (sq : Int), .int .i64 8, .int .u64 (ak : Int), .int .i64 4, .int .u64 (wn : Int)] rfl
    have hz : (w4.alloc (.cells #[.int .i64 1, .int .u64 (0 : Int), .int .i64 8, .int .u64 (sq : Int), .int .i64 8, .int .u64 (ak : Int), .int .i64 4, .int .u64 (wn : Int)] 113)).heap.size = w4.heap.size + 1 := by simp
    rw [← hz] at hrd
    have hb6 : Below w4.heap.size w4 (w4.alloc (.cells #[.int .i64 1, .int .u64 (0 : Int), .int .i64 8, .int .u64 (sq : Int), .int .i64 8, .int .u64 (ak : Int), .int .i64 4, .int .u64 (wn : Int)] 113)) := (Below.refl _ _).alloc (Nat.le_refl _) _
    have B5 := Lib.hid (B4.out.trans (hb6.mono B4.out.size))
    have K25 := Lib.hid (K24.out.below hb6 K24.out.lt)
    have HRD := Lib.hid hrd
    clear hrd hz hb6 K24 B4
    refine o_sole (fun K hK => ?_)
    go_wp2_with fail
    generalize w4.alloc (.cells #[.int .i64 1, .int .u64 (0 : Int), .int .i64 8, .int .u64 (sq : Int), .int .i64 8, .int .u64 (ak : Int), .int .i64 4, .int .u64 (wn : Int)] 113) = w5 at *
    refine (body_any t true _ 4 4 [((1 : Int), 0), ((8 : Int), sq), ((8 : Int), ak), ((4 : Int), wn)] w5 Hht.out HRD.out (by omega) ?_).mono ?_
    · intro p hp
      have h0 := (show (0 : Nat) < 256 by omega)
      have h1 := Hhsq.out
      have h2 := Hhak.out
      have h3 := Hhwn.out
      (try unfold q64 at *)
      (try unfold q32 at *)
      simp only [List.mem_cons, List.not_mem_nil, or_false] at hp
      rcases hp with rfl | rfl | rfl | rfl <;> dsimp only <;> omega
    rintro e w6 ⟨v, rfl, hN, hb⟩
    rw [dataF _ _ _ _ _ false false (by rfl)] at hN
    have B6 := Lib.hid (B5.out.trans (hb.mono B5.out.size))
    have hTb : T + 2 ≤ w5.heap.size := K25.out.lt
    have HN := Lib.hid (hN.mono hTb)
    have K26 := Lib.hid (K25.out.below hb K25.out.lt)
    obtain ⟨A5, n5, c5, rfl, _, _, _⟩ := HN.out.out
    go_wp2_with fail
    refine hK _ _ (fun _ => Ext.of hb) ?_; clear hK K
    clear hb hN hTb HRD K25 B5
    (refine o_pure (v := ?_) (by rfl) (fun w' => ?_) ?_; rotate_left; (focus (go_simp; (try with_reducible rfl))); (try simp only [Act.put, List.setIfInBounds_toArray, List.set_cons_zero, List.set_cons_succ]))
    obtain ⟨z0, z1⟩ := ptc2 K26.out
    have f0 := K26.out.frozen 0
    have f1 := K26.out.frozen 1
    refine o_sole (fun K hK => ?_)
    go_wp2_with fail
    refine hK _ _ (fun h => by cases h) ?_; clear hK K
    refine o_nil (hQ.out _ _ ?_); clear hQ QQ
    have hkz := pt2 (.int .u8 3) (.slice A5 n5 c5) K26.out
    have hbz := ptb2 (.int .u8 3) (.slice A5 n5 c5) B6.out (show w.heap.size ≤ T + 1 by rw [← HT.out]; omega)
    have hsz := nats_past HN.out (show T + 1 < T + 2 by omega) (pts2 (w := w6) (T := T + 1) (.int .u8 3) (.slice A5 n5 c5))
    unfold ptw2 at hkz hbz hsz
    generalize (w6.setCell ⟨T + 1, 0, none⟩ (.int .u8 3)).setCell ⟨T + 1, 1, none⟩ (.slice A5 n5 c5) = wz at *
    clear z0 z1 f0 f1
    obtain ⟨z0, z1⟩ := ptc2 hkz
    go_wp2_with fail
    refine bodyPost_ret (v := .agg #[.int .u8 3, .slice A5 n5 c5]) (by simp [results, Try.results10, go_sem, z0, z1]) rfl ⟨⟨_, rfl, hsz.mono (by have := HT.out; omega)⟩, hbz⟩
  ·
    go_wp2_with fail
    generalize (w.alloc (.cells #[.bool false, .bool true, .int .u64 (sq : Int), .int .u64 (ak : Int), .int .u32 (wn : Int), .int .u64 (t : Int)] 38)).alloc (.cells #[.int .u8 0, .slice none 0 0] 45) = W at *
    obtain ⟨T, hT⟩ : ∃ T, T = w.heap.size := ⟨_, rfl⟩
    rw [← hT] at K1 K2 ⊢
    have HT := Lib.hid hT
    clear hT k1f k1p
    refine wp_ord [(0, .pure), (1, .read), (2, .pure), (4, .pure), (5, .read), (7, .pure), (8, .read), (10, .pure), (11, .read), (3, .sole), (6, .sole), (9, .sole), (12, .sole), (13, .sole), (14, .sole), (15, .pure), (16, .sole)] [16] (by kernel_rfl) (by kernel_rfl) (fun QQ hQ wd hwd => ?_); simp only [List.map_cons, List.map_nil, List.getD_cons_zero, List.getD_cons_succ]
    have hD : Below W.heap.size W wd := by rw [hwd.out]; exact (Below.refl _ _).drew
    have B0 := Lib.hid (B.out.trans (hD.mono B.out.size))
    have K1d := K1.out.below hD K1.out.lt
    have K20 := Lib.hid (K2.out.below hD K2.out.lt)
    obtain ⟨t0, t1, t2, t3, t4, t5⟩ := ptc6 K1d
    have HTG := cells_at (o := 5) (k := 1) (xs := [.int .u64 (t : Int)]) K1d rfl
    clear hD hwd B K1 K2 K1d
    (refine o_pure (v := ?_) (by rfl) (fun w' => ?_) ?_; rotate_left; (focus (go_simp; (try with_reducible rfl))); (try simp only [Act.put, List.setIfInBounds_toArray, List.set_cons_zero, List.set_cons_succ]))
    (refine o_loads _ [.int .u64 (t : Int)] (by rfl) rfl rfl (HTG) (Nat.succ_pos _) (by kernel_rfl) (by kernel_rfl) ?_; simp only [Act.put, List.setIfInBounds_toArray, List.set_cons_zero, List.set_cons_succ])
    (refine o_pure (v := ?_) (by rfl) (fun w' => ?_) ?_; rotate_left; (focus (go_simp; (try with_reducible rfl))); (try simp only [Act.put, List.setIfInBounds_toArray, List.set_cons_zero, List.set_cons_succ]))
    (refine o_pure (v := ?_) (by rfl) (fun w' => ?_) ?_; rotate_left; (focus (go_simp; (try with_reducible rfl))); (try simp only [Act.put, List.setIfInBounds_toArray, List.set_cons_zero, List.set_cons_succ]))
    (refine o_load _ (by rfl) rfl rfl (by assumption) (by kernel_rfl) ?_; simp only [Act.put, List.setIfInBounds_toArray, List.set_cons_zero, List.set_cons_succ])
    (refine o_pure (v := ?_) (by rfl) (fun w' => ?_) ?_; rotate_left; (focus (go_simp; (try with_reducible rfl))); (try simp only [Act.put, List.setIfInBounds_toArray, List.set_cons_zero, List.set_cons_succ]))
    (refine o_load _ (by rfl) rfl rfl (by assumption) (by kernel_rfl) ?_; simp only [Act.put, List.setIfInBounds_toArray, List.set_cons_zero, List.set_cons_succ])
    (refine o_pure (v := ?_) (by rfl) (fun w' => ?_) ?_; rotate_left; (focus (go_simp; (try with_reducible rfl))); (try simp only [Act.put, List.setIfInBounds_toArray, List.set_cons_zero, List.set_cons_succ]))
    (refine o_load _ (by rfl) rfl rfl (by assumption) (by kernel_rfl) ?_; simp only [Act.put, List.setIfInBounds_toArray, List.set_cons_zero, List.set_cons_succ])
    clear HTG t0 t1 t2 t3 t4 t5
    refine o_sole (fun K hK => ?_)
    go_wp2_with fail
    refine (pB_any (2 : Int) wd (by omega) (by have := (show (2 : Nat) < 256 by omega); omega)).mono ?_
    rintro e w1 ⟨rfl, hb⟩
    have B1 := Lib.hid (B0.out.trans (hb.mono B0.out.size))
    have K21 := Lib.hid (K20.out.below hb K20.out.lt)
    go_wp2_with fail
    refine hK _ _ (fun _ => Ext.of hb) ?_; clear hK K
    clear hb K20 B0
    refine o_sole (fun K hK => ?_)
    go_wp2_with fail
    refine (pQ_any (sq : Int) w1 (by omega) (by have := Hhsq.out; unfold q64 at this; omega)).mono ?_
    rintro e w2 ⟨rfl, hb⟩
    have B2 := Lib.hid (B1.out.trans (hb.mono B1.out.size))
    have K22 := Lib.hid (K21.out.below hb K21.out.lt)
    go_wp2_with fail
    refine hK _ _ (fun _ => Ext.of hb) ?_; clear hK K
    clear hb K21 B1
    refine o_sole (fun K hK => ?_)
    go_wp2_with fail
    refine (pQ_any (ak : Int) w2 (by omega) (by have := Hhak.out; unfold q64 at this; omega)).mono ?_
    rintro e w3 ⟨rfl, hb⟩
    have B3 := Lib.hid (B2.out.trans (hb.mono B2.out.size))
    have K23 := Lib.hid (K22.out.below hb K22.out.lt)
    go_wp2_with fail
    refine hK _ _ (fun _ => Ext.of hb) ?_; clear hK K
    clear hb K22 B2
    refine o_sole (fun K hK => ?_)
    go_wp2_with fail
    refine (pW_any (wn : Int) w3 (by omega) (by have := Hhwn.out; unfold q32 at this; omega)).mono ?_
    rintro e w4 ⟨rfl, hb⟩
    have B4 := Lib.hid (B3.out.trans (hb.mono B3.out.size))
    have K24 := Lib.hid (K23.out.below hb K23.out.lt)
    go_wp2_with fail
    refine hK _ _ (fun _ => Ext.of hb) ?_; clear hK K
    clear hb K23 B3
    refine o_sole (fun K hK => ?_)
    go_wp2_with fail
    refine hK _ _ (fun _ => Ext.of ((Below.refl _ _).alloc (Nat.le_refl _) _)) ?_; clear hK K
    have hrd : Rd (w4.alloc (.cells #[.int .i64 1, .int .u64 (2 : Int), .int .i64 8, .int .u64 (sq : Int), .int .i64 8, .int .u64 (ak : Int), .int .i64 4, .int .u64 (wn : Int)] 113)) (w4.heap.size + 1) 2 (some ⟨w4.heap.size, 0, none⟩) 4 (fs [((1 : Int), 2), ((8 : Int), sq), ((8 : Int), ak), ((4 : Int), wn)]) := Rd.made w4 113 #[.int .i64 1, .int .u64 (2 : Int), .int .i64 8, .int .u64 (sq : Int), .int .i64 8, .int .u64 (ak : Int), .int .i64 4, .int .u64 (wn : Int)] rfl
    have hz : (w4.alloc (.cells #[.int .i64 1, .int .u64 (2 : Int), .int .i64 8, .int .u64 (sq : Int), .int .i64 8, .int .u64 (ak : Int), .int .i64 4, .int .u64 (wn : Int)] 113)).heap.size = w4.heap.size + 1 := by simp
    rw [← hz] at hrd
    have hb6 : Below w4.heap.size w4 (w4.alloc (.cells #[.int .i64 1, .int .u64 (2 : Int), .int .i64 8, .int .u64 (sq : Int), .int .i64 8, .int .u64 (ak : Int), .int .i64 4, .int .u64 (wn : Int)] 113)) := (Below.refl _ _).alloc (Nat.le_refl _) _
    have B5 := Lib.hid (B4.out.trans (hb6.mono B4.out.size))
    have K25 := Lib.hid (K24.out.below hb6 K24.out.lt)
    have HRD := Lib.hid hrd
    clear hrd hz hb6 K24 B4
    refine o_sole (fun K hK => ?_)
    go_wp2_with fail
    generalize w4.alloc (.cells #[.int .i64 1, .int .u64 (2 : Int), .int .i64 8, .int .u64 (sq : Int), .int .i64 8, .int .u64 (ak : Int), .int .i64 4, .int .u64 (wn : Int)] 113) = w5 at *
    refine (body_any t true _ 4 4 [((1 : Int), 2), ((8 : Int), sq), ((8 : Int), ak), ((4 : Int), wn)] w5 Hht.out HRD.out (by omega) ?_).mono ?_
    · intro p hp
      have h0 := (show (2 : Nat) < 256 by omega)
      have h1 := Hhsq.out
      have h2 := Hhak.out
      have h3 := Hhwn.out
      (try unfold q64 at *)
      (try unfold q32 at *)
      simp only [List.mem_cons, List.not_mem_nil, or_false] at hp
      rcases hp with rfl | rfl | rfl | rfl <;> dsimp only <;> omega
    rintro e w6 ⟨v, rfl, hN, hb⟩
    rw [dataF _ _ _ _ _ false true (by rfl)] at hN
    have B6 := Lib.hid (B5.out.trans (hb.mono B5.out.size))
    have hTb : T + 2 ≤ w5.heap.size := K25.out.lt
    have HN := Lib.hid (hN.mono hTb)
    have K26 := Lib.hid (K25.out.below hb K25.out.lt)
    obtain ⟨A5, n5, c5, rfl, _, _, _⟩ := HN.out.out
    go_wp2_with fail
    refine hK _ _ (fun _ => Ext.of hb) ?_; clear hK K
    clear hb hN hTb HRD K25 B5
    (refine o_pure (v := ?_) (by rfl) (fun w' => ?_) ?_; rotate_left; (focus (go_simp; (try with_reducible rfl))); (try simp only [Act.put, List.setIfInBounds_toArray, List.set_cons_zero, List.set_cons_succ]))
    obtain ⟨z0, z1⟩ := ptc2 K26.out
    have f0 := K26.out.frozen 0
    have f1 := K26.out.frozen 1
    refine o_sole (fun K hK => ?_)
    go_wp2_with fail
    refine hK _ _ (fun h => by cases h) ?_; clear hK K
    refine o_nil (hQ.out _ _ ?_); clear hQ QQ
    have hkz := pt2 (.int .u8 3) (.slice A5 n5 c5) K26.out
    have hbz := ptb2 (.int .u8 3) (.slice A5 n5 c5) B6.out (show w.heap.size ≤ T + 1 by rw [← HT.out]; omega)
    have hsz := nats_past HN.out (show T + 1 < T + 2 by omega) (pts2 (w := w6) (T := T + 1) (.int .u8 3) (.slice A5 n5 c5))
    unfold ptw2 at hkz hbz hsz
    generalize (w6.setCell ⟨T + 1, 0, none⟩ (.int .u8 3)).setCell ⟨T + 1, 1, none⟩ (.slice A5 n5 c5) = wz at *
    clear z0 z1 f0 f1
    obtain ⟨z0, z1⟩ := ptc2 hkz
    go_wp2_with fail
    refine bodyPost_ret (v := .agg #[.int .u8 3, .slice A5 n5 c5]) (by simp [results, Try.results10, go_sem, z0, z1]) rfl ⟨⟨_, rfl, hsz.mono (by have := HT.out; omega)⟩, hbz⟩
  ·
    go_wp2_with fail
    generalize (w.alloc (.cells #[.bool true, .bool false, .int .u64 (sq : Int), .int .u64 (ak : Int), .int .u32 (wn : Int), .int .u64 (t : Int)] 38)).alloc (.cells #[.int .u8 0, .slice none 0 0] 45) = W at *
    obtain ⟨T, hT⟩ : ∃ T, T = w.heap.size := ⟨_, rfl⟩
    rw [← hT] at K1 K2 ⊢
    have HT := Lib.hid hT
    clear hT k1f k1p
    refine wp_ord [(0, .pure), (1, .read), (2, .pure), (4, .pure), (5, .read), (7, .pure), (8, .read), (10, .pure), (11, .read), (3, .sole), (6, .sole), (9, .sole), (12, .sole), (13, .sole), (14, .sole), (15, .pure), (16, .sole)] [16] (by kernel_rfl) (by kernel_rfl) (fun QQ hQ wd hwd => ?_); simp only [List.map_cons, List.map_nil, List.getD_cons_zero, List.getD_cons_succ]
    have hD : Below W.heap.size W wd := by rw [hwd.out]; exact (Below.refl _ _).drew
    have B0 := Lib.hid (B.out.trans (hD.mono B.out.size))
    have K1d := K1.out.below hD K1.out.lt
    have K20 := Lib.hid (K2.out.below hD K2.out.lt)
    obtain ⟨t0, t1, t2, t3, t4, t5⟩ := ptc6 K1d
    have HTG := cells_at (o := 5) (k := 1) (xs := [.int .u64 (t : Int)]) K1d rfl
    clear hD hwd B K1 K2 K1d
    (refine o_pure (v := ?_) (by rfl) (fun w' => ?_) ?_; rotate_left; (focus (go_simp; (try with_reducible rfl))); (try simp only [Act.put, List.setIfInBounds_toArray, List.set_cons_zero, List.set_cons_succ]))
    (refine o_loads _ [.int .u64 (t : Int)] (by rfl) rfl rfl (HTG) (Nat.succ_pos _) (by kernel_rfl) (by kernel_rfl) ?_; simp only [Act.put, List.setIfInBounds_toArray, List.set_cons_zero, List.set_cons_succ])
    (refine o_pure (v := ?_) (by rfl) (fun w' => ?_) ?_; rotate_left; (focus (go_simp; (try with_reducible rfl))); (try simp only [Act.put, List.setIfInBounds_toArray, List.set_cons_zero, List.set_cons_succ]))
    (refine o_pure (v := ?_) (by rfl) (fun w' => ?_) ?_; rotate_left; (focus (go_simp; (try with_reducible rfl))); (try simp only [Act.put, List.setIfInBounds_toArray, List.set_cons_zero, List.set_cons_succ]))
    (refine o_load _ (by rfl) rfl rfl (by assumption) (by kernel_rfl) ?_; simp only [Act.put, List.setIfInBounds_toArray, List.set_cons_zero, List.set_cons_succ])
    (refine o_pure (v := ?_) (by rfl) (fun w' => ?_) ?_; rotate_left; (focus (go_simp; (try with_reducible rfl))); (try simp only [Act.put, List.setIfInBounds_toArray, List.set_cons_zero, List.set_cons_succ]))
    (refine o_load _ (by rfl) rfl rfl (by assumption) (by kernel_rfl) ?_; simp only [Act.put, List.setIfInBounds_toArray, List.set_cons_zero, List.set_cons_succ])
    (refine o_pure (v := ?_) (by rfl) (fun w' => ?_) ?_; rotate_left; (focus (go_simp; (try with_reducible rfl))); (try simp only [Act.put, List.setIfInBounds_toArray, List.set_cons_zero, List.set_cons_succ]))
    (refine o_load _ (by rfl) rfl rfl (by assumption) (by kernel_rfl) ?_; simp only [Act.put, List.setIfInBounds_toArray, List.set_cons_zero, List.set_cons_succ])
    clear HTG t0 t1 t2 t3 t4 t5
    refine o_sole (fun K hK => ?_)
    go_wp2_with fail
    refine (pB_any (1 : Int) wd (by omega) (by have := (show (1 : Nat) < 256 by omega); omega)).mono ?_
    rintro e w1 ⟨rfl, hb⟩
    have B1 := Lib.hid (B0.out.trans (hb.mono B0.out.size))
    have K21 := Lib.hid (K20.out.below hb K20.out.lt)
    go_wp2_with fail
    refine hK _ _ (fun _ => Ext.of hb) ?_; clear hK K
    clear hb K20 B0
    refine o_sole (fun K hK => ?_)
    go_wp2_with fail
    refine (pQ_any (sq : Int) w1 (by omega) (by have := Hhsq.out; unfold q64 at this; omega)).mono ?_
    rintro e w2 ⟨rfl, hb⟩
    have B2 := Lib.hid (B1.out.trans (hb.mono B1.out.size))
    have K22 := Lib.hid (K21.out.below hb K21.out.lt)
    go_wp2_with fail
    refine hK _ _ (fun _ => Ext.of hb) ?_; clear hK K
    clear hb K21 B1
    refine o_sole (fun K hK => ?_)
    go_wp2_with fail
    refine (pQ_any (ak : Int) w2 (by omega) (by have := Hhak.out; unfold q64 at this; omega)).mono ?_
    rintro e w3 ⟨rfl, hb⟩
    have B3 := Lib.hid (B2.out.trans (hb.mono B2.out.size))
    have K23 := Lib.hid (K22.out.below hb K22.out.lt)
    go_wp2_with fail
    refine hK _ _ (fun _ => Ext.of hb) ?_; clear hK K
    clear hb K22 B2
    refine o_sole (fun K hK => ?_)
    go_wp2_with fail
    refine (pW_any (wn : Int) w3 (by omega) (by have := Hhwn.out; unfold q32 at this; omega)).mono ?_
    rintro e w4 ⟨rfl, hb⟩
    have B4 := Lib.hid (B3.out.trans (hb.mono B3.out.size))
    have K24 := Lib.hid (K23.out.below hb K23.out.lt)
    go_wp2_with fail
    refine hK _ _ (fun _ => Ext.of hb) ?_; clear hK K
    clear hb K23 B3
    refine o_sole (fun K hK => ?_)
    go_wp2_with fail
    refine hK _ _ (fun _ => Ext.of ((Below.refl _ _).alloc (Nat.le_refl _) _)) ?_; clear hK K
    have hrd : Rd (w4.alloc (.cells #[.int .i64 1, .int .u64 (1 : Int), .int .i64 8, .int .u64 (sq : Int), .int .i64 8, .int .u64 (ak : Int), .int .i64 4, .int .u64 (wn : Int)] 113)) (w4.heap.size + 1) 2 (some ⟨w4.heap.size, 0, none⟩) 4 (fs [((1 : Int), 1), ((8 : Int), sq), ((8 : Int), ak), ((4 : Int), wn)]) := Rd.made w4 113 #[.int .i64 1, .int .u64 (1 : Int), .int .i64 8, .int .u64 (sq : Int), .int .i64 8, .int .u64 (ak : Int), .int .i64 4, .int .u64 (wn : Int)] rfl
    have hz : (w4.alloc (.cells #[.int .i64 1, .int .u64 (1 : Int), .int .i64 8, .int .u64 (sq : Int), .int .i64 8, .int .u64 (ak : Int), .int .i64 4, .int .u64 (wn : Int)] 113)).heap.size = w4.heap.size + 1 := by simp
    rw [← hz] at hrd
    have hb6 : Below w4.heap.size w4 (w4.alloc (.cells #[.int .i64 1, .int .u64 (1 : Int), .int .i64 8, .int .u64 (sq : Int), .int .i64 8, .int .u64 (ak : Int), .int .i64 4, .int .u64 (wn : Int)] 113)) := (Below.refl _ _).alloc (Nat.le_refl _) _
    have B5 := Lib.hid (B4.out.trans (hb6.mono B4.out.size))
    have K25 := Lib.hid (K24.out.below hb6 K24.out.lt)
    have HRD := Lib.hid hrd
    clear hrd hz hb6 K24 B4
    refine o_sole (fun K hK => ?_)
    go_wp2_with fail
    generalize w4.alloc (.cells #[.int .i64 1, .int .u64 (1 : Int), .int .i64 8, .int .u64 (sq : Int), .int .i64 8, .int .u64 (ak : Int), .int .i64 4, .int .u64 (wn : Int)] 113) = w5 at *
    refine (body_any t true _ 4 4 [((1 : Int), 1), ((8 : Int), sq), ((8 : Int), ak), ((4 : Int), wn)] w5 Hht.out HRD.out (by omega) ?_).mono ?_
    · intro p hp
      have h0 := (show (1 : Nat) < 256 by omega)
      have h1 := Hhsq.out
      have h2 := Hhak.out
      have h3 := Hhwn.out
      (try unfold q64 at *)
      (try unfold q32 at *)
      simp only [List.mem_cons, List.not_mem_nil, or_false] at hp
      rcases hp with rfl | rfl | rfl | rfl <;> dsimp only <;> omega
    rintro e w6 ⟨v, rfl, hN, hb⟩
    rw [dataF _ _ _ _ _ true false (by rfl)] at hN
    have B6 := Lib.hid (B5.out.trans (hb.mono B5.out.size))
    have hTb : T + 2 ≤ w5.heap.size := K25.out.lt
    have HN := Lib.hid (hN.mono hTb)
    have K26 := Lib.hid (K25.out.below hb K25.out.lt)
    obtain ⟨A5, n5, c5, rfl, _, _, _⟩ := HN.out.out
    go_wp2_with fail
    refine hK _ _ (fun _ => Ext.of hb) ?_; clear hK K
    clear hb hN hTb HRD K25 B5
    (refine o_pure (v := ?_) (by rfl) (fun w' => ?_) ?_; rotate_left; (focus (go_simp; (try with_reducible rfl))); (try simp only [Act.put, List.setIfInBounds_toArray, List.set_cons_zero, List.set_cons_succ]))
    obtain ⟨z0, z1⟩ := ptc2 K26.out
    have f0 := K26.out.frozen 0
    have f1 := K26.out.frozen 1
    refine o_sole (fun K hK => ?_)
    go_wp2_with fail
    refine hK _ _ (fun h => by cases h) ?_; clear hK K
    refine o_nil (hQ.out _ _ ?_); clear hQ QQ
    have hkz := pt2 (.int .u8 3) (.slice A5 n5 c5) K26.out
    have hbz := ptb2 (.int .u8 3) (.slice A5 n5 c5) B6.out (show w.heap.size ≤ T + 1 by rw [← HT.out]; omega)
    have hsz := nats_past HN.out (show T + 1 < T + 2 by omega) (pts2 (w := w6) (T := T + 1) (.int .u8 3) (.slice A5 n5 c5))
    unfold ptw2 at hkz hbz hsz
    generalize (w6.setCell ⟨T + 1, 0, none⟩ (.int .u8 3)).setCell ⟨T + 1, 1, none⟩ (.slice A5 n5 c5) = wz at *
    clear z0 z1 f0 f1
    obtain ⟨z0, z1⟩ := ptc2 hkz
    go_wp2_with fail
    refine bodyPost_ret (v := .agg #[.int .u8 3, .slice A5 n5 c5]) (by simp [results, Try.results10, go_sem, z0, z1]) rfl ⟨⟨_, rfl, hsz.mono (by have := HT.out; omega)⟩, hbz⟩
  ·
    go_wp2_with fail
    generalize (w.alloc (.cells #[.bool true, .bool true, .int .u64 (sq : Int), .int .u64 (ak : Int), .int .u32 (wn : Int), .int .u64 (t : Int)] 38)).alloc (.cells #[.int .u8 0, .slice none 0 0] 45) = W at *
    obtain ⟨T, hT⟩ : ∃ T, T = w.heap.size := ⟨_, rfl⟩
    rw [← hT] at K1 K2 ⊢
    have HT := Lib.hid hT
    clear hT k1f k1p
    refine wp_ord [(0, .pure), (1, .read), (2, .pure), (4, .pure), (5, .read), (7, .pure), (8, .read), (10, .pure), (11, .read), (3, .sole), (6, .sole), (9, .sole), (12, .sole), (13, .sole), (14, .sole), (15, .pure), (16, .sole)] [16] (by kernel_rfl) (by kernel_rfl) (fun QQ hQ wd hwd => ?_); simp only [List.map_cons, List.map_nil, List.getD_cons_zero, List.getD_cons_succ]
    have hD : Below W.heap.size W wd := by rw [hwd.out]; exact (Below.refl _ _).drew
    have B0 := Lib.hid (B.out.trans (hD.mono B.out.size))
    have K1d := K1.out.below hD K1.out.lt
    have K20 := Lib.hid (K2.out.below hD K2.out.lt)
    obtain ⟨t0, t1, t2, t3, t4, t5⟩ := ptc6 K1d
    have HTG := cells_at (o := 5) (k := 1) (xs := [.int .u64 (t : Int)]) K1d rfl
    clear hD hwd B K1 K2 K1d
    (refine o_pure (v := ?_) (by rfl) (fun w' => ?_) ?_; rotate_left; (focus (go_simp; (try with_reducible rfl))); (try simp only [Act.put, List.setIfInBounds_toArray, List.set_cons_zero, List.set_cons_succ]))
    (refine o_loads _ [.int .u64 (t : Int)] (by rfl) rfl rfl (HTG) (Nat.succ_pos _) (by kernel_rfl) (by kernel_rfl) ?_; simp only [Act.put, List.setIfInBounds_toArray, List.set_cons_zero, List.set_cons_succ])
    (refine o_pure (v := ?_) (by rfl) (fun w' => ?_) ?_; rotate_left; (focus (go_simp; (try with_reducible rfl))); (try simp only [Act.put, List.setIfInBounds_toArray, List.set_cons_zero, List.set_cons_succ]))
    (refine o_pure (v := ?_) (by rfl) (fun w' => ?_) ?_; rotate_left; (focus (go_simp; (try with_reducible rfl))); (try simp only [Act.put, List.setIfInBounds_toArray, List.set_cons_zero, List.set_cons_succ]))
    (refine o_load _ (by rfl) rfl rfl (by assumption) (by kernel_rfl) ?_; simp only [Act.put, List.setIfInBounds_toArray, List.set_cons_zero, List.set_cons_succ])
    (refine o_pure (v := ?_) (by rfl) (fun w' => ?_) ?_; rotate_left; (focus (go_simp; (try with_reducible rfl))); (try simp only [Act.put, List.setIfInBounds_toArray, List.set_cons_zero, List.set_cons_succ]))
    (refine o_load _ (by rfl) rfl rfl (by assumption) (by kernel_rfl) ?_; simp only [Act.put, List.setIfInBounds_toArray, List.set_cons_zero, List.set_cons_succ])
    (refine o_pure (v := ?_) (by rfl) (fun w' => ?_) ?_; rotate_left; (focus (go_simp; (try with_reducible rfl))); (try simp only [Act.put, List.setIfInBounds_toArray, List.set_cons_zero, List.set_cons_succ]))
    (refine o_load _ (by rfl) rfl rfl (by assumption) (by kernel_rfl) ?_; simp only [Act.put, List.setIfInBounds_toArray, List.set_cons_zero, List.set_cons_succ])
    clear HTG t0 t1 t2 t3 t4 t5
    refine o_sole (fun K hK => ?_)
    go_wp2_with fail
    refine (pB_any (3 : Int) wd (by omega) (by have := (show (3 : Nat) < 256 by omega); omega)).mono ?_
    rintro e w1 ⟨rfl, hb⟩
    have B1 := Lib.hid (B0.out.trans (hb.mono B0.out.size))
    have K21 := Lib.hid (K20.out.below hb K20.out.lt)
    go_wp2_with fail
    refine hK _ _ (fun _ => Ext.of hb) ?_; clear hK K
    clear hb K20 B0
    refine o_sole (fun K hK => ?_)
    go_wp2_with fail
    refine (pQ_any (sq : Int) w1 (by omega) (by have := Hhsq.out; unfold q64 at this; omega)).mono ?_
    rintro e w2 ⟨rfl, hb⟩
    have B2 := Lib.hid (B1.out.trans (hb.mono B1.out.size))
    have K22 := Lib.hid (K21.out.below hb K21.out.lt)
    go_wp2_with fail
    refine hK _ _ (fun _ => Ext.of hb) ?_; clear hK K
    clear hb K21 B1
    refine o_sole (fun K hK => ?_)
    go_wp2_with fail
    refine (pQ_any (ak : Int) w2 (by omega) (by have := Hhak.out; unfold q64 at this; omega)).mono ?_
    rintro e w3 ⟨rfl, hb⟩
    have B3 := Lib.hid (B2.out.trans (hb.mono B2.out.size))
    have K23 := Lib.hid (K22.out.below hb K22.out.lt)
    go_wp2_with fail
    refine hK _ _ (fun _ => Ext.of hb) ?_; clear hK K
    clear hb K22 B2
    refine o_sole (fun K hK => ?_)
    go_wp2_with fail
    refine (pW_any (wn : Int) w3 (by omega) (by have := Hhwn.out; unfold q32 at this; omega)).mono ?_
    rintro e w4 ⟨rfl, hb⟩
    have B4 := Lib.hid (B3.out.trans (hb.mono B3.out.size))
    have K24 := Lib.hid (K23.out.below hb K23.out.lt)
    go_wp2_with fail
    refine hK _ _ (fun _ => Ext.of hb) ?_; clear hK K
    clear hb K23 B3
    refine o_sole (fun K hK => ?_)
    go_wp2_with fail
    refine hK _ _ (fun _ => Ext.of ((Below.refl _ _).alloc (Nat.le_refl _) _)) ?_; clear hK K
    have hrd : Rd (w4.alloc (.cells #[.int .i64 1, .int .u64 (3 : Int), .int .i64 8, .int .u64 (sq : Int), .int .i64 8, .int .u64 (ak : Int), .int .i64 4, .int .u64 (wn : Int)] 113)) (w4.heap.size + 1) 2 (some ⟨w4.heap.size, 0, none⟩) 4 (fs [((1 : Int), 3), ((8 : Int), sq), ((8 : Int), ak), ((4 : Int), wn)]) := Rd.made w4 113 #[.int .i64 1, .int .u64 (3 : Int), .int .i64 8, .int .u64 (sq : Int), .int .i64 8, .int .u64 (ak : Int), .int .i64 4, .int .u64 (wn : Int)] rfl
    have hz : (w4.alloc (.cells #[.int .i64 1, .int .u64 (3 : Int), .int .i64 8, .int .u64 (sq : Int), .int .i64 8, .int .u64 (ak : Int), .int .i64 4, .int .u64 (wn : Int)] 113)).heap.size = w4.heap.size + 1 := by simp
    rw [← hz] at hrd
    have hb6 : Below w4.heap.size w4 (w4.alloc (.cells #[.int .i64 1, .int .u64 (3 : Int), .int .i64 8, .int .u64 (sq : Int), .int .i64 8, .int .u64 (ak : Int), .int .i64 4, .int .u64 (wn : Int)] 113)) := (Below.refl _ _).alloc (Nat.le_refl _) _
    have B5 := Lib.hid (B4.out.trans (hb6.mono B4.out.size))
    have K25 := Lib.hid (K24.out.below hb6 K24.out.lt)
    have HRD := Lib.hid hrd
    clear hrd hz hb6 K24 B4
    refine o_sole (fun K hK => ?_)
    go_wp2_with fail
    generalize w4.alloc (.cells #[.int .i64 1, .int .u64 (3 : Int), .int .i64 8, .int .u64 (sq : Int), .int .i64 8, .int .u64 (ak : Int), .int .i64 4, .int .u64 (wn : Int)] 113) = w5 at *
    refine (body_any t true _ 4 4 [((1 : Int), 3), ((8 : Int), sq), ((8 : Int), ak), ((4 : Int), wn)] w5 Hht.out HRD.out (by omega) ?_).mono ?_
    · intro p hp
      have h0 := (show (3 : Nat) < 256 by omega)
      have h1 := Hhsq.out
      have h2 := Hhak.out
      have h3 := Hhwn.out
      (try unfold q64 at *)
      (try unfold q32 at *)
      simp only [List.mem_cons, List.not_mem_nil, or_false] at hp
      rcases hp with rfl | rfl | rfl | rfl <;> dsimp only <;> omega
    rintro e w6 ⟨v, rfl, hN, hb⟩
    rw [dataF _ _ _ _ _ true true (by rfl)] at hN
    have B6 := Lib.hid (B5.out.trans (hb.mono B5.out.size))
    have hTb : T + 2 ≤ w5.heap.size := K25.out.lt
    have HN := Lib.hid (hN.mono hTb)
    have K26 := Lib.hid (K25.out.below hb K25.out.lt)
    obtain ⟨A5, n5, c5, rfl, _, _, _⟩ := HN.out.out
    go_wp2_with fail
    refine hK _ _ (fun _ => Ext.of hb) ?_; clear hK K
    clear hb hN hTb HRD K25 B5
    (refine o_pure (v := ?_) (by rfl) (fun w' => ?_) ?_; rotate_left; (focus (go_simp; (try with_reducible rfl))); (try simp only [Act.put, List.setIfInBounds_toArray, List.set_cons_zero, List.set_cons_succ]))
    obtain ⟨z0, z1⟩ := ptc2 K26.out
    have f0 := K26.out.frozen 0
    have f1 := K26.out.frozen 1
    refine o_sole (fun K hK => ?_)
    go_wp2_with fail
    refine hK _ _ (fun h => by cases h) ?_; clear hK K
    refine o_nil (hQ.out _ _ ?_); clear hQ QQ
    have hkz := pt2 (.int .u8 3) (.slice A5 n5 c5) K26.out
    have hbz := ptb2 (.int .u8 3) (.slice A5 n5 c5) B6.out (show w.heap.size ≤ T + 1 by rw [← HT.out]; omega)
    have hsz := nats_past HN.out (show T + 1 < T + 2 by omega) (pts2 (w := w6) (T := T + 1) (.int .u8 3) (.slice A5 n5 c5))
    unfold ptw2 at hkz hbz hsz
    generalize (w6.setCell ⟨T + 1, 0, none⟩ (.int .u8 3)).setCell ⟨T + 1, 1, none⟩ (.slice A5 n5 c5) = wz at *
    clear z0 z1 f0 f1
    obtain ⟨z0, z1⟩ := ptc2 hkz
    go_wp2_with fail
    refine bodyPost_ret (v := .agg #[.int .u8 3, .slice A5 n5 c5]) (by simp [results, Try.results10, go_sem, z0, z1]) rfl ⟨⟨_, rfl, hsz.mono (by have := HT.out; omega)⟩, hbz⟩
end Go.Proofs.Ytbiimgfocgbdaaa
