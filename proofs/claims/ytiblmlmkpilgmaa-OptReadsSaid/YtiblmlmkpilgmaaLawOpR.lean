/- Layer 8: the law OptReads answers true, and nothing that was there has turned. -/
import Derived.Test.YtiblmlmkpilgmaaOp8
import Derived.Test.YtiblmlmkpilgmaaOp9
import Derived.Test.YtiblmlmkpilgmaaOpenOp
import Derived.Test.YtiblmlmkpilgmaaOrdB
namespace Go.Proofs.Ytiblmlmkpilgmaa
open Go.RowKit Go.ChangeShapes Go.WideShapes Go.ChangeAt
set_option linter.unusedVariables false
set_option linter.unusedSimpArgs false
set_option maxRecDepth 20000 in
set_option maxHeartbeats 8000000 in
theorem optReads_walk (kd : Nat) (A : Option Addr) (n c : Nat) (lb : List Nat) (w : World) (h : Rd w w.heap.size 1 A n (ns .u8 lb)) (hnc : n ≤ c) (hb : ∀ x ∈ lb, x < 256) :
    Calls Try.prog 4 #[.agg #[.int .u8 (kd : Int), .slice A n c]] w fun e w' => e = .returned (.bool true) ∧ Below w.heap.size w w' := by
  have hb0 : Below w.heap.size w (w.alloc (.cells #[.int .u8 (kd : Int), .slice A n c] 39)) := (Below.refl _ _).alloc (Nat.le_refl _) _
  have K0 := Lib.hid (Blk.new w 39 #[.int .u8 (kd : Int), .slice A n c])
  have B0 := Lib.hid hb0
  have HR := Lib.hid h
  have HB := Lib.hid hb
  clear hb0 h hb
  go_enter Try.func4, Try.ntmps4
  by_cases hn : 300 < n
  · have hn' : (300 : Int) < (n : Int) := by omega
    go_wp2_with fail
    go_ret
    exact ⟨rfl, B0.out⟩
  have hn' : ¬ (300 : Int) < (n : Int) := by omega
  have hn3 : n ≤ 10000 := by omega
  clear hn
  go_wp2_with fail
  generalize w.alloc (.cells #[.int .u8 (kd : Int), .slice A n c] 39) = w0 at *
  obtain ⟨T, hT⟩ : ∃ T, T = w.heap.size := ⟨_, rfl⟩
  rw [← hT] at K0 ⊢
  have HT := Lib.hid hT
  clear hT
  refine (parseKey_any kd A n c lb w0 (HR.out.into B0.out) hnc HB.out hn3).mono ?_
  rintro e w1 ⟨hp, hb⟩
  obtain ⟨k, t, a, ok, rfl, hR⟩ := keyPost_r hp
  have HP := Lib.hid hR
  have K1 := Lib.hid (K0.out.below hb K0.out.lt)
  have B1 := Lib.hid (B0.out.trans (hb.mono B0.out.size))
  clear hb hp hR K0 B0
  have hba : Below w1.heap.size w1 (w1.alloc (.cells #[.int .u64 (k : Int), .bool a, .int .u64 (t : Int)] 26)) := (Below.refl _ _).alloc (Nat.le_refl _) _
  have K2 := Lib.hid (K1.out.below hba K1.out.lt)
  have B2 := Lib.hid (B1.out.trans (hba.mono B1.out.size))
  have KN := Lib.hid (Blk.new w1 26 #[.int .u64 (k : Int), .bool a, .int .u64 (t : Int)])
  obtain ⟨t0, t1⟩ := ptc2 K2.out
  clear hba K1 B1
  go_wp2_with fail
  generalize w1.alloc (.cells #[.int .u64 (k : Int), .bool a, .int .u64 (t : Int)] 26) = w2 at *
  obtain ⟨N, hN⟩ : ∃ N, N = w1.heap.size := ⟨_, rfl⟩
  rw [← hN] at KN ⊢
  clear hN t0 t1
  refine (rparseKey_any kd A n c lb w2 (HR.out.into B2.out) hnc HB.out hn3).mono ?_
  rintro e w3 ⟨hp, hb⟩
  obtain ⟨k', t', a', ok', rfl, hR⟩ := rkeyPost_r hp
  obtain ⟨rfl, rfl, rfl, rfl⟩ := HP.out.one hR
  have K3 := Lib.hid (K2.out.below hb K2.out.lt)
  have B3 := Lib.hid (B2.out.trans (hb.mono B2.out.size))
  have KN2 := Lib.hid (KN.out.below hb KN.out.lt)
  clear hb hp hR K2 B2 KN
  obtain ⟨y0, y1, y2⟩ := ptc3 KN2.out
  obtain ⟨t0, t1⟩ := ptc2 K3.out
  clear KN2 HP
  go_wp2_with fail
  clear y0 y1 y2 t0 t1
  refine (parseJoin_any kd A n c lb w3 (HR.out.into B3.out) hnc HB.out hn3).mono ?_
  rintro e w4 ⟨hp, hb⟩
  obtain ⟨tk, nc, id, bk, a, t, ok, rfl, hR⟩ := joinPost_r hp
  have HP := Lib.hid hR
  have K4 := Lib.hid (K3.out.below hb K3.out.lt)
  have B4 := Lib.hid (B3.out.trans (hb.mono B3.out.size))
  clear hb hp hR K3 B3
  have hba : Below w4.heap.size w4 (w4.alloc (.cells #[.int .u32 (tk : Int), .int .u32 (nc : Int), .int .u8 (id : Int), .bool bk, .bool a, .int .u64 (t : Int)] 29)) := (Below.refl _ _).alloc (Nat.le_refl _) _
  have K5 := Lib.hid (K4.out.below hba K4.out.lt)
  have B5 := Lib.hid (B4.out.trans (hba.mono B4.out.size))
  have KN := Lib.hid (Blk.new w4 29 #[.int .u32 (tk : Int), .int .u32 (nc : Int), .int .u8 (id : Int), .bool bk, .bool a, .int .u64 (t : Int)])
  obtain ⟨t0, t1⟩ := ptc2 K5.out
  clear hba K4 B4
  go_wp2_with fail
  generalize w4.alloc (.cells #[.int .u32 (tk : Int), .int .u32 (nc : Int), .int .u8 (id : Int), .bool bk, .bool a, .int .u64 (t : Int)] 29) = w5 at *
  obtain ⟨N, hN⟩ : ∃ N, N = w4.heap.size := ⟨_, rfl⟩
  rw [← hN] at KN ⊢
  clear hN t0 t1
  refine (rparseJoin_any kd A n c lb w5 (HR.out.into B5.out) hnc HB.out hn3).mono ?_
  rintro e w6 ⟨hp, hb⟩
  obtain ⟨tk', nc', id', bk', a', t', ok', rfl, hR⟩ := rjoinPost_r hp
  obtain ⟨rfl, rfl, rfl, rfl, rfl, rfl, rfl⟩ := HP.out.one hR
  have K6 := Lib.hid (K5.out.below hb K5.out.lt)
  have B6 := Lib.hid (B5.out.trans (hb.mono B5.out.size))
  have KN2 := Lib.hid (KN.out.below hb KN.out.lt)
  clear hb hp hR K5 B5 KN
  have hba : Below w6.heap.size w6 (w6.alloc (.cells #[.int .u32 (tk : Int), .int .u32 (nc : Int), .int .u8 (id : Int), .bool bk, .bool a, .int .u64 (t : Int)] 44)) := (Below.refl _ _).alloc (Nat.le_refl _) _
  have K7 := Lib.hid (K6.out.below hba K6.out.lt)
  have B7 := Lib.hid (B6.out.trans (hba.mono B6.out.size))
  have KN3 := Lib.hid (KN2.out.below hba KN2.out.lt)
  have KR := Lib.hid (Blk.new w6 44 #[.int .u32 (tk : Int), .int .u32 (nc : Int), .int .u8 (id : Int), .bool bk, .bool a, .int .u64 (t : Int)])
  clear hba K6 B6 KN2
  go_wp2_with fail
  generalize w6.alloc (.cells #[.int .u32 (tk : Int), .int .u32 (nc : Int), .int .u8 (id : Int), .bool bk, .bool a, .int .u64 (t : Int)] 44) = w7 at *
  obtain ⟨N2, hN⟩ : ∃ N, N = w6.heap.size := ⟨_, rfl⟩
  rw [← hN] at KR ⊢
  clear hN
  refine OB.wp_ord [(0, .pure), (1, .pure), (2, .pure), (3, .pure), (4, .read), (6, .read), (5, .sole), (7, .pure), (8, .pure)] ⟨fun k => k < w7.heap.size, []⟩ (by kernel_rfl) (by kernel_rfl) (fun QQ hQ wd hwd => ?_); (try simp only [List.map_cons, List.map_nil, List.getD_cons_zero, List.getD_cons_succ])
  have hD : Below w7.heap.size w7 wd := by rw [hwd.out]; exact (Below.refl _ _).drew
  have KD := Lib.hid (K7.out.below hD K7.out.lt)
  have BD := Lib.hid (B7.out.trans (hD.mono B7.out.size))
  have KN4 := Lib.hid (KN3.out.below hD KN3.out.lt)
  have KR4 := Lib.hid (KR.out.below hD KR.out.lt)
  have hNl := KN3.out.lt
  have hN2l := KR.out.lt
  have hDs := hD.size
  clear hwd hD KN3 KR K7 B7
  (refine OB.o_pure (v := ?_) (by rfl) (fun w' => ?_) ?_; rotate_left; (focus (go_simp; (try with_reducible rfl))); (try simp only [Act.put, List.setIfInBounds_toArray, List.set_cons_zero, List.set_cons_succ]))
  (refine OB.o_pure (v := ?_) (by rfl) (fun w' => ?_) ?_; rotate_left; (focus (go_simp; (try with_reducible rfl))); (try simp only [Act.put, List.setIfInBounds_toArray, List.set_cons_zero, List.set_cons_succ]))
  (refine OB.o_pure (v := ?_) (by rfl) (fun w' => ?_) ?_; rotate_left; (focus (go_simp; (try with_reducible rfl))); (try simp only [Act.put, List.setIfInBounds_toArray, List.set_cons_zero, List.set_cons_succ]))
  (refine OB.o_pure (v := ?_) (by rfl) (fun w' => ?_) ?_; rotate_left; (focus (go_simp; (try with_reducible rfl))); (try simp only [Act.put, List.setIfInBounds_toArray, List.set_cons_zero, List.set_cons_succ]))
  (refine OB.o_loads _ [.int .u32 (tk : Int), .int .u32 (nc : Int), .int .u8 (id : Int), .bool bk, .bool a, .int .u64 (t : Int)] (by rfl) rfl rfl (by dsimp only; first | assumption | omega) (cells_of KN4.out) (Nat.succ_pos _) (by kernel_rfl) (by kernel_rfl) ?_; simp only [Act.put, List.setIfInBounds_toArray, List.set_cons_zero, List.set_cons_succ])
  (refine OB.o_loads _ [.int .u32 (tk : Int), .int .u32 (nc : Int), .int .u8 (id : Int), .bool bk, .bool a, .int .u64 (t : Int)] (by rfl) rfl rfl (by dsimp only; first | assumption | omega) (cells_of KR4.out) (Nat.succ_pos _) (by kernel_rfl) (by kernel_rfl) ?_; simp only [Act.put, List.setIfInBounds_toArray, List.set_cons_zero, List.set_cons_succ])
  refine OB.o_sole (fun K hK => ?_)
  go_wp2_with fail
  refine (ljoin_any tk nc id t bk a wd).mono ?_
  rintro e w8 ⟨rfl, hb⟩
  have K8 := Lib.hid (KD.out.below hb KD.out.lt)
  have B8 := Lib.hid (BD.out.trans (hb.mono BD.out.size))
  go_wp2_with fail
  refine hK _ _ (fun _ => OB.ExtB.at_ hb (fun k hk => Nat.lt_of_lt_of_le hk hDs)) ?_; clear hK K
  clear hb KD BD KN4 KR4 hNl hN2l hDs
  (refine OB.o_pure (v := ?_) (by rfl) (fun w' => ?_) ?_; rotate_left; (focus (go_simp; (try with_reducible rfl))); (try simp only [Act.put, List.setIfInBounds_toArray, List.set_cons_zero, List.set_cons_succ]))
  (refine OB.o_pure (v := ?_) (by rfl) (fun w' => ?_) ?_; rotate_left; (focus (go_simp; (try with_reducible rfl))); (try simp only [Act.put, List.setIfInBounds_toArray, List.set_cons_zero, List.set_cons_succ]))
  refine OB.o_nil (hQ.out _ _ ?_); clear hQ QQ
  obtain ⟨t0, t1⟩ := ptc2 K8.out
  clear HP
  go_wp2_with fail
  clear t0 t1
  refine (parseData_any kd A n c lb w8 (HR.out.into B8.out) hnc HB.out hn3).mono ?_
  rintro e w9 ⟨hp, hb⟩
  obtain ⟨f, p, sq, ak, wn, t, ok, rfl, hR⟩ := dataPost_r hp
  have HP := Lib.hid hR
  have K9 := Lib.hid (K8.out.below hb K8.out.lt)
  have B9 := Lib.hid (B8.out.trans (hb.mono B8.out.size))
  clear hb hp hR K8 B8
  have hba : Below w9.heap.size w9 (w9.alloc (.cells #[.bool f, .bool p, .int .u64 (sq : Int), .int .u64 (ak : Int), .int .u32 (wn : Int), .int .u64 (t : Int)] 31)) := (Below.refl _ _).alloc (Nat.le_refl _) _
  have K10 := Lib.hid (K9.out.below hba K9.out.lt)
  have B10 := Lib.hid (B9.out.trans (hba.mono B9.out.size))
  have KN := Lib.hid (Blk.new w9 31 #[.bool f, .bool p, .int .u64 (sq : Int), .int .u64 (ak : Int), .int .u32 (wn : Int), .int .u64 (t : Int)])
  obtain ⟨t0, t1⟩ := ptc2 K10.out
  clear hba K9 B9
  go_wp2_with fail
  generalize w9.alloc (.cells #[.bool f, .bool p, .int .u64 (sq : Int), .int .u64 (ak : Int), .int .u32 (wn : Int), .int .u64 (t : Int)] 31) = w10 at *
  obtain ⟨N, hN⟩ : ∃ N, N = w9.heap.size := ⟨_, rfl⟩
  rw [← hN] at KN ⊢
  clear hN t0 t1
  refine (rparseData_any kd A n c lb w10 (HR.out.into B10.out) hnc HB.out hn3).mono ?_
  rintro e w11 ⟨hp, hb⟩
  obtain ⟨f', p', sq', ak', wn', t', ok', rfl, hR⟩ := rdataPost_r hp
  obtain ⟨rfl, rfl, rfl, rfl, rfl, rfl, rfl⟩ := HP.out.one hR
  have K11 := Lib.hid (K10.out.below hb K10.out.lt)
  have B11 := Lib.hid (B10.out.trans (hb.mono B10.out.size))
  have KN2 := Lib.hid (KN.out.below hb KN.out.lt)
  clear hb hp hR K10 B10 KN
  have hba : Below w11.heap.size w11 (w11.alloc (.cells #[.bool f, .bool p, .int .u64 (sq : Int), .int .u64 (ak : Int), .int .u32 (wn : Int), .int .u64 (t : Int)] 48)) := (Below.refl _ _).alloc (Nat.le_refl _) _
  have K12 := Lib.hid (K11.out.below hba K11.out.lt)
  have B12 := Lib.hid (B11.out.trans (hba.mono B11.out.size))
  have KN3 := Lib.hid (KN2.out.below hba KN2.out.lt)
  have KR := Lib.hid (Blk.new w11 48 #[.bool f, .bool p, .int .u64 (sq : Int), .int .u64 (ak : Int), .int .u32 (wn : Int), .int .u64 (t : Int)])
  clear hba K11 B11 KN2
  go_wp2_with fail
  generalize w11.alloc (.cells #[.bool f, .bool p, .int .u64 (sq : Int), .int .u64 (ak : Int), .int .u32 (wn : Int), .int .u64 (t : Int)] 48) = w12 at *
  obtain ⟨N2, hN⟩ : ∃ N, N = w11.heap.size := ⟨_, rfl⟩
  rw [← hN] at KR ⊢
  clear hN
  refine OB.wp_ord [(0, .pure), (1, .pure), (2, .pure), (3, .pure), (4, .read), (6, .read), (5, .sole), (7, .pure), (8, .pure)] ⟨fun k => k < w12.heap.size, []⟩ (by kernel_rfl) (by kernel_rfl) (fun QQ hQ wd hwd => ?_); (try simp only [List.map_cons, List.map_nil, List.getD_cons_zero, List.getD_cons_succ])
  have hD : Below w12.heap.size w12 wd := by rw [hwd.out]; exact (Below.refl _ _).drew
  have KD := Lib.hid (K12.out.below hD K12.out.lt)
  have BD := Lib.hid (B12.out.trans (hD.mono B12.out.size))
  have KN4 := Lib.hid (KN3.out.below hD KN3.out.lt)
  have KR4 := Lib.hid (KR.out.below hD KR.out.lt)
  have hNl := KN3.out.lt
  have hN2l := KR.out.lt
  have hDs := hD.size
  clear hwd hD KN3 KR K12 B12
  (refine OB.o_pure (v := ?_) (by rfl) (fun w' => ?_) ?_; rotate_left; (focus (go_simp; (try with_reducible rfl))); (try simp only [Act.put, List.setIfInBounds_toArray, List.set_cons_zero, List.set_cons_succ]))
  (refine OB.o_pure (v := ?_) (by rfl) (fun w' => ?_) ?_; rotate_left; (focus (go_simp; (try with_reducible rfl))); (try simp only [Act.put, List.setIfInBounds_toArray, List.set_cons_zero, List.set_cons_succ]))
  (refine OB.o_pure (v := ?_) (by rfl) (fun w' => ?_) ?_; rotate_left; (focus (go_simp; (try with_reducible rfl))); (try simp only [Act.put, List.setIfInBounds_toArray, List.set_cons_zero, List.set_cons_succ]))
  (refine OB.o_pure (v := ?_) (by rfl) (fun w' => ?_) ?_; rotate_left; (focus (go_simp; (try with_reducible rfl))); (try simp only [Act.put, List.setIfInBounds_toArray, List.set_cons_zero, List.set_cons_succ]))
  (refine OB.o_loads _ [.bool f, .bool p, .int .u64 (sq : Int), .int .u64 (ak : Int), .int .u32 (wn : Int), .int .u64 (t : Int)] (by rfl) rfl rfl (by dsimp only; first | assumption | omega) (cells_of KN4.out) (Nat.succ_pos _) (by kernel_rfl) (by kernel_rfl) ?_; simp only [Act.put, List.setIfInBounds_toArray, List.set_cons_zero, List.set_cons_succ])
  (refine OB.o_loads _ [.bool f, .bool p, .int .u64 (sq : Int), .int .u64 (ak : Int), .int .u32 (wn : Int), .int .u64 (t : Int)] (by rfl) rfl rfl (by dsimp only; first | assumption | omega) (cells_of KR4.out) (Nat.succ_pos _) (by kernel_rfl) (by kernel_rfl) ?_; simp only [Act.put, List.setIfInBounds_toArray, List.set_cons_zero, List.set_cons_succ])
  refine OB.o_sole (fun K hK => ?_)
  go_wp2_with fail
  refine (ldata_any f p sq ak wn t wd).mono ?_
  rintro e w13 ⟨rfl, hb⟩
  have K13 := Lib.hid (KD.out.below hb KD.out.lt)
  have B13 := Lib.hid (BD.out.trans (hb.mono BD.out.size))
  go_wp2_with fail
  refine hK _ _ (fun _ => OB.ExtB.at_ hb (fun k hk => Nat.lt_of_lt_of_le hk hDs)) ?_; clear hK K
  clear hb KD BD KN4 KR4 hNl hN2l hDs
  (refine OB.o_pure (v := ?_) (by rfl) (fun w' => ?_) ?_; rotate_left; (focus (go_simp; (try with_reducible rfl))); (try simp only [Act.put, List.setIfInBounds_toArray, List.set_cons_zero, List.set_cons_succ]))
  (refine OB.o_pure (v := ?_) (by rfl) (fun w' => ?_) ?_; rotate_left; (focus (go_simp; (try with_reducible rfl))); (try simp only [Act.put, List.setIfInBounds_toArray, List.set_cons_zero, List.set_cons_succ]))
  refine OB.o_nil (hQ.out _ _ ?_); clear hQ QQ
  obtain ⟨t0, t1⟩ := ptc2 K13.out
  clear HP
  go_wp2_with fail
  clear t0 t1
  refine (parseWord_any kd A n c lb w13 (HR.out.into B13.out) hnc HB.out hn3).mono ?_
  rintro e w14 ⟨hp, hb⟩
  obtain ⟨kk, nm, id, pa, bk, t, ok, rfl, hR, hkk⟩ := wordPost_r hp
  have HKK := Lib.hid hkk
  clear hkk
  have HP := Lib.hid hR
  have K14 := Lib.hid (K13.out.below hb K13.out.lt)
  have B14 := Lib.hid (B13.out.trans (hb.mono B13.out.size))
  clear hb hp hR K13 B13
  have hba : Below w14.heap.size w14 (w14.alloc (.cells #[.int .u8 (kk : Int), .int .u32 (nm : Int), .int .u8 (id : Int), .int .u8 (pa : Int), .bool bk, .int .u64 (t : Int)] 33)) := (Below.refl _ _).alloc (Nat.le_refl _) _
  have K15 := Lib.hid (K14.out.below hba K14.out.lt)
  have B15 := Lib.hid (B14.out.trans (hba.mono B14.out.size))
  have KN := Lib.hid (Blk.new w14 33 #[.int .u8 (kk : Int), .int .u32 (nm : Int), .int .u8 (id : Int), .int .u8 (pa : Int), .bool bk, .int .u64 (t : Int)])
  obtain ⟨t0, t1⟩ := ptc2 K15.out
  clear hba K14 B14
  go_wp2_with fail
  generalize w14.alloc (.cells #[.int .u8 (kk : Int), .int .u32 (nm : Int), .int .u8 (id : Int), .int .u8 (pa : Int), .bool bk, .int .u64 (t : Int)] 33) = w15 at *
  obtain ⟨N, hN⟩ : ∃ N, N = w14.heap.size := ⟨_, rfl⟩
  rw [← hN] at KN ⊢
  clear hN t0 t1
  refine (rparseWord_any kd A n c lb w15 (HR.out.into B15.out) hnc HB.out hn3).mono ?_
  rintro e w16 ⟨hp, hb⟩
  obtain ⟨nm', id', pa', bk', t', ok', rfl, hR⟩ := rwordPost_r hp
  obtain ⟨rfl, rfl, rfl, rfl, rfl, rfl⟩ := HP.out.one hR
  have K16 := Lib.hid (K15.out.below hb K15.out.lt)
  have B16 := Lib.hid (B15.out.trans (hb.mono B15.out.size))
  have KN2 := Lib.hid (KN.out.below hb KN.out.lt)
  clear hb hp hR K15 B15 KN
  have hba : Below w16.heap.size w16 (w16.alloc (.cells #[.int .u32 (nm : Int), .int .u8 (id : Int), .int .u8 (pa : Int), .bool bk, .int .u64 (t : Int)] 52)) := (Below.refl _ _).alloc (Nat.le_refl _) _
  have K17 := Lib.hid (K16.out.below hba K16.out.lt)
  have B17 := Lib.hid (B16.out.trans (hba.mono B16.out.size))
  have KN3 := Lib.hid (KN2.out.below hba KN2.out.lt)
  have KR := Lib.hid (Blk.new w16 52 #[.int .u32 (nm : Int), .int .u8 (id : Int), .int .u8 (pa : Int), .bool bk, .int .u64 (t : Int)])
  clear hba K16 B16 KN2
  go_wp2_with fail
  generalize w16.alloc (.cells #[.int .u32 (nm : Int), .int .u8 (id : Int), .int .u8 (pa : Int), .bool bk, .int .u64 (t : Int)] 52) = w17 at *
  obtain ⟨N2, hN⟩ : ∃ N, N = w16.heap.size := ⟨_, rfl⟩
  rw [← hN] at KR ⊢
  clear hN
  cases ok
  ·
    obtain rfl : kk = 0 := HKK.out
    refine OB.wp_ord [(0, .pure), (1, .pure), (2, .pure), (3, .pure), (4, .read), (6, .read), (5, .sole), (7, .pure), (8, .pure), (9, .pure), (10, .pure), (11, .pure), (12, .pure), (13, .pure), (14, .read), (15, .pure), (16, .read), (17, .pure), (18, .pure), (19, .pure), (20, .pure), (21, .pure), (22, .pure), (23, .pure), (24, .read), (25, .pure), (26, .pure), (27, .pure), (28, .pure), (29, .sole), (30, .pure), (31, .pure)] ⟨fun k => k < w17.heap.size, []⟩ (by kernel_rfl) (by kernel_rfl) (fun QQ hQ wd hwd => ?_); (try simp only [List.map_cons, List.map_nil, List.getD_cons_zero, List.getD_cons_succ])
    have hD : Below w17.heap.size w17 wd := by rw [hwd.out]; exact (Below.refl _ _).drew
    have KD := Lib.hid (K17.out.below hD K17.out.lt)
    have BD := Lib.hid (B17.out.trans (hD.mono B17.out.size))
    have KN4 := Lib.hid (KN3.out.below hD KN3.out.lt)
    have KR4 := Lib.hid (KR.out.below hD KR.out.lt)
    have hTl := K17.out.lt
    have hNl := KN3.out.lt
    have hN2l := KR.out.lt
    have hDs := hD.size
    clear hwd hD KN3 KR K17 B17
    have tk0 := (ptc6 KN4.out).1
    have to0 := (ptc2 KD.out).1
    (refine OB.o_pure (v := ?_) (by rfl) (fun w' => ?_) ?_; rotate_left; (focus (go_simp; (try with_reducible rfl))); (try simp only [Act.put, List.setIfInBounds_toArray, List.set_cons_zero, List.set_cons_succ]))
    (refine OB.o_pure (v := ?_) (by rfl) (fun w' => ?_) ?_; rotate_left; (focus (go_simp; (try with_reducible rfl))); (try simp only [Act.put, List.setIfInBounds_toArray, List.set_cons_zero, List.set_cons_succ]))
    (refine OB.o_pure (v := ?_) (by rfl) (fun w' => ?_) ?_; rotate_left; (focus (go_simp; (try with_reducible rfl))); (try simp only [Act.put, List.setIfInBounds_toArray, List.set_cons_zero, List.set_cons_succ]))
    (refine OB.o_pure (v := ?_) (by rfl) (fun w' => ?_) ?_; rotate_left; (focus (go_simp; (try with_reducible rfl))); (try simp only [Act.put, List.setIfInBounds_toArray, List.set_cons_zero, List.set_cons_succ]))
    (refine OB.o_loads _ [.int .u8 0, .int .u32 (nm : Int), .int .u8 (id : Int), .int .u8 (pa : Int), .bool bk, .int .u64 (t : Int)] (by rfl) rfl rfl (by dsimp only; first | assumption | omega) (cells_of KN4.out) (Nat.succ_pos _) (by kernel_rfl) (by kernel_rfl) ?_; simp only [Act.put, List.setIfInBounds_toArray, List.set_cons_zero, List.set_cons_succ])
    (refine OB.o_loads _ [.int .u32 (nm : Int), .int .u8 (id : Int), .int .u8 (pa : Int), .bool bk, .int .u64 (t : Int)] (by rfl) rfl rfl (by dsimp only; first | assumption | omega) (cells_of KR4.out) (Nat.succ_pos _) (by kernel_rfl) (by kernel_rfl) ?_; simp only [Act.put, List.setIfInBounds_toArray, List.set_cons_zero, List.set_cons_succ])
    refine OB.o_sole (fun K hK => ?_)
    go_wp2_with fail
    refine (lword_any 0 nm id pa t bk wd).mono ?_
    rintro e w18 ⟨rfl, hb⟩
    have B18 := Lib.hid (BD.out.trans (hb.mono BD.out.size))
    have tk1 := (ptc6 (KN4.out.below hb KN4.out.lt)).1
    have to1 := (ptc2 (KD.out.below hb KD.out.lt)).1
    have hs1 := hb.size
    go_wp2_with fail
    refine hK _ _ (fun _ => OB.ExtB.at_ hb (fun k hk => Nat.lt_of_lt_of_le hk hDs)) ?_; clear hK K
    clear hb tk0 to0 KN4 KR4 KD BD
    (refine OB.o_pure (v := ?_) (by rfl) (fun w' => ?_) ?_; rotate_left; (focus (go_simp; (try with_reducible rfl))); (try simp only [Act.put, List.setIfInBounds_toArray, List.set_cons_zero, List.set_cons_succ]))
    (refine OB.o_pure (v := ?_) (by rfl) (fun w' => ?_) ?_; rotate_left; (focus (go_simp; (try with_reducible rfl))); (try simp only [Act.put, List.setIfInBounds_toArray, List.set_cons_zero, List.set_cons_succ]))
    (refine OB.o_pure (v := ?_) (by rfl) (fun w' => ?_) ?_; rotate_left; (focus (go_simp; (try with_reducible rfl))); (try simp only [Act.put, List.setIfInBounds_toArray, List.set_cons_zero, List.set_cons_succ]))
    (refine OB.o_pure (v := ?_) (by rfl) (fun w' => ?_) ?_; rotate_left; (focus (go_simp; (try with_reducible rfl))); (try simp only [Act.put, List.setIfInBounds_toArray, List.set_cons_zero, List.set_cons_succ]))
    (refine OB.o_pure (v := ?_) (by rfl) (fun w' => ?_) ?_; rotate_left; (focus (go_simp; (try with_reducible rfl))); (try simp only [Act.put, List.setIfInBounds_toArray, List.set_cons_zero, List.set_cons_succ]))
    (refine OB.o_pure (v := ?_) (by rfl) (fun w' => ?_) ?_; rotate_left; (focus (go_simp; (try with_reducible rfl))); (try simp only [Act.put, List.setIfInBounds_toArray, List.set_cons_zero, List.set_cons_succ]))
    (refine OB.o_skip (by intro h; cases h) (by rfl) ?_; simp only [Act.put, List.setIfInBounds_toArray, List.set_cons_zero, List.set_cons_succ])
    (refine OB.o_skip (by intro h; cases h) (by rfl) ?_; simp only [Act.put, List.setIfInBounds_toArray, List.set_cons_zero, List.set_cons_succ])
    (refine OB.o_skip (by intro h; cases h) (by rfl) ?_; simp only [Act.put, List.setIfInBounds_toArray, List.set_cons_zero, List.set_cons_succ])
    (refine OB.o_skip (by intro h; cases h) (by rfl) ?_; simp only [Act.put, List.setIfInBounds_toArray, List.set_cons_zero, List.set_cons_succ])
    (refine OB.o_skip (by intro h; cases h) (by rfl) ?_; simp only [Act.put, List.setIfInBounds_toArray, List.set_cons_zero, List.set_cons_succ])
    (refine OB.o_pure (v := ?_) (by rfl) (fun w' => ?_) ?_; rotate_left; (focus (go_simp; (try with_reducible rfl))); (try simp only [Act.put, List.setIfInBounds_toArray, List.set_cons_zero, List.set_cons_succ]))
    (refine OB.o_pure (v := ?_) (by rfl) (fun w' => ?_) ?_; rotate_left; (focus (go_simp; (try with_reducible rfl))); (try simp only [Act.put, List.setIfInBounds_toArray, List.set_cons_zero, List.set_cons_succ]))
    (refine OB.o_pure (v := ?_) (by rfl) (fun w' => ?_) ?_; rotate_left; (focus (go_simp; (try with_reducible rfl))); (try simp only [Act.put, List.setIfInBounds_toArray, List.set_cons_zero, List.set_cons_succ]))
    (refine OB.o_pure (v := ?_) (by rfl) (fun w' => ?_) ?_; rotate_left; (focus (go_simp; (try with_reducible rfl))); (try simp only [Act.put, List.setIfInBounds_toArray, List.set_cons_zero, List.set_cons_succ]))
    (refine OB.o_pure (v := ?_) (by rfl) (fun w' => ?_) ?_; rotate_left; (focus (go_simp; (try with_reducible rfl))); (try simp only [Act.put, List.setIfInBounds_toArray, List.set_cons_zero, List.set_cons_succ]))
    (refine OB.o_pure (v := ?_) (by rfl) (fun w' => ?_) ?_; rotate_left; (focus (go_simp; (try with_reducible rfl))); (try simp only [Act.put, List.setIfInBounds_toArray, List.set_cons_zero, List.set_cons_succ]))
    (refine OB.o_load _ (by rfl) rfl rfl (by dsimp only; first | assumption | omega) (by assumption) (by kernel_rfl) ?_; simp only [Act.put, List.setIfInBounds_toArray, List.set_cons_zero, List.set_cons_succ])
    (refine OB.o_pure (v := ?_) (by rfl) (fun w' => ?_) ?_; rotate_left; (focus (go_simp; (try with_reducible rfl))); (try simp only [Act.put, List.setIfInBounds_toArray, List.set_cons_zero, List.set_cons_succ]))
    (refine OB.o_pure (v := ?_) (by rfl) (fun w' => ?_) ?_; rotate_left; (focus (go_simp; (try with_reducible rfl))); (try simp only [Act.put, List.setIfInBounds_toArray, List.set_cons_zero, List.set_cons_succ]))
    (refine OB.o_pure (v := ?_) (by rfl) (fun w' => ?_) ?_; rotate_left; (focus (go_simp; (try with_reducible rfl))); (try simp only [Act.put, List.setIfInBounds_toArray, List.set_cons_zero, List.set_cons_succ]))
    (refine OB.o_pure (v := ?_) (by rfl) (fun w' => ?_) ?_; rotate_left; (focus (go_simp; (try with_reducible rfl))); (try simp only [Act.put, List.setIfInBounds_toArray, List.set_cons_zero, List.set_cons_succ]))
    clear tk1 to1
    refine OB.o_sole (fun K hK => ?_)
    go_wp2_with fail
    refine (oalive_any w18).mono ?_
    rintro e w19 ⟨rfl, hb⟩
    have B19 := Lib.hid (B18.out.trans (hb.mono B18.out.size))
    go_wp2_with fail
    refine hK _ _ (fun _ => OB.ExtB.at_ hb (fun k hk => Nat.lt_of_lt_of_le hk (Nat.le_trans hDs hs1))) ?_; clear hK K
    (refine OB.o_pure (v := ?_) (by rfl) (fun w' => ?_) ?_; rotate_left; (focus (go_simp; (try with_reducible rfl))); (try simp only [Act.put, List.setIfInBounds_toArray, List.set_cons_zero, List.set_cons_succ]))
    (refine OB.o_pure (v := ?_) (by rfl) (fun w' => ?_) ?_; rotate_left; (focus (go_simp; (try with_reducible rfl))); (try simp only [Act.put, List.setIfInBounds_toArray, List.set_cons_zero, List.set_cons_succ]))
    refine OB.o_nil (hQ.out _ _ ?_); clear hQ QQ
    go_wp2_with fail
    go_ret
    exact ⟨rfl, B19.out⟩
  ·
    obtain rfl : kk = kd := HKK.out
    refine OB.wp_ord [(0, .pure), (1, .pure), (2, .pure), (3, .pure), (4, .read), (6, .read), (5, .sole), (7, .pure), (8, .pure), (9, .pure), (10, .pure), (11, .pure), (12, .pure), (13, .pure), (14, .read), (15, .pure), (16, .read), (17, .pure), (18, .pure), (19, .pure), (20, .pure), (21, .pure), (22, .pure), (23, .pure), (24, .read), (25, .pure), (26, .pure), (27, .pure), (28, .pure), (29, .sole), (30, .pure), (31, .pure)] ⟨fun k => k < w17.heap.size, []⟩ (by kernel_rfl) (by kernel_rfl) (fun QQ hQ wd hwd => ?_); (try simp only [List.map_cons, List.map_nil, List.getD_cons_zero, List.getD_cons_succ])
    have hD : Below w17.heap.size w17 wd := by rw [hwd.out]; exact (Below.refl _ _).drew
    have KD := Lib.hid (K17.out.below hD K17.out.lt)
    have BD := Lib.hid (B17.out.trans (hD.mono B17.out.size))
    have KN4 := Lib.hid (KN3.out.below hD KN3.out.lt)
    have KR4 := Lib.hid (KR.out.below hD KR.out.lt)
    have hTl := K17.out.lt
    have hNl := KN3.out.lt
    have hN2l := KR.out.lt
    have hDs := hD.size
    clear hwd hD KN3 KR K17 B17
    have tk0 := (ptc6 KN4.out).1
    have to0 := (ptc2 KD.out).1
    (refine OB.o_pure (v := ?_) (by rfl) (fun w' => ?_) ?_; rotate_left; (focus (go_simp; (try with_reducible rfl))); (try simp only [Act.put, List.setIfInBounds_toArray, List.set_cons_zero, List.set_cons_succ]))
    (refine OB.o_pure (v := ?_) (by rfl) (fun w' => ?_) ?_; rotate_left; (focus (go_simp; (try with_reducible rfl))); (try simp only [Act.put, List.setIfInBounds_toArray, List.set_cons_zero, List.set_cons_succ]))
    (refine OB.o_pure (v := ?_) (by rfl) (fun w' => ?_) ?_; rotate_left; (focus (go_simp; (try with_reducible rfl))); (try simp only [Act.put, List.setIfInBounds_toArray, List.set_cons_zero, List.set_cons_succ]))
    (refine OB.o_pure (v := ?_) (by rfl) (fun w' => ?_) ?_; rotate_left; (focus (go_simp; (try with_reducible rfl))); (try simp only [Act.put, List.setIfInBounds_toArray, List.set_cons_zero, List.set_cons_succ]))
    (refine OB.o_loads _ [.int .u8 (kk : Int), .int .u32 (nm : Int), .int .u8 (id : Int), .int .u8 (pa : Int), .bool bk, .int .u64 (t : Int)] (by rfl) rfl rfl (by dsimp only; first | assumption | omega) (cells_of KN4.out) (Nat.succ_pos _) (by kernel_rfl) (by kernel_rfl) ?_; simp only [Act.put, List.setIfInBounds_toArray, List.set_cons_zero, List.set_cons_succ])
    (refine OB.o_loads _ [.int .u32 (nm : Int), .int .u8 (id : Int), .int .u8 (pa : Int), .bool bk, .int .u64 (t : Int)] (by rfl) rfl rfl (by dsimp only; first | assumption | omega) (cells_of KR4.out) (Nat.succ_pos _) (by kernel_rfl) (by kernel_rfl) ?_; simp only [Act.put, List.setIfInBounds_toArray, List.set_cons_zero, List.set_cons_succ])
    refine OB.o_sole (fun K hK => ?_)
    go_wp2_with fail
    refine (lword_any kk nm id pa t bk wd).mono ?_
    rintro e w18 ⟨rfl, hb⟩
    have B18 := Lib.hid (BD.out.trans (hb.mono BD.out.size))
    have tk1 := (ptc6 (KN4.out.below hb KN4.out.lt)).1
    have to1 := (ptc2 (KD.out.below hb KD.out.lt)).1
    have hs1 := hb.size
    go_wp2_with fail
    refine hK _ _ (fun _ => OB.ExtB.at_ hb (fun k hk => Nat.lt_of_lt_of_le hk hDs)) ?_; clear hK K
    clear hb tk0 to0 KN4 KR4 KD BD
    (refine OB.o_pure (v := ?_) (by rfl) (fun w' => ?_) ?_; rotate_left; (focus (go_simp; (try with_reducible rfl))); (try simp only [Act.put, List.setIfInBounds_toArray, List.set_cons_zero, List.set_cons_succ]))
    (refine OB.o_pure (v := ?_) (by rfl) (fun w' => ?_) ?_; rotate_left; (focus (go_simp; (try with_reducible rfl))); (try simp only [Act.put, List.setIfInBounds_toArray, List.set_cons_zero, List.set_cons_succ]))
    (refine OB.o_pure (v := ?_) (by rfl) (fun w' => ?_) ?_; rotate_left; (focus (go_simp; (try with_reducible rfl))); (try simp only [Act.put, List.setIfInBounds_toArray, List.set_cons_zero, List.set_cons_succ]))
    (refine OB.o_pure (v := ?_) (by rfl) (fun w' => ?_) ?_; rotate_left; (focus (go_simp; (try with_reducible rfl))); (try simp only [Act.put, List.setIfInBounds_toArray, List.set_cons_zero, List.set_cons_succ]))
    (refine OB.o_pure (v := ?_) (by rfl) (fun w' => ?_) ?_; rotate_left; (focus (go_simp; (try with_reducible rfl))); (try simp only [Act.put, List.setIfInBounds_toArray, List.set_cons_zero, List.set_cons_succ]))
    (refine OB.o_pure (v := ?_) (by rfl) (fun w' => ?_) ?_; rotate_left; (focus (go_simp; (try with_reducible rfl))); (try simp only [Act.put, List.setIfInBounds_toArray, List.set_cons_zero, List.set_cons_succ]))
    (refine OB.o_pure (v := ?_) (by rfl) (fun w' => ?_) ?_; rotate_left; (focus (go_simp; (try with_reducible rfl))); (try simp only [Act.put, List.setIfInBounds_toArray, List.set_cons_zero, List.set_cons_succ]))
    (refine OB.o_load _ (by rfl) rfl rfl (by dsimp only; first | assumption | omega) (by assumption) (by kernel_rfl) ?_; simp only [Act.put, List.setIfInBounds_toArray, List.set_cons_zero, List.set_cons_succ])
    (refine OB.o_pure (v := ?_) (by rfl) (fun w' => ?_) ?_; rotate_left; (focus (go_simp; (try with_reducible rfl))); (try simp only [Act.put, List.setIfInBounds_toArray, List.set_cons_zero, List.set_cons_succ]))
    (refine OB.o_load _ (by rfl) rfl rfl (by dsimp only; first | assumption | omega) (by assumption) (by kernel_rfl) ?_; simp only [Act.put, List.setIfInBounds_toArray, List.set_cons_zero, List.set_cons_succ])
    (refine OB.o_pure (v := ?_) (by rfl) (fun w' => ?_) ?_; rotate_left; (focus (go_simp; (try with_reducible rfl))); (try simp only [Act.put, List.setIfInBounds_toArray, List.set_cons_zero, List.set_cons_succ]))
    (refine OB.o_pure (v := ?_) (by rfl) (fun w' => ?_) ?_; rotate_left; (focus (go_simp; (try with_reducible rfl))); (try simp only [Act.put, List.setIfInBounds_toArray, List.set_cons_zero, List.set_cons_succ]))
    (refine OB.o_pure (v := ?_) (by rfl) (fun w' => ?_) ?_; rotate_left; (focus (go_simp; (try with_reducible rfl))); (try simp only [Act.put, List.setIfInBounds_toArray, List.set_cons_zero, List.set_cons_succ]))
    (refine OB.o_pure (v := ?_) (by rfl) (fun w' => ?_) ?_; rotate_left; (focus (go_simp; (try with_reducible rfl))); (try simp only [Act.put, List.setIfInBounds_toArray, List.set_cons_zero, List.set_cons_succ]))
    (refine OB.o_pure (v := ?_) (by rfl) (fun w' => ?_) ?_; rotate_left; (focus (go_simp; (try with_reducible rfl))); (try simp only [Act.put, List.setIfInBounds_toArray, List.set_cons_zero, List.set_cons_succ]))
    (refine OB.o_pure (v := ?_) (by rfl) (fun w' => ?_) ?_; rotate_left; (focus (go_simp; (try with_reducible rfl))); (try simp only [Act.put, List.setIfInBounds_toArray, List.set_cons_zero, List.set_cons_succ]))
    (refine OB.o_skip (by intro h; cases h) (by rfl) ?_; simp only [Act.put, List.setIfInBounds_toArray, List.set_cons_zero, List.set_cons_succ])
    (refine OB.o_skip (by intro h; cases h) (by rfl) ?_; simp only [Act.put, List.setIfInBounds_toArray, List.set_cons_zero, List.set_cons_succ])
    (refine OB.o_skip (by intro h; cases h) (by rfl) ?_; simp only [Act.put, List.setIfInBounds_toArray, List.set_cons_zero, List.set_cons_succ])
    (refine OB.o_pure (v := ?_) (by rfl) (fun w' => ?_) ?_; rotate_left; (focus (go_simp; (try with_reducible rfl))); (try simp only [Act.put, List.setIfInBounds_toArray, List.set_cons_zero, List.set_cons_succ]))
    (refine OB.o_pure (v := ?_) (by rfl) (fun w' => ?_) ?_; rotate_left; (focus (go_simp; (try with_reducible rfl))); (try simp only [Act.put, List.setIfInBounds_toArray, List.set_cons_zero, List.set_cons_succ]))
    (refine OB.o_pure (v := ?_) (by rfl) (fun w' => ?_) ?_; rotate_left; (focus (go_simp; (try with_reducible rfl))); (try simp only [Act.put, List.setIfInBounds_toArray, List.set_cons_zero, List.set_cons_succ]))
    clear tk1 to1
    refine OB.o_sole (fun K hK => ?_)
    go_wp2_with fail
    refine (oalive_any w18).mono ?_
    rintro e w19 ⟨rfl, hb⟩
    have B19 := Lib.hid (B18.out.trans (hb.mono B18.out.size))
    go_wp2_with fail
    refine hK _ _ (fun _ => OB.ExtB.at_ hb (fun k hk => Nat.lt_of_lt_of_le hk (Nat.le_trans hDs hs1))) ?_; clear hK K
    (refine OB.o_pure (v := ?_) (by rfl) (fun w' => ?_) ?_; rotate_left; (focus (go_simp; (try with_reducible rfl))); (try simp only [Act.put, List.setIfInBounds_toArray, List.set_cons_zero, List.set_cons_succ]))
    (refine OB.o_pure (v := ?_) (by rfl) (fun w' => ?_) ?_; rotate_left; (focus (go_simp; (try with_reducible rfl))); (try simp only [Act.put, List.setIfInBounds_toArray, List.set_cons_zero, List.set_cons_succ]))
    refine OB.o_nil (hQ.out _ _ ?_); clear hQ QQ
    go_wp2_with fail
    go_ret
    exact ⟨rfl, B19.out⟩
theorem optReads_any (q : Ob) (w : World) (hq : q.1 < 256 ∧ Body.ok w q.2) : Calls Try.prog 4 #[.agg (oel q).toArray] w fun e w' => e = .returned (.bool true) ∧ Below w.heap.size w w' := optReads_walk q.1 q.2.A q.2.n q.2.c q.2.l w hq.2.1 hq.2.2.1 hq.2.2.2.2
end Go.Proofs.Ytiblmlmkpilgmaa
