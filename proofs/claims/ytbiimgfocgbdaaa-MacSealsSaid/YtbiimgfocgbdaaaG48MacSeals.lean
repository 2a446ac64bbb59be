/- Layer 8: the document's bytes of options. -/
import Derived.Test.YtbiimgfocgbdaaaG28MacSeals
import Derived.Test.YtbiimgfocgbdaaaG15MacSeals
import Derived.Test.YtbiimgfocgbdaaaG10MacSeals
import Derived.Test.YtbiimgfocgbdaaaOrdF

namespace Go.Proofs.Ytbiimgfocgbdaaa
open Go.RowKit
set_option linter.unusedVariables false
set_option linter.unusedSimpArgs false

theorem bit_any (b : Bool) (w : World) : Calls Try.prog 60 #[.bool b] w fun e w' => e = .returned (.int .u64 (bitN b : Int)) ∧ w = w' := by
  cases b
  · go_enter Try.func60, Try.ntmps60
    go_wp2_with fail
    go_ret
    exact ⟨rfl, rfl⟩
  · go_enter Try.func60, Try.ntmps60
    go_wp2_with fail
    go_ret
    exact ⟨rfl, rfl⟩
/-- Bytes of one's own that are handed back. -/
def ByPost (b : List Nat) (B : Nat) (w' : World) (e : Ending) : Prop := ∃ v, e = .returned v ∧ Nats w' 5 .u8 B v b
set_option maxRecDepth 20000 in
set_option maxHeartbeats 2000000 in
theorem rkey_any (k t : Nat) (a : Bool) (w : World) (hk : q64 k) (ht : q64 t) : Calls Try.prog 17 #[.int .u64 (k : Int), .int .u64 (t : Int), .bool a] w fun e w' => ByPost (keyB k t a) w.heap.size w' e ∧ Below w.heap.size w w' := by
  go_enter Try.func17, Try.ntmps17
  go_wp2_with fail
  refine (rput_any 8 (.slice none 0 0) [] k w.heap.size w (by omega) (Nats.nil _ _ _ _) (Nat.le_refl _) (by simp) hk).mono ?_
  rintro e w1 ⟨v1, rfl, hN, hb⟩
  have N1 := Lib.hid hN
  have B1 := Lib.hid hb
  clear hN hb
  cases a with
  | false =>
    go_wp2_with fail
    go_ret
    exact ⟨⟨_, rfl, by have := N1.out; simpa [keyB, tagB] using this⟩, B1.out⟩
  | true =>
    go_wp2_with fail
    refine (rput_any 8 v1 _ t w.heap.size w1 (by omega) N1.out B1.out.size (by simp [be_len]) ht).mono ?_
    rintro e w2 ⟨v2, rfl, hN, hb⟩
    have N2 := Lib.hid hN
    have B2 := Lib.hid (B1.out.trans hb)
    clear hN hb
    go_wp2_with fail
    go_ret
    exact ⟨⟨_, rfl, by have := N2.out; simpa [keyB, tagB] using this⟩, B2.out⟩
theorem joinR (tk nc id : Nat) (bk : Bool) (t : Nat) : ([] ++ be tk 4 ++ be nc 4 ++ [id] ++ be (bitN bk) 1) = joinB tk nc id bk false t := by
  rw [ope1 (show bitN bk < 256 by have := bitN_lt bk; omega)]
  simp [joinB, tagB]
theorem joinR2 (tk nc id : Nat) (bk : Bool) (t : Nat) : ([] ++ be tk 4 ++ be nc 4 ++ [id] ++ be (bitN bk) 1 ++ be t 8) = joinB tk nc id bk true t := by
  rw [ope1 (show bitN bk < 256 by have := bitN_lt bk; omega)]
  simp [joinB, tagB]
theorem dataR (m sq ak wn t : Nat) (f p : Bool) (h : m = bitN f + 2 * bitN p) : ([] ++ be m 1 ++ be sq 8 ++ be ak 8 ++ be wn 4 ++ be t 8) = dataB f p sq ak wn t := by
  have h1 := bitN_lt f
  have h2 := bitN_lt p
  rw [ope1 (show m < 256 by omega), h]
  simp [dataB]
theorem wordR (nm id pa : Nat) (bk : Bool) (t : Nat) : ([] ++ be nm 4 ++ [id, pa] ++ be (bitN bk) 1 ++ be t 8) = wordB nm id pa bk t := by
  rw [ope1 (show bitN bk < 256 by have := bitN_lt bk; omega)]
  simp [wordB]
set_option maxRecDepth 20000 in
set_option maxHeartbeats 4000000 in
theorem rjoin_any (tk nc id t : Nat) (bk a : Bool) (w : World) (htk : q32 tk) (hnc : q32 nc) (hid : id < 256) (ht : q64 t) : Calls Try.prog 18 #[.agg #[.int .u32 (tk : Int), .int .u32 (nc : Int), .int .u8 (id : Int), .bool bk, .bool a, .int .u64 (t : Int)]] w fun e w' => ByPost (joinB tk nc id bk a t) w.heap.size w' e ∧ Below w.heap.size w w' := by
  have hb0 : Below w.heap.size w (w.alloc (.cells #[.int .u32 (tk : Int), .int .u32 (nc : Int), .int .u8 (id : Int), .bool bk, .bool a, .int .u64 (t : Int)] 55)) := (Below.refl _ _).alloc (Nat.le_refl _) _
  have K0 := Lib.hid (Blk.new w 55 #[.int .u32 (tk : Int), .int .u32 (nc : Int), .int .u8 (id : Int), .bool bk, .bool a, .int .u64 (t : Int)])
  have B0 := Lib.hid hb0
  clear hb0
  go_enter Try.func18, Try.ntmps18
  go_wp2_with fail
  generalize w.alloc (.cells #[.int .u32 (tk : Int), .int .u32 (nc : Int), .int .u8 (id : Int), .bool bk, .bool a, .int .u64 (t : Int)] 55) = w0 at *
  obtain ⟨T, hT⟩ : ∃ T, T = w.heap.size := ⟨_, rfl⟩
  rw [← hT] at K0 ⊢
  have HT := Lib.hid hT
  clear hT
  have w_tk : IntKind.u64.wrap (tk : Int) = (tk : Int) := by rw [IntKind.wrap_u64]; unfold q32 at *; omega
  have w_nc : IntKind.u64.wrap (nc : Int) = (nc : Int) := by rw [IntKind.wrap_u64]; unfold q32 at *; omega
  refine OB.wp_ord [(0, .pure), (1, .read), (2, .pure), (4, .pure), (5, .read), (6, .pure), (3, .sole), (7, .sole), (8, .pure)] ⟨fun k => k < T + 1, []⟩ (by kernel_rfl) (by kernel_rfl) (fun QQ hQ wd hwd => ?_); (try simp only [List.map_cons, List.map_nil, List.getD_cons_zero, List.getD_cons_succ])
  have hD : Below w0.heap.size w0 wd := by rw [hwd.out]; exact (Below.refl _ _).drew
  have K1 := Lib.hid (K0.out.below hD K0.out.lt)
  have B1 := Lib.hid (B0.out.trans (hD.mono B0.out.size))
  clear hD hwd K0 B0
  generalize wd = w1 at *
  obtain ⟨t0, t1, t2, t3, t4, t5⟩ := ptc6 K1.out
  (refine OB.o_pure (v := ?_) (by rfl) (fun w' => ?_) ?_; rotate_left; (focus (go_simp; (try with_reducible rfl))); (try simp only [Act.put, List.setIfInBounds_toArray, List.set_cons_zero, List.set_cons_succ]))
  (refine OB.o_load _ (by rfl) rfl rfl (by dsimp only; first | assumption | omega) (by assumption) (by kernel_rfl) ?_; simp only [Act.put, List.setIfInBounds_toArray, List.set_cons_zero, List.set_cons_succ])
  (refine OB.o_pure (v := ?_) (by rfl) (fun w' => ?_) ?_; rotate_left; (focus (go_simp; (try with_reducible rfl))); (try simp only [Act.put, List.setIfInBounds_toArray, List.set_cons_zero, List.set_cons_succ]))
  (refine OB.o_pure (v := ?_) (by rfl) (fun w' => ?_) ?_; rotate_left; (focus (go_simp; (try with_reducible rfl))); (try simp only [Act.put, List.setIfInBounds_toArray, List.set_cons_zero, List.set_cons_succ]))
  (refine OB.o_load _ (by rfl) rfl rfl (by dsimp only; first | assumption | omega) (by assumption) (by kernel_rfl) ?_; simp only [Act.put, List.setIfInBounds_toArray, List.set_cons_zero, List.set_cons_succ])
  (refine OB.o_pure (v := ?_) (by rfl) (fun w' => ?_) ?_; rotate_left; (focus (go_simp; (try with_reducible rfl))); (try simp only [Act.put, List.setIfInBounds_toArray, List.set_cons_zero, List.set_cons_succ]))
  clear t0 t1 t2 t3 t4 t5
  refine OB.o_sole (fun K hK => ?_)
  go_wp2_with fail
  refine (rput_any 4 _ _ tk (T + 1) w1 (by omega) (Nats.nil _ _ _ _) K1.out.lt (by simp [be_len]) (show tk < 18446744073709551616 by unfold q32 at *; omega)).mono ?_
  rintro e w2 ⟨v2, rfl, hN, hb⟩
  have N2 := Lib.hid hN
  have K2 := Lib.hid (K1.out.below hb (Nat.lt_succ_self T))
  have B2 := Lib.hid (B1.out.trans (hb.mono (by rw [HT.out]; exact Nat.le_succ _)))
  obtain ⟨A2, n2, c2, rfl, _, _, _⟩ := N2.out.out
  go_wp2_with fail
  refine hK _ _ (fun _ => OB.ExtB.at_ hb (fun k hk => hk)) ?_; clear hK K
  clear hN hb K1 B1
  refine OB.o_sole (fun K hK => ?_)
  go_wp2_with fail
  refine (rput_any 4 _ _ nc (T + 1) w2 (by omega) N2.out K2.out.lt (by simp [be_len]) (show nc < 18446744073709551616 by unfold q32 at *; omega)).mono ?_
  rintro e w3 ⟨v3, rfl, hN, hb⟩
  have N3 := Lib.hid hN
  have K3 := Lib.hid (K2.out.below hb (Nat.lt_succ_self T))
  have B3 := Lib.hid (B2.out.trans (hb.mono (by rw [HT.out]; exact Nat.le_succ _)))
  obtain ⟨A3, n3, c3, rfl, _, _, _⟩ := N3.out.out
  go_wp2_with fail
  refine hK _ _ (fun _ => OB.ExtB.at_ hb (fun k hk => hk)) ?_; clear hK K
  clear hN hb K2 B2 N2
  (refine OB.o_pure (v := ?_) (by rfl) (fun w' => ?_) ?_; rotate_left; (focus (go_simp; (try with_reducible rfl))); (try simp only [Act.put, List.setIfInBounds_toArray, List.set_cons_zero, List.set_cons_succ]))
  refine OB.o_nil (hQ.out _ _ ?_); clear hQ QQ
  go_wp2_with fail
  refine OB.wp_ord [(0, .pure), (1, .pure), (2, .read), (5, .pure), (6, .read), (3, .sole), (4, .sole), (7, .sole), (8, .sole), (9, .pure)] ⟨fun k => k < T + 1, []⟩ (by kernel_rfl) (by kernel_rfl) (fun QQ hQ wd hwd => ?_); (try simp only [List.map_cons, List.map_nil, List.getD_cons_zero, List.getD_cons_succ])
  have hD : Below w3.heap.size w3 wd := by rw [hwd.out]; exact (Below.refl _ _).drew
  have K4 := Lib.hid (K3.out.below hD K3.out.lt)
  have B4 := Lib.hid (B3.out.trans (hD.mono B3.out.size))
  have N4 := Lib.hid (N3.out.below hD)
  clear hD hwd K3 B3 N3
  generalize wd = w4 at *
  obtain ⟨t0, t1, t2, t3, t4, t5⟩ := ptc6 K4.out
  (refine OB.o_pure (v := ?_) (by rfl) (fun w' => ?_) ?_; rotate_left; (focus (go_simp; (try with_reducible rfl))); (try simp only [Act.put, List.setIfInBounds_toArray, List.set_cons_zero, List.set_cons_succ]))
  (refine OB.o_pure (v := ?_) (by rfl) (fun w' => ?_) ?_; rotate_left; (focus (go_simp; (try with_reducible rfl))); (try simp only [Act.put, List.setIfInBounds_toArray, List.set_cons_zero, List.set_cons_succ]))
  (refine OB.o_load _ (by rfl) rfl rfl (by dsimp only; first | assumption | omega) (by assumption) (by kernel_rfl) ?_; simp only [Act.put, List.setIfInBounds_toArray, List.set_cons_zero, List.set_cons_succ])
  (refine OB.o_pure (v := ?_) (by rfl) (fun w' => ?_) ?_; rotate_left; (focus (go_simp; (try with_reducible rfl))); (try simp only [Act.put, List.setIfInBounds_toArray, List.set_cons_zero, List.set_cons_succ]))
  (refine OB.o_load _ (by rfl) rfl rfl (by dsimp only; first | assumption | omega) (by assumption) (by kernel_rfl) ?_; simp only [Act.put, List.setIfInBounds_toArray, List.set_cons_zero, List.set_cons_succ])
  clear t0 t1 t2 t3 t4 t5
  refine OB.o_sole (fun K hK => ?_)
  go_wp2_with fail
  refine hK _ _ (fun _ => OB.ExtB.at_ ((Below.refl _ _).alloc (Nat.le_refl _) _) (fun k hk => Nat.lt_of_lt_of_le hk K4.out.lt)) ?_; clear hK K
  have hb1 : Below w4.heap.size w4 (w4.alloc (.cells #[.int .u8 (id : Int)] 5)) := (Below.refl _ _).alloc (Nat.le_refl _) _
  refine OB.o_sole (fun K hK => ?_)
  refine appn pel8 rfl (.tmp 12) (.tmp 15) rfl rfl (N4.out.alloc _) rfl (Rd.lit (w := w4) (B := w4.heap.size + 1) [id] rfl (by omega) rfl rfl) (by simp [be_len]; exact room_ge (by omega)) (Nat.le_trans K4.out.lt hb1.size) ?_
  intro v5 w5 hN _ hb2
  have hb : Below (T + 1) w4 w5 := (hb1.mono K4.out.lt).trans hb2
  refine wpList_nil ?_
  have N5 := Lib.hid hN
  have K5 := Lib.hid (K4.out.below hb (Nat.lt_succ_self T))
  have B5 := Lib.hid (B4.out.trans (hb.mono (by rw [HT.out]; exact Nat.le_succ _)))
  obtain ⟨A5, n5, c5, rfl, _, _, _⟩ := N5.out.out
  refine hK _ _ (fun _ => OB.ExtB.at_ hb2 (fun k hk => hk)) ?_; clear hK K
  clear hN hb hb1 hb2 K4 B4 N4
  refine OB.o_sole (fun K hK => ?_)
  go_wp2_with fail
  refine (bit_any bk w5).mono ?_
  rintro e _ ⟨rfl, rfl⟩
  go_wp2_with fail
  refine hK _ _ (fun _ => OB.ExtB.refl _ _) ?_; clear hK K
  refine OB.o_sole (fun K hK => ?_)
  go_wp2_with fail
  refine (rput_any 1 _ _ (bitN bk) (T + 1) w5 (by omega) N5.out K5.out.lt (by simp [be_len]) (show bitN bk < 18446744073709551616 by have := bitN_lt bk; omega)).mono ?_
  rintro e w6 ⟨v6, rfl, hN, hb⟩
  have N6 := Lib.hid hN
  have K6 := Lib.hid (K5.out.below hb (Nat.lt_succ_self T))
  have B6 := Lib.hid (B5.out.trans (hb.mono (by rw [HT.out]; exact Nat.le_succ _)))
  obtain ⟨A6, n6, c6, rfl, _, _, _⟩ := N6.out.out
  go_wp2_with fail
  refine hK _ _ (fun _ => OB.ExtB.at_ hb (fun k hk => hk)) ?_; clear hK K
  clear hN hb K5 B5 N5
  (refine OB.o_pure (v := ?_) (by rfl) (fun w' => ?_) ?_; rotate_left; (focus (go_simp; (try with_reducible rfl))); (try simp only [Act.put, List.setIfInBounds_toArray, List.set_cons_zero, List.set_cons_succ]))
  refine OB.o_nil (hQ.out _ _ ?_); clear hQ QQ
  obtain ⟨_, _, _, _, x4, x5⟩ := ptc6 K6.out
  cases a with
  | false =>
    go_wp2_with fail
    go_ret
    exact ⟨⟨_, rfl, by have h := N6.out.mono (show w.heap.size ≤ T + 1 by rw [HT.out]; exact Nat.le_succ _); rwa [joinR tk nc id bk t] at h⟩, B6.out⟩
  | true =>
    go_wp2_with fail
    refine (rput_any 8 _ _ t (T + 1) w6 (by omega) N6.out K6.out.lt (by simp [be_len]) ht).mono ?_
    rintro e w9 ⟨v9, rfl, hN, hb⟩
    have N7 := Lib.hid hN
    have B7 := Lib.hid (B6.out.trans (hb.mono (by rw [HT.out]; exact Nat.le_succ _)))
    clear hN hb x4 x5
    go_wp2_with fail
    go_ret
    exact ⟨⟨_, rfl, by have h := N7.out.mono (show w.heap.size ≤ T + 1 by rw [HT.out]; exact Nat.le_succ _); rwa [joinR2 tk nc id bk t] at h⟩, B7.out⟩
set_option maxRecDepth 20000 in
set_option maxHeartbeats 4000000 in
theorem rdata_ff (sq ak wn t : Nat) (w : World) (hsq : q64 sq) (hak : q64 ak) (hwn : q32 wn) (ht : q64 t) : Calls Try.prog 19 #[.agg #[.bool false, .bool false, .int .u64 (sq : Int), .int .u64 (ak : Int), .int .u32 (wn : Int), .int .u64 (t : Int)]] w fun e w' => ByPost (dataB false false sq ak wn t) w.heap.size w' e ∧ Below w.heap.size w w' := by
  have hb0 : Below w.heap.size w (w.alloc (.cells #[.bool false, .bool false, .int .u64 (sq : Int), .int .u64 (ak : Int), .int .u32 (wn : Int), .int .u64 (t : Int)] 58)) := (Below.refl _ _).alloc (Nat.le_refl _) _
  have K0 := Lib.hid (Blk.new w 58 #[.bool false, .bool false, .int .u64 (sq : Int), .int .u64 (ak : Int), .int .u32 (wn : Int), .int .u64 (t : Int)])
  have B0 := Lib.hid hb0
  clear hb0
  go_enter Try.func19, Try.ntmps19
  go_wp2_with fail
  generalize w.alloc (.cells #[.bool false, .bool false, .int .u64 (sq : Int), .int .u64 (ak : Int), .int .u32 (wn : Int), .int .u64 (t : Int)] 58) = w0 at *
  obtain ⟨T, hT⟩ : ∃ T, T = w.heap.size := ⟨_, rfl⟩
  rw [← hT] at K0 ⊢
  have HT := Lib.hid hT
  clear hT
  have w_wn : IntKind.u64.wrap (wn : Int) = (wn : Int) := by rw [IntKind.wrap_u64]; unfold q32 at *; omega
  have HBF := Lib.hid (show ∀ w, Calls Try.prog 60 #[.bool false] w fun e w' => e = .returned (.int .u64 0) ∧ w = w' from fun w => bit_any false w)
  have HBP := Lib.hid (show ∀ w, Calls Try.prog 60 #[.bool false] w fun e w' => e = .returned (.int .u64 0) ∧ w = w' from fun w => bit_any false w)
  refine OB.wp_ord [(0, .pure), (1, .read), (3, .pure), (4, .read), (2, .sole), (5, .sole), (6, .pure), (7, .pure), (8, .sole), (9, .pure)] ⟨fun k => k < T + 1, []⟩ (by kernel_rfl) (by kernel_rfl) (fun QQ hQ wd hwd => ?_); (try simp only [List.map_cons, List.map_nil, List.getD_cons_zero, List.getD_cons_succ])
  have hD : Below w0.heap.size w0 wd := by rw [hwd.out]; exact (Below.refl _ _).drew
  have K1 := Lib.hid (K0.out.below hD K0.out.lt)
  have B1 := Lib.hid (B0.out.trans (hD.mono B0.out.size))
  clear hD hwd K0 B0
  generalize wd = w1 at *
  obtain ⟨t0, t1, t2, t3, t4, t5⟩ := ptc6 K1.out
  (refine OB.o_pure (v := ?_) (by rfl) (fun w' => ?_) ?_; rotate_left; (focus (go_simp; (try with_reducible rfl))); (try simp only [Act.put, List.setIfInBounds_toArray, List.set_cons_zero, List.set_cons_succ]))
  (refine OB.o_load _ (by rfl) rfl rfl (by dsimp only; first | assumption | omega) (by assumption) (by kernel_rfl) ?_; simp only [Act.put, List.setIfInBounds_toArray, List.set_cons_zero, List.set_cons_succ])
  (refine OB.o_pure (v := ?_) (by rfl) (fun w' => ?_) ?_; rotate_left; (focus (go_simp; (try with_reducible rfl))); (try simp only [Act.put, List.setIfInBounds_toArray, List.set_cons_zero, List.set_cons_succ]))
  (refine OB.o_load _ (by rfl) rfl rfl (by dsimp only; first | assumption | omega) (by assumption) (by kernel_rfl) ?_; simp only [Act.put, List.setIfInBounds_toArray, List.set_cons_zero, List.set_cons_succ])
  clear t0 t1 t2 t3 t4 t5
  refine OB.o_sole (fun K hK => ?_)
  go_wp2_with fail
  refine (HBF.out w1).mono ?_
  rintro e _ ⟨rfl, rfl⟩
  go_wp2_with fail
  refine hK _ _ (fun _ => OB.ExtB.refl _ _) ?_; clear hK K
  refine OB.o_sole (fun K hK => ?_)
  go_wp2_with fail
  refine (HBP.out w1).mono ?_
  rintro e _ ⟨rfl, rfl⟩
  go_wp2_with fail
  refine hK _ _ (fun _ => OB.ExtB.refl _ _) ?_; clear hK K
  (refine OB.o_pure (v := ?_) (by rfl) (fun w' => ?_) ?_; rotate_left; (focus (go_simp; (try with_reducible rfl))); (try simp only [Act.put, List.setIfInBounds_toArray, List.set_cons_zero, List.set_cons_succ]))
  (refine OB.o_pure (v := ?_) (by rfl) (fun w' => ?_) ?_; rotate_left; (focus (go_simp; (try with_reducible rfl))); (try simp only [Act.put, List.setIfInBounds_toArray, List.set_cons_zero, List.set_cons_succ]))
  refine OB.o_sole (fun K hK => ?_)
  go_wp2_with fail
  refine (rput_any 1 _ _ 0 (T + 1) w1 (by omega) (Nats.nil _ _ _ _) K1.out.lt (by simp [be_len]) (by omega)).mono ?_
  rintro e w2 ⟨v2, rfl, hN, hb⟩
  have N2 := Lib.hid hN
  have K2 := Lib.hid (K1.out.below hb (Nat.lt_succ_self T))
  have B2 := Lib.hid (B1.out.trans (hb.mono (by rw [HT.out]; exact Nat.le_succ _)))
  obtain ⟨A2, n2, c2, rfl, _, _, _⟩ := N2.out.out
  go_wp2_with fail
  refine hK _ _ (fun _ => OB.ExtB.at_ hb (fun k hk => hk)) ?_; clear hK K
  clear hN hb K1 B1
  (refine OB.o_pure (v := ?_) (by rfl) (fun w' => ?_) ?_; rotate_left; (focus (go_simp; (try with_reducible rfl))); (try simp only [Act.put, List.setIfInBounds_toArray, List.set_cons_zero, List.set_cons_succ]))
  refine OB.o_nil (hQ.out _ _ ?_); clear hQ QQ
  go_wp2_with fail
  refine OB.wp_ord [(0, .pure), (1, .pure), (2, .read), (4, .pure), (5, .read), (3, .sole), (6, .sole), (7, .pure)] ⟨fun k => k < T + 1, []⟩ (by kernel_rfl) (by kernel_rfl) (fun QQ hQ wd hwd => ?_); (try simp only [List.map_cons, List.map_nil, List.getD_cons_zero, List.getD_cons_succ])
  have hD : Below w2.heap.size w2 wd := by rw [hwd.out]; exact (Below.refl _ _).drew
  have K3 := Lib.hid (K2.out.below hD K2.out.lt)
  have B3 := Lib.hid (B2.out.trans (hD.mono B2.out.size))
  have N3 := Lib.hid (N2.out.below hD)
  clear hD hwd K2 B2 N2
  generalize wd = w3 at *
  obtain ⟨t0, t1, t2, t3, t4, t5⟩ := ptc6 K3.out
  (refine OB.o_pure (v := ?_) (by rfl) (fun w' => ?_) ?_; rotate_left; (focus (go_simp; (try with_reducible rfl))); (try simp only [Act.put, List.setIfInBounds_toArray, List.set_cons_zero, List.set_cons_succ]))
  (refine OB.o_pure (v := ?_) (by rfl) (fun w' => ?_) ?_; rotate_left; (focus (go_simp; (try with_reducible rfl))); (try simp only [Act.put, List.setIfInBounds_toArray, List.set_cons_zero, List.set_cons_succ]))
  (refine OB.o_load _ (by rfl) rfl rfl (by dsimp only; first | assumption | omega) (by assumption) (by kernel_rfl) ?_; simp only [Act.put, List.setIfInBounds_toArray, List.set_cons_zero, List.set_cons_succ])
  (refine OB.o_pure (v := ?_) (by rfl) (fun w' => ?_) ?_; rotate_left; (focus (go_simp; (try with_reducible rfl))); (try simp only [Act.put, List.setIfInBounds_toArray, List.set_cons_zero, List.set_cons_succ]))
  (refine OB.o_load _ (by rfl) rfl rfl (by dsimp only; first | assumption | omega) (by assumption) (by kernel_rfl) ?_; simp only [Act.put, List.setIfInBounds_toArray, List.set_cons_zero, List.set_cons_succ])
  clear t0 t1 t2 t3 t4 t5
  refine OB.o_sole (fun K hK => ?_)
  go_wp2_with fail
  refine (rput_any 8 _ _ sq (T + 1) w3 (by omega) N3.out K3.out.lt (by simp [be_len]) hsq).mono ?_
  rintro e w4 ⟨v4, rfl, hN, hb⟩
  have N4 := Lib.hid hN
  have K4 := Lib.hid (K3.out.below hb (Nat.lt_succ_self T))
  have B4 := Lib.hid (B3.out.trans (hb.mono (by rw [HT.out]; exact Nat.le_succ _)))
  obtain ⟨A4, n4, c4, rfl, _, _, _⟩ := N4.out.out
  go_wp2_with fail
  refine hK _ _ (fun _ => OB.ExtB.at_ hb (fun k hk => hk)) ?_; clear hK K
  clear hN hb K3 B3 N3
  refine OB.o_sole (fun K hK => ?_)
  go_wp2_with fail
  refine (rput_any 8 _ _ ak (T + 1) w4 (by omega) N4.out K4.out.lt (by simp [be_len]) hak).mono ?_
  rintro e w5 ⟨v5, rfl, hN, hb⟩
  have N5 := Lib.hid hN
  have K5 := Lib.hid (K4.out.below hb (Nat.lt_succ_self T))
  have B5 := Lib.hid (B4.out.trans (hb.mono (by rw [HT.out]; exact Nat.le_succ _)))
  obtain ⟨A5, n5, c5, rfl, _, _, _⟩ := N5.out.out
  go_wp2_with fail
  refine hK _ _ (fun _ => OB.ExtB.at_ hb (fun k hk => hk)) ?_; clear hK K
  clear hN hb K4 B4 N4
  (refine OB.o_pure (v := ?_) (by rfl) (fun w' => ?_) ?_; rotate_left; (focus (go_simp; (try with_reducible rfl))); (try simp only [Act.put, List.setIfInBounds_toArray, List.set_cons_zero, List.set_cons_succ]))
  refine OB.o_nil (hQ.out _ _ ?_); clear hQ QQ
  go_wp2_with fail
  refine OB.wp_ord [(0, .pure), (1, .pure), (2, .read), (3, .pure), (5, .pure), (6, .read), (4, .sole), (7, .sole), (8, .pure)] ⟨fun k => k < T + 1, []⟩ (by kernel_rfl) (by kernel_rfl) (fun QQ hQ wd hwd => ?_); (try simp only [List.map_cons, List.map_nil, List.getD_cons_zero, List.getD_cons_succ])
  have hD : Below w5.heap.size w5 wd := by rw [hwd.out]; exact (Below.refl _ _).drew
  have K6 := Lib.hid (K5.out.below hD K5.out.lt)
  have B6 := Lib.hid (B5.out.trans (hD.mono B5.out.size))
  have N6 := Lib.hid (N5.out.below hD)
  clear hD hwd K5 B5 N5
  generalize wd = w6 at *
  obtain ⟨t0, t1, t2, t3, t4, t5⟩ := ptc6 K6.out
  (refine OB.o_pure (v := ?_) (by rfl) (fun w' => ?_) ?_; rotate_left; (focus (go_simp; (try with_reducible rfl))); (try simp only [Act.put, List.setIfInBounds_toArray, List.set_cons_zero, List.set_cons_succ]))
  (refine OB.o_pure (v := ?_) (by rfl) (fun w' => ?_) ?_; rotate_left; (focus (go_simp; (try with_reducible rfl))); (try simp only [Act.put, List.setIfInBounds_toArray, List.set_cons_zero, List.set_cons_succ]))
  (refine OB.o_load _ (by rfl) rfl rfl (by dsimp only; first | assumption | omega) (by assumption) (by kernel_rfl) ?_; simp only [Act.put, List.setIfInBounds_toArray, List.set_cons_zero, List.set_cons_succ])
  (refine OB.o_pure (v := ?_) (by rfl) (fun w' => ?_) ?_; rotate_left; (focus (go_simp; (try with_reducible rfl))); (try simp only [Act.put, List.setIfInBounds_toArray, List.set_cons_zero, List.set_cons_succ]))
  (refine OB.o_pure (v := ?_) (by rfl) (fun w' => ?_) ?_; rotate_left; (focus (go_simp; (try with_reducible rfl))); (try simp only [Act.put, List.setIfInBounds_toArray, List.set_cons_zero, List.set_cons_succ]))
  (refine OB.o_load _ (by rfl) rfl rfl (by dsimp only; first | assumption | omega) (by assumption) (by kernel_rfl) ?_; simp only [Act.put, List.setIfInBounds_toArray, List.set_cons_zero, List.set_cons_succ])
  clear t0 t1 t2 t3 t4 t5
  refine OB.o_sole (fun K hK => ?_)
  go_wp2_with fail
  refine (rput_any 4 _ _ wn (T + 1) w6 (by omega) N6.out K6.out.lt (by simp [be_len]) (show wn < 18446744073709551616 by unfold q32 at *; omega)).mono ?_
  rintro e w7 ⟨v7, rfl, hN, hb⟩
  have N7 := Lib.hid hN
  have K7 := Lib.hid (K6.out.below hb (Nat.lt_succ_self T))
  have B7 := Lib.hid (B6.out.trans (hb.mono (by rw [HT.out]; exact Nat.le_succ _)))
  obtain ⟨A7, n7, c7, rfl, _, _, _⟩ := N7.out.out
  go_wp2_with fail
  refine hK _ _ (fun _ => OB.ExtB.at_ hb (fun k hk => hk)) ?_; clear hK K
  clear hN hb K6 B6 N6
  refine OB.o_sole (fun K hK => ?_)
  go_wp2_with fail
  refine (rput_any 8 _ _ t (T + 1) w7 (by omega) N7.out K7.out.lt (by simp [be_len]) ht).mono ?_
  rintro e w8 ⟨v8, rfl, hN, hb⟩
  have N8 := Lib.hid hN
  have K8 := Lib.hid (K7.out.below hb (Nat.lt_succ_self T))
  have B8 := Lib.hid (B7.out.trans (hb.mono (by rw [HT.out]; exact Nat.le_succ _)))
  obtain ⟨A8, n8, c8, rfl, _, _, _⟩ := N8.out.out
  go_wp2_with fail
  refine hK _ _ (fun _ => OB.ExtB.at_ hb (fun k hk => hk)) ?_; clear hK K
  clear hN hb K7 B7 N7
  (refine OB.o_pure (v := ?_) (by rfl) (fun w' => ?_) ?_; rotate_left; (focus (go_simp; (try with_reducible rfl))); (try simp only [Act.put, List.setIfInBounds_toArray, List.set_cons_zero, List.set_cons_succ]))
  refine OB.o_nil (hQ.out _ _ ?_); clear hQ QQ
  go_wp2_with fail
  go_ret
  exact ⟨⟨_, rfl, by have h := N8.out.mono (show w.heap.size ≤ T + 1 by rw [HT.out]; exact Nat.le_succ _); rwa [dataR 0 sq ak wn t false false rfl] at h⟩, B8.out⟩
set_option maxRecDepth 20000 in
set_option maxHeartbeats 4000000 in
theorem rdata_ft (sq ak wn t : Nat) (w : World) (hsq : q64 sq) (hak : q64 ak) (hwn : q32 wn) (ht : q64 t) : Calls Try.prog 19 #[.agg #[.bool false, .bool true, .int .u64 (sq : Int), .int .u64 (ak : Int), .int .u32 (wn : Int), .int .u64 (t : Int)]] w fun e w' => ByPost (dataB false true sq ak wn t) w.heap.size w' e ∧ Below w.heap.size w w' := by
  have hb0 : Below w.heap.size w (w.alloc (.cells #[.bool false, .bool true, .int .u64 (sq : Int), .int .u64 (ak : Int), .int .u32 (wn : Int), .int .u64 (t : Int)] 58)) := (Below.refl _ _).alloc (Nat.le_refl _) _
  have K0 := Lib.hid (Blk.new w 58 #[.bool false, .bool true, .int .u64 (sq : Int), .int .u64 (ak : Int), .int .u32 (wn : Int), .int .u64 (t : Int)])
  have B0 := Lib.hid hb0
  clear hb0
  go_enter Try.func19, Try.ntmps19
  go_wp2_with fail
  generalize w.alloc (.cells #[.bool false, .bool true, .int .u64 (sq : Int), .int .u64 (ak : Int), .int .u32 (wn : Int), .int .u64 (t : Int)] 58) = w0 at *
  obtain ⟨T, hT⟩ : ∃ T, T = w.heap.size := ⟨_, rfl⟩
  rw [← hT] at K0 ⊢
  have HT := Lib.hid hT
  clear hT
  have w_wn : IntKind.u64.wrap (wn : Int) = (wn : Int) := by rw [IntKind.wrap_u64]; unfold q32 at *; omega
  have HBF := Lib.hid (show ∀ w, Calls Try.prog 60 #[.bool false] w fun e w' => e = .returned (.int .u64 0) ∧ w = w' from fun w => bit_any false w)
  have HBP := Lib.hid (show ∀ w, Calls Try.prog 60 #[.bool true] w fun e w' => e = .returned (.int .u64 1) ∧ w = w' from fun w => bit_any true w)
  refine OB.wp_ord [(0, .pure), (1, .read), (3, .pure), (4, .read), (2, .sole), (5, .sole), (6, .pure), (7, .pure), (8, .sole), (9, .pure)] ⟨fun k => k < T + 1, []⟩ (by kernel_rfl) (by kernel_rfl) (fun QQ hQ wd hwd => ?_); (try simp only [List.map_cons, List.map_nil, List.getD_cons_zero, List.getD_cons_succ])
  have hD : Below w0.heap.size w0 wd := by rw [hwd.out]; exact (Below.refl _ _).drew
  have K1 := Lib.hid (K0.out.below hD K0.out.lt)
  have B1 := Lib.hid (B0.out.trans (hD.mono B0.out.size))
  clear hD hwd K0 B0
  generalize wd = w1 at *
  obtain ⟨t0, t1, t2, t3, t4, t5⟩ := ptc6 K1.out
  (refine OB.o_pure (v := ?_) (by rfl) (fun w' => ?_) ?_; rotate_left; (focus (go_simp; (try with_reducible rfl))); (try simp only [Act.put, List.setIfInBounds_toArray, List.set_cons_zero, List.set_cons_succ]))
  (refine OB.o_load _ (by rfl) rfl rfl (by dsimp only; first | assumption | omega) (by assumption) (by kernel_rfl) ?_; simp only [Act.put, List.setIfInBounds_toArray, List.set_cons_zero, List.set_cons_succ])
  (refine OB.o_pure (v := ?_) (by rfl) (fun w' => ?_) ?_; rotate_left; (focus (go_simp; (try with_reducible rfl))); (try simp only [Act.put, List.setIfInBounds_toArray, List.set_cons_zero, List.set_cons_succ]))
  (refine OB.o_load _ (by rfl) rfl rfl (by dsimp only; first | assumption | omega) (by assumption) (by kernel_rfl) ?_; simp only [Act.put, List.setIfInBounds_toArray, List.set_cons_zero, List.set_cons_succ])
  clear t0 t1 t2 t3 t4 t5
  refine OB.o_sole (fun K hK => ?_)
  go_wp2_with fail
  refine (HBF.out w1).mono ?_
  rintro e _ ⟨rfl, rfl⟩
  go_wp2_with fail
  refine hK _ _ (fun _ => OB.ExtB.refl _ _) ?_; clear hK K
  refine OB.o_sole (fun K hK => ?_)
  go_wp2_with fail
  refine (HBP.out w1).mono ?_
  rintro e _ ⟨rfl, rfl⟩
  go_wp2_with fail
  refine hK _ _ (fun _ => OB.ExtB.refl _ _) ?_; clear hK K
  (refine OB.o_pure (v := ?_) (by rfl) (fun w' => ?_) ?_; rotate_left; (focus (go_simp; (try with_reducible rfl))); (try simp only [Act.put, List.setIfInBounds_toArray, List.set_cons_zero, List.set_cons_succ]))
  (refine OB.o_pure (v := ?_) (by rfl) (fun w' => ?_) ?_; rotate_left; (focus (go_simp; (try with_reducible rfl))); (try simp only [Act.put, List.setIfInBounds_toArray, List.set_cons_zero, List.set_cons_succ]))
  refine OB.o_sole (fun K hK => ?_)
  go_wp2_with fail
  refine (rput_any 1 _ _ 2 (T + 1) w1 (by omega) (Nats.nil _ _ _ _) K1.out.lt (by simp [be_len]) (by omega)).mono ?_
  rintro e w2 ⟨v2, rfl, hN, hb⟩
  have N2 := Lib.hid hN
  have K2 := Lib.hid (K1.out.below hb (Nat.lt_succ_self T))
  have B2 := Lib.hid (B1.out.trans (hb.mono (by rw [HT.out]; exact Nat.le_succ _)))
  obtain ⟨A2, n2, c2, rfl, _, _, _⟩ := N2.out.out
  go_wp2_with fail
  refine hK _ _ (fun _ => OB.ExtB.at_ hb (fun k hk => hk)) ?_; clear hK K
  clear hN hb K1 B1
  (refine OB.o_pure (v := ?_) (by rfl) (fun w' => ?_) ?_; rotate_left; (focus (go_simp; (try with_reducible rfl))); (try simp only [Act.put, List.setIfInBounds_toArray, List.set_cons_zero, List.set_cons_succ]))
  refine OB.o_nil (hQ.out _ _ ?_); clear hQ QQ
  go_wp2_with fail
  refine OB.wp_ord [(0, .pure), (1, .pure), (2, .read), (4, .pure), (5, .read), (3, .sole), (6, .sole), (7, .pure)] ⟨fun k => k < T + 1, []⟩ (by kernel_rfl) (by kernel_rfl) (fun QQ hQ wd hwd => ?_); (try simp only [List.map_cons, List.map_nil, List.getD_cons_zero, List.getD_cons_succ])
  have hD : Below w2.heap.size w2 wd := by rw [hwd.out]; exact (Below.refl _ _).drew
  have K3 := Lib.hid (K2.out.below hD K2.out.lt)
  have B3 := Lib.hid (B2.out.trans (hD.mono B2.out.size))
  have N3 := Lib.hid (N2.out.below hD)
  clear hD hwd K2 B2 N2
  generalize wd = w3 at *
  obtain ⟨t0, t1, t2, t3, t4, t5⟩ := ptc6 K3.out
  (refine OB.o_pure (v := ?_) (by rfl) (fun w' => ?_) ?_; rotate_left; (focus (go_simp; (try with_reducible rfl))); (try simp only [Act.put, List.setIfInBounds_toArray, List.set_cons_zero, List.set_cons_succ]))
  (refine OB.o_pure (v := ?_) (by rfl) (fun w' => ?_) ?_; rotate_left; (focus (go_simp; (try with_reducible rfl))); (try simp only [Act.put, List.setIfInBounds_toArray, List.set_cons_zero, List.set_cons_succ]))
  (refine OB.o_load _ (by rfl) rfl rfl (by dsimp only; first | assumption | omega) (by assumption) (by kernel_rfl) ?_; simp only [Act.put, List.setIfInBounds_toArray, List.set_cons_zero, List.set_cons_succ])
  (refine OB.o_pure (v := ?_) (by rfl) (fun w' => ?_) ?_; rotate_left; (focus (go_simp; (try with_reducible rfl))); (try simp only [Act.put, List.setIfInBounds_toArray, List.set_cons_zero, List.set_cons_succ]))
  (refine OB.o_load _ (by rfl) rfl rfl (by dsimp only; first | assumption | omega) (by assumption) (by kernel_rfl) ?_; simp only [Act.put, List.setIfInBounds_toArray, List.set_cons_zero, List.set_cons_succ])
  clear t0 t1 t2 t3 t4 t5
  refine OB.o_sole (fun K hK => ?_)
  go_wp2_with fail
  refine (rput_any 8 _ _ sq (T + 1) w3 (by omega) N3.out K3.out.lt (by simp [be_len]) hsq).mono ?_
  rintro e w4 ⟨v4, rfl, hN, hb⟩
  have N4 := Lib.hid hN
  have K4 := Lib.hid (K3.out.below hb (Nat.lt_succ_self T))
  have B4 := Lib.hid (B3.out.trans (hb.mono (by rw [HT.out]; exact Nat.le_succ _)))
  obtain ⟨A4, n4, c4, rfl, _, _, _⟩ := N4.out.out
  go_wp2_with fail
  refine hK _ _ (fun _ => OB.ExtB.at_ hb (fun k hk => hk)) ?_; clear hK K
  clear hN hb K3 B3 N3
  refine OB.o_sole (fun K hK => ?_)
  go_wp2_with fail
  refine (rput_any 8 _ _ ak (T + 1) w4 (by omega) N4.out K4.out.lt (by simp [be_len]) hak).mono ?_
  rintro e w5 ⟨v5, rfl, hN, hb⟩
  have N5 := Lib.hid hN
  have K5 := Lib.hid (K4.out.below hb (Nat.lt_succ_self T))
  have B5 := Lib.hid (B4.out.trans (hb.mono (by rw [HT.out]; exact Nat.le_succ _)))
  obtain ⟨A5, n5, c5, rfl, _, _, _⟩ := N5.out.out
  go_wp2_with fail
  refine hK _ _ (fun _ => OB.ExtB.at_ hb (fun k hk => hk)) ?_; clear hK K
  clear hN hb K4 B4 N4
  (refine OB.o_pure (v := ?_) (by rfl) (fun w' => ?_) ?_; rotate_left; (focus (go_simp; (try with_reducible rfl))); (try simp only [Act.put, List.setIfInBounds_toArray, List.set_cons_zero, List.set_cons_succ]))
  refine OB.o_nil (hQ.out _ _ ?_); clear hQ QQ
  go_wp2_with fail
  refine OB.wp_ord [(0, .pure), (1, .pure), (2, .read), (3, .pure), (5, .pure), (6, .read), (4, .sole), (7, .sole), (8, .pure)] ⟨fun k => k < T + 1, []⟩ (by kernel_rfl) (by kernel_rfl) (fun QQ hQ wd hwd => ?_); (try simp only [List.map_cons, List.map_nil, List.getD_cons_zero, List.getD_cons_succ])
  have hD : Below w5.heap.size w5 wd := by rw [hwd.out]; exact (Below.refl _ _).drew
  have K6 := Lib.hid (K5.out.below hD K5.out.lt)
  have B6 := Lib.hid (B5.out.trans (hD.mono B5.out.size))
  have N6 := Lib.hid (N5.out.below hD)
  clear hD hwd K5 B5 N5
  generalize wd = w6 at *
  obtain ⟨t0, t1, t2, t3, t4, t5⟩ := ptc6 K6.out
  (refine OB.o_pure (v := ?_) (by rfl) (fun w' => ?_) ?_; rotate_left; (focus (go_simp; (try with_reducible rfl))); (try simp only [Act.put, List.setIfInBounds_toArray, List.set_cons_zero, List.set_cons_succ]))
  (refine OB.o_pure (v := ?_) (by rfl) (fun w' => ?_) ?_; rotate_left; (focus (go_simp; (try with_reducible rfl))); (try simp only [Act.put, List.setIfInBounds_toArray, List.set_cons_zero, List.set_cons_succ]))
  (refine OB.o_load _ (by rfl) rfl rfl (by dsimp only; first | assumption | omega) (by assumption) (by kernel_rfl) ?_; simp only [Act.put, List.setIfInBounds_toArray, List.set_cons_zero, List.set_cons_succ])
  (refine OB.o_pure (v := ?_) (by rfl) (fun w' => ?_) ?_; rotate_left; (focus (go_simp; (try with_reducible rfl))); (try simp only [Act.put, List.setIfInBounds_toArray, List.set_cons_zero, List.set_cons_succ]))
  (refine OB.o_pure (v := ?_) (by rfl) (fun w' => ?_) ?_; rotate_left; (focus (go_simp; (try with_reducible rfl))); (try simp only [Act.put, List.setIfInBounds_toArray, List.set_cons_zero, List.set_cons_succ]))
  (refine OB.o_load _ (by rfl) rfl rfl (by dsimp only; first | assumption | omega) (by assumption) (by kernel_rfl) ?_; simp only [Act.put, List.setIfInBounds_toArray, List.set_cons_zero, List.set_cons_succ])
  clear t0 t1 t2 t3 t4 t5
  refine OB.o_sole (fun K hK => ?_)
  go_wp2_with fail
  refine (rput_any 4 _ _ wn (T + 1) w6 (by omega) N6.out K6.out.lt (by simp [be_len]) (show wn < 18446744073709551616 by unfold q32 at *; omega)).mono ?_
  rintro e w7 ⟨v7, rfl, hN, hb⟩
  have N7 := Lib.hid hN
  have K7 := Lib.hid (K6.out.below hb (Nat.lt_succ_self T))
  have B7 := Lib.hid (B6.out.trans (hb.mono (by rw [HT.out]; exact Nat.le_succ _)))
  obtain ⟨A7, n7, c7, rfl, _, _, _⟩ := N7.out.out
  go_wp2_with fail
  refine hK _ _ (fun _ => OB.ExtB.at_ hb (fun k hk => hk)) ?_; clear hK K
  clear hN hb K6 B6 N6
  refine OB.o_sole (fun K hK => ?_)
  go_wp2_with fail
  refine (rput_any 8 _ _ t (T + 1) w7 (by omega) N7.out K7.out.lt (by simp [be_len]) ht).mono ?_
  rintro e w8 ⟨v8, rfl, hN, hb⟩
  have N8 := Lib.hid hN
  have K8 := Lib.hid (K7.out.below hb (Nat.lt_succ_self T))
  have B8 := Lib.hid (B7.out.trans (hb.mono (by rw [HT.out]; exact Nat.le_succ _)))
  obtain ⟨A8, n8, c8, rfl, _, _, _⟩ := N8.out.out
  go_wp2_with fail
  refine hK _ _ (fun _ => OB.ExtB.at_ hb (fun k hk => hk)) ?_; clear hK K
  clear hN hb K7 B7 N7
  (refine OB.o_pure (v := ?_) (by rfl) (fun w' => ?_) ?_; rotate_left; (focus (go_simp; (try with_reducible rfl))); (try simp only [Act.put, List.setIfInBounds_toArray, List.set_cons_zero, List.set_cons_succ]))
  refine OB.o_nil (hQ.out _ _ ?_); clear hQ QQ
  go_wp2_with fail
  go_ret
  exact ⟨⟨_, rfl, by have h := N8.out.mono (show w.heap.size ≤ T + 1 by rw [HT.out]; exact Nat.le_succ _); rwa [dataR 2 sq ak wn t false true rfl] at h⟩, B8.out⟩
set_option maxRecDepth 20000 in
set_option maxHeartbeats 4000000 in
theorem rdata_tf (sq ak wn t : Nat) (w : World) (hsq : q64 sq) (hak : q64 ak) (hwn : q32 wn) (ht : q64 t) : Calls Try.prog 19 #[.agg #[.bool true, .bool false, .int .u64 (sq : Int), .int .u64 (ak : Int), .int .u32 (wn : Int), .int .u64 (t : Int)]] w fun e w' => ByPost (dataB true false sq ak wn t) w.heap.size w' e ∧ Below w.heap.size w w' := by
  have hb0 : Below w.heap.size w (w.alloc (.cells #[.bool true, .bool false, .int .u64 (sq : Int), .int .u64 (ak : Int), .int .u32 (wn : Int), .int .u64 (t : Int)] 58)) := (Below.refl _ _).alloc (Nat.le_refl _) _
  have K0 := Lib.hid (Blk.new w 58 #[.bool true, .bool false, .int .u64 (sq : Int), .int .u64 (ak : Int), .int .u32 (wn : Int), .int .u64 (t : Int)])
  have B0 := Lib.hid hb0
  clear hb0
  go_enter Try.func19, Try.ntmps19
  go_wp2_with fail
  generalize w.alloc (.cells #[.bool true, .bool false, .int .u64 (sq : Int), .int .u64 (ak : Int), .int .u32 (wn : Int), .int .u64 (t : Int)] 58) = w0 at *
  obtain ⟨T, hT⟩ : ∃ T, T = w.heap.size := ⟨_, rfl⟩
  rw [← hT] at K0 ⊢
  have HT := Lib.hid hT
  clear hT
  have w_wn : IntKind.u64.wrap (wn : Int) = (wn : Int) := by rw [IntKind.wrap_u64]; unfold q32 at *; omega
  have HBF := Lib.hid (show ∀ w, Calls Try.prog 60 #[.bool true] w fun e w' => e = .returned (.int .u64 1) ∧ w = w' from fun w => bit_any true w)
  have HBP := Lib.hid (show ∀ w, Calls Try.prog 60 #[.bool false] w fun e w' => e = .returned (.int .u64 0) ∧ w = w' from fun w => bit_any false w)
  refine OB.wp_ord [(0, .pure), (1, .read), (3, .pure), (4, .read), (2, .sole), (5, .sole), (6, .pure), (7, .pure), (8, .sole), (9, .pure)] ⟨fun k => k < T + 1, []⟩ (by kernel_rfl) (by kernel_rfl) (fun QQ hQ wd hwd => ?_); (try simp only [List.map_cons, List.map_nil, List.getD_cons_zero, List.getD_cons_succ])
  have hD : Below w0.heap.size w0 wd := by rw [hwd.out]; exact (Below.refl _ _).drew
  have K1 := Lib.hid (K0.out.below hD K0.out.lt)
  have B1 := Lib.hid (B0.out.trans (hD.mono B0.out.size))
  clear hD hwd K0 B0
  generalize wd = w1 at *
  obtain ⟨t0, t1, t2, t3, t4, t5⟩ := ptc6 K1.out
  (refine OB.o_pure (v := ?_) (by rfl) (fun w' => ?_) ?_; rotate_left; (focus (go_simp; (try with_reducible rfl))); (try simp only [Act.put, List.setIfInBounds_toArray, List.set_cons_zero, List.set_cons_succ]))
  (refine OB.o_load _ (by rfl) rfl rfl (by dsimp only; first | assumption | omega) (by assumption) (by kernel_rfl) ?_; simp only [Act.put, List.setIfInBounds_toArray, List.set_cons_zero, List.set_cons_succ])
  (refine OB.o_pure (v := ?_) (by rfl) (fun w' => ?_) ?_; rotate_left; (focus (go_simp; (try with_reducible rfl))); (try simp only [Act.put, List.setIfInBounds_toArray, List.set_cons_zero, List.set_cons_succ]))
  (refine OB.o_load _ (by rfl) rfl rfl (by dsimp only; first | assumption | omega) (by assumption) (by kernel_rfl) ?_; simp only [Act.put, List.setIfInBounds_toArray, List.set_cons_zero, List.set_cons_succ])
  clear t0 t1 t2 t3 t4 t5
  refine OB.o_sole (fun K hK => ?_)
  go_wp2_with fail
  refine (HBF.out w1).mono ?_
  rintro e _ ⟨rfl, rfl⟩
  go_wp2_with fail
  refine hK _ _ (fun _ => OB.ExtB.refl _ _) ?_; clear hK K
  refine OB.o_sole (fun K hK => ?_)
  go_wp2_with fail
  refine (HBP.out w1).mono ?_
  rintro e _ ⟨rfl, rfl⟩
  go_wp2_with fail
  refine hK _ _ (fun _ => OB.ExtB.refl _ _) ?_; clear hK K
  (refine OB.o_pure (v := ?_) (by rfl) (fun w' => ?_) ?_; rotate_left; (focus (go_simp; (try with_reducible rfl))); (try simp only [Act.put, List.setIfInBounds_toArray, List.set_cons_zero, List.set_cons_succ]))
  (refine OB.o_pure (v := ?_) (by rfl) (fun w' => ?_) ?_; rotate_left; (focus (go_simp; (try with_reducible rfl))); (try simp only [Act.put, List.setIfInBounds_toArray, List.set_cons_zero, List.set_cons_succ]))
  refine OB.o_sole (fun K hK => ?_)
  go_wp2_with fail
  refine (rput_any 1 _ _ 1 (T + 1) w1 (by omega) (Nats.nil _ _ _ _) K1.out.lt (by simp [be_len]) (by omega)).mono ?_
  rintro e w2 ⟨v2, rfl, hN, hb⟩
  have N2 := Lib.hid hN
  have K2 := Lib.hid (K1.out.below hb (Nat.lt_succ_self T))
  have B2 := Lib.hid (B1.out.trans (hb.mono (by rw [HT.out]; exact Nat.le_succ _)))
  obtain ⟨A2, n2, c2, rfl, _, _, _⟩ := N2.out.out
  go_wp2_with fail
  refine hK _ _ (fun _ => OB.ExtB.at_ hb (fun k hk => hk)) ?_; clear hK K
  clear hN hb K1 B1
  (refine OB.o_pure (v := ?_) (by rfl) (fun w' => ?_) ?_; rotate_left; (focus (go_simp; (try with_reducible rfl))); (try simp only [Act.put, List.setIfInBounds_toArray, List.set_cons_zero, List.set_cons_succ]))
  refine OB.o_nil (hQ.out _ _ ?_); clear hQ QQ
  go_wp2_with fail
  refine OB.wp_ord [(0, .pure), (1, .pure), (2, .read), (4, .pure), (5, .read), (3, .sole), (6, .sole), (7, .pure)] ⟨fun k => k < T + 1, []⟩ (by kernel_rfl) (by kernel_rfl) (fun QQ hQ wd hwd => ?_); (try simp only [List.map_cons, List.map_nil, List.getD_cons_zero, List.getD_cons_succ])
  have hD : Below w2.heap.size w2 wd := by rw [hwd.out]; exact (Below.refl _ _).drew
  have K3 := Lib.hid (K2.out.below hD K2.out.lt)
  have B3 := Lib.hid (B2.out.trans (hD.mono B2.out.size))
  have N3 := Lib.hid (N2.out.below hD)
  clear hD hwd K2 B2 N2
  generalize wd = w3 at *
  obtain ⟨t0, t1, t2, t3, t4, t5⟩ := ptc6 K3.out
  (refine OB.o_pure (v := ?_) (by rfl) (fun w' => ?_) ?_; rotate_left; (focus (go_simp; (try with_reducible rfl))); (try simp only [Act.put, List.setIfInBounds_toArray, List.set_cons_zero, List.set_cons_succ]))
  (refine OB.o_pure (v := ?_) (by rfl) (fun w' => ?_) ?_; rotate_left; (focus (go_simp; (try with_reducible rfl))); (try simp only [Act.put, List.setIfInBounds_toArray, List.set_cons_zero, List.set_cons_succ]))
  (refine OB.o_load _ (by rfl) rfl rfl (by dsimp only; first | assumption | omega) (by assumption) (by kernel_rfl) ?_; simp only [Act.put, List.setIfInBounds_toArray, List.set_cons_zero, List.set_cons_succ])
  (refine OB.o_pure (v := ?_) (by rfl) (fun w' => ?_) ?_; rotate_left; (focus (go_simp; (try with_reducible rfl))); (try simp only [Act.put, List.setIfInBounds_toArray, List.set_cons_zero, List.set_cons_succ]))
  (refine OB.o_load _ (by rfl) rfl rfl (by dsimp only; first | assumption | omega) (by assumption) (by kernel_rfl) ?_; simp only [Act.put, List.setIfInBounds_toArray, List.set_cons_zero, List.set_cons_succ])
  clear t0 t1 t2 t3 t4 t5
  refine OB.o_sole (fun K hK => ?_)
  go_wp2_with fail
  refine (rput_any 8 _ _ sq (T + 1) w3 (by omega) N3.out K3.out.lt (by simp [be_len]) hsq).mono ?_
  rintro e w4 ⟨v4, rfl, hN, hb⟩
  have N4 := Lib.hid hN
  have K4 := Lib.hid (K3.out.below hb (Nat.lt_succ_self T))
  have B4 := Lib.hid (B3.out.trans (hb.mono (by rw [HT.out]; exact Nat.le_succ _)))
  obtain ⟨A4, n4, c4, rfl, _, _, _⟩ := N4.out.out
  go_wp2_with fail
  refine hK _ _ (fun _ => OB.ExtB.at_ hb (fun k hk => hk)) ?_; clear hK K
  clear hN hb K3 B3 N3
  refine OB.o_sole (fun K hK => ?_)
  go_wp2_with fail
  refine (rput_any 8 _ _ ak (T + 1) w4 (by omega) N4.out K4.out.lt (by simp [be_len]) hak).mono ?_
  rintro e w5 ⟨v5, rfl, hN, hb⟩
  have N5 := Lib.hid hN
  have K5 := Lib.hid (K4.out.below hb (Nat.lt_succ_self T))
  have B5 := Lib.hid (B4.out.trans (hb.mono (by rw [HT.out]; exact Nat.le_succ _)))
  obtain ⟨A5, n5, c5, rfl, _, _, _⟩ := N5.out.out
  go_wp2_with fail
  refine hK _ _ (fun _ => OB.ExtB.at_ hb (fun k hk => hk)) ?_; clear hK K
  clear hN hb K4 B4 N4
  (refine OB.o_pure (v := ?_) (by rfl) (fun w' => ?_) ?_; rotate_left; (focus (go_simp; (try with_reducible rfl))); (try simp only [Act.put, List.setIfInBounds_toArray, List.set_cons_zero, List.set_cons_succ]))
  refine OB.o_nil (hQ.out _ _ ?_); clear hQ QQ
  go_wp2_with fail
  refine OB.wp_ord [(0, .pure), (1, .pure), (2, .read), (3, .pure), (5, .pure), (6, .read), (4, .sole), (7, .sole), (8, .pure)] ⟨fun k => k < T + 1, []⟩ (by kernel_rfl) (by kernel_rfl) (fun QQ hQ wd hwd => ?_); (try simp only [List.map_cons, List.map_nil, List.getD_cons_zero, List.getD_cons_succ])
  have hD : Below w5.heap.size w5 wd := by rw [hwd.out]; exact (Below.refl _ _).drew
  have K6 := Lib.hid (K5.out.below hD K5.out.lt)
  have B6 := Lib.hid (B5.out.trans (hD.mono B5.out.size))
  have N6 := Lib.hid (N5.out.below hD)
  clear hD hwd K5 B5 N5
  generalize wd = w6 at *
  obtain ⟨t0, t1, t2, t3, t4, t5⟩ := ptc6 K6.out
  (refine OB.o_pure (v := ?_) (by rfl) (fun w' => ?_) ?_; rotate_left; (focus (go_simp; (try with_reducible rfl))); (try simp only [Act.put, List.setIfInBounds_toArray, List.set_cons_zero, List.set_cons_succ]))
  (refine OB.o_pure (v := ?_) (by rfl) (fun w' => ?_) ?_; rotate_left; (focus (go_simp; (try with_reducible rfl))); (try simp only [Act.put, List.setIfInBounds_toArray, List.set_cons_zero, List.set_cons_succ]))
  (refine OB.o_load _ (by rfl) rfl rfl (by dsimp only; first | assumption | omega) (by assumption) (by kernel_rfl) ?_; simp only [Act.put, List.setIfInBounds_toArray, List.set_cons_zero, List.set_cons_succ])
  (refine OB.o_pure (v := ?_) (by rfl) (fun w' => ?_) ?_; rotate_left; (focus (go_simp; (try with_reducible rfl))); (try simp only [Act.put, List.setIfInBounds_toArray, List.set_cons_zero, List.set_cons_succ]))
  (refine OB.o_pure (v := ?_) (by rfl) (fun w' => ?_) ?_; rotate_left; (focus (go_simp; (try with_reducible rfl))); (try simp only [Act.put, List.setIfInBounds_toArray, List.set_cons_zero, List.set_cons_succ]))
  (refine OB.o_load _ (by rfl) rfl rfl (by dsimp only; first | assumption | omega) (by assumption) (by kernel_rfl) ?_; simp only [Act.put, List.setIfInBounds_toArray, List.set_cons_zero, List.set_cons_succ])
  clear t0 t1 t2 t3 t4 t5
  refine OB.o_sole (fun K hK => ?_)
  go_wp2_with fail
  refine (rput_any 4 _ _ wn (T + 1) w6 (by omega) N6.out K6.out.lt (by simp [be_len]) (show wn < 18446744073709551616 by unfold q32 at *; omega)).mono ?_
  rintro e w7 ⟨v7, rfl, hN, hb⟩
  have N7 := Lib.hid hN
  have K7 := Lib.hid (K6.out.below hb (Nat.lt_succ_self T))
  have B7 := Lib.hid (B6.out.trans (hb.mono (by rw [HT.out]; exact Nat.le_succ _)))
  obtain ⟨A7, n7, c7, rfl, _, _, _⟩ := N7.out.out
  go_wp2_with fail
  refine hK _ _ (fun _ => OB.ExtB.at_ hb (fun k hk => hk)) ?_; clear hK K
  clear hN hb K6 B6 N6
  refine OB.o_sole (fun K hK => ?_)
  go_wp2_with fail
  refine (rput_any 8 _ _ t (T + 1) w7 (by omega) N7.out K7.out.lt (by simp [be_len]) ht).mono ?_
  rintro e w8 ⟨v8, rfl, hN, hb⟩
  have N8 := Lib.hid hN
  have K8 := Lib.hid (K7.out.below hb (Nat.lt_succ_self T))
  have B8 := Lib.hid (B7.out.trans (hb.mono (by rw [HT.out]; exact Nat.le_succ _)))
  obtain ⟨A8, n8, c8, rfl, _, _, _⟩ := N8.out.out
  go_wp2_with fail
  refine hK _ _ (fun _ => OB.ExtB.at_ hb (fun k hk => hk)) ?_; clear hK K
  clear hN hb K7 B7 N7
  (refine OB.o_pure (v := ?_) (by rfl) (fun w' => ?_) ?_; rotate_left; (focus (go_simp; (try with_reducible rfl))); (try simp only [Act.put, List.setIfInBounds_toArray, List.set_cons_zero, List.set_cons_succ]))
  refine OB.o_nil (hQ.out _ _ ?_); clear hQ QQ
  go_wp2_with fail
  go_ret
  exact ⟨⟨_, rfl, by have h := N8.out.mono (show w.heap.size ≤ T + 1 by rw [HT.out]; exact Nat.le_succ _); rwa [dataR 1 sq ak wn t true false rfl] at h⟩, B8.out⟩
set_option maxRecDepth 20000 in
set_option maxHeartbeats 4000000 in
theorem rdata_tt (sq ak wn t : Nat) (w : World) (hsq : q64 sq) (hak : q64 ak) (hwn : q32 wn) (ht : q64 t) : Calls Try.prog 19 #[.agg #[.bool true, .bool true, .int .u64 (sq : Int), .int .u64 (ak : Int), .int .u32 (wn : Int), .int .u64 (t : Int)]] w fun e w' => ByPost (dataB true true sq ak wn t) w.heap.size w' e ∧ Below w.heap.size w w' := by
  have hb0 : Below w.heap.size w (w.alloc (.cells #[.bool true, .bool true, .int .u64 (sq : Int), .int .u64 (ak : Int), .int .u32 (wn : Int), .int .u64 (t : Int)] 58)) := (Below.refl _ _).alloc (Nat.le_refl _) _
  have K0 := Lib.hid (Blk.new w 58 #[.bool true, .bool true, .int .u64 (sq : Int), .int .u64 (ak : Int), .int .u32 (wn : Int), .int .u64 (t : Int)])
  have B0 := Lib.hid hb0
  clear hb0
  go_enter Try.func19, Try.ntmps19
  go_wp2_with fail
  generalize w.alloc (.cells #[.bool true, .bool true, .int .u64 (sq : Int), .int .u64 (ak : Int), .int .u32 (wn : Int), .int .u64 (t : Int)] 58) = w0 at *
  obtain ⟨T, hT⟩ : ∃ T, T = w.heap.size := ⟨_, rfl⟩
  rw [← hT] at K0 ⊢
  have HT := Lib.hid hT
  clear hT
  have w_wn : IntKind.u64.wrap (wn : Int) = (wn : Int) := by rw [IntKind.wrap_u64]; unfold q32 at *; omega
  have HBF := Lib.hid (show ∀ w, Calls Try.prog 60 #[.bool true] w fun e w' => e = .returned (.int .u64 1) ∧ w = w' from fun w => bit_any true w)
  have HBP := Lib.hid (show ∀ w, Calls Try.prog 60 #[.bool true] w fun e w' => e = .returned (.int .u64 1) ∧ w = w' from fun w => bit_any true w)
  refine OB.wp_ord [(0, .pure), (1, .read), (3, .pure), (4, .read), (2, .sole), (5, .sole), (6, .pure), (7, .pure), (8, .sole), (9, .pure)] ⟨fun k => k < T + 1, []⟩ (by kernel_rfl) (by kernel_rfl) (fun QQ hQ wd hwd => ?_); (try simp only [List.map_cons, List.map_nil, List.getD_cons_zero, List.getD_cons_succ])
  have hD : Below w0.heap.size w0 wd := by rw [hwd.out]; exact (Below.refl _ _).drew
  have K1 := Lib.hid (K0.out.below hD K0.out.lt)
  have B1 := Lib.hid (B0.out.trans (hD.mono B0.out.size))
  clear hD hwd K0 B0
  generalize wd = w1 at *
  obtain ⟨t0, t1, t2, t3, t4, t5⟩ := ptc6 K1.out
  (refine OB.o_pure (v := ?_) (by rfl) (fun w' => ?_) ?_; rotate_left; (focus (go_simp; (try with_reducible rfl))); (try simp only [Act.put, List.setIfInBounds_toArray, List.set_cons_zero, List.set_cons_succ]))
  (refine OB.o_load _ (by rfl) rfl rfl (by dsimp only; first | assumption | omega) (by assumption) (by kernel_rfl) ?_; simp only [Act.put, List.setIfInBounds_toArray, List.set_cons_zero, List.set_cons_succ])
  (refine OB.o_pure (v := ?_) (by rfl) (fun w' => ?_) ?_; rotate_left; (focus (go_simp; (try with_reducible rfl))); (try simp only [Act.put, List.setIfInBounds_toArray, List.set_cons_zero, List.set_cons_succ]))
  (refine OB.o_load _ (by rfl) rfl rfl (by dsimp only; first | assumption | omega) (by assumption) (by kernel_rfl) ?_; simp only [Act.put, List.setIfInBounds_toArray, List.set_cons_zero, List.set_cons_succ])
  clear t0 t1 t2 t3 t4 t5
  refine OB.o_sole (fun K hK => ?_)
  go_wp2_with fail
  refine (HBF.out w1).mono ?_
  rintro e _ ⟨rfl, rfl⟩
  go_wp2_with fail
  refine hK _ _ (fun _ => OB.ExtB.refl _ _) ?_; clear hK K
  refine OB.o_sole (fun K hK => ?_)
  go_wp2_with fail
  refine (HBP.out w1).mono ?_
  rintro e _ ⟨rfl, rfl⟩
  go_wp2_with fail
  refine hK _ _ (fun _ => OB.ExtB.refl _ _) ?_; clear hK K
  (refine OB.o_pure (v := ?_) (by rfl) (fun w' => ?_) ?_; rotate_left; (focus (go_simp; (try with_reducible rfl))); (try simp only [Act.put, List.setIfInBounds_toArray, List.set_cons_zero, List.set_cons_succ]))
  (refine OB.o_pure (v := ?_) (by rfl) (fun w' => ?_) ?_; rotate_left; (focus (go_simp; (try with_reducible rfl))); (try simp only [Act.put, List.setIfInBounds_toArray, List.set_cons_zero, List.set_cons_succ]))
  refine OB.o_sole (fun K hK => ?_)
  go_wp2_with fail
  refine (rput_any 1 _ _ 3 (T + 1) w1 (by omega) (Nats.nil _ _ _ _) K1.out.lt (by simp [be_len]) (by omega)).mono ?_
  rintro e w2 ⟨v2, rfl, hN, hb⟩
  have N2 := Lib.hid hN
  have K2 := Lib.hid (K1.out.below hb (Nat.lt_succ_self T))
  have B2 := Lib.hid (B1.out.trans (hb.mono (by rw [HT.out]; exact Nat.le_succ _)))
  obtain ⟨A2, n2, c2, rfl, _, _, _⟩ := N2.out.out
  go_wp2_with fail
  refine hK _ _ (fun _ => OB.ExtB.at_ hb (fun k hk => hk)) ?_; clear hK K
  clear hN hb K1 B1
  (refine OB.o_pure (v := ?_) (by rfl) (fun w' => ?_) ?_; rotate_left; (focus (go_simp; (try with_reducible rfl))); (try simp only [Act.put, List.setIfInBounds_toArray, List.set_cons_zero, List.set_cons_succ]))
  refine OB.o_nil (hQ.out _ _ ?_); clear hQ QQ
  go_wp2_with fail
  refine OB.wp_ord [(0, .pure), (1, .pure), (2, .read), (4, .pure), (5, .read), (3, .sole), (6, .sole), (7, .pure)] ⟨fun k => k < T + 1, []⟩ (by kernel_rfl) (by kernel_rfl) (fun QQ hQ wd hwd => ?_); (try simp only [List.map_cons, List.map_nil, List.getD_cons_zero, List.getD_cons_succ])
  have hD : Below w2.heap.size w2 wd := by rw [hwd.out]; exact (Below.refl _ _).drew
  have K3 := Lib.hid (K2.out.below hD K2.out.lt)
  have B3 := Lib.hid (B2.out.trans (hD.mono B2.out.size))
  have N3 := Lib.hid (N2.out.below hD)
  clear hD hwd K2 B2 N2
  generalize wd = w3 at *
  obtain ⟨t0, t1, t2, t3, t4, t5⟩ := ptc6 K3.out
  (refine OB.o_pure (v := ?_) (by rfl) (fun w' => ?_) ?_; rotate_left; (focus (go_simp; (try with_reducible rfl))); (try simp only [Act.put, List.setIfInBounds_toArray, List.set_cons_zero, List.set_cons_succ]))
  (refine OB.o_pure (v := ?_) (by rfl) (fun w' => ?_) ?_; rotate_left; (focus (go_simp; (try with_reducible rfl))); (try simp only [Act.put, List.setIfInBounds_toArray, List.set_cons_zero, List.set_cons_succ]))
  (refine OB.o_load _ (by rfl) rfl rfl (by dsimp only; first | assumption | omega) (by assumption) (by kernel_rfl) ?_; simp only [Act.put, List.setIfInBounds_toArray, List.set_cons_zero, List.set_cons_succ])
  (refine OB.o_pure (v := ?_) (by rfl) (fun w' => ?_) ?_; rotate_left; (focus (go_simp; (try with_reducible rfl))); (try simp only [Act.put, List.setIfInBounds_toArray, List.set_cons_zero, List.set_cons_succ]))
  (refine OB.o_load _ (by rfl) rfl rfl (by dsimp only; first | assumption | omega) (by assumption) (by kernel_rfl) ?_; simp only [Act.put, List.setIfInBounds_toArray, List.set_cons_zero, List.set_cons_succ])
  clear t0 t1 t2 t3 t4 t5
  refine OB.o_sole (fun K hK => ?_)
  go_wp2_with fail
  refine (rput_any 8 _ _ sq (T + 1) w3 (by omega) N3.out K3.out.lt (by simp [be_len]) hsq).mono ?_
  rintro e w4 ⟨v4, rfl, hN, hb⟩
  have N4 := Lib.hid hN
  have K4 := Lib.hid (K3.out.below hb (Nat.lt_succ_self T))
  have B4 := Lib.hid (B3.out.trans (hb.mono (by rw [HT.out]; exact Nat.le_succ _)))
  obtain ⟨A4, n4, c4, rfl, _, _, _⟩ := N4.out.out
  go_wp2_with fail
  refine hK _ _ (fun _ => OB.ExtB.at_ hb (fun k hk => hk)) ?_; clear hK K
  clear hN hb K3 B3 N3
  refine OB.o_sole (fun K hK => ?_)
  go_wp2_with fail
  refine (rput_any 8 _ _ ak (T + 1) w4 (by omega) N4.out K4.out.lt (by simp [be_len]) hak).mono ?_
  rintro e w5 ⟨v5, rfl, hN, hb⟩
  have N5 := Lib.hid hN
  have K5 := Lib.hid (K4.out.below hb (Nat.lt_succ_self T))
  have B5 := Lib.hid (B4.out.trans (hb.mono (by rw [HT.out]; exact Nat.le_succ _)))
  obtain ⟨A5, n5, c5, rfl, _, _, _⟩ := N5.out.out
  go_wp2_with fail
  refine hK _ _ (fun _ => OB.ExtB.at_ hb (fun k hk => hk)) ?_; clear hK K
  clear hN hb K4 B4 N4
  (refine OB.o_pure (v := ?_) (by rfl) (fun w' => ?_) ?_; rotate_left; (focus (go_simp; (try with_reducible rfl))); (try simp only [Act.put, List.setIfInBounds_toArray, List.set_cons_zero, List.set_cons_succ]))
  refine OB.o_nil (hQ.out _ _ ?_); clear hQ QQ
  go_wp2_with fail
  refine OB.wp_ord [(0, .pure), (1, .pure), (2, .read), (3, .pure), (5, .pure), (6, .read), (4, .sole), (7, .sole), (8, .pure)] ⟨fun k => k < T + 1, []⟩ (by kernel_rfl) (by kernel_rfl) (fun QQ hQ wd hwd => ?_); (try simp only [List.map_cons, List.map_nil, List.getD_cons_zero, List.getD_cons_succ])
  have hD : Below w5.heap.size w5 wd := by rw [hwd.out]; exact (Below.refl _ _).drew
  have K6 := Lib.hid (K5.out.below hD K5.out.lt)
  have B6 := Lib.hid (B5.out.trans (hD.mono B5.out.size))
  have N6 := Lib.hid (N5.out.below hD)
  clear hD hwd K5 B5 N5
  generalize wd = w6 at *
  obtain ⟨t0, t1, t2, t3, t4, t5⟩ := ptc6 K6.out
  (refine OB.o_pure (v := ?_) (by rfl) (fun w' => ?_) ?_; rotate_left; (focus (go_simp; (try with_reducible rfl))); (try simp only [Act.put, List.setIfInBounds_toArray, List.set_cons_zero, List.set_cons_succ]))
  (refine OB.o_pure (v := ?_) (by rfl) (fun w' => ?_) ?_; rotate_left; (focus (go_simp; (try with_reducible rfl))); (try simp only [Act.put, List.setIfInBounds_toArray, List.set_cons_zero, List.set_cons_succ]))
  (refine OB.o_load _ (by rfl) rfl rfl (by dsimp only; first | assumption | omega) (by assumption) (by kernel_rfl) ?_; simp only [Act.put, List.setIfInBounds_toArray, List.set_cons_zero, List.set_cons_succ])
  (refine OB.o_pure (v := ?_) (by rfl) (fun w' => ?_) ?_; rotate_left; (focus (go_simp; (try with_reducible rfl))); (try simp only [Act.put, List.setIfInBounds_toArray, List.set_cons_zero, List.set_cons_succ]))
  (refine OB.o_pure (v := ?_) (by rfl) (fun w' => ?_) ?_; rotate_left; (focus (go_simp; (try with_reducible rfl))); (try simp only [Act.put, List.setIfInBounds_toArray, List.set_cons_zero, List.set_cons_succ]))
  (refine OB.o_load _ (by rfl) rfl rfl (by dsimp only; first | assumption | omega) (by assumption) (by kernel_rfl) ?_; simp only [Act.put, List.setIfInBounds_toArray, List.set_cons_zero, List.set_cons_succ])
  clear t0 t1 t2 t3 t4 t5
  refine OB.o_sole (fun K hK => ?_)
  go_wp2_with fail
  refine (rput_any 4 _ _ wn (T + 1) w6 (by omega) N6.out K6.out.lt (by simp [be_len]) (show wn < 18446744073709551616 by unfold q32 at *; omega)).mono ?_
  rintro e w7 ⟨v7, rfl, hN, hb⟩
  have N7 := Lib.hid hN
  have K7 := Lib.hid (K6.out.below hb (Nat.lt_succ_self T))
  have B7 := Lib.hid (B6.out.trans (hb.mono (by rw [HT.out]; exact Nat.le_succ _)))
  obtain ⟨A7, n7, c7, rfl, _, _, _⟩ := N7.out.out
  go_wp2_with fail
  refine hK _ _ (fun _ => OB.ExtB.at_ hb (fun k hk => hk)) ?_; clear hK K
  clear hN hb K6 B6 N6
  refine OB.o_sole (fun K hK => ?_)
  go_wp2_with fail
  refine (rput_any 8 _ _ t (T + 1) w7 (by omega) N7.out K7.out.lt (by simp [be_len]) ht).mono ?_
  rintro e w8 ⟨v8, rfl, hN, hb⟩
  have N8 := Lib.hid hN
  have K8 := Lib.hid (K7.out.below hb (Nat.lt_succ_self T))
  have B8 := Lib.hid (B7.out.trans (hb.mono (by rw [HT.out]; exact Nat.le_succ _)))
  obtain ⟨A8, n8, c8, rfl, _, _, _⟩ := N8.out.out
  go_wp2_with fail
  refine hK _ _ (fun _ => OB.ExtB.at_ hb (fun k hk => hk)) ?_; clear hK K
  clear hN hb K7 B7 N7
  (refine OB.o_pure (v := ?_) (by rfl) (fun w' => ?_) ?_; rotate_left; (focus (go_simp; (try with_reducible rfl))); (try simp only [Act.put, List.setIfInBounds_toArray, List.set_cons_zero, List.set_cons_succ]))
  refine OB.o_nil (hQ.out _ _ ?_); clear hQ QQ
  go_wp2_with fail
  go_ret
  exact ⟨⟨_, rfl, by have h := N8.out.mono (show w.heap.size ≤ T + 1 by rw [HT.out]; exact Nat.le_succ _); rwa [dataR 3 sq ak wn t true true rfl] at h⟩, B8.out⟩
theorem rdata_any (f p : Bool) (sq ak wn t : Nat) (w : World) (hsq : q64 sq) (hak : q64 ak) (hwn : q32 wn) (ht : q64 t) : Calls Try.prog 19 #[.agg #[.bool f, .bool p, .int .u64 (sq : Int), .int .u64 (ak : Int), .int .u32 (wn : Int), .int .u64 (t : Int)]] w fun e w' => ByPost (dataB f p sq ak wn t) w.heap.size w' e ∧ Below w.heap.size w w' := by
  cases f <;> cases p
  · exact rdata_ff sq ak wn t w hsq hak hwn ht
  · exact rdata_ft sq ak wn t w hsq hak hwn ht
  · exact rdata_tf sq ak wn t w hsq hak hwn ht
  · exact rdata_tt sq ak wn t w hsq hak hwn ht
set_option maxRecDepth 20000 in
set_option maxHeartbeats 4000000 in
theorem rword_any (nm id pa t : Nat) (bk : Bool) (w : World) (hnm : q32 nm) (hid : id < 256) (hpa : pa < 256) (ht : q64 t) : Calls Try.prog 20 #[.agg #[.int .u32 (nm : Int), .int .u8 (id : Int), .int .u8 (pa : Int), .bool bk, .int .u64 (t : Int)]] w fun e w' => ByPost (wordB nm id pa bk t) w.heap.size w' e ∧ Below w.heap.size w w' := by
  have hb0 : Below w.heap.size w (w.alloc (.cells #[.int .u32 (nm : Int), .int .u8 (id : Int), .int .u8 (pa : Int), .bool bk, .int .u64 (t : Int)] 61)) := (Below.refl _ _).alloc (Nat.le_refl _) _
  have K0 := Lib.hid (Blk.new w 61 #[.int .u32 (nm : Int), .int .u8 (id : Int), .int .u8 (pa : Int), .bool bk, .int .u64 (t : Int)])
  have B0 := Lib.hid hb0
  clear hb0
  go_enter Try.func20, Try.ntmps20
  go_wp2_with fail
  generalize w.alloc (.cells #[.int .u32 (nm : Int), .int .u8 (id : Int), .int .u8 (pa : Int), .bool bk, .int .u64 (t : Int)] 61) = w0 at *
  obtain ⟨T, hT⟩ : ∃ T, T = w.heap.size := ⟨_, rfl⟩
  rw [← hT] at K0 ⊢
  have HT := Lib.hid hT
  clear hT
  have w_nm : IntKind.u64.wrap (nm : Int) = (nm : Int) := by rw [IntKind.wrap_u64]; unfold q32 at *; omega
  refine OB.wp_f ⟨fun k => k < T + 1, []⟩ (by kernel_rfl) (fun QQ hQ wd hwd => ?_)
  have hD : Below w0.heap.size w0 wd := by rw [hwd.out]; exact (Below.refl _ _).drew
  have K1 := Lib.hid (K0.out.below hD K0.out.lt)
  have B1 := Lib.hid (B0.out.trans (hD.mono B0.out.size))
  clear hD hwd K0 B0
  generalize wd = w1 at *
  obtain ⟨t0, t1, t2, t3, t4⟩ := ptc5 K1.out
  refine OB.f_walk [(0, .pure), (1, .read), (2, .pure), (4, .pure), (5, .read), (6, .pure), (7, .read)] 4 (by rfl) (by kernel_rfl) ?_; (try simp only [List.map_cons, List.map_nil, List.getD_cons_zero, List.getD_cons_succ])
  (refine OB.o_pure (v := ?_) (by rfl) (fun w' => ?_) ?_; rotate_left; (focus (go_simp; (try with_reducible rfl))); (try simp only [Act.put, List.setIfInBounds_toArray, List.set_cons_zero, List.set_cons_succ]))
  (refine OB.o_load _ (by rfl) rfl rfl (by dsimp only; first | assumption | omega) (by assumption) (by kernel_rfl) ?_; simp only [Act.put, List.setIfInBounds_toArray, List.set_cons_zero, List.set_cons_succ])
  (refine OB.o_pure (v := ?_) (by rfl) (fun w' => ?_) ?_; rotate_left; (focus (go_simp; (try with_reducible rfl))); (try simp only [Act.put, List.setIfInBounds_toArray, List.set_cons_zero, List.set_cons_succ]))
  (refine OB.o_pure (v := ?_) (by rfl) (fun w' => ?_) ?_; rotate_left; (focus (go_simp; (try with_reducible rfl))); (try simp only [Act.put, List.setIfInBounds_toArray, List.set_cons_zero, List.set_cons_succ]))
  (refine OB.o_load _ (by rfl) rfl rfl (by dsimp only; first | assumption | omega) (by assumption) (by kernel_rfl) ?_; simp only [Act.put, List.setIfInBounds_toArray, List.set_cons_zero, List.set_cons_succ])
  (refine OB.o_pure (v := ?_) (by rfl) (fun w' => ?_) ?_; rotate_left; (focus (go_simp; (try with_reducible rfl))); (try simp only [Act.put, List.setIfInBounds_toArray, List.set_cons_zero, List.set_cons_succ]))
  (refine OB.o_load _ (by rfl) rfl rfl (by dsimp only; first | assumption | omega) (by assumption) (by kernel_rfl) ?_; simp only [Act.put, List.setIfInBounds_toArray, List.set_cons_zero, List.set_cons_succ])
  clear t0 t1 t2 t3 t4
  refine OB.o_nil ?_
  refine OB.f_fork 3 8 (by kernel_rfl) (by kernel_rfl) ?_ ?_
  ·
    (try simp only [List.map_cons, List.map_nil, List.getD_cons_zero, List.getD_cons_succ])
    refine OB.o_sole (fun K hK => ?_)
    go_wp2_with fail
    refine (rput_any 4 _ _ nm (T + 1) w1 (by omega) (Nats.nil _ _ _ _) K1.out.lt (by simp [be_len]) (show nm < 18446744073709551616 by unfold q32 at *; omega)).mono ?_
    rintro e w2 ⟨v2, rfl, hN, hb⟩
    have N2 := Lib.hid hN
    have K2 := Lib.hid (K1.out.below hb (Nat.lt_succ_self T))
    have B2 := Lib.hid (B1.out.trans (hb.mono (by rw [HT.out]; exact Nat.le_succ _)))
    obtain ⟨A2, n2, c2, rfl, _, _, _⟩ := N2.out.out
    go_wp2_with fail
    refine hK _ _ (fun _ => OB.ExtB.at_ hb (fun k hk => hk)) ?_; clear hK K
    clear hN hb K1 B1
    refine OB.o_nil ?_
    refine OB.f_walk [(8, .sole), (9, .sole), (10, .pure)] 0 (by rfl) (by kernel_rfl) ?_; (try simp only [List.map_cons, List.map_nil, List.getD_cons_zero, List.getD_cons_succ])
    refine OB.o_sole (fun K hK => ?_)
    go_wp2_with fail
    refine hK _ _ (fun _ => OB.ExtB.at_ ((Below.refl _ _).alloc (Nat.le_refl _) _) (fun k hk => Nat.lt_of_lt_of_le hk K2.out.lt)) ?_; clear hK K
    have hb1 : Below w2.heap.size w2 (w2.alloc (.cells #[.int .u8 (id : Int), .int .u8 (pa : Int)] 5)) := (Below.refl _ _).alloc (Nat.le_refl _) _
    refine OB.o_sole (fun K hK => ?_)
    refine appn pel8 rfl (.tmp 7) (.tmp 12) rfl rfl (N2.out.alloc _) rfl (Rd.lit (w := w2) (B := w2.heap.size + 1) [id, pa] rfl (by omega) rfl rfl) (by simp [be_len]; exact room_ge (by omega)) (Nat.le_trans K2.out.lt hb1.size) ?_
    intro v3 w3 hN _ hb2
    have hb : Below (T + 1) w2 w3 := (hb1.mono K2.out.lt).trans hb2
    refine wpList_nil ?_
    have N3 := Lib.hid hN
    have K3 := Lib.hid (K2.out.below hb (Nat.lt_succ_self T))
    have B3 := Lib.hid (B2.out.trans (hb.mono (by rw [HT.out]; exact Nat.le_succ _)))
    obtain ⟨A3, n3, c3, rfl, _, _, _⟩ := N3.out.out
    refine hK _ _ (fun _ => OB.ExtB.at_ hb2 (fun k hk => hk)) ?_; clear hK K
    clear hN hb hb1 hb2 K2 B2 N2
    (refine OB.o_pure (v := ?_) (by rfl) (fun w' => ?_) ?_; rotate_left; (focus (go_simp; (try with_reducible rfl))); (try simp only [Act.put, List.setIfInBounds_toArray, List.set_cons_zero, List.set_cons_succ]))
    refine OB.o_nil ?_
    refine OB.f_end (by kernel_rfl) (hQ.out _ _ ?_); clear hQ QQ
    go_wp2_with fail
    refine OB.wp_ord [(0, .pure), (1, .pure), (2, .read), (5, .pure), (6, .read), (3, .sole), (4, .sole), (7, .sole), (8, .pure)] ⟨fun k => k < T + 1, []⟩ (by kernel_rfl) (by kernel_rfl) (fun QQ hQ wd hwd => ?_); (try simp only [List.map_cons, List.map_nil, List.getD_cons_zero, List.getD_cons_succ])
    have hD : Below w3.heap.size w3 wd := by rw [hwd.out]; exact (Below.refl _ _).drew
    have K4 := Lib.hid (K3.out.below hD K3.out.lt)
    have B4 := Lib.hid (B3.out.trans (hD.mono B3.out.size))
    have N4 := Lib.hid (N3.out.below hD)
    clear hD hwd K3 B3 N3
    generalize wd = w4 at *
    obtain ⟨t0, t1, t2, t3, t4⟩ := ptc5 K4.out
    (refine OB.o_pure (v := ?_) (by rfl) (fun w' => ?_) ?_; rotate_left; (focus (go_simp; (try with_reducible rfl))); (try simp only [Act.put, List.setIfInBounds_toArray, List.set_cons_zero, List.set_cons_succ]))
    (refine OB.o_pure (v := ?_) (by rfl) (fun w' => ?_) ?_; rotate_left; (focus (go_simp; (try with_reducible rfl))); (try simp only [Act.put, List.setIfInBounds_toArray, List.set_cons_zero, List.set_cons_succ]))
    (refine OB.o_load _ (by rfl) rfl rfl (by dsimp only; first | assumption | omega) (by assumption) (by kernel_rfl) ?_; simp only [Act.put, List.setIfInBounds_toArray, List.set_cons_zero, List.set_cons_succ])
    (refine OB.o_pure (v := ?_) (by rfl) (fun w' => ?_) ?_; rotate_left; (focus (go_simp; (try with_reducible rfl))); (try simp only [Act.put, List.setIfInBounds_toArray, List.set_cons_zero, List.set_cons_succ]))
    (refine OB.o_load _ (by rfl) rfl rfl (by dsimp only; first | assumption | omega) (by assumption) (by kernel_rfl) ?_; simp only [Act.put, List.setIfInBounds_toArray, List.set_cons_zero, List.set_cons_succ])
    clear t0 t1 t2 t3 t4
    refine OB.o_sole (fun K hK => ?_)
    go_wp2_with fail
    refine (bit_any bk w4).mono ?_
    rintro e _ ⟨rfl, rfl⟩
    go_wp2_with fail
    refine hK _ _ (fun _ => OB.ExtB.refl _ _) ?_; clear hK K
    refine OB.o_sole (fun K hK => ?_)
    go_wp2_with fail
    refine (rput_any 1 _ _ (bitN bk) (T + 1) w4 (by omega) N4.out K4.out.lt (by simp [be_len]) (show bitN bk < 18446744073709551616 by have := bitN_lt bk; omega)).mono ?_
    rintro e w5 ⟨v5, rfl, hN, hb⟩
    have N5 := Lib.hid hN
    have K5 := Lib.hid (K4.out.below hb (Nat.lt_succ_self T))
    have B5 := Lib.hid (B4.out.trans (hb.mono (by rw [HT.out]; exact Nat.le_succ _)))
    obtain ⟨A5, n5, c5, rfl, _, _, _⟩ := N5.out.out
    go_wp2_with fail
    refine hK _ _ (fun _ => OB.ExtB.at_ hb (fun k hk => hk)) ?_; clear hK K
    clear hN hb K4 B4 N4
    refine OB.o_sole (fun K hK => ?_)
    go_wp2_with fail
    refine (rput_any 8 _ _ t (T + 1) w5 (by omega) N5.out K5.out.lt (by simp [be_len]) ht).mono ?_
    rintro e w6 ⟨v6, rfl, hN, hb⟩
    have N6 := Lib.hid hN
    have K6 := Lib.hid (K5.out.below hb (Nat.lt_succ_self T))
    have B6 := Lib.hid (B5.out.trans (hb.mono (by rw [HT.out]; exact Nat.le_succ _)))
    obtain ⟨A6, n6, c6, rfl, _, _, _⟩ := N6.out.out
    go_wp2_with fail
    refine hK _ _ (fun _ => OB.ExtB.at_ hb (fun k hk => hk)) ?_; clear hK K
    clear hN hb K5 B5 N5
    (refine OB.o_pure (v := ?_) (by rfl) (fun w' => ?_) ?_; rotate_left; (focus (go_simp; (try with_reducible rfl))); (try simp only [Act.put, List.setIfInBounds_toArray, List.set_cons_zero, List.set_cons_succ]))
    refine OB.o_nil (hQ.out _ _ ?_); clear hQ QQ
    go_wp2_with fail
    go_ret
    exact ⟨⟨_, rfl, by have h := N6.out.mono (show w.heap.size ≤ T + 1 by rw [HT.out]; exact Nat.le_succ _); rwa [wordR nm id pa bk t] at h⟩, B6.out⟩
  ·
    (try simp only [List.map_cons, List.map_nil, List.getD_cons_zero, List.getD_cons_succ])
    refine OB.o_sole (fun K hK => ?_)
    go_wp2_with fail
    refine hK _ _ (fun _ => OB.ExtB.at_ ((Below.refl _ _).alloc (Nat.le_refl _) _) (fun k hk => Nat.lt_of_lt_of_le hk K1.out.lt)) ?_; clear hK K
    refine OB.o_nil ?_
    have hb1 : Below w1.heap.size w1 (w1.alloc (.cells #[.int .u8 (id : Int), .int .u8 (pa : Int)] 5)) := (Below.refl _ _).alloc (Nat.le_refl _) _
    have HL := Lib.hid (Rd.lit (w := w1) (B := w1.heap.size + 1) (t := 5) (cs := #[.int .u8 (id : Int), .int .u8 (pa : Int)]) (k := .u8) (n := 2) [id, pa] rfl (by omega) rfl rfl)
    have hz : (w1.alloc (.cells #[.int .u8 (id : Int), .int .u8 (pa : Int)] 5)).heap.size = w1.heap.size + 1 := by simp
    rw [← hz] at HL
    have K2 := Lib.hid (K1.out.below hb1 K1.out.lt)
    have B2 := Lib.hid (B1.out.trans (hb1.mono B1.out.size))
    clear hb1 hz K1 B1
    generalize w1.alloc (.cells #[.int .u8 (id : Int), .int .u8 (pa : Int)] 5) = w2 at *
    refine OB.f_walk [(3, .sole), (9, .sole), (10, .pure)] 0 (by rfl) (by kernel_rfl) ?_; (try simp only [List.map_cons, List.map_nil, List.getD_cons_zero, List.getD_cons_succ])
    refine OB.o_sole (fun K hK => ?_)
    go_wp2_with fail
    refine (rput_any 4 _ _ nm w2.heap.size w2 (by omega) (Nats.nil _ _ _ _) (Nat.le_refl _) (by simp [be_len]) (show nm < 18446744073709551616 by unfold q32 at *; omega)).mono ?_
    rintro e w3 ⟨v3, rfl, hN, hb⟩
    have N3 := Lib.hid (hN.mono K2.out.lt)
    have K3 := Lib.hid (K2.out.below hb K2.out.lt)
    have B3 := Lib.hid (B2.out.trans (hb.mono B2.out.size))
    have HL3 := Lib.hid (HL.out.into hb)
    obtain ⟨A3, n3, c3, rfl, _, _, _⟩ := N3.out.out
    go_wp2_with fail
    refine hK _ _ (fun _ => OB.ExtB.at_ hb (fun k hk => Nat.lt_of_lt_of_le hk K2.out.lt)) ?_; clear hK K
    clear hN hb K2 B2 HL
    refine OB.o_sole (fun K hK => ?_)
    refine appn pel8 rfl (.tmp 7) (.tmp 12) rfl rfl N3.out rfl HL3.out (by simp [be_len]; exact room_ge (by omega)) K3.out.lt ?_
    intro v4 w4 hN _ hb
    refine wpList_nil ?_
    have N4 := Lib.hid hN
    have K4 := Lib.hid (K3.out.below hb (Nat.lt_succ_self T))
    have B4 := Lib.hid (B3.out.trans (hb.mono (by rw [HT.out]; exact Nat.le_succ _)))
    obtain ⟨A4, n4, c4, rfl, _, _, _⟩ := N4.out.out
    refine hK _ _ (fun _ => OB.ExtB.at_ hb (fun k hk => hk)) ?_; clear hK K
    clear hN hb K3 B3 N3 HL3
    (refine OB.o_pure (v := ?_) (by rfl) (fun w' => ?_) ?_; rotate_left; (focus (go_simp; (try with_reducible rfl))); (try simp only [Act.put, List.setIfInBounds_toArray, List.set_cons_zero, List.set_cons_succ]))
    refine OB.o_nil ?_
    refine OB.f_end (by kernel_rfl) (hQ.out _ _ ?_); clear hQ QQ
    go_wp2_with fail
    refine OB.wp_ord [(0, .pure), (1, .pure), (2, .read), (5, .pure), (6, .read), (3, .sole), (4, .sole), (7, .sole), (8, .pure)] ⟨fun k => k < T + 1, []⟩ (by kernel_rfl) (by kernel_rfl) (fun QQ hQ wd hwd => ?_); (try simp only [List.map_cons, List.map_nil, List.getD_cons_zero, List.getD_cons_succ])
    have hD : Below w4.heap.size w4 wd := by rw [hwd.out]; exact (Below.refl _ _).drew
    have K5 := Lib.hid (K4.out.below hD K4.out.lt)
    have B5 := Lib.hid (B4.out.trans (hD.mono B4.out.size))
    have N5 := Lib.hid (N4.out.below hD)
    clear hD hwd K4 B4 N4
    generalize wd = w5 at *
    obtain ⟨t0, t1, t2, t3, t4⟩ := ptc5 K5.out
    (refine OB.o_pure (v := ?_) (by rfl) (fun w' => ?_) ?_; rotate_left; (focus (go_simp; (try with_reducible rfl))); (try simp only [Act.put, List.setIfInBounds_toArray, List.set_cons_zero, List.set_cons_succ]))
    (refine OB.o_pure (v := ?_) (by rfl) (fun w' => ?_) ?_; rotate_left; (focus (go_simp; (try with_reducible rfl))); (try simp only [Act.put, List.setIfInBounds_toArray, List.set_cons_zero, List.set_cons_succ]))
    (refine OB.o_load _ (by rfl) rfl rfl (by dsimp only; first | assumption | omega) (by assumption) (by kernel_rfl) ?_; simp only [Act.put, List.setIfInBounds_toArray, List.set_cons_zero, List.set_cons_succ])
    (refine OB.o_pure (v := ?_) (by rfl) (fun w' => ?_) ?_; rotate_left; (focus (go_simp; (try with_reducible rfl))); (try simp only [Act.put, List.setIfInBounds_toArray, List.set_cons_zero, List.set_cons_succ]))
    (refine OB.o_load _ (by rfl) rfl rfl (by dsimp only; first | assumption | omega) (by assumption) (by kernel_rfl) ?_; simp only [Act.put, List.setIfInBounds_toArray, List.set_cons_zero, List.set_cons_succ])
    clear t0 t1 t2 t3 t4
    refine OB.o_sole (fun K hK => ?_)
    go_wp2_with fail
    refine (bit_any bk w5).mono ?_
    rintro e _ ⟨rfl, rfl⟩
    go_wp2_with fail
    refine hK _ _ (fun _ => OB.ExtB.refl _ _) ?_; clear hK K
    refine OB.o_sole (fun K hK => ?_)
    go_wp2_with fail
    refine (rput_any 1 _ _ (bitN bk) (T + 1) w5 (by omega) N5.out K5.out.lt (by simp [be_len]) (show bitN bk < 18446744073709551616 by have := bitN_lt bk; omega)).mono ?_
    rintro e w6 ⟨v6, rfl, hN, hb⟩
    have N6 := Lib.hid hN
    have K6 := Lib.hid (K5.out.below hb (Nat.lt_succ_self T))
    have B6 := Lib.hid (B5.out.trans (hb.mono (by rw [HT.out]; exact Nat.le_succ _)))
    obtain ⟨A6, n6, c6, rfl, _, _, _⟩ := N6.out.out
    go_wp2_with fail
    refine hK _ _ (fun _ => OB.ExtB.at_ hb (fun k hk => hk)) ?_; clear hK K
    clear hN hb K5 B5 N5
    refine OB.o_sole (fun K hK => ?_)
    go_wp2_with fail
    refine (rput_any 8 _ _ t (T + 1) w6 (by omega) N6.out K6.out.lt (by simp [be_len]) ht).mono ?_
    rintro e w7 ⟨v7, rfl, hN, hb⟩
    have N7 := Lib.hid hN
    have K7 := Lib.hid (K6.out.below hb (Nat.lt_succ_self T))
    have B7 := Lib.hid (B6.out.trans (hb.mono (by rw [HT.out]; exact Nat.le_succ _)))
    obtain ⟨A7, n7, c7, rfl, _, _, _⟩ := N7.out.out
    go_wp2_with fail
    refine hK _ _ (fun _ => OB.ExtB.at_ hb (fun k hk => hk)) ?_; clear hK K
    clear hN hb K6 B6 N6
    (refine OB.o_pure (v := ?_) (by rfl) (fun w' => ?_) ?_; rotate_left; (focus (go_simp; (try with_reducible rfl))); (try simp only [Act.put, List.setIfInBounds_toArray, List.set_cons_zero, List.set_cons_succ]))
    refine OB.o_nil (hQ.out _ _ ?_); clear hQ QQ
    go_wp2_with fail
    go_ret
    exact ⟨⟨_, rfl, by have h := N7.out.mono (show w.heap.size ≤ T + 1 by rw [HT.out]; exact Nat.le_succ _); rwa [wordR nm id pa bk t] at h⟩, B7.out⟩
end Go.Proofs.Ytbiimgfocgbdaaa
