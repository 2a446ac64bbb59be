/- Layer 8: the law OptWrites answers true, and nothing that was there has turned. -/
import Derived.Test.YtiblmlmkpilgmaaOp5
import Derived.Test.YtiblmlmkpilgmaaOp8
import Derived.Test.YtiblmlmkpilgmaaOpenOp
namespace Go.Proofs.Ytiblmlmkpilgmaa
open Go.RowKit Go.ChangeShapes Go.WideShapes Go.ChangeAt
set_option linter.unusedVariables false
set_option linter.unusedSimpArgs false
set_option maxRecDepth 20000 in
set_option maxHeartbeats 8000000 in
theorem optWrites_walk (x : OA) (w : World) (hx : x.bd) : Calls Try.prog 3 #[.agg x.cs] w fun e w' => e = .returned (.bool true) ∧ Below w.heap.size w w' := by
  have hb0 : Below w.heap.size w (w.alloc (.cells x.cs 35)) := (Below.refl _ _).alloc (Nat.le_refl _) _
  have K0 := Lib.hid (Blk.new w 35 x.cs)
  have B0 := Lib.hid hb0
  have HX := Lib.hid hx
  clear hb0 hx
  unfold OA.cs at *
  go_enter Try.func3, Try.ntmps3
  go_wp2_with fail
  generalize w.alloc (.cells #[.int .u64 (x.kk : Int), .bool x.ka, .int .u64 (x.kt : Int), .int .u32 (x.tk : Int), .int .u32 (x.nc : Int), .int .u8 (x.id : Int), .bool x.bk, .bool x.ja, .int .u64 (x.jt : Int), .bool x.f, .bool x.p, .int .u64 (x.sq : Int), .int .u64 (x.ak : Int), .int .u32 (x.wn : Int), .int .u64 (x.dt : Int), .int .u8 (x.kd : Int), .int .u32 (x.nm : Int), .int .u8 (x.wi : Int), .int .u8 (x.pa : Int), .bool x.wb, .int .u64 (x.wt : Int)] 35) = w0 at *
  obtain ⟨T, hT⟩ : ∃ T, T = w.heap.size := ⟨_, rfl⟩
  rw [← hT] at K0 ⊢
  have HT := Lib.hid hT
  clear hT
  refine OB.wp_ord [(0, .pure), (1, .read), (3, .pure), (4, .pure), (5, .read), (6, .pure), (7, .pure), (8, .pure), (9, .read), (10, .pure), (11, .pure), (12, .read), (2, .sole), (13, .sole), (14, .sole), (15, .pure), (16, .pure), (17, .read), (19, .pure), (20, .read), (18, .sole), (21, .sole), (22, .sole), (23, .sole), (24, .pure), (25, .pure), (26, .pure), (27, .read), (29, .pure), (30, .read), (28, .sole), (31, .sole), (32, .sole), (33, .sole), (34, .pure), (35, .pure), (36, .pure), (37, .read), (39, .pure), (40, .pure), (41, .read), (42, .pure), (43, .read), (38, .sole), (44, .sole), (45, .sole), (46, .sole), (47, .pure), (48, .pure), (49, .sole), (50, .pure), (51, .pure)] ⟨fun k => k < T + 1, []⟩ (by kernel_rfl) (by kernel_rfl) (fun QQ hQ wd hwd => ?_); (try simp only [List.map_cons, List.map_nil, List.getD_cons_zero, List.getD_cons_succ])
  have hD : Below w0.heap.size w0 wd := by rw [hwd.out]; exact (Below.refl _ _).drew
  have K1 := Lib.hid (K0.out.below hD K0.out.lt)
  have B1 := Lib.hid (B0.out.trans (hD.mono B0.out.size))
  clear hD hwd K0 B0
  generalize wd = w1 at *
  (refine OB.o_pure (v := ?_) (by rfl) (fun w' => ?_) ?_; rotate_left; (focus (go_simp; (try with_reducible rfl))); (try simp only [Act.put, List.setIfInBounds_toArray, List.set_cons_zero, List.set_cons_succ]))
  (refine OB.o_loads _ [.int .u64 (x.kk : Int), .bool x.ka, .int .u64 (x.kt : Int)] (by rfl) rfl rfl (by dsimp only; first | assumption | omega) (cells_at (o := 0) (k := 3) K1.out rfl) (Nat.succ_pos _) (by kernel_rfl) (by kernel_rfl) ?_; simp only [Act.put, List.setIfInBounds_toArray, List.set_cons_zero, List.set_cons_succ])
  (refine OB.o_pure (v := ?_) (by rfl) (fun w' => ?_) ?_; rotate_left; (focus (go_simp; (try with_reducible rfl))); (try simp only [Act.put, List.setIfInBounds_toArray, List.set_cons_zero, List.set_cons_succ]))
  (refine OB.o_pure (v := ?_) (by rfl) (fun w' => ?_) ?_; rotate_left; (focus (go_simp; (try with_reducible rfl))); (try simp only [Act.put, List.setIfInBounds_toArray, List.set_cons_zero, List.set_cons_succ]))
  have tq : w1.cell? ⟨T, 0, none⟩ = some (.int .u64 (x.kk : Int)) := by rw [K1.out.cell]; rfl
  (refine OB.o_load _ (by rfl) rfl rfl (by dsimp only; first | assumption | omega) (by assumption) (by kernel_rfl) ?_; simp only [Act.put, List.setIfInBounds_toArray, List.set_cons_zero, List.set_cons_succ])
  clear tq
  (refine OB.o_pure (v := ?_) (by rfl) (fun w' => ?_) ?_; rotate_left; (focus (go_simp; (try with_reducible rfl))); (try simp only [Act.put, List.setIfInBounds_toArray, List.set_cons_zero, List.set_cons_succ]))
  (refine OB.o_pure (v := ?_) (by rfl) (fun w' => ?_) ?_; rotate_left; (focus (go_simp; (try with_reducible rfl))); (try simp only [Act.put, List.setIfInBounds_toArray, List.set_cons_zero, List.set_cons_succ]))
  (refine OB.o_pure (v := ?_) (by rfl) (fun w' => ?_) ?_; rotate_left; (focus (go_simp; (try with_reducible rfl))); (try simp only [Act.put, List.setIfInBounds_toArray, List.set_cons_zero, List.set_cons_succ]))
  have tq : w1.cell? ⟨T, 2, none⟩ = some (.int .u64 (x.kt : Int)) := by rw [K1.out.cell]; rfl
  (refine OB.o_load _ (by rfl) rfl rfl (by dsimp only; first | assumption | omega) (by assumption) (by kernel_rfl) ?_; simp only [Act.put, List.setIfInBounds_toArray, List.set_cons_zero, List.set_cons_succ])
  clear tq
  (refine OB.o_pure (v := ?_) (by rfl) (fun w' => ?_) ?_; rotate_left; (focus (go_simp; (try with_reducible rfl))); (try simp only [Act.put, List.setIfInBounds_toArray, List.set_cons_zero, List.set_cons_succ]))
  (refine OB.o_pure (v := ?_) (by rfl) (fun w' => ?_) ?_; rotate_left; (focus (go_simp; (try with_reducible rfl))); (try simp only [Act.put, List.setIfInBounds_toArray, List.set_cons_zero, List.set_cons_succ]))
  have tq : w1.cell? ⟨T, 1, none⟩ = some (.bool x.ka) := by rw [K1.out.cell]; rfl
  (refine OB.o_load _ (by rfl) rfl rfl (by dsimp only; first | assumption | omega) (by assumption) (by kernel_rfl) ?_; simp only [Act.put, List.setIfInBounds_toArray, List.set_cons_zero, List.set_cons_succ])
  clear tq
  refine OB.o_sole (fun K hK => ?_)
  go_wp2_with fail
  refine (keyOpt_any x.kk x.kt x.ka w1 HX.out.hkk HX.out.hkt).mono ?_
  rintro e w2 ⟨⟨v, rfl, hN⟩, hb⟩
  have K2 := Lib.hid (K1.out.below hb K1.out.lt)
  have B2 := Lib.hid (B1.out.trans (hb.mono B1.out.size))
  obtain ⟨Aa, na, ca, rfl, _, _, Ra⟩ := (show Nats w2 5 .u8 _ v _ from hN).out
  go_wp2_with fail
  refine hK _ _ (fun _ => OB.ExtB.at_ hb (fun k hk => Nat.lt_of_lt_of_le hk K1.out.lt)) ?_; clear hK K
  clear hb hN K1 B1
  refine OB.o_sole (fun K hK => ?_)
  go_wp2_with fail
  refine (rkey_any x.kk x.kt x.ka w2 HX.out.hkk HX.out.hkt).mono ?_
  rintro e w3 ⟨⟨v, rfl, hN⟩, hb⟩
  have K3 := Lib.hid (K2.out.below hb K2.out.lt)
  have B3 := Lib.hid (B2.out.trans (hb.mono B2.out.size))
  have Ra := Lib.hid (Ra.out.into hb)
  obtain ⟨Ab, nb, cb, rfl, _, _, Rb⟩ := (show Nats w3 5 .u8 _ v _ from hN).out
  go_wp2_with fail
  refine hK _ _ (fun _ => OB.ExtB.at_ hb (fun k hk => Nat.lt_of_lt_of_le hk K2.out.lt)) ?_; clear hK K
  clear hb hN K2 B2
  refine OB.o_sole (fun K hK => ?_)
  go_wp2_with fail
  refine (is_true 1 Aa Ab na ca nb cb _ w3 Ra.out Rb.out).mono ?_
  rintro e w4 ⟨rfl, hb⟩
  have K4 := Lib.hid (K3.out.below hb K3.out.lt)
  have B4 := Lib.hid (B3.out.trans (hb.mono B3.out.size))
  have Ra := Lib.hid (Ra.out.into hb)
  have Rb := Lib.hid (Rb.out.into hb)
  go_wp2_with fail
  refine hK _ _ (fun _ => OB.ExtB.at_ hb (fun k hk => Nat.lt_of_lt_of_le hk K3.out.lt)) ?_; clear hK K
  clear hb K3 B3
  clear Ra Rb
  (refine OB.o_pure (v := ?_) (by rfl) (fun w' => ?_) ?_; rotate_left; (focus (go_simp; (try with_reducible rfl))); (try simp only [Act.put, List.setIfInBounds_toArray, List.set_cons_zero, List.set_cons_succ]))
  (refine OB.o_pure (v := ?_) (by rfl) (fun w' => ?_) ?_; rotate_left; (focus (go_simp; (try with_reducible rfl))); (try simp only [Act.put, List.setIfInBounds_toArray, List.set_cons_zero, List.set_cons_succ]))
  (refine OB.o_loads _ [.int .u32 (x.tk : Int), .int .u32 (x.nc : Int), .int .u8 (x.id : Int), .bool x.bk, .bool x.ja, .int .u64 (x.jt : Int)] (by rfl) rfl rfl (by dsimp only; first | assumption | omega) (cells_at (o := 3) (k := 6) K4.out rfl) (Nat.succ_pos _) (by kernel_rfl) (by kernel_rfl) ?_; simp only [Act.put, List.setIfInBounds_toArray, List.set_cons_zero, List.set_cons_succ])
  (refine OB.o_pure (v := ?_) (by rfl) (fun w' => ?_) ?_; rotate_left; (focus (go_simp; (try with_reducible rfl))); (try simp only [Act.put, List.setIfInBounds_toArray, List.set_cons_zero, List.set_cons_succ]))
  (refine OB.o_loads _ [.int .u32 (x.tk : Int), .int .u32 (x.nc : Int), .int .u8 (x.id : Int), .bool x.bk, .bool x.ja, .int .u64 (x.jt : Int)] (by rfl) rfl rfl (by dsimp only; first | assumption | omega) (cells_at (o := 3) (k := 6) K4.out rfl) (Nat.succ_pos _) (by kernel_rfl) (by kernel_rfl) ?_; simp only [Act.put, List.setIfInBounds_toArray, List.set_cons_zero, List.set_cons_succ])
  refine OB.o_sole (fun K hK => ?_)
  go_wp2_with fail
  refine (joinOpt_any x.tk x.nc x.id x.jt x.bk x.ja w4 HX.out.htk HX.out.hnc HX.out.hid HX.out.hjt).mono ?_
  rintro e w5 ⟨⟨v, rfl, hN⟩, hb⟩
  have K5 := Lib.hid (K4.out.below hb K4.out.lt)
  have B5 := Lib.hid (B4.out.trans (hb.mono B4.out.size))
  obtain ⟨Aa, na, ca, rfl, _, _, Ra⟩ := (show Nats w5 5 .u8 _ v _ from hN).out
  go_wp2_with fail
  refine hK _ _ (fun _ => OB.ExtB.at_ hb (fun k hk => Nat.lt_of_lt_of_le hk K4.out.lt)) ?_; clear hK K
  clear hb hN K4 B4
  refine OB.o_sole (fun K hK => ?_)
  go_wp2_with fail
  refine (ljoin_any x.tk x.nc x.id x.jt x.bk x.ja w5).mono ?_
  rintro e w6 ⟨rfl, hb⟩
  have K6 := Lib.hid (K5.out.below hb K5.out.lt)
  have B6 := Lib.hid (B5.out.trans (hb.mono B5.out.size))
  have Ra := Lib.hid (Ra.out.into hb)
  go_wp2_with fail
  refine hK _ _ (fun _ => OB.ExtB.at_ hb (fun k hk => Nat.lt_of_lt_of_le hk K5.out.lt)) ?_; clear hK K
  clear hb K5 B5
  refine OB.o_sole (fun K hK => ?_)
  go_wp2_with fail
  refine (rjoin_any x.tk x.nc x.id x.jt x.bk x.ja w6 HX.out.htk HX.out.hnc HX.out.hid HX.out.hjt).mono ?_
  rintro e w7 ⟨⟨v, rfl, hN⟩, hb⟩
  have K7 := Lib.hid (K6.out.below hb K6.out.lt)
  have B7 := Lib.hid (B6.out.trans (hb.mono B6.out.size))
  have Ra := Lib.hid (Ra.out.into hb)
  obtain ⟨Ab, nb, cb, rfl, _, _, Rb⟩ := (show Nats w7 5 .u8 _ v _ from hN).out
  go_wp2_with fail
  refine hK _ _ (fun _ => OB.ExtB.at_ hb (fun k hk => Nat.lt_of_lt_of_le hk K6.out.lt)) ?_; clear hK K
  clear hb hN K6 B6
  refine OB.o_sole (fun K hK => ?_)
  go_wp2_with fail
  refine (is_true 2 Aa Ab na ca nb cb _ w7 Ra.out Rb.out).mono ?_
  rintro e w8 ⟨rfl, hb⟩
  have K8 := Lib.hid (K7.out.below hb K7.out.lt)
  have B8 := Lib.hid (B7.out.trans (hb.mono B7.out.size))
  have Ra := Lib.hid (Ra.out.into hb)
  have Rb := Lib.hid (Rb.out.into hb)
  go_wp2_with fail
  refine hK _ _ (fun _ => OB.ExtB.at_ hb (fun k hk => Nat.lt_of_lt_of_le hk K7.out.lt)) ?_; clear hK K
  clear hb K7 B7
  clear Ra Rb
  (refine OB.o_pure (v := ?_) (by rfl) (fun w' => ?_) ?_; rotate_left; (focus (go_simp; (try with_reducible rfl))); (try simp only [Act.put, List.setIfInBounds_toArray, List.set_cons_zero, List.set_cons_succ]))
  (refine OB.o_pure (v := ?_) (by rfl) (fun w' => ?_) ?_; rotate_left; (focus (go_simp; (try with_reducible rfl))); (try simp only [Act.put, List.setIfInBounds_toArray, List.set_cons_zero, List.set_cons_succ]))
  (refine OB.o_pure (v := ?_) (by rfl) (fun w' => ?_) ?_; rotate_left; (focus (go_simp; (try with_reducible rfl))); (try simp only [Act.put, List.setIfInBounds_toArray, List.set_cons_zero, List.set_cons_succ]))
  (refine OB.o_loads _ [.bool x.f, .bool x.p, .int .u64 (x.sq : Int), .int .u64 (x.ak : Int), .int .u32 (x.wn : Int), .int .u64 (x.dt : Int)] (by rfl) rfl rfl (by dsimp only; first | assumption | omega) (cells_at (o := 9) (k := 6) K8.out rfl) (Nat.succ_pos _) (by kernel_rfl) (by kernel_rfl) ?_; simp only [Act.put, List.setIfInBounds_toArray, List.set_cons_zero, List.set_cons_succ])
  (refine OB.o_pure (v := ?_) (by rfl) (fun w' => ?_) ?_; rotate_left; (focus (go_simp; (try with_reducible rfl))); (try simp only [Act.put, List.setIfInBounds_toArray, List.set_cons_zero, List.set_cons_succ]))
  (refine OB.o_loads _ [.bool x.f, .bool x.p, .int .u64 (x.sq : Int), .int .u64 (x.ak : Int), .int .u32 (x.wn : Int), .int .u64 (x.dt : Int)] (by rfl) rfl rfl (by dsimp only; first | assumption | omega) (cells_at (o := 9) (k := 6) K8.out rfl) (Nat.succ_pos _) (by kernel_rfl) (by kernel_rfl) ?_; simp only [Act.put, List.setIfInBounds_toArray, List.set_cons_zero, List.set_cons_succ])
  refine OB.o_sole (fun K hK => ?_)
  go_wp2_with fail
  refine (dataOpt_any x.f x.p x.sq x.ak x.wn x.dt w8 HX.out.hsq HX.out.hak HX.out.hwn HX.out.hdt).mono ?_
  rintro e w9 ⟨⟨v, rfl, hN⟩, hb⟩
  have K9 := Lib.hid (K8.out.below hb K8.out.lt)
  have B9 := Lib.hid (B8.out.trans (hb.mono B8.out.size))
  obtain ⟨Aa, na, ca, rfl, _, _, Ra⟩ := (show Nats w9 5 .u8 _ v _ from hN).out
  go_wp2_with fail
  refine hK _ _ (fun _ => OB.ExtB.at_ hb (fun k hk => Nat.lt_of_lt_of_le hk K8.out.lt)) ?_; clear hK K
  clear hb hN K8 B8
  refine OB.o_sole (fun K hK => ?_)
  go_wp2_with fail
  refine (ldata_any x.f x.p x.sq x.ak x.wn x.dt w9).mono ?_
  rintro e w10 ⟨rfl, hb⟩
  have K10 := Lib.hid (K9.out.below hb K9.out.lt)
  have B10 := Lib.hid (B9.out.trans (hb.mono B9.out.size))
  have Ra := Lib.hid (Ra.out.into hb)
  go_wp2_with fail
  refine hK _ _ (fun _ => OB.ExtB.at_ hb (fun k hk => Nat.lt_of_lt_of_le hk K9.out.lt)) ?_; clear hK K
  clear hb K9 B9
  refine OB.o_sole (fun K hK => ?_)
  go_wp2_with fail
  refine (rdata_any x.f x.p x.sq x.ak x.wn x.dt w10 HX.out.hsq HX.out.hak HX.out.hwn HX.out.hdt).mono ?_
  rintro e w11 ⟨⟨v, rfl, hN⟩, hb⟩
  have K11 := Lib.hid (K10.out.below hb K10.out.lt)
  have B11 := Lib.hid (B10.out.trans (hb.mono B10.out.size))
  have Ra := Lib.hid (Ra.out.into hb)
  obtain ⟨Ab, nb, cb, rfl, _, _, Rb⟩ := (show Nats w11 5 .u8 _ v _ from hN).out
  go_wp2_with fail
  refine hK _ _ (fun _ => OB.ExtB.at_ hb (fun k hk => Nat.lt_of_lt_of_le hk K10.out.lt)) ?_; clear hK K
  clear hb hN K10 B10
  refine OB.o_sole (fun K hK => ?_)
  go_wp2_with fail
  refine (is_true 3 Aa Ab na ca nb cb _ w11 Ra.out Rb.out).mono ?_
  rintro e w12 ⟨rfl, hb⟩
  have K12 := Lib.hid (K11.out.below hb K11.out.lt)
  have B12 := Lib.hid (B11.out.trans (hb.mono B11.out.size))
  have Ra := Lib.hid (Ra.out.into hb)
  have Rb := Lib.hid (Rb.out.into hb)
  go_wp2_with fail
  refine hK _ _ (fun _ => OB.ExtB.at_ hb (fun k hk => Nat.lt_of_lt_of_le hk K11.out.lt)) ?_; clear hK K
  clear hb K11 B11
  clear Ra Rb
  (refine OB.o_pure (v := ?_) (by rfl) (fun w' => ?_) ?_; rotate_left; (focus (go_simp; (try with_reducible rfl))); (try simp only [Act.put, List.setIfInBounds_toArray, List.set_cons_zero, List.set_cons_succ]))
  (refine OB.o_pure (v := ?_) (by rfl) (fun w' => ?_) ?_; rotate_left; (focus (go_simp; (try with_reducible rfl))); (try simp only [Act.put, List.setIfInBounds_toArray, List.set_cons_zero, List.set_cons_succ]))
  (refine OB.o_pure (v := ?_) (by rfl) (fun w' => ?_) ?_; rotate_left; (focus (go_simp; (try with_reducible rfl))); (try simp only [Act.put, List.setIfInBounds_toArray, List.set_cons_zero, List.set_cons_succ]))
  (refine OB.o_loads _ [.int .u8 (x.kd : Int), .int .u32 (x.nm : Int), .int .u8 (x.wi : Int), .int .u8 (x.pa : Int), .bool x.wb, .int .u64 (x.wt : Int)] (by rfl) rfl rfl (by dsimp only; first | assumption | omega) (cells_at (o := 15) (k := 6) K12.out rfl) (Nat.succ_pos _) (by kernel_rfl) (by kernel_rfl) ?_; simp only [Act.put, List.setIfInBounds_toArray, List.set_cons_zero, List.set_cons_succ])
  (refine OB.o_pure (v := ?_) (by rfl) (fun w' => ?_) ?_; rotate_left; (focus (go_simp; (try with_reducible rfl))); (try simp only [Act.put, List.setIfInBounds_toArray, List.set_cons_zero, List.set_cons_succ]))
  (refine OB.o_pure (v := ?_) (by rfl) (fun w' => ?_) ?_; rotate_left; (focus (go_simp; (try with_reducible rfl))); (try simp only [Act.put, List.setIfInBounds_toArray, List.set_cons_zero, List.set_cons_succ]))
  have tq : w12.cell? ⟨T, 15, none⟩ = some (.int .u8 (x.kd : Int)) := by rw [K12.out.cell]; rfl
  (refine OB.o_load _ (by rfl) rfl rfl (by dsimp only; first | assumption | omega) (by assumption) (by kernel_rfl) ?_; simp only [Act.put, List.setIfInBounds_toArray, List.set_cons_zero, List.set_cons_succ])
  clear tq
  (refine OB.o_pure (v := ?_) (by rfl) (fun w' => ?_) ?_; rotate_left; (focus (go_simp; (try with_reducible rfl))); (try simp only [Act.put, List.setIfInBounds_toArray, List.set_cons_zero, List.set_cons_succ]))
  (refine OB.o_loads _ [.int .u8 (x.kd : Int), .int .u32 (x.nm : Int), .int .u8 (x.wi : Int), .int .u8 (x.pa : Int), .bool x.wb, .int .u64 (x.wt : Int)] (by rfl) rfl rfl (by dsimp only; first | assumption | omega) (cells_at (o := 15) (k := 6) K12.out rfl) (Nat.succ_pos _) (by kernel_rfl) (by kernel_rfl) ?_; simp only [Act.put, List.setIfInBounds_toArray, List.set_cons_zero, List.set_cons_succ])
  refine OB.o_sole (fun K hK => ?_)
  go_wp2_with fail
  refine (wordOpt_any x.kd x.nm x.wi x.pa x.wt x.wb w12 HX.out.hnm HX.out.hwi HX.out.hpa HX.out.hwt).mono ?_
  rintro e w13 ⟨⟨v, rfl, hN⟩, hb⟩
  have K13 := Lib.hid (K12.out.below hb K12.out.lt)
  have B13 := Lib.hid (B12.out.trans (hb.mono B12.out.size))
  obtain ⟨Aa, na, ca, rfl, _, _, Ra⟩ := (show Nats w13 5 .u8 _ v _ from hN).out
  go_wp2_with fail
  refine hK _ _ (fun _ => OB.ExtB.at_ hb (fun k hk => Nat.lt_of_lt_of_le hk K12.out.lt)) ?_; clear hK K
  clear hb hN K12 B12
  refine OB.o_sole (fun K hK => ?_)
  go_wp2_with fail
  refine (lword_any x.kd x.nm x.wi x.pa x.wt x.wb w13).mono ?_
  rintro e w14 ⟨rfl, hb⟩
  have K14 := Lib.hid (K13.out.below hb K13.out.lt)
  have B14 := Lib.hid (B13.out.trans (hb.mono B13.out.size))
  have Ra := Lib.hid (Ra.out.into hb)
  go_wp2_with fail
  refine hK _ _ (fun _ => OB.ExtB.at_ hb (fun k hk => Nat.lt_of_lt_of_le hk K13.out.lt)) ?_; clear hK K
  clear hb K13 B13
  refine OB.o_sole (fun K hK => ?_)
  go_wp2_with fail
  refine (rword_any x.nm x.wi x.pa x.wt x.wb w14 HX.out.hnm HX.out.hwi HX.out.hpa HX.out.hwt).mono ?_
  rintro e w15 ⟨⟨v, rfl, hN⟩, hb⟩
  have K15 := Lib.hid (K14.out.below hb K14.out.lt)
  have B15 := Lib.hid (B14.out.trans (hb.mono B14.out.size))
  have Ra := Lib.hid (Ra.out.into hb)
  obtain ⟨Ab, nb, cb, rfl, _, _, Rb⟩ := (show Nats w15 5 .u8 _ v _ from hN).out
  go_wp2_with fail
  refine hK _ _ (fun _ => OB.ExtB.at_ hb (fun k hk => Nat.lt_of_lt_of_le hk K14.out.lt)) ?_; clear hK K
  clear hb hN K14 B14
  refine OB.o_sole (fun K hK => ?_)
  go_wp2_with fail
  refine (is_true x.kd Aa Ab na ca nb cb _ w15 Ra.out Rb.out).mono ?_
  rintro e w16 ⟨rfl, hb⟩
  have K16 := Lib.hid (K15.out.below hb K15.out.lt)
  have B16 := Lib.hid (B15.out.trans (hb.mono B15.out.size))
  have Ra := Lib.hid (Ra.out.into hb)
  have Rb := Lib.hid (Rb.out.into hb)
  go_wp2_with fail
  refine hK _ _ (fun _ => OB.ExtB.at_ hb (fun k hk => Nat.lt_of_lt_of_le hk K15.out.lt)) ?_; clear hK K
  clear hb K15 B15
  clear Ra Rb
  (refine OB.o_pure (v := ?_) (by rfl) (fun w' => ?_) ?_; rotate_left; (focus (go_simp; (try with_reducible rfl))); (try simp only [Act.put, List.setIfInBounds_toArray, List.set_cons_zero, List.set_cons_succ]))
  (refine OB.o_pure (v := ?_) (by rfl) (fun w' => ?_) ?_; rotate_left; (focus (go_simp; (try with_reducible rfl))); (try simp only [Act.put, List.setIfInBounds_toArray, List.set_cons_zero, List.set_cons_succ]))
  refine OB.o_sole (fun K hK => ?_)
  go_wp2_with fail
  refine (oalive_any w16).mono ?_
  rintro e w17 ⟨rfl, hb⟩
  have K17 := Lib.hid (K16.out.below hb K16.out.lt)
  have B17 := Lib.hid (B16.out.trans (hb.mono B16.out.size))
  go_wp2_with fail
  refine hK _ _ (fun _ => OB.ExtB.at_ hb (fun k hk => Nat.lt_of_lt_of_le hk K16.out.lt)) ?_; clear hK K
  clear hb K16 B16
  (refine OB.o_pure (v := ?_) (by rfl) (fun w' => ?_) ?_; rotate_left; (focus (go_simp; (try with_reducible rfl))); (try simp only [Act.put, List.setIfInBounds_toArray, List.set_cons_zero, List.set_cons_succ]))
  (refine OB.o_pure (v := ?_) (by rfl) (fun w' => ?_) ?_; rotate_left; (focus (go_simp; (try with_reducible rfl))); (try simp only [Act.put, List.setIfInBounds_toArray, List.set_cons_zero, List.set_cons_succ]))
  refine OB.o_nil (hQ.out _ _ ?_); clear hQ QQ
  go_wp2_with fail
  go_ret
  exact ⟨rfl, B17.out⟩
theorem optWrites_any (q : OA) (w : World) (hq : q.bd) : Calls Try.prog 3 #[.agg q.cs] w fun e w' => e = .returned (.bool true) ∧ Below w.heap.size w w' := optWrites_walk q w hq
end Go.Proofs.Ytiblmlmkpilgmaa
