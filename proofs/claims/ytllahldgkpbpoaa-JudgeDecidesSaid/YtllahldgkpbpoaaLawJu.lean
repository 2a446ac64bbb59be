/- Layer 15: the laws JudgeDecides, JudgeBlind, JudgeMoves answer true, and nothing that was there has turned. -/
import Derived.Test.YtllahldgkpbpoaaJu2
import Derived.Test.YtllahldgkpbpoaaJu4
import Derived.Test.YtllahldgkpbpoaaOrd
import Derived.Test.YtllahldgkpbpoaaOpenG
import Derived.RegionTactic
import Derived.Deep.Cut
namespace Go.Proofs.Ytllahldgkpbpoaa
open Go.RowKit
set_option linter.unusedVariables false
set_option linter.unusedSimpArgs false
theorem u32_0 : U32 0 := by unfold U32; omega
theorem nm5 : Nm.ok ⟨3, 0, 0, 0, 5⟩ := ⟨by decide, u32_0, u32_0, u32_0, by unfold U32; decide⟩
theorem sg_seq {q : Int} (h : U32 q) : Sj.ok ⟨0, 0, q, 0, 4, none, 0, 0, none, 0, 0⟩ := ⟨h, u32_0, show 4 < 256 by decide⟩
set_option maxRecDepth 20000 in
theorem alive15 (w : World) : Calls Try.prog 8 #[] w fun e w' => e = .returned (.bool true) ∧ Below w.heap.size w w' := by
  have HN := Lib.hid (JN.mk1 25 w ⟨3, 0, 0, 0, 5⟩)
  obtain ⟨n0, n1, n2, n3, n4⟩ := HN.out.cells
  unfold Nm.cs at *
  go_enter Try.func8, Try.ntmps8
  go_wp2_with fail
  refine (judge_any ⟨3, 0, 0, 0, 5⟩ ⟨0, 0, 5, 0, 4, none, 0, 0, none, 0, 0⟩ false _ nm5 (sg_seq (by unfold U32; omega))).mono ?_
  rintro e w1 ⟨rfl, hb⟩
  rw [show judgeV ⟨3, 0, 0, 0, 5⟩ ⟨0, 0, 5, 0, 4, none, 0, 0, none, 0, 0⟩ false = 4 by decide +kernel]
  have HN1 := Lib.hid (HN.out.into hb)
  clear hb n0 n1 n2 n3 n4
  obtain ⟨n0, n1, n2, n3, n4⟩ := HN1.out.cells
  go_wp2_with fail
  refine (judge_any ⟨3, 0, 0, 0, 5⟩ ⟨0, 0, 6, 0, 4, none, 0, 0, none, 0, 0⟩ false _ nm5 (sg_seq (by unfold U32; omega))).mono ?_
  rintro e w2 ⟨rfl, hb⟩
  rw [show judgeV ⟨3, 0, 0, 0, 5⟩ ⟨0, 0, 6, 0, 4, none, 0, 0, none, 0, 0⟩ false = 3 by decide +kernel]
  have HN2 := Lib.hid (HN1.out.into hb)
  clear hb n0 n1 n2 n3 n4
  obtain ⟨n0, n1, n2, n3, n4⟩ := HN2.out.cells
  go_wp2_with fail
  refine (judge_any ⟨3, 0, 0, 0, 5⟩ ⟨0, 0, 4, 0, 4, none, 0, 0, none, 0, 0⟩ false _ nm5 (sg_seq (by unfold U32; omega))).mono ?_
  rintro e w3 ⟨rfl, hb⟩
  rw [show judgeV ⟨3, 0, 0, 0, 5⟩ ⟨0, 0, 4, 0, 4, none, 0, 0, none, 0, 0⟩ false = 2 by decide +kernel]
  have HN3 := Lib.hid (HN2.out.into hb)
  clear hb n0 n1 n2 n3 n4
  obtain ⟨n0, n1, n2, n3, n4⟩ := HN3.out.cells
  go_wp2_with fail
  go_ret
  exact ⟨rfl, HN3.out.bel⟩
theorem cells5n {t : TypeId} {w W : World} {T : Nat} {n : Nm} (h : JN t w W T n) :
    ∀ j x, [.int .i64 n.st, .int .u32 n.fst, .int .u32 n.ak, .int .u32 n.nx, .int .u32 n.wt][j]? = some x → W.cell? ⟨T, 0 + j, none⟩ = some x := by
  intro j x hx
  rw [Nat.zero_add, h.nb.cell]
  unfold Nm.cs
  simpa using hx
theorem cells7s {w W : World} {T : Nat} {s : Sj} (h : JS w W T s) :
    ∀ j x, [.int .u16 s.p, .int .u16 s.q, .int .u32 s.seq, .int .u32 s.ack, .int .u8 (s.fl : Nat), .slice s.A s.n s.c, .slice s.D s.m s.d][j]? = some x → W.cell? ⟨T, 0 + j, none⟩ = some x := by
  intro j x hx
  rw [Nat.zero_add, h.sb.cell]
  unfold Sj.cs
  simpa using hx
set_option maxRecDepth 20000 in
set_option maxHeartbeats 4000000 in
theorem judgeDecides_walk (n : Nm) (s : Sj) (sd : Bool) (w : World) (hn : n.ok) (hs : s.ok) :
    Calls Try.prog 3 #[.agg n.cs, .agg s.cs, .bool sd] w fun e w' => e = .returned (.bool true) ∧ Below w.heap.size w w' := by
  obtain ⟨hN, hS⟩ := JN.two 25 w n s
  obtain ⟨n0, n1, n2, n3, n4⟩ := hN.cells
  obtain ⟨v, hv⟩ : ∃ v, v = judgeV n s sd := ⟨_, rfl⟩
  have HJ := Lib.hid fun w' => judge_any n s sd w' hn hs
  have HR := Lib.hid fun w' => rjudge_any n s sd w' hn hs
  rw [← hv] at HJ HR
  have hb3 : Below ((w.alloc (.cells n.cs 25)).alloc (.cells s.cs 30)).heap.size ((w.alloc (.cells n.cs 25)).alloc (.cells s.cs 30)) (((w.alloc (.cells n.cs 25)).alloc (.cells s.cs 30)).alloc (.cells n.cs 32)) := (Below.refl _ _).alloc (Nat.le_refl _) _
  have KN := Lib.hid (hN.into hb3)
  have KS := Lib.hid (hS.into hb3)
  have hX := JN.mk1 32 ((w.alloc (.cells n.cs 25)).alloc (.cells s.cs 30)) n
  rw [show ((w.alloc (.cells n.cs 25)).alloc (.cells s.cs 30)).heap.size = w.heap.size + 1 + 1 by simp] at hX
  have KX : Hid (JN 32 w _ (w.heap.size + 1 + 1) n) := Lib.hid ⟨hX.nb, KN.out.bel⟩
  clear hv hN hS hb3 hX hn hs
  unfold Nm.cs Sj.cs at *
  go_enter Try.func3, Try.ntmps3
  go_upto_region 2 with fail
  refine wp_ord [(0, .read), (1, .read), (2, .pure), (4, .read), (5, .read), (6, .pure), (3, .sole), (7, .sole), (8, .pure), (9, .pure), (10, .sole), (11, .pure), (12, .pure)] [] (by kernel_rfl) (by kernel_rfl) (fun QQ hQ wd hwd => ?_); simp only [List.map_cons, List.map_nil, List.getD_cons_zero, List.getD_cons_succ]
  have SN := Lib.hid (show JN 25 w wd w.heap.size n by rw [hwd.out]; exact KN.out.into (Below.refl _ _).drew)
  have SS := Lib.hid (show JS w wd (w.heap.size + 1) s by rw [hwd.out]; exact KS.out.into (Below.refl _ _).drew)
  have SX := Lib.hid (show JN 32 w wd (w.heap.size + 1 + 1) n by rw [hwd.out]; exact KX.out.into (Below.refl _ _).drew)
  clear hwd KN KS KX n0 n1 n2 n3 n4
  (refine o_loads _ [.int .i64 n.st, .int .u32 n.fst, .int .u32 n.ak, .int .u32 n.nx, .int .u32 n.wt] (by rfl) rfl rfl (cells5n SN.out) (Nat.succ_pos _) (by kernel_rfl) (by kernel_rfl) ?_; simp only [Act.put, List.setIfInBounds_toArray, List.set_cons_zero, List.set_cons_succ])
  (refine o_loads _ [.int .u16 s.p, .int .u16 s.q, .int .u32 s.seq, .int .u32 s.ack, .int .u8 (s.fl : Nat), .slice s.A s.n s.c, .slice s.D s.m s.d] (by rfl) rfl rfl (cells7s SS.out) (Nat.succ_pos _) (by kernel_rfl) (by kernel_rfl) ?_; simp only [Act.put, List.setIfInBounds_toArray, List.set_cons_zero, List.set_cons_succ])
  (refine o_pure (v := ?_) (by rfl) (fun w' => ?_) ?_; rotate_left; (focus (go_simp; (try with_reducible rfl); (try (rw [if_pos (by omega)]; (try with_reducible rfl))))); (try simp only [Act.put, List.setIfInBounds_toArray, List.set_cons_zero, List.set_cons_succ]))
  (refine o_loads _ [.int .i64 n.st, .int .u32 n.fst, .int .u32 n.ak, .int .u32 n.nx, .int .u32 n.wt] (by rfl) rfl rfl (cells5n SX.out) (Nat.succ_pos _) (by kernel_rfl) (by kernel_rfl) ?_; simp only [Act.put, List.setIfInBounds_toArray, List.set_cons_zero, List.set_cons_succ])
  (refine o_loads _ [.int .u16 s.p, .int .u16 s.q, .int .u32 s.seq, .int .u32 s.ack, .int .u8 (s.fl : Nat), .slice s.A s.n s.c, .slice s.D s.m s.d] (by rfl) rfl rfl (cells7s SS.out) (Nat.succ_pos _) (by kernel_rfl) (by kernel_rfl) ?_; simp only [Act.put, List.setIfInBounds_toArray, List.set_cons_zero, List.set_cons_succ])
  (refine o_pure (v := ?_) (by rfl) (fun w' => ?_) ?_; rotate_left; (focus (go_simp; (try with_reducible rfl); (try (rw [if_pos (by omega)]; (try with_reducible rfl))))); (try simp only [Act.put, List.setIfInBounds_toArray, List.set_cons_zero, List.set_cons_succ]))
  refine o_sole (fun K hK => ?_)
  go_wp2_with fail
  refine (HJ.out wd).mono ?_
  rintro e w4 ⟨rfl, hb⟩
  have S4 := Lib.hid (SN.out.into hb)
  go_wp2_with fail
  refine hK _ _ (fun _ => Ext.of hb) ?_; clear hK K
  clear hb SN SS SX
  refine o_sole (fun K hK => ?_)
  go_wp2_with fail
  refine (HR.out w4).mono ?_
  rintro e w5 ⟨rfl, hb⟩
  have S5 := Lib.hid (S4.out.into hb)
  go_wp2_with fail
  refine hK _ _ (fun _ => Ext.of hb) ?_; clear hK K
  clear hb S4
  (refine o_pure (v := ?_) (by rfl) (fun w' => ?_) ?_; rotate_left; (focus (go_simp; (try with_reducible rfl); (try (rw [if_pos (by omega)]; (try with_reducible rfl))))); (try simp only [Act.put, List.setIfInBounds_toArray, List.set_cons_zero, List.set_cons_succ]))
  (refine o_pure (v := ?_) (by rfl) (fun w' => ?_) ?_; rotate_left; (focus (go_simp; (try with_reducible rfl); (try (rw [if_pos (by omega)]; (try with_reducible rfl))))); (try simp only [Act.put, List.setIfInBounds_toArray, List.set_cons_zero, List.set_cons_succ]))
  refine o_sole (fun K hK => ?_)
  go_wp2_with fail
  refine (alive15 w5).mono ?_
  rintro e w6 ⟨rfl, hb⟩
  have S6 := Lib.hid (S5.out.into hb)
  go_wp2_with fail
  refine hK _ _ (fun _ => Ext.of hb) ?_; clear hK K
  clear hb S5
  (refine o_pure (v := ?_) (by rfl) (fun w' => ?_) ?_; rotate_left; (focus (go_simp; (try with_reducible rfl); (try (rw [if_pos (by omega)]; (try with_reducible rfl))))); (try simp only [Act.put, List.setIfInBounds_toArray, List.set_cons_zero, List.set_cons_succ]))
  (refine o_pure (v := ?_) (by rfl) (fun w' => ?_) ?_; rotate_left; (focus (go_simp; (try with_reducible rfl); (try (rw [if_pos (by omega)]; (try with_reducible rfl))))); (try simp only [Act.put, List.setIfInBounds_toArray, List.set_cons_zero, List.set_cons_succ]))
  refine o_nil (hQ.out _ _ ?_); clear hQ QQ
  go_wp2
  go_ret
  exact ⟨rfl, S6.out.bel⟩
set_option maxRecDepth 20000 in
set_option maxHeartbeats 4000000 in
theorem jb1 (n : Nm) (s : Sj) (v : Nat) (w : World) (hn : n.ok) (hs : s.ok) (hv : v = judgeV ⟨3, n.fst, n.ak, n.nx, n.wt⟩ s false) (h8 : 8 ≤ s.fl) :
    Calls Try.prog 4 #[.agg n.cs, .agg s.cs] w fun e w' => e = .returned (.bool true) ∧ Below w.heap.size w w' := by
  have v1 : ((v : Int) != 1) = true := by
    have := blind_pass ⟨3, n.fst, n.ak, n.nx, n.wt⟩ s rfl
    rw [← hv] at this
    simp; omega
  have g1 : (4 : Int) ≤ (s.fl : Nat) := by omega
  have g2 : ¬ ((s.fl : Nat) : Int) < 8 := by omega
  have g3 : (7 : Int) < (s.fl : Nat) := by omega
  have hj := fun w' => judge_any ⟨3, n.fst, n.ak, n.nx, n.wt⟩ s false w' ⟨by show (Lit.int .i64 3).wf = true; decide, hn.fst, hn.ak, hn.nx, hn.wt⟩ hs
  rw [← hv] at hj
  have HJ := Lib.hid hj
  obtain ⟨hN, hS⟩ := JN.two 25 w ⟨3, n.fst, n.ak, n.nx, n.wt⟩ s
  obtain ⟨n0, n1, n2, n3, n4⟩ := hN.cells
  obtain ⟨s0, s1, s2, s3, s4, s5, s6⟩ := hS.cells
  have HN := Lib.hid hN
  have HS := Lib.hid hS
  clear hv hj hN hS hn hs
  unfold Nm.cs Sj.cs at *
  go_enter Try.func4, Try.ntmps4
  go_wp2_with fail
  refine (HJ.out _).mono ?_
  rintro e w1 ⟨rfl, hb⟩
  have HN1 := Lib.hid (HN.out.into hb)
  have HS1 := Lib.hid (HS.out.into hb)
  clear hb n0 n1 n2 n3 n4 s0 s1 s2 s3 s4 s5 s6 HJ
  obtain ⟨n0, n1, n2, n3, n4⟩ := HN1.out.cells
  obtain ⟨s0, s1, s2, s3, s4, s5, s6⟩ := HS1.out.cells
  go_wp2_with fail
  refine (alive15 _).mono ?_
  rintro e w2 ⟨rfl, hb⟩
  have BF := Lib.hid (HN1.out.bel.trans (hb.mono HN1.out.bel.size))
  clear hb n0 n1 n2 n3 n4 s0 s1 s2 s3 s4 s5 s6
  go_wp2_with fail
  go_ret
  exact ⟨rfl, BF.out⟩
set_option maxRecDepth 20000 in
set_option maxHeartbeats 4000000 in
theorem jb2 (n : Nm) (s : Sj) (v : Nat) (w : World) (hn : n.ok) (hs : s.ok) (hv : v = judgeV ⟨3, n.fst, n.ak, n.nx, n.wt⟩ s false) (h4 : s.fl < 4) :
    Calls Try.prog 4 #[.agg n.cs, .agg s.cs] w fun e w' => e = .returned (.bool true) ∧ Below w.heap.size w w' := by
  have v1 : ((v : Int) != 1) = true := by
    have := blind_pass ⟨3, n.fst, n.ak, n.nx, n.wt⟩ s rfl
    rw [← hv] at this
    simp; omega
  have v4 : ((v : Int) == 4) = false := by
    have := blind_remove ⟨3, n.fst, n.ak, n.nx, n.wt⟩ s rfl (by omega)
    rw [← hv] at this
    dsimp only at this
    simp; omega
  have g1 : ¬ (4 : Int) ≤ (s.fl : Nat) := by omega
  have g3 : ¬ (7 : Int) < (s.fl : Nat) := by omega
  have hj := fun w' => judge_any ⟨3, n.fst, n.ak, n.nx, n.wt⟩ s false w' ⟨by show (Lit.int .i64 3).wf = true; decide, hn.fst, hn.ak, hn.nx, hn.wt⟩ hs
  rw [← hv] at hj
  have HJ := Lib.hid hj
  obtain ⟨hN, hS⟩ := JN.two 25 w ⟨3, n.fst, n.ak, n.nx, n.wt⟩ s
  obtain ⟨n0, n1, n2, n3, n4⟩ := hN.cells
  obtain ⟨s0, s1, s2, s3, s4, s5, s6⟩ := hS.cells
  have HN := Lib.hid hN
  have HS := Lib.hid hS
  clear hv hj hN hS hn hs
  unfold Nm.cs Sj.cs at *
  go_enter Try.func4, Try.ntmps4
  go_wp2_with fail
  refine (HJ.out _).mono ?_
  rintro e w1 ⟨rfl, hb⟩
  have HN1 := Lib.hid (HN.out.into hb)
  have HS1 := Lib.hid (HS.out.into hb)
  clear hb n0 n1 n2 n3 n4 s0 s1 s2 s3 s4 s5 s6 HJ
  obtain ⟨n0, n1, n2, n3, n4⟩ := HN1.out.cells
  obtain ⟨s0, s1, s2, s3, s4, s5, s6⟩ := HS1.out.cells
  go_wp2_with fail
  refine (alive15 _).mono ?_
  rintro e w2 ⟨rfl, hb⟩
  have BF := Lib.hid (HN1.out.bel.trans (hb.mono HN1.out.bel.size))
  clear hb n0 n1 n2 n3 n4 s0 s1 s2 s3 s4 s5 s6
  go_wp2_with fail
  go_ret
  exact ⟨rfl, BF.out⟩
set_option maxRecDepth 20000 in
set_option maxHeartbeats 4000000 in
theorem jb3 (n : Nm) (s : Sj) (v : Nat) (w : World) (hn : n.ok) (hs : s.ok) (hv : v = judgeV ⟨3, n.fst, n.ak, n.nx, n.wt⟩ s false) (h4 : 4 ≤ s.fl) (h8 : s.fl < 8) (hw : (s.seq == n.wt) = true) :
    Calls Try.prog 4 #[.agg n.cs, .agg s.cs] w fun e w' => e = .returned (.bool true) ∧ Below w.heap.size w w' := by
  have v1 : ((v : Int) != 1) = true := by
    have := blind_pass ⟨3, n.fst, n.ak, n.nx, n.wt⟩ s rfl
    rw [← hv] at this
    simp; omega
  have v4 : ((v : Int) == 4) = true := by
    have := blind_remove ⟨3, n.fst, n.ak, n.nx, n.wt⟩ s rfl (by omega)
    rw [← hv] at this
    dsimp only at this
    have e := beqt hw
    simp only [e, h4, h8, and_self, iff_true] at this
    simp; omega
  have g1 : (4 : Int) ≤ (s.fl : Nat) := by omega
  have g2 : ((s.fl : Nat) : Int) < 8 := by omega
  have g3 : ¬ (7 : Int) < (s.fl : Nat) := by omega
  have hj := fun w' => judge_any ⟨3, n.fst, n.ak, n.nx, n.wt⟩ s false w' ⟨by show (Lit.int .i64 3).wf = true; decide, hn.fst, hn.ak, hn.nx, hn.wt⟩ hs
  rw [← hv] at hj
  have HJ := Lib.hid hj
  obtain ⟨hN, hS⟩ := JN.two 25 w ⟨3, n.fst, n.ak, n.nx, n.wt⟩ s
  obtain ⟨n0, n1, n2, n3, n4⟩ := hN.cells
  obtain ⟨s0, s1, s2, s3, s4, s5, s6⟩ := hS.cells
  have HN := Lib.hid hN
  have HS := Lib.hid hS
  clear hv hj hN hS hn hs
  unfold Nm.cs Sj.cs at *
  go_enter Try.func4, Try.ntmps4
  go_wp2_with fail
  refine (HJ.out _).mono ?_
  rintro e w1 ⟨rfl, hb⟩
  have HN1 := Lib.hid (HN.out.into hb)
  have HS1 := Lib.hid (HS.out.into hb)
  clear hb n0 n1 n2 n3 n4 s0 s1 s2 s3 s4 s5 s6 HJ
  obtain ⟨n0, n1, n2, n3, n4⟩ := HN1.out.cells
  obtain ⟨s0, s1, s2, s3, s4, s5, s6⟩ := HS1.out.cells
  go_wp2_with fail
  refine (alive15 _).mono ?_
  rintro e w2 ⟨rfl, hb⟩
  have BF := Lib.hid (HN1.out.bel.trans (hb.mono HN1.out.bel.size))
  clear hb n0 n1 n2 n3 n4 s0 s1 s2 s3 s4 s5 s6
  go_wp2_with fail
  go_ret
  exact ⟨rfl, BF.out⟩
set_option maxRecDepth 20000 in
set_option maxHeartbeats 4000000 in
theorem jb4 (n : Nm) (s : Sj) (v : Nat) (w : World) (hn : n.ok) (hs : s.ok) (hv : v = judgeV ⟨3, n.fst, n.ak, n.nx, n.wt⟩ s false) (h4 : 4 ≤ s.fl) (h8 : s.fl < 8) (hw : (s.seq == n.wt) = false) :
    Calls Try.prog 4 #[.agg n.cs, .agg s.cs] w fun e w' => e = .returned (.bool true) ∧ Below w.heap.size w w' := by
  have v1 : ((v : Int) != 1) = true := by
    have := blind_pass ⟨3, n.fst, n.ak, n.nx, n.wt⟩ s rfl
    rw [← hv] at this
    simp; omega
  have v4 : ((v : Int) == 4) = false := by
    have := blind_remove ⟨3, n.fst, n.ak, n.nx, n.wt⟩ s rfl (by omega)
    rw [← hv] at this
    dsimp only at this
    have e := beqf hw
    simp only [e, and_false, iff_false] at this
    simp; omega
  have g1 : (4 : Int) ≤ (s.fl : Nat) := by omega
  have g2 : ((s.fl : Nat) : Int) < 8 := by omega
  have g3 : ¬ (7 : Int) < (s.fl : Nat) := by omega
  have hj := fun w' => judge_any ⟨3, n.fst, n.ak, n.nx, n.wt⟩ s false w' ⟨by show (Lit.int .i64 3).wf = true; decide, hn.fst, hn.ak, hn.nx, hn.wt⟩ hs
  rw [← hv] at hj
  have HJ := Lib.hid hj
  obtain ⟨hN, hS⟩ := JN.two 25 w ⟨3, n.fst, n.ak, n.nx, n.wt⟩ s
  obtain ⟨n0, n1, n2, n3, n4⟩ := hN.cells
  obtain ⟨s0, s1, s2, s3, s4, s5, s6⟩ := hS.cells
  have HN := Lib.hid hN
  have HS := Lib.hid hS
  clear hv hj hN hS hn hs
  unfold Nm.cs Sj.cs at *
  go_enter Try.func4, Try.ntmps4
  go_wp2_with fail
  refine (HJ.out _).mono ?_
  rintro e w1 ⟨rfl, hb⟩
  have HN1 := Lib.hid (HN.out.into hb)
  have HS1 := Lib.hid (HS.out.into hb)
  clear hb n0 n1 n2 n3 n4 s0 s1 s2 s3 s4 s5 s6 HJ
  obtain ⟨n0, n1, n2, n3, n4⟩ := HN1.out.cells
  obtain ⟨s0, s1, s2, s3, s4, s5, s6⟩ := HS1.out.cells
  go_wp2_with fail
  refine (alive15 _).mono ?_
  rintro e w2 ⟨rfl, hb⟩
  have BF := Lib.hid (HN1.out.bel.trans (hb.mono HN1.out.bel.size))
  clear hb n0 n1 n2 n3 n4 s0 s1 s2 s3 s4 s5 s6
  go_wp2_with fail
  go_ret
  exact ⟨rfl, BF.out⟩
theorem judgeBlind_walk (n : Nm) (s : Sj) (w : World) (hn : n.ok) (hs : s.ok) :
    Calls Try.prog 4 #[.agg n.cs, .agg s.cs] w fun e w' => e = .returned (.bool true) ∧ Below w.heap.size w w' := by
  by_cases h8 : 8 ≤ s.fl
  · exact jb1 n s _ w hn hs rfl h8
  by_cases h4 : s.fl < 4
  · exact jb2 n s _ w hn hs rfl h4
  cases hw : (s.seq == n.wt)
  · exact jb4 n s _ w hn hs rfl (by omega) (by omega) hw
  · exact jb3 n s _ w hn hs rfl (by omega) (by omega) hw
end Go.Proofs.Ytllahldgkpbpoaa
