/- Layer 15: the law JudgeMoves answers true, and nothing that was there has turned. -/
import Derived.Test.YtllahldgkpbpoaaLawJu
import Derived.Test.YtllahldgkpbpoaaOrdF
import Derived.Test.YtllahldgkpbpoaaStm
namespace Go.Proofs.Ytllahldgkpbpoaa
open Go.RowKit
set_option linter.unusedVariables false
set_option linter.unusedSimpArgs false
theorem Nm.mv_ok {n : Nm} (h : n.ok) (a b : Int) : (n.mv a b).ok := ⟨h.st, by unfold Nm.mv U32; dsimp only; omega, by unfold Nm.mv U32; dsimp only; omega, by unfold Nm.mv U32; dsimp only; omega, by unfold Nm.mv U32; dsimp only; omega⟩
theorem Sj.mv_ok {s : Sj} (h : s.ok) (a b : Int) : (s.mv a b).ok := ⟨by unfold Sj.mv U32; dsimp only; omega, by unfold Sj.mv U32; dsimp only; omega, h.fl⟩
set_option maxRecDepth 20000 in
set_option maxHeartbeats 8000000 in
theorem judgeMoves_walk (n : Nm) (s : Sj) (a b : Int) (sd : Bool) (w : World) (hn : n.ok) (hs : s.ok) :
    Calls Try.prog 5 #[.agg n.cs, .agg s.cs, .agg #[.int .u32 a, .int .u32 b, .bool sd]] w fun e w' => e = .returned (.bool true) ∧ Below w.heap.size w w' := by
  obtain ⟨hN, hS⟩ := JN.two 25 w n s
  obtain ⟨v, hv⟩ : ∃ v, v = judgeV n s sd := ⟨_, rfl⟩
  have HJ := Lib.hid fun w' => judge_any n s sd w' hn hs
  have HR := Lib.hid fun w' => judge_any (n.mv a b) (s.mv a b) sd w' (Nm.mv_ok hn a b) (Sj.mv_ok hs a b)
  rw [judge_mv n s sd a b hn hs] at HR
  rw [← hv] at HJ HR
  have hb3 : Below ((w.alloc (.cells n.cs 25)).alloc (.cells s.cs 30)).heap.size ((w.alloc (.cells n.cs 25)).alloc (.cells s.cs 30)) (((w.alloc (.cells n.cs 25)).alloc (.cells s.cs 30)).alloc (.cells #[.int .u32 a, .int .u32 b, .bool sd] 40)) := (Below.refl _ _).alloc (Nat.le_refl _) _
  have KN := Lib.hid (hN.into hb3)
  have KS := Lib.hid (hS.into hb3)
  have hX := Blk.new ((w.alloc (.cells n.cs 25)).alloc (.cells s.cs 30)) 40 #[.int .u32 a, .int .u32 b, .bool sd]
  rw [show ((w.alloc (.cells n.cs 25)).alloc (.cells s.cs 30)).heap.size = w.heap.size + 1 + 1 by simp] at hX
  have KM := Lib.hid hX
  have hz : (((w.alloc (.cells n.cs 25)).alloc (.cells s.cs 30)).alloc (.cells #[.int .u32 a, .int .u32 b, .bool sd] 40)).heap.size = w.heap.size + 3 := by simp
  clear hv hN hS hb3 hX hn hs
  unfold Nm.cs Sj.cs at *
  go_enter Try.func5, Try.ntmps5
  go_upto_region 1 with fail
  generalize (((w.alloc (.cells #[.int .i64 n.st, .int .u32 n.fst, .int .u32 n.ak, .int .u32 n.nx, .int .u32 n.wt] 25)).alloc (.cells #[.int .u16 s.p, .int .u16 s.q, .int .u32 s.seq, .int .u32 s.ack, .int .u8 (s.fl : Nat), .slice s.A s.n s.c, .slice s.D s.m s.d] 30)).alloc (.cells #[.int .u32 a, .int .u32 b, .bool sd] 40)) = w2 at *
  refine OB.wp_f ⟨fun k => k < w.heap.size + 3, []⟩ (by kernel_rfl) (fun QQ hQ wd hwd => ?_)
  have hD : Below w2.heap.size w2 wd := by rw [hwd.out]; exact (Below.refl _ _).drew
  have K0 := Lib.hid (KN.out.into hD)
  have K1 := Lib.hid (KS.out.into hD)
  have K2 := Lib.hid (KM.out.below hD KM.out.lt)
  have hz3 : w.heap.size + 3 ≤ wd.heap.size := by have := hD.size; omega
  clear hwd hD KN KS KM hz
  generalize wd = w3 at *
  have key : ∀ (X Y : Nat) (w9 : World), w.heap.size + 3 ≤ X → w.heap.size + 3 ≤ Y → X ≠ Y → Hid (JN 25 w w9 w.heap.size n) → Hid (JS w w9 (w.heap.size + 1) s) → Hid (Blk w9 (w.heap.size + 1 + 1) 40 #[.int .u32 a, .int .u32 b, .bool sd]) → Hid (JN 25 w w9 X n) → Hid (JS w w9 Y s) → QQ { tmps := #[.agg #[.int .i64 n.st, .int .u32 n.fst, .int .u32 n.ak, .int .u32 n.nx, .int .u32 n.wt], .agg #[.int .u16 s.p, .int .u16 s.q, .int .u32 s.seq, .int .u32 s.ack, .int .u8 (s.fl : Nat), .slice s.A s.n s.c, .slice s.D s.m s.d], .agg #[.int .u32 a, .int .u32 b, .bool sd], .pointer (some ⟨w.heap.size, 0, none⟩), .pointer (some ⟨w.heap.size + 1, 0, none⟩), .pointer (some ⟨w.heap.size + 1 + 1, 0, none⟩), .bool false, .pointer (some ⟨X, 0, none⟩), .pointer (some ⟨Y, 0, none⟩), .agg #[.int .i64 n.st, .int .u32 n.fst, .int .u32 n.ak, .int .u32 n.nx, .int .u32 n.wt], .agg #[.int .u16 s.p, .int .u16 s.q, .int .u32 s.seq, .int .u32 s.ack, .int .u8 (s.fl : Nat), .slice s.A s.n s.c, .slice s.D s.m s.d], undef, undef, undef, undef, undef, undef, undef, undef, undef, undef, undef, undef, undef, undef, undef, undef, undef, undef, undef, undef, undef, undef, undef, undef, undef, undef, undef, undef, undef, undef, undef, undef, undef, undef, undef, undef, undef, undef, undef, undef, undef, undef, undef, undef, undef, undef, undef, undef, undef, undef], defers := [] } w9 := by
    intro X Y w9 hX hY hne N0 S0 M0 NX SY
    clear K0 K1 K2 hz3 w3
    refine hQ.out _ _ ?_
    clear hQ QQ
    replace NX := Lib.hid NX.out.nb
    replace SY := Lib.hid SY.out.sb
    unfold Nm.cs Sj.cs at *
    go_upto_region 2 with fail
    refine OB.wp_ord [(0, .pure), (1, .read), (2, .pure), (3, .read), (4, .pure), (5, .pure), (6, .read), (7, .pure), (8, .read), (9, .pure), (10, .pure), (11, .read), (12, .pure), (13, .read), (14, .pure), (15, .pure), (16, .read), (17, .pure), (18, .read), (19, .pure), (20, .pure), (21, .sole), (22, .pure), (23, .sole), (24, .pure), (25, .sole), (26, .pure), (27, .sole)] ⟨fun k => k < w.heap.size + 3, []⟩ (by kernel_rfl) (by kernel_rfl) (fun QQ hQ wd hwd => ?_); (try simp only [List.map_cons, List.map_nil, List.getD_cons_zero, List.getD_cons_succ])
    have hD : Below w9.heap.size w9 wd := by rw [hwd.out]; exact (Below.refl _ _).drew
    replace N0 := Lib.hid (N0.out.into hD)
    replace S0 := Lib.hid (S0.out.into hD)
    replace M0 := Lib.hid (M0.out.below hD M0.out.lt)
    replace NX := Lib.hid (NX.out.below hD NX.out.lt)
    replace SY := Lib.hid (SY.out.below hD SY.out.lt)
    clear hD hwd
    generalize wd = u0 at *
    obtain ⟨n0, n1, n2, n3, n4⟩ := N0.out.cells
    obtain ⟨s0, s1, s2, s3, s4, s5, s6⟩ := S0.out.cells
    obtain ⟨m0, m1, m2⟩ := ptc3 M0.out
    clear n0 n4 s0 s1 s2 s4 s5 s6 m1 m2
    (refine OB.o_pure (v := ?_) (by rfl) (fun w' => ?_) ?_; rotate_left; (focus (go_simp; (try with_reducible rfl))); (try simp only [Act.put, List.setIfInBounds_toArray, List.set_cons_zero, List.set_cons_succ]))
    (refine OB.o_load _ (by rfl) rfl rfl (by dsimp only; first | assumption | omega) (by assumption) (by kernel_rfl) ?_; simp only [Act.put, List.setIfInBounds_toArray, List.set_cons_zero, List.set_cons_succ])
    (refine OB.o_pure (v := ?_) (by rfl) (fun w' => ?_) ?_; rotate_left; (focus (go_simp; (try with_reducible rfl))); (try simp only [Act.put, List.setIfInBounds_toArray, List.set_cons_zero, List.set_cons_succ]))
    (refine OB.o_load _ (by rfl) rfl rfl (by dsimp only; first | assumption | omega) (by assumption) (by kernel_rfl) ?_; simp only [Act.put, List.setIfInBounds_toArray, List.set_cons_zero, List.set_cons_succ])
    (refine OB.o_pure (v := ?_) (by rfl) (fun w' => ?_) ?_; rotate_left; (focus (go_simp; (try with_reducible rfl))); (try simp only [Act.put, List.setIfInBounds_toArray, List.set_cons_zero, List.set_cons_succ]))
    (refine OB.o_pure (v := ?_) (by rfl) (fun w' => ?_) ?_; rotate_left; (focus (go_simp; (try with_reducible rfl))); (try simp only [Act.put, List.setIfInBounds_toArray, List.set_cons_zero, List.set_cons_succ]))
    (refine OB.o_load _ (by rfl) rfl rfl (by dsimp only; first | assumption | omega) (by assumption) (by kernel_rfl) ?_; simp only [Act.put, List.setIfInBounds_toArray, List.set_cons_zero, List.set_cons_succ])
    (refine OB.o_pure (v := ?_) (by rfl) (fun w' => ?_) ?_; rotate_left; (focus (go_simp; (try with_reducible rfl))); (try simp only [Act.put, List.setIfInBounds_toArray, List.set_cons_zero, List.set_cons_succ]))
    (refine OB.o_load _ (by rfl) rfl rfl (by dsimp only; first | assumption | omega) (by assumption) (by kernel_rfl) ?_; simp only [Act.put, List.setIfInBounds_toArray, List.set_cons_zero, List.set_cons_succ])
    (refine OB.o_pure (v := ?_) (by rfl) (fun w' => ?_) ?_; rotate_left; (focus (go_simp; (try with_reducible rfl))); (try simp only [Act.put, List.setIfInBounds_toArray, List.set_cons_zero, List.set_cons_succ]))
    (refine OB.o_pure (v := ?_) (by rfl) (fun w' => ?_) ?_; rotate_left; (focus (go_simp; (try with_reducible rfl))); (try simp only [Act.put, List.setIfInBounds_toArray, List.set_cons_zero, List.set_cons_succ]))
    (refine OB.o_load _ (by rfl) rfl rfl (by dsimp only; first | assumption | omega) (by assumption) (by kernel_rfl) ?_; simp only [Act.put, List.setIfInBounds_toArray, List.set_cons_zero, List.set_cons_succ])
    (refine OB.o_pure (v := ?_) (by rfl) (fun w' => ?_) ?_; rotate_left; (focus (go_simp; (try with_reducible rfl))); (try simp only [Act.put, List.setIfInBounds_toArray, List.set_cons_zero, List.set_cons_succ]))
    (refine OB.o_load _ (by rfl) rfl rfl (by dsimp only; first | assumption | omega) (by assumption) (by kernel_rfl) ?_; simp only [Act.put, List.setIfInBounds_toArray, List.set_cons_zero, List.set_cons_succ])
    (refine OB.o_pure (v := ?_) (by rfl) (fun w' => ?_) ?_; rotate_left; (focus (go_simp; (try with_reducible rfl))); (try simp only [Act.put, List.setIfInBounds_toArray, List.set_cons_zero, List.set_cons_succ]))
    (refine OB.o_pure (v := ?_) (by rfl) (fun w' => ?_) ?_; rotate_left; (focus (go_simp; (try with_reducible rfl))); (try simp only [Act.put, List.setIfInBounds_toArray, List.set_cons_zero, List.set_cons_succ]))
    (refine OB.o_load _ (by rfl) rfl rfl (by dsimp only; first | assumption | omega) (by assumption) (by kernel_rfl) ?_; simp only [Act.put, List.setIfInBounds_toArray, List.set_cons_zero, List.set_cons_succ])
    (refine OB.o_pure (v := ?_) (by rfl) (fun w' => ?_) ?_; rotate_left; (focus (go_simp; (try with_reducible rfl))); (try simp only [Act.put, List.setIfInBounds_toArray, List.set_cons_zero, List.set_cons_succ]))
    (refine OB.o_load _ (by rfl) rfl rfl (by dsimp only; first | assumption | omega) (by assumption) (by kernel_rfl) ?_; simp only [Act.put, List.setIfInBounds_toArray, List.set_cons_zero, List.set_cons_succ])
    (refine OB.o_pure (v := ?_) (by rfl) (fun w' => ?_) ?_; rotate_left; (focus (go_simp; (try with_reducible rfl))); (try simp only [Act.put, List.setIfInBounds_toArray, List.set_cons_zero, List.set_cons_succ]))
    (refine OB.o_pure (v := ?_) (by rfl) (fun w' => ?_) ?_; rotate_left; (focus (go_simp; (try with_reducible rfl))); (try simp only [Act.put, List.setIfInBounds_toArray, List.set_cons_zero, List.set_cons_succ]))
    clear n1 n2 n3 s3 m0
    have fz : u0.frozen? ⟨X, 1, none⟩ = false := NX.out.frozen _
    have fc := NX.out.cell 1
    simp only [List.getElem?_toArray, List.getElem?_cons_succ, List.getElem?_cons_zero] at fc
    refine OB.o_sole (fun K hK => ?_)
    go_wp2_with fail
    have hs : Solo X u0 (u0.setCell ⟨X, 1, none⟩ (.int .u32 ((n.fst + a) % 4294967296))) := Solo.refl.setCell 1 _
    have hk := NX.out.set 1 (.int .u32 ((n.fst + a) % 4294967296))
    refine hK _ _ (fun _ => OB.ExtB.at_ (hs.1.mono (by omega)) (fun k hk => by dsimp only at hk; omega)) ?_; clear hK K
    simp only [List.setIfInBounds_toArray, List.set_cons_zero, List.set_cons_succ] at hk
    generalize u0.setCell ⟨X, 1, none⟩ (.int .u32 ((n.fst + a) % 4294967296)) = u1 at *
    have hB := Lib.hid (N0.out.bel.trans (hs.1.mono (by omega)))
    replace N0 := Lib.hid (show JN 25 w u1 w.heap.size n from ⟨hs.blk N0.out.nb (by omega), hB.out⟩)
    replace S0 := Lib.hid (show JS w u1 (w.heap.size + 1) s from ⟨hs.blk S0.out.sb (by omega), hB.out⟩)
    replace M0 := Lib.hid (hs.blk M0.out (by omega))
    replace NX := Lib.hid hk
    replace SY := Lib.hid (hs.blk SY.out (by omega))
    clear fz fc hk hs hB
    (refine OB.o_pure (v := ?_) (by rfl) (fun w' => ?_) ?_; rotate_left; (focus (go_simp; (try with_reducible rfl))); (try simp only [Act.put, List.setIfInBounds_toArray, List.set_cons_zero, List.set_cons_succ]))
    have fz : u1.frozen? ⟨X, 2, none⟩ = false := NX.out.frozen _
    have fc := NX.out.cell 2
    simp only [List.getElem?_toArray, List.getElem?_cons_succ, List.getElem?_cons_zero] at fc
    refine OB.o_sole (fun K hK => ?_)
    go_wp2_with fail
    have hs : Solo X u1 (u1.setCell ⟨X, 2, none⟩ (.int .u32 ((n.ak + a) % 4294967296))) := Solo.refl.setCell 2 _
    have hk := NX.out.set 2 (.int .u32 ((n.ak + a) % 4294967296))
    refine hK _ _ (fun _ => OB.ExtB.at_ (hs.1.mono (by omega)) (fun k hk => by dsimp only at hk; omega)) ?_; clear hK K
    simp only [List.setIfInBounds_toArray, List.set_cons_zero, List.set_cons_succ] at hk
    generalize u1.setCell ⟨X, 2, none⟩ (.int .u32 ((n.ak + a) % 4294967296)) = u2 at *
    have hB := Lib.hid (N0.out.bel.trans (hs.1.mono (by omega)))
    replace N0 := Lib.hid (show JN 25 w u2 w.heap.size n from ⟨hs.blk N0.out.nb (by omega), hB.out⟩)
    replace S0 := Lib.hid (show JS w u2 (w.heap.size + 1) s from ⟨hs.blk S0.out.sb (by omega), hB.out⟩)
    replace M0 := Lib.hid (hs.blk M0.out (by omega))
    replace NX := Lib.hid hk
    replace SY := Lib.hid (hs.blk SY.out (by omega))
    clear fz fc hk hs hB
    (refine OB.o_pure (v := ?_) (by rfl) (fun w' => ?_) ?_; rotate_left; (focus (go_simp; (try with_reducible rfl))); (try simp only [Act.put, List.setIfInBounds_toArray, List.set_cons_zero, List.set_cons_succ]))
    have fz : u2.frozen? ⟨X, 3, none⟩ = false := NX.out.frozen _
    have fc := NX.out.cell 3
    simp only [List.getElem?_toArray, List.getElem?_cons_succ, List.getElem?_cons_zero] at fc
    refine OB.o_sole (fun K hK => ?_)
    go_wp2_with fail
    have hs : Solo X u2 (u2.setCell ⟨X, 3, none⟩ (.int .u32 ((n.nx + a) % 4294967296))) := Solo.refl.setCell 3 _
    have hk := NX.out.set 3 (.int .u32 ((n.nx + a) % 4294967296))
    refine hK _ _ (fun _ => OB.ExtB.at_ (hs.1.mono (by omega)) (fun k hk => by dsimp only at hk; omega)) ?_; clear hK K
    simp only [List.setIfInBounds_toArray, List.set_cons_zero, List.set_cons_succ] at hk
    generalize u2.setCell ⟨X, 3, none⟩ (.int .u32 ((n.nx + a) % 4294967296)) = u3 at *
    have hB := Lib.hid (N0.out.bel.trans (hs.1.mono (by omega)))
    replace N0 := Lib.hid (show JN 25 w u3 w.heap.size n from ⟨hs.blk N0.out.nb (by omega), hB.out⟩)
    replace S0 := Lib.hid (show JS w u3 (w.heap.size + 1) s from ⟨hs.blk S0.out.sb (by omega), hB.out⟩)
    replace M0 := Lib.hid (hs.blk M0.out (by omega))
    replace NX := Lib.hid hk
    replace SY := Lib.hid (hs.blk SY.out (by omega))
    clear fz fc hk hs hB
    (refine OB.o_pure (v := ?_) (by rfl) (fun w' => ?_) ?_; rotate_left; (focus (go_simp; (try with_reducible rfl))); (try simp only [Act.put, List.setIfInBounds_toArray, List.set_cons_zero, List.set_cons_succ]))
    have fz : u3.frozen? ⟨Y, 3, none⟩ = false := SY.out.frozen _
    have fc := SY.out.cell 3
    simp only [List.getElem?_toArray, List.getElem?_cons_succ, List.getElem?_cons_zero] at fc
    refine OB.o_sole (fun K hK => ?_)
    go_wp2_with fail
    have hs : Solo Y u3 (u3.setCell ⟨Y, 3, none⟩ (.int .u32 ((s.ack + a) % 4294967296))) := Solo.refl.setCell 3 _
    have hk := SY.out.set 3 (.int .u32 ((s.ack + a) % 4294967296))
    refine hK _ _ (fun _ => OB.ExtB.at_ (hs.1.mono (by omega)) (fun k hk => by dsimp only at hk; omega)) ?_; clear hK K
    simp only [List.setIfInBounds_toArray, List.set_cons_zero, List.set_cons_succ] at hk
    generalize u3.setCell ⟨Y, 3, none⟩ (.int .u32 ((s.ack + a) % 4294967296)) = u4 at *
    have hB := Lib.hid (N0.out.bel.trans (hs.1.mono (by omega)))
    replace N0 := Lib.hid (show JN 25 w u4 w.heap.size n from ⟨hs.blk N0.out.nb (by omega), hB.out⟩)
    replace S0 := Lib.hid (show JS w u4 (w.heap.size + 1) s from ⟨hs.blk S0.out.sb (by omega), hB.out⟩)
    replace M0 := Lib.hid (hs.blk M0.out (by omega))
    replace SY := Lib.hid hk
    replace NX := Lib.hid (hs.blk NX.out (by omega))
    clear fz fc hk hs hB
    refine OB.o_nil (hQ.out _ _ ?_); clear hQ QQ
    go_upto_region 3 with fail
    refine OB.wp_ord [(0, .pure), (1, .read), (2, .pure), (3, .read), (4, .pure), (5, .pure), (6, .read), (7, .pure), (8, .read), (9, .pure), (10, .pure), (11, .sole), (12, .pure), (13, .sole)] ⟨fun k => k < w.heap.size + 3, []⟩ (by kernel_rfl) (by kernel_rfl) (fun QQ hQ wd hwd => ?_); (try simp only [List.map_cons, List.map_nil, List.getD_cons_zero, List.getD_cons_succ])
    have hD : Below u4.heap.size u4 wd := by rw [hwd.out]; exact (Below.refl _ _).drew
    replace N0 := Lib.hid (N0.out.into hD)
    replace S0 := Lib.hid (S0.out.into hD)
    replace M0 := Lib.hid (M0.out.below hD M0.out.lt)
    replace NX := Lib.hid (NX.out.below hD NX.out.lt)
    replace SY := Lib.hid (SY.out.below hD SY.out.lt)
    clear hD hwd
    generalize wd = u5 at *
    obtain ⟨n0, n1, n2, n3, n4⟩ := N0.out.cells
    obtain ⟨s0, s1, s2, s3, s4, s5, s6⟩ := S0.out.cells
    obtain ⟨m0, m1, m2⟩ := ptc3 M0.out
    clear n0 n1 n2 n3 s0 s1 s3 s4 s5 s6 m0 m2
    (refine OB.o_pure (v := ?_) (by rfl) (fun w' => ?_) ?_; rotate_left; (focus (go_simp; (try with_reducible rfl))); (try simp only [Act.put, List.setIfInBounds_toArray, List.set_cons_zero, List.set_cons_succ]))
    (refine OB.o_load _ (by rfl) rfl rfl (by dsimp only; first | assumption | omega) (by assumption) (by kernel_rfl) ?_; simp only [Act.put, List.setIfInBounds_toArray, List.set_cons_zero, List.set_cons_succ])
    (refine OB.o_pure (v := ?_) (by rfl) (fun w' => ?_) ?_; rotate_left; (focus (go_simp; (try with_reducible rfl))); (try simp only [Act.put, List.setIfInBounds_toArray, List.set_cons_zero, List.set_cons_succ]))
    (refine OB.o_load _ (by rfl) rfl rfl (by dsimp only; first | assumption | omega) (by assumption) (by kernel_rfl) ?_; simp only [Act.put, List.setIfInBounds_toArray, List.set_cons_zero, List.set_cons_succ])
    (refine OB.o_pure (v := ?_) (by rfl) (fun w' => ?_) ?_; rotate_left; (focus (go_simp; (try with_reducible rfl))); (try simp only [Act.put, List.setIfInBounds_toArray, List.set_cons_zero, List.set_cons_succ]))
    (refine OB.o_pure (v := ?_) (by rfl) (fun w' => ?_) ?_; rotate_left; (focus (go_simp; (try with_reducible rfl))); (try simp only [Act.put, List.setIfInBounds_toArray, List.set_cons_zero, List.set_cons_succ]))
    (refine OB.o_load _ (by rfl) rfl rfl (by dsimp only; first | assumption | omega) (by assumption) (by kernel_rfl) ?_; simp only [Act.put, List.setIfInBounds_toArray, List.set_cons_zero, List.set_cons_succ])
    (refine OB.o_pure (v := ?_) (by rfl) (fun w' => ?_) ?_; rotate_left; (focus (go_simp; (try with_reducible rfl))); (try simp only [Act.put, List.setIfInBounds_toArray, List.set_cons_zero, List.set_cons_succ]))
    (refine OB.o_load _ (by rfl) rfl rfl (by dsimp only; first | assumption | omega) (by assumption) (by kernel_rfl) ?_; simp only [Act.put, List.setIfInBounds_toArray, List.set_cons_zero, List.set_cons_succ])
    (refine OB.o_pure (v := ?_) (by rfl) (fun w' => ?_) ?_; rotate_left; (focus (go_simp; (try with_reducible rfl))); (try simp only [Act.put, List.setIfInBounds_toArray, List.set_cons_zero, List.set_cons_succ]))
    (refine OB.o_pure (v := ?_) (by rfl) (fun w' => ?_) ?_; rotate_left; (focus (go_simp; (try with_reducible rfl))); (try simp only [Act.put, List.setIfInBounds_toArray, List.set_cons_zero, List.set_cons_succ]))
    clear n4 s2 m1
    have fz : u5.frozen? ⟨X, 4, none⟩ = false := NX.out.frozen _
    have fc := NX.out.cell 4
    simp only [List.getElem?_toArray, List.getElem?_cons_succ, List.getElem?_cons_zero] at fc
    refine OB.o_sole (fun K hK => ?_)
    go_wp2_with fail
    have hs : Solo X u5 (u5.setCell ⟨X, 4, none⟩ (.int .u32 ((n.wt + b) % 4294967296))) := Solo.refl.setCell 4 _
    have hk := NX.out.set 4 (.int .u32 ((n.wt + b) % 4294967296))
    refine hK _ _ (fun _ => OB.ExtB.at_ (hs.1.mono (by omega)) (fun k hk => by dsimp only at hk; omega)) ?_; clear hK K
    simp only [List.setIfInBounds_toArray, List.set_cons_zero, List.set_cons_succ] at hk
    generalize u5.setCell ⟨X, 4, none⟩ (.int .u32 ((n.wt + b) % 4294967296)) = u6 at *
    have hB := Lib.hid (N0.out.bel.trans (hs.1.mono (by omega)))
    replace N0 := Lib.hid (show JN 25 w u6 w.heap.size n from ⟨hs.blk N0.out.nb (by omega), hB.out⟩)
    replace S0 := Lib.hid (show JS w u6 (w.heap.size + 1) s from ⟨hs.blk S0.out.sb (by omega), hB.out⟩)
    replace M0 := Lib.hid (hs.blk M0.out (by omega))
    replace NX := Lib.hid hk
    replace SY := Lib.hid (hs.blk SY.out (by omega))
    clear fz fc hk hs hB
    (refine OB.o_pure (v := ?_) (by rfl) (fun w' => ?_) ?_; rotate_left; (focus (go_simp; (try with_reducible rfl))); (try simp only [Act.put, List.setIfInBounds_toArray, List.set_cons_zero, List.set_cons_succ]))
    have fz : u6.frozen? ⟨Y, 2, none⟩ = false := SY.out.frozen _
    have fc := SY.out.cell 2
    simp only [List.getElem?_toArray, List.getElem?_cons_succ, List.getElem?_cons_zero] at fc
    refine OB.o_sole (fun K hK => ?_)
    go_wp2_with fail
    have hs : Solo Y u6 (u6.setCell ⟨Y, 2, none⟩ (.int .u32 ((s.seq + b) % 4294967296))) := Solo.refl.setCell 2 _
    have hk := SY.out.set 2 (.int .u32 ((s.seq + b) % 4294967296))
    refine hK _ _ (fun _ => OB.ExtB.at_ (hs.1.mono (by omega)) (fun k hk => by dsimp only at hk; omega)) ?_; clear hK K
    simp only [List.setIfInBounds_toArray, List.set_cons_zero, List.set_cons_succ] at hk
    generalize u6.setCell ⟨Y, 2, none⟩ (.int .u32 ((s.seq + b) % 4294967296)) = u7 at *
    have hB := Lib.hid (N0.out.bel.trans (hs.1.mono (by omega)))
    replace N0 := Lib.hid (show JN 25 w u7 w.heap.size n from ⟨hs.blk N0.out.nb (by omega), hB.out⟩)
    replace S0 := Lib.hid (show JS w u7 (w.heap.size + 1) s from ⟨hs.blk S0.out.sb (by omega), hB.out⟩)
    replace M0 := Lib.hid (hs.blk M0.out (by omega))
    replace SY := Lib.hid hk
    replace NX := Lib.hid (hs.blk NX.out (by omega))
    clear fz fc hk hs hB
    refine OB.o_nil (hQ.out _ _ ?_); clear hQ QQ
    go_upto_region 4 with fail
    refine wp_ord [(0, .read), (1, .read), (2, .pure), (3, .read), (5, .read), (6, .read), (7, .pure), (8, .read), (4, .sole), (9, .sole), (10, .pure), (11, .pure), (12, .sole), (13, .pure), (14, .pure)] [] (by kernel_rfl) (by kernel_rfl) (fun QQ hQ wd hwd => ?_); simp only [List.map_cons, List.map_nil, List.getD_cons_zero, List.getD_cons_succ]
    have hD : Below u7.heap.size u7 wd := by rw [hwd.out]; exact (Below.refl _ _).drew
    replace N0 := Lib.hid (N0.out.into hD)
    replace S0 := Lib.hid (S0.out.into hD)
    replace M0 := Lib.hid (M0.out.below hD M0.out.lt)
    replace NX := Lib.hid (show JN 25 w wd X (n.mv a b) from ⟨NX.out.below hD NX.out.lt, N0.out.bel⟩)
    replace SY := Lib.hid (show JS w wd Y (s.mv a b) from ⟨SY.out.below hD SY.out.lt, N0.out.bel⟩)
    clear hD hwd
    obtain ⟨m0, m1, m2⟩ := ptc3 M0.out
    clear m0 m1
    (refine o_loads _ [.int .i64 n.st, .int .u32 n.fst, .int .u32 n.ak, .int .u32 n.nx, .int .u32 n.wt] (by rfl) rfl rfl (cells5n N0.out) (Nat.succ_pos _) (by kernel_rfl) (by kernel_rfl) ?_; simp only [Act.put, List.setIfInBounds_toArray, List.set_cons_zero, List.set_cons_succ])
    (refine o_loads _ [.int .u16 s.p, .int .u16 s.q, .int .u32 s.seq, .int .u32 s.ack, .int .u8 (s.fl : Nat), .slice s.A s.n s.c, .slice s.D s.m s.d] (by rfl) rfl rfl (cells7s S0.out) (Nat.succ_pos _) (by kernel_rfl) (by kernel_rfl) ?_; simp only [Act.put, List.setIfInBounds_toArray, List.set_cons_zero, List.set_cons_succ])
    (refine o_pure (v := ?_) (by rfl) (fun w' => ?_) ?_; rotate_left; (focus (go_simp; (try with_reducible rfl); (try (rw [if_pos (by omega)]; (try with_reducible rfl))))); (try simp only [Act.put, List.setIfInBounds_toArray, List.set_cons_zero, List.set_cons_succ]))
    (refine o_load _ (by rfl) rfl rfl (by assumption) (by kernel_rfl) ?_; simp only [Act.put, List.setIfInBounds_toArray, List.set_cons_zero, List.set_cons_succ])
    (refine o_loads _ [.int .i64 n.st, .int .u32 ((n.fst + a) % 4294967296), .int .u32 ((n.ak + a) % 4294967296), .int .u32 ((n.nx + a) % 4294967296), .int .u32 ((n.wt + b) % 4294967296)] (by rfl) rfl rfl (cells5n NX.out) (Nat.succ_pos _) (by kernel_rfl) (by kernel_rfl) ?_; simp only [Act.put, List.setIfInBounds_toArray, List.set_cons_zero, List.set_cons_succ])
    (refine o_loads _ [.int .u16 s.p, .int .u16 s.q, .int .u32 ((s.seq + b) % 4294967296), .int .u32 ((s.ack + a) % 4294967296), .int .u8 (s.fl : Nat), .slice s.A s.n s.c, .slice s.D s.m s.d] (by rfl) rfl rfl (cells7s SY.out) (Nat.succ_pos _) (by kernel_rfl) (by kernel_rfl) ?_; simp only [Act.put, List.setIfInBounds_toArray, List.set_cons_zero, List.set_cons_succ])
    (refine o_pure (v := ?_) (by rfl) (fun w' => ?_) ?_; rotate_left; (focus (go_simp; (try with_reducible rfl); (try (rw [if_pos (by omega)]; (try with_reducible rfl))))); (try simp only [Act.put, List.setIfInBounds_toArray, List.set_cons_zero, List.set_cons_succ]))
    (refine o_load _ (by rfl) rfl rfl (by assumption) (by kernel_rfl) ?_; simp only [Act.put, List.setIfInBounds_toArray, List.set_cons_zero, List.set_cons_succ])
    refine o_sole (fun K hK => ?_)
    go_wp2_with fail
    refine (HJ.out wd).mono ?_
    rintro e w4 ⟨rfl, hb⟩
    have S4 := Lib.hid (N0.out.into hb)
    go_wp2_with fail
    refine hK _ _ (fun _ => Ext.of hb) ?_; clear hK K
    clear hb N0 S0 NX SY M0 m2
    refine o_sole (fun K hK => ?_)
    go_wp2_with fail
    refine (HR.out w4).mono ?_
    rintro e w5 ⟨rfl, hb⟩
    have S5 := Lib.hid (S4.out.into hb)
    go_wp2_with fail
    refine hK _ _ (fun _ => Ext.of hb) ?_; clear hK K
    clear hb S4
    (refine o_pure (v := ?_) (by rfl) (fun w' => ?_) ?_; rotate_left; (focus (go_simp; (try with_reducible rfl); (try (rw [if_pos (by omega)]; (try with_reducible rfl))))); (try simp only [Act.put, List.setIfInBounds_toArray, List.set_cons_zero, List.set_cons_succ]))
    (refine o_pure (v := ?_) (by rfl) (fun w' => ?_) ?_; rotate_left; (focus (go_simp; (try with_reducible rfl); (try (rw [if_pos (by omega)]; (try with_reducible rfl))))); (try simp only [Act.put, List.setIfInBounds_toArray, List.set_cons_zero, List.set_cons_succ]))
    refine o_sole (fun K hK => ?_)
    go_wp2_with fail
    refine (alive15 w5).mono ?_
    rintro e w6 ⟨rfl, hb⟩
    have S6 := Lib.hid (S5.out.into hb)
    go_wp2_with fail
    refine hK _ _ (fun _ => Ext.of hb) ?_; clear hK K
    clear hb S5
    (refine o_pure (v := ?_) (by rfl) (fun w' => ?_) ?_; rotate_left; (focus (go_simp; (try with_reducible rfl); (try (rw [if_pos (by omega)]; (try with_reducible rfl))))); (try simp only [Act.put, List.setIfInBounds_toArray, List.set_cons_zero, List.set_cons_succ]))
    (refine o_pure (v := ?_) (by rfl) (fun w' => ?_) ?_; rotate_left; (focus (go_simp; (try with_reducible rfl); (try (rw [if_pos (by omega)]; (try with_reducible rfl))))); (try simp only [Act.put, List.setIfInBounds_toArray, List.set_cons_zero, List.set_cons_succ]))
    refine o_nil (hQ.out _ _ ?_); clear hQ QQ
    go_wp2
    go_ret
    exact ⟨rfl, S6.out.bel⟩
  refine OB.f_walk [(0, .read), (1, .read)] 4 (by rfl) (by kernel_rfl) ?_; (try simp only [List.map_cons, List.map_nil, List.getD_cons_zero, List.getD_cons_succ])
  (refine OB.o_loads _ [.int .i64 n.st, .int .u32 n.fst, .int .u32 n.ak, .int .u32 n.nx, .int .u32 n.wt] (by rfl) rfl rfl (by dsimp only; first | assumption | omega) (cells5n K0.out) (Nat.succ_pos _) (by kernel_rfl) (by kernel_rfl) ?_; simp only [Act.put, List.setIfInBounds_toArray, List.set_cons_zero, List.set_cons_succ])
  (refine OB.o_loads _ [.int .u16 s.p, .int .u16 s.q, .int .u32 s.seq, .int .u32 s.ack, .int .u8 (s.fl : Nat), .slice s.A s.n s.c, .slice s.D s.m s.d] (by rfl) rfl rfl (by dsimp only; first | assumption | omega) (cells7s K1.out) (Nat.succ_pos _) (by kernel_rfl) (by kernel_rfl) ?_; simp only [Act.put, List.setIfInBounds_toArray, List.set_cons_zero, List.set_cons_succ])
  refine OB.o_nil ?_
  refine OB.f_fork 2 3 (by kernel_rfl) (by kernel_rfl) ?_ ?_
  ·
    (try simp only [List.map_cons, List.map_nil, List.getD_cons_zero, List.getD_cons_succ])
    refine OB.o_sole (fun K hK => ?_)
    go_wp2_with fail
    refine hK _ _ (fun _ => OB.ExtB.at_ ((Below.refl _ _).alloc (Nat.le_refl _) _) (fun k hk => by dsimp only at hk; omega)) ?_; clear hK K
    have KA := Lib.hid (Blk.new w3 25 #[.int .i64 0, .int .u32 0, .int .u32 0, .int .u32 0, .int .u32 0])
    have bKA : Below w3.heap.size w3 (w3.alloc (.cells #[.int .i64 0, .int .u32 0, .int .u32 0, .int .u32 0, .int .u32 0] 25)) := (Below.refl _ _).alloc (Nat.le_refl _) _
    have zKA : (w3.alloc (.cells #[.int .i64 0, .int .u32 0, .int .u32 0, .int .u32 0, .int .u32 0] 25)).heap.size = w3.heap.size + 1 := by simp
    replace K0 := Lib.hid (K0.out.into bKA)
    replace K1 := Lib.hid (K1.out.into bKA)
    replace K2 := Lib.hid (K2.out.below bKA K2.out.lt)
    obtain ⟨xA, hKA⟩ : ∃ x, x = w3.heap.size := ⟨_, rfl⟩
    have gA : w.heap.size + 3 ≤ xA := by rw [hKA]; exact hz3
    replace hz3 : w.heap.size + 3 ≤ (w3.alloc (.cells #[.int .i64 0, .int .u32 0, .int .u32 0, .int .u32 0, .int .u32 0] 25)).heap.size := by rw [zKA]; omega
    rw [← hKA] at KA zKA ⊢
    have ZKA := Lib.hid zKA
    have HKA := Lib.hid hKA
    clear zKA hKA
    generalize w3.alloc (.cells #[.int .i64 0, .int .u32 0, .int .u32 0, .int .u32 0, .int .u32 0] 25) = w4 at *
    clear bKA
    refine OB.o_nil ?_
    refine OB.f_fork 3 4 (by kernel_rfl) (by kernel_rfl) ?_ ?_
    ·
      (try simp only [List.map_cons, List.map_nil, List.getD_cons_zero, List.getD_cons_succ])
      refine OB.o_sole (fun K hK => ?_)
      go_wp2_with fail
      refine hK _ _ (fun _ => OB.ExtB.at_ ((Below.refl _ _).alloc (Nat.le_refl _) _) (fun k hk => by dsimp only at hk; omega)) ?_; clear hK K
      have KB := Lib.hid (Blk.new w4 30 #[.int .u16 0, .int .u16 0, .int .u32 0, .int .u32 0, .int .u8 0, .slice none 0 0, .slice none 0 0])
      have bKB : Below w4.heap.size w4 (w4.alloc (.cells #[.int .u16 0, .int .u16 0, .int .u32 0, .int .u32 0, .int .u8 0, .slice none 0 0, .slice none 0 0] 30)) := (Below.refl _ _).alloc (Nat.le_refl _) _
      have zKB : (w4.alloc (.cells #[.int .u16 0, .int .u16 0, .int .u32 0, .int .u32 0, .int .u8 0, .slice none 0 0, .slice none 0 0] 30)).heap.size = w4.heap.size + 1 := by simp
      replace KA := Lib.hid (KA.out.below bKB KA.out.lt)
      replace K0 := Lib.hid (K0.out.into bKB)
      replace K1 := Lib.hid (K1.out.into bKB)
      replace K2 := Lib.hid (K2.out.below bKB K2.out.lt)
      obtain ⟨xB, hKB⟩ : ∃ x, x = w4.heap.size := ⟨_, rfl⟩
      have gB : w.heap.size + 3 ≤ xB := by rw [hKB]; exact hz3
      replace hz3 : w.heap.size + 3 ≤ (w4.alloc (.cells #[.int .u16 0, .int .u16 0, .int .u32 0, .int .u32 0, .int .u8 0, .slice none 0 0, .slice none 0 0] 30)).heap.size := by rw [zKB]; omega
      rw [← hKB] at KB zKB ⊢
      have ZKB := Lib.hid zKB
      have HKB := Lib.hid hKB
      clear zKB hKB
      generalize w4.alloc (.cells #[.int .u16 0, .int .u16 0, .int .u32 0, .int .u32 0, .int .u8 0, .slice none 0 0, .slice none 0 0] 30) = w5 at *
      clear bKB
      have hAB : xA ≠ xB := by have h1 := HKB.out; have h2 := ZKA.out; omega
      refine OB.o_nil ?_
      refine OB.f_walk [(4, .sole), (5, .sole)] 0 (by rfl) (by kernel_rfl) ?_; (try simp only [List.map_cons, List.map_nil, List.getD_cons_zero, List.getD_cons_succ])
      refine OB.o_sole (fun K hK => ?_)
      refine stm_store (cs' := #[.int .i64 n.st, .int .u32 n.fst, .int .u32 n.ak, .int .u32 n.nx, .int .u32 n.wt]) KA.out rfl _ _ rfl rfl rfl (by simp) (by kernel_rfl) (by simp [Value.oneCell']) (by simp [setL]) fun w6 hkKA hsKA => ?_
      refine wpList_nil ?_
      refine hK _ _ (fun _ => OB.ExtB.at_ (hsKA.1.mono (by omega)) (fun k hk => by dsimp only at hk; omega)) ?_; clear hK K
      have BKA : Below xA w5 w6 := hsKA.1
      replace KB := Lib.hid (hsKA.blk KB.out (by omega))
      have NKA : Hid (Below w.heap.size w w6) := Lib.hid (K0.out.bel.trans (BKA.mono (by omega)))
      replace K0 := Lib.hid (show JN 25 w w6 w.heap.size n from ⟨hsKA.blk K0.out.nb (by omega), NKA.out⟩)
      replace K1 := Lib.hid (show JS w w6 (w.heap.size + 1) s from ⟨hsKA.blk K1.out.sb (by omega), NKA.out⟩)
      replace K2 := Lib.hid (hsKA.blk K2.out (by omega))
      replace KA := Lib.hid hkKA
      clear hkKA
      have S6 := Lib.hid hsKA.2.1
      replace hz3 : w.heap.size + 3 ≤ w6.heap.size := by rw [hsKA.2.1]; exact hz3
      refine OB.o_sole (fun K hK => ?_)
      refine stm_store (cs' := #[.int .u16 s.p, .int .u16 s.q, .int .u32 s.seq, .int .u32 s.ack, .int .u8 (s.fl : Nat), .slice s.A s.n s.c, .slice s.D s.m s.d]) KB.out rfl _ _ rfl rfl rfl (by simp) (by kernel_rfl) (by simp [Value.oneCell']) (by simp [setL]) fun w7 hkKB hsKB => ?_
      refine wpList_nil ?_
      refine hK _ _ (fun _ => OB.ExtB.at_ (hsKB.1.mono (by omega)) (fun k hk => by dsimp only at hk; omega)) ?_; clear hK K
      have BKB : Below xB w6 w7 := hsKB.1
      replace KA := Lib.hid (hsKB.blk KA.out (by omega))
      have NKB : Hid (Below w.heap.size w w7) := Lib.hid (K0.out.bel.trans (BKB.mono (by omega)))
      replace K0 := Lib.hid (show JN 25 w w7 w.heap.size n from ⟨hsKB.blk K0.out.nb (by omega), NKB.out⟩)
      replace K1 := Lib.hid (show JS w w7 (w.heap.size + 1) s from ⟨hsKB.blk K1.out.sb (by omega), NKB.out⟩)
      replace K2 := Lib.hid (hsKB.blk K2.out (by omega))
      replace KB := Lib.hid hkKB
      clear hkKB
      have S7 := Lib.hid hsKB.2.1
      replace hz3 : w.heap.size + 3 ≤ w7.heap.size := by rw [hsKB.2.1]; exact hz3
      refine OB.o_nil ?_
      refine OB.f_end (by kernel_rfl) ?_
      (try simp only [Act.put])
      exact key xA xB _ gA gB (by omega) K0 K1 K2 (Lib.hid ⟨KA.out, K0.out.bel⟩) (Lib.hid ⟨KB.out, K0.out.bel⟩)
    ·
      (try simp only [List.map_cons, List.map_nil, List.getD_cons_zero, List.getD_cons_succ])
      refine OB.o_sole (fun K hK => ?_)
      refine stm_store (cs' := #[.int .i64 n.st, .int .u32 n.fst, .int .u32 n.ak, .int .u32 n.nx, .int .u32 n.wt]) KA.out rfl _ _ rfl rfl rfl (by simp) (by kernel_rfl) (by simp [Value.oneCell']) (by simp [setL]) fun w5 hkKA hsKA => ?_
      refine wpList_nil ?_
      refine hK _ _ (fun _ => OB.ExtB.at_ (hsKA.1.mono (by omega)) (fun k hk => by dsimp only at hk; omega)) ?_; clear hK K
      have BKA : Below xA w4 w5 := hsKA.1
      have NKA : Hid (Below w.heap.size w w5) := Lib.hid (K0.out.bel.trans (BKA.mono (by omega)))
      replace K0 := Lib.hid (show JN 25 w w5 w.heap.size n from ⟨hsKA.blk K0.out.nb (by omega), NKA.out⟩)
      replace K1 := Lib.hid (show JS w w5 (w.heap.size + 1) s from ⟨hsKA.blk K1.out.sb (by omega), NKA.out⟩)
      replace K2 := Lib.hid (hsKA.blk K2.out (by omega))
      replace KA := Lib.hid hkKA
      clear hkKA
      have S5 := Lib.hid hsKA.2.1
      replace hz3 : w.heap.size + 3 ≤ w5.heap.size := by rw [hsKA.2.1]; exact hz3
      refine OB.o_nil ?_
      refine OB.f_walk [(3, .sole), (5, .sole)] 0 (by rfl) (by kernel_rfl) ?_; (try simp only [List.map_cons, List.map_nil, List.getD_cons_zero, List.getD_cons_succ])
      refine OB.o_sole (fun K hK => ?_)
      go_wp2_with fail
      refine hK _ _ (fun _ => OB.ExtB.at_ ((Below.refl _ _).alloc (Nat.le_refl _) _) (fun k hk => by dsimp only at hk; omega)) ?_; clear hK K
      have KB := Lib.hid (Blk.new w5 30 #[.int .u16 0, .int .u16 0, .int .u32 0, .int .u32 0, .int .u8 0, .slice none 0 0, .slice none 0 0])
      have bKB : Below w5.heap.size w5 (w5.alloc (.cells #[.int .u16 0, .int .u16 0, .int .u32 0, .int .u32 0, .int .u8 0, .slice none 0 0, .slice none 0 0] 30)) := (Below.refl _ _).alloc (Nat.le_refl _) _
      have zKB : (w5.alloc (.cells #[.int .u16 0, .int .u16 0, .int .u32 0, .int .u32 0, .int .u8 0, .slice none 0 0, .slice none 0 0] 30)).heap.size = w5.heap.size + 1 := by simp
      replace KA := Lib.hid (KA.out.below bKB KA.out.lt)
      replace K0 := Lib.hid (K0.out.into bKB)
      replace K1 := Lib.hid (K1.out.into bKB)
      replace K2 := Lib.hid (K2.out.below bKB K2.out.lt)
      obtain ⟨xB, hKB⟩ : ∃ x, x = w5.heap.size := ⟨_, rfl⟩
      have gB : w.heap.size + 3 ≤ xB := by rw [hKB]; exact hz3
      replace hz3 : w.heap.size + 3 ≤ (w5.alloc (.cells #[.int .u16 0, .int .u16 0, .int .u32 0, .int .u32 0, .int .u8 0, .slice none 0 0, .slice none 0 0] 30)).heap.size := by rw [zKB]; omega
      rw [← hKB] at KB zKB ⊢
      have ZKB := Lib.hid zKB
      have HKB := Lib.hid hKB
      clear zKB hKB
      generalize w5.alloc (.cells #[.int .u16 0, .int .u16 0, .int .u32 0, .int .u32 0, .int .u8 0, .slice none 0 0, .slice none 0 0] 30) = w6 at *
      clear bKB
      have hAB : xA ≠ xB := by have h1 := HKB.out; have h2 := ZKA.out; have h3 := S5.out; omega
      refine OB.o_sole (fun K hK => ?_)
      refine stm_store (cs' := #[.int .u16 s.p, .int .u16 s.q, .int .u32 s.seq, .int .u32 s.ack, .int .u8 (s.fl : Nat), .slice s.A s.n s.c, .slice s.D s.m s.d]) KB.out rfl _ _ rfl rfl rfl (by simp) (by kernel_rfl) (by simp [Value.oneCell']) (by simp [setL]) fun w7 hkKB hsKB => ?_
      refine wpList_nil ?_
      refine hK _ _ (fun _ => OB.ExtB.at_ (hsKB.1.mono (by omega)) (fun k hk => by dsimp only at hk; omega)) ?_; clear hK K
      have BKB : Below xB w6 w7 := hsKB.1
      replace KA := Lib.hid (hsKB.blk KA.out (by omega))
      have NKB : Hid (Below w.heap.size w w7) := Lib.hid (K0.out.bel.trans (BKB.mono (by omega)))
      replace K0 := Lib.hid (show JN 25 w w7 w.heap.size n from ⟨hsKB.blk K0.out.nb (by omega), NKB.out⟩)
      replace K1 := Lib.hid (show JS w w7 (w.heap.size + 1) s from ⟨hsKB.blk K1.out.sb (by omega), NKB.out⟩)
      replace K2 := Lib.hid (hsKB.blk K2.out (by omega))
      replace KB := Lib.hid hkKB
      clear hkKB
      have S7 := Lib.hid hsKB.2.1
      replace hz3 : w.heap.size + 3 ≤ w7.heap.size := by rw [hsKB.2.1]; exact hz3
      refine OB.o_nil ?_
      refine OB.f_end (by kernel_rfl) ?_
      (try simp only [Act.put])
      exact key xA xB _ gA gB (by omega) K0 K1 K2 (Lib.hid ⟨KA.out, K0.out.bel⟩) (Lib.hid ⟨KB.out, K0.out.bel⟩)
  ·
    (try simp only [List.map_cons, List.map_nil, List.getD_cons_zero, List.getD_cons_succ])
    refine OB.o_sole (fun K hK => ?_)
    go_wp2_with fail
    refine hK _ _ (fun _ => OB.ExtB.at_ ((Below.refl _ _).alloc (Nat.le_refl _) _) (fun k hk => by dsimp only at hk; omega)) ?_; clear hK K
    have KB := Lib.hid (Blk.new w3 30 #[.int .u16 0, .int .u16 0, .int .u32 0, .int .u32 0, .int .u8 0, .slice none 0 0, .slice none 0 0])
    have bKB : Below w3.heap.size w3 (w3.alloc (.cells #[.int .u16 0, .int .u16 0, .int .u32 0, .int .u32 0, .int .u8 0, .slice none 0 0, .slice none 0 0] 30)) := (Below.refl _ _).alloc (Nat.le_refl _) _
    have zKB : (w3.alloc (.cells #[.int .u16 0, .int .u16 0, .int .u32 0, .int .u32 0, .int .u8 0, .slice none 0 0, .slice none 0 0] 30)).heap.size = w3.heap.size + 1 := by simp
    replace K0 := Lib.hid (K0.out.into bKB)
    replace K1 := Lib.hid (K1.out.into bKB)
    replace K2 := Lib.hid (K2.out.below bKB K2.out.lt)
    obtain ⟨xB, hKB⟩ : ∃ x, x = w3.heap.size := ⟨_, rfl⟩
    have gB : w.heap.size + 3 ≤ xB := by rw [hKB]; exact hz3
    replace hz3 : w.heap.size + 3 ≤ (w3.alloc (.cells #[.int .u16 0, .int .u16 0, .int .u32 0, .int .u32 0, .int .u8 0, .slice none 0 0, .slice none 0 0] 30)).heap.size := by rw [zKB]; omega
    rw [← hKB] at KB zKB ⊢
    have ZKB := Lib.hid zKB
    have HKB := Lib.hid hKB
    clear zKB hKB
    generalize w3.alloc (.cells #[.int .u16 0, .int .u16 0, .int .u32 0, .int .u32 0, .int .u8 0, .slice none 0 0, .slice none 0 0] 30) = w4 at *
    clear bKB
    refine OB.o_nil ?_
    refine OB.f_walk [(2, .sole), (4, .sole), (5, .sole)] 0 (by rfl) (by kernel_rfl) ?_; (try simp only [List.map_cons, List.map_nil, List.getD_cons_zero, List.getD_cons_succ])
    refine OB.o_sole (fun K hK => ?_)
    go_wp2_with fail
    refine hK _ _ (fun _ => OB.ExtB.at_ ((Below.refl _ _).alloc (Nat.le_refl _) _) (fun k hk => by dsimp only at hk; omega)) ?_; clear hK K
    have KA := Lib.hid (Blk.new w4 25 #[.int .i64 0, .int .u32 0, .int .u32 0, .int .u32 0, .int .u32 0])
    have bKA : Below w4.heap.size w4 (w4.alloc (.cells #[.int .i64 0, .int .u32 0, .int .u32 0, .int .u32 0, .int .u32 0] 25)) := (Below.refl _ _).alloc (Nat.le_refl _) _
    have zKA : (w4.alloc (.cells #[.int .i64 0, .int .u32 0, .int .u32 0, .int .u32 0, .int .u32 0] 25)).heap.size = w4.heap.size + 1 := by simp
    replace KB := Lib.hid (KB.out.below bKA KB.out.lt)
    replace K0 := Lib.hid (K0.out.into bKA)
    replace K1 := Lib.hid (K1.out.into bKA)
    replace K2 := Lib.hid (K2.out.below bKA K2.out.lt)
    obtain ⟨xA, hKA⟩ : ∃ x, x = w4.heap.size := ⟨_, rfl⟩
    have gA : w.heap.size + 3 ≤ xA := by rw [hKA]; exact hz3
    replace hz3 : w.heap.size + 3 ≤ (w4.alloc (.cells #[.int .i64 0, .int .u32 0, .int .u32 0, .int .u32 0, .int .u32 0] 25)).heap.size := by rw [zKA]; omega
    rw [← hKA] at KA zKA ⊢
    have ZKA := Lib.hid zKA
    have HKA := Lib.hid hKA
    clear zKA hKA
    generalize w4.alloc (.cells #[.int .i64 0, .int .u32 0, .int .u32 0, .int .u32 0, .int .u32 0] 25) = w5 at *
    clear bKA
    have hAB : xA ≠ xB := by have h1 := HKA.out; have h2 := ZKB.out; omega
    refine OB.o_sole (fun K hK => ?_)
    refine stm_store (cs' := #[.int .i64 n.st, .int .u32 n.fst, .int .u32 n.ak, .int .u32 n.nx, .int .u32 n.wt]) KA.out rfl _ _ rfl rfl rfl (by simp) (by kernel_rfl) (by simp [Value.oneCell']) (by simp [setL]) fun w6 hkKA hsKA => ?_
    refine wpList_nil ?_
    refine hK _ _ (fun _ => OB.ExtB.at_ (hsKA.1.mono (by omega)) (fun k hk => by dsimp only at hk; omega)) ?_; clear hK K
    have BKA : Below xA w5 w6 := hsKA.1
    replace KB := Lib.hid (hsKA.blk KB.out (by omega))
    have NKA : Hid (Below w.heap.size w w6) := Lib.hid (K0.out.bel.trans (BKA.mono (by omega)))
    replace K0 := Lib.hid (show JN 25 w w6 w.heap.size n from ⟨hsKA.blk K0.out.nb (by omega), NKA.out⟩)
    replace K1 := Lib.hid (show JS w w6 (w.heap.size + 1) s from ⟨hsKA.blk K1.out.sb (by omega), NKA.out⟩)
    replace K2 := Lib.hid (hsKA.blk K2.out (by omega))
    replace KA := Lib.hid hkKA
    clear hkKA
    have S6 := Lib.hid hsKA.2.1
    replace hz3 : w.heap.size + 3 ≤ w6.heap.size := by rw [hsKA.2.1]; exact hz3
    refine OB.o_sole (fun K hK => ?_)
    refine stm_store (cs' := #[.int .u16 s.p, .int .u16 s.q, .int .u32 s.seq, .int .u32 s.ack, .int .u8 (s.fl : Nat), .slice s.A s.n s.c, .slice s.D s.m s.d]) KB.out rfl _ _ rfl rfl rfl (by simp) (by kernel_rfl) (by simp [Value.oneCell']) (by simp [setL]) fun w7 hkKB hsKB => ?_
    refine wpList_nil ?_
    refine hK _ _ (fun _ => OB.ExtB.at_ (hsKB.1.mono (by omega)) (fun k hk => by dsimp only at hk; omega)) ?_; clear hK K
    have BKB : Below xB w6 w7 := hsKB.1
    replace KA := Lib.hid (hsKB.blk KA.out (by omega))
    have NKB : Hid (Below w.heap.size w w7) := Lib.hid (K0.out.bel.trans (BKB.mono (by omega)))
    replace K0 := Lib.hid (show JN 25 w w7 w.heap.size n from ⟨hsKB.blk K0.out.nb (by omega), NKB.out⟩)
    replace K1 := Lib.hid (show JS w w7 (w.heap.size + 1) s from ⟨hsKB.blk K1.out.sb (by omega), NKB.out⟩)
    replace K2 := Lib.hid (hsKB.blk K2.out (by omega))
    replace KB := Lib.hid hkKB
    clear hkKB
    have S7 := Lib.hid hsKB.2.1
    replace hz3 : w.heap.size + 3 ≤ w7.heap.size := by rw [hsKB.2.1]; exact hz3
    refine OB.o_nil ?_
    refine OB.f_end (by kernel_rfl) ?_
    (try simp only [Act.put])
    exact key xA xB _ gA gB (by omega) K0 K1 K2 (Lib.hid ⟨KA.out, K0.out.bel⟩) (Lib.hid ⟨KB.out, K0.out.bel⟩)
end Go.Proofs.Ytllahldgkpbpoaa
