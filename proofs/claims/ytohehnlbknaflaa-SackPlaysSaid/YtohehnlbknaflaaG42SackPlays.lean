/- Package sack: Say; the law's alive. -/
import Derived.Test.YtohehnlbknaflaaG26SackPlays
import Derived.Test.YtohehnlbknaflaaG41SackPlays
import Derived.Test.YtohehnlbknaflaaG28SackPlays
import Derived.Test.YtohehnlbknaflaaOrdF
import Derived.StillTailTactics
import Derived.Deep.Cut

namespace Go.Proofs.Ytohehnlbknaflaa
open Go.RowKit
set_option linter.unusedVariables false
set_option linter.unusedSimpArgs false
set_option maxRecDepth 20000 in
set_option maxHeartbeats 4000000 in
theorem bsay_any (g B : Nat) (W : Int) (most : Nat) (v : Value) (l : List Sp) (w : World) (h : BdI w g B W most v l) :
    Calls Try.prog 22 #[.pointer (some ⟨g, 0, none⟩)] w fun e w' => SOPost W ((bdL W l).take 4) w.heap.size w' e ∧ Below w.heap.size w w' := by
  have hb0 := Lib.hid ((Below.refl w.heap.size w).alloc (Nat.le_refl _) (.cells #[.int .u8 0, .slice none 0 0] 26))
  have KR := Lib.hid (Blk.new w 26 #[.int .u8 0, .slice none 0 0])
  have h2 := h.into hb0.out
  obtain ⟨c0, c1, c2⟩ := h2.cells
  obtain ⟨A, c, rfl, hnc, hcm, hr⟩ := h2.rd
  have hn : l.length ≤ 64 := Nat.le_trans h.len h.ms
  have hu := Lib.hid h.u
  obtain ⟨n, hn9⟩ : ∃ n, n = l.length := ⟨_, rfl⟩
  rw [← hn9] at hr hn hnc c2
  obtain ⟨k, hk⟩ : ∃ k, k = min n 4 := ⟨_, rfl⟩
  have hmin : min (n : Int) 4 = (k : Int) := by omega
  have hmin2 : (if 4 < n then (4 : Int) else (n : Int)) = (k : Int) := by split <;> omega
  have hmin3 : (if (4 : Int) < (n : Int) then (4 : Int) else (n : Int)) = (k : Int) := by split <;> omega
  have hkn : k ≤ n := by omega
  have hkc : k ≤ c := by omega
  have htk : Hid ((bdL W l).take 4 = (bdL W l).take k) := Lib.hid (by
    rw [hk]
    by_cases h4 : n ≤ 4
    · rw [List.take_of_length_le (by rw [bdL_len]; omega), List.take_of_length_le (by rw [bdL_len]; omega)]
    · rw [show min n 4 = 4 by omega])
  have HR := Lib.hid (show Rd (w.alloc (.cells #[.int .u8 0, .slice none 0 0] 26)) (w.alloc (.cells #[.int .u8 0, .slice none 0 0] 26)).heap.size 2 A k (bks ((bdL W l).take k)) from by
    have := hr.take (k := k) hkn
    rwa [bks_take] at this)
  have HUS := Lib.hid (show U32s ((bdL W l).take k) from fun p hp => bdL_u32 W l p (List.mem_of_mem_take hp))
  clear h h2 hr hn9 hk
  rw [htk.out]
  have HUT := Lib.hid (show Try.prog.underlying 23 = some (.slice (Try.prog.elem 23)) by unfold Program.elem; rw [Try.underlying23])
  have hs3 : ∀ w, (Instr.slice 23 (.slice A n c) none (some (.int .i64 (k : Int))) none).run Try.prog w = .ok (.slice A k c) w := fun w => run_cut_h sckEl A n c k hkc w
  have hs4 : ∀ w, (Instr.sliceAt 23 (.slice A n c) none (some (.int .i64 (k : Int))) none).run Try.prog w = .ok (.slice A k c) w := fun w => (run_sliceAt_slice w _ _ _ _ _ HUT.out).trans (hs3 w)
  go_enter Try.func22, Try.ntmps22
  go_wp2_with fail
  generalize w.alloc (.cells #[.int .u8 0, .slice none 0 0] 26) = w2 at *
  refine wp_ord [(0, .pure), (1, .pure), (2, .pure), (3, .read), (4, .pure), (5, .pure), (6, .pure), (7, .read), (8, .pure), (9, .pure), (10, .pure), (11, .read), (12, .pure), (13, .pure), (14, .pure), (15, .sole), (16, .pure), (17, .pure), (18, .sole), (19, .pure)] [18] (by kernel_rfl) (by kernel_rfl) (fun QQ hQ wd hwd => ?_); simp only [List.map_cons, List.map_nil, List.getD_cons_zero, List.getD_cons_succ]
  have BD := Lib.hid (show Below w.heap.size w wd from hb0.out.trans (by rw [hwd.out]; exact (Below.refl _ _).drew))
  have dd0 : wd.cell? ⟨g, 0, none⟩ = some (.int .u32 W) := by rw [hwd.out]; exact c0
  have dd2 : wd.cell? ⟨g, 2, none⟩ = some (.slice A n c) := by rw [hwd.out]; exact c2
  have KRD := Lib.hid (show Blk wd w.heap.size 26 #[.int .u8 0, .slice none 0 0] by rw [hwd.out]; exact KR.out.drew)
  have HRD := Lib.hid (show Rd wd wd.heap.size 2 A k (bks ((bdL W l).take k)) from by rw [hwd.out]; exact HR.out.into (Below.refl _ _).drew)
  clear hwd c0 c1 c2 KR HR
  (refine o_pure (v := ?_) (by rfl) (fun w' => ?_) ?_; rotate_left; (focus (go_simp; (try with_reducible rfl); (try (rw [if_pos (by omega)]; (try with_reducible rfl))))); (try simp only [Act.put, List.setIfInBounds_toArray, List.set_cons_zero, List.set_cons_succ]))
  (refine o_pure (v := ?_) (by rfl) (fun w' => ?_) ?_; rotate_left; (focus (go_simp; (try with_reducible rfl); (try (rw [if_pos (by omega)]; (try with_reducible rfl))))); (try simp only [Act.put, List.setIfInBounds_toArray, List.set_cons_zero, List.set_cons_succ]))
  (refine o_pure (v := ?_) (by rfl) (fun w' => ?_) ?_; rotate_left; (focus (go_simp; (try with_reducible rfl); (try (rw [if_pos (by omega)]; (try with_reducible rfl))))); (try simp only [Act.put, List.setIfInBounds_toArray, List.set_cons_zero, List.set_cons_succ]))
  (refine o_load _ (by rfl) rfl rfl (by assumption) (by kernel_rfl) ?_; simp only [Act.put, List.setIfInBounds_toArray, List.set_cons_zero, List.set_cons_succ])
  (refine o_pure (v := ?_) (by rfl) (fun w' => ?_) ?_; rotate_left; (focus (go_simp; (try with_reducible rfl); (try (rw [if_pos (by omega)]; (try with_reducible rfl))))); (try simp only [Act.put, List.setIfInBounds_toArray, List.set_cons_zero, List.set_cons_succ]))
  (refine o_pure (v := ?_) (by rfl) (fun w' => ?_) ?_; rotate_left; (focus (go_simp; (try with_reducible rfl); (try (rw [if_pos (by omega)]; (try with_reducible rfl))))); (try simp only [Act.put, List.setIfInBounds_toArray, List.set_cons_zero, List.set_cons_succ]))
  (refine o_pure (v := ?_) (by rfl) (fun w' => ?_) ?_; rotate_left; (focus (go_simp; (try with_reducible rfl); (try (rw [if_pos (by omega)]; (try with_reducible rfl))))); (try simp only [Act.put, List.setIfInBounds_toArray, List.set_cons_zero, List.set_cons_succ]))
  (refine o_load _ (by rfl) rfl rfl (by assumption) (by kernel_rfl) ?_; simp only [Act.put, List.setIfInBounds_toArray, List.set_cons_zero, List.set_cons_succ])
  (refine o_pure (v := ?_) (by rfl) (fun w' => ?_) ?_; rotate_left; (focus (go_simp; (try with_reducible rfl); (try (rw [if_pos (by omega)]; (try with_reducible rfl))))); (try simp only [Act.put, List.setIfInBounds_toArray, List.set_cons_zero, List.set_cons_succ]))
  (refine o_pure (v := ?_) (by rfl) (fun w' => ?_) ?_; rotate_left; (focus (go_simp; (try with_reducible rfl); (try (rw [if_pos (by omega)]; (try with_reducible rfl))))); (try simp only [Act.put, List.setIfInBounds_toArray, List.set_cons_zero, List.set_cons_succ]))
  (refine o_pure (v := ?_) (by rfl) (fun w' => ?_) ?_; rotate_left; (focus (go_simp; (try with_reducible rfl); (try (rw [if_pos (by omega)]; (try with_reducible rfl))))); (try simp only [Act.put, List.setIfInBounds_toArray, List.set_cons_zero, List.set_cons_succ]))
  (refine o_load _ (by rfl) rfl rfl (by assumption) (by kernel_rfl) ?_; simp only [Act.put, List.setIfInBounds_toArray, List.set_cons_zero, List.set_cons_succ])
  (refine o_pure (v := ?_) (by rfl) (fun w' => ?_) ?_; rotate_left; (focus (go_simp; (try with_reducible rfl); (try (rw [if_pos (by omega)]; (try with_reducible rfl))))); (try simp only [Act.put, List.setIfInBounds_toArray, List.set_cons_zero, List.set_cons_succ]))
  (refine o_pure (v := ?_) (by rfl) (fun w' => ?_) ?_; rotate_left; (focus (go_simp; (try with_reducible rfl); (try (rw [if_pos (by omega)]; (try with_reducible rfl))))); (try simp only [Act.put, List.setIfInBounds_toArray, List.set_cons_zero, List.set_cons_succ]))
  (refine o_pure (v := ?_) (by rfl) (fun w' => ?_) ?_; rotate_left; (focus (go_simp; (try with_reducible rfl); (try (rw [if_pos (by omega)]; (try with_reducible rfl))))); (try simp only [Act.put, List.setIfInBounds_toArray, List.set_cons_zero, List.set_cons_succ]))
  refine o_sole (fun K hK => ?_)
  go_wp2_with fail
  refine (soption_any W A k c ((bdL W l).take k) wd HRD.out HUS.out hu.out).mono ?_
  rintro e w5 ⟨hpost, hb5⟩
  have HB5 := Lib.hid hb5
  have KR5 := Lib.hid (KRD.out.below hb5 KRD.out.lt)
  have BF5 := Lib.hid (BD.out.trans (hb5.mono BD.out.size))
  have HBD := Lib.hid BD.out.size
  clear hb5 dd0 dd2 hs3 hs4
  rcases hpost with ⟨v5, rfl, hne, hri, hN5⟩ | ⟨rfl, hno⟩
  · obtain ⟨A5, n5, c5, rfl, _, _, _⟩ := hN5.out
    have HN5 := Lib.hid (own_mono hN5 HBD.out)
    clear hN5
    go_wp2_with fail
    refine hK _ _ (fun _ => Ext.of HB5.out) ?_; clear hK K
    (refine o_pure (v := ?_) (by rfl) (fun w' => ?_) ?_; rotate_left; (focus (go_simp; (try with_reducible rfl); (try (rw [if_pos (by omega)]; (try with_reducible rfl))))); (try simp only [Act.put, List.setIfInBounds_toArray, List.set_cons_zero, List.set_cons_succ]))
    (refine o_pure (v := ?_) (by rfl) (fun w' => ?_) ?_; rotate_left; (focus (go_simp; (try with_reducible rfl); (try (rw [if_pos (by omega)]; (try with_reducible rfl))))); (try simp only [Act.put, List.setIfInBounds_toArray, List.set_cons_zero, List.set_cons_succ]))
    obtain ⟨q0, q1⟩ := ptc2 KR5.out
    have fq0 := KR5.out.frozen 0
    have fq1 := KR5.out.frozen 1
    refine o_sole (fun K hK => ?_)
    go_wp2_with fail
    refine hK _ _ (fun h => by cases h) ?_; clear hK K
    (refine o_pure (v := ?_) (by rfl) (fun w' => ?_) ?_; rotate_left; (focus (go_simp; (try with_reducible rfl); (try (rw [if_pos (by omega)]; (try with_reducible rfl))))); (try simp only [Act.put, List.setIfInBounds_toArray, List.set_cons_zero, List.set_cons_succ]))
    refine o_nil (hQ.out _ _ ?_); clear hQ QQ
    go_wp2
    have hkz := Lib.hid ((KR5.out.set 0 (.int .u8 9)).set 1 (.slice A5 n5 c5))
    have hbz : Below w.heap.size w ((w5.setCell ⟨w.heap.size, 0, none⟩ (.int .u8 9)).setCell ⟨w.heap.size, 1, none⟩ (.slice A5 n5 c5)) := (BF5.out.setCell (p := ⟨w.heap.size, 0, none⟩) (Nat.le_refl _) _).setCell (p := ⟨w.heap.size, 1, none⟩) (Nat.le_refl _) _
    obtain ⟨z0, z1⟩ := ptc2 hkz.out
    exact bodyPost_ret (v := .tuple #[.agg #[.int .u8 9, .slice A5 n5 c5], .bool true]) (by simp [results, Try.results22, go_sem, z0, z1]) rfl ⟨.inl ⟨.slice A5 n5 c5, rfl, hne, hri, own_set (i := 1) (u := .slice A5 n5 c5) (own_set (i := 0) (u := .int .u8 9) (HN5.out) KR5.out (by decide)) (KR5.out.set 0 _) (by decide)⟩, hbz⟩
  
  · go_wp2_with fail
    refine hK _ _ (fun _ => Ext.of HB5.out) ?_; clear hK K
    (refine o_pure (v := ?_) (by rfl) (fun w' => ?_) ?_; rotate_left; (focus (go_simp; (try with_reducible rfl); (try (rw [if_pos (by omega)]; (try with_reducible rfl))))); (try simp only [Act.put, List.setIfInBounds_toArray, List.set_cons_zero, List.set_cons_succ]))
    (refine o_pure (v := ?_) (by rfl) (fun w' => ?_) ?_; rotate_left; (focus (go_simp; (try with_reducible rfl); (try (rw [if_pos (by omega)]; (try with_reducible rfl))))); (try simp only [Act.put, List.setIfInBounds_toArray, List.set_cons_zero, List.set_cons_succ]))
    obtain ⟨q0, q1⟩ := ptc2 KR5.out
    have fq0 := KR5.out.frozen 0
    have fq1 := KR5.out.frozen 1
    refine o_sole (fun K hK => ?_)
    go_wp2_with fail
    refine hK _ _ (fun h => by cases h) ?_; clear hK K
    (refine o_pure (v := ?_) (by rfl) (fun w' => ?_) ?_; rotate_left; (focus (go_simp; (try with_reducible rfl); (try (rw [if_pos (by omega)]; (try with_reducible rfl))))); (try simp only [Act.put, List.setIfInBounds_toArray, List.set_cons_zero, List.set_cons_succ]))
    refine o_nil (hQ.out _ _ ?_); clear hQ QQ
    go_wp2
    have hkz := Lib.hid ((KR5.out.set 0 (.int .u8 0)).set 1 (.slice none 0 0))
    have hbz : Below w.heap.size w ((w5.setCell ⟨w.heap.size, 0, none⟩ (.int .u8 0)).setCell ⟨w.heap.size, 1, none⟩ (.slice none 0 0)) := (BF5.out.setCell (p := ⟨w.heap.size, 0, none⟩) (Nat.le_refl _) _).setCell (p := ⟨w.heap.size, 1, none⟩) (Nat.le_refl _) _
    obtain ⟨z0, z1⟩ := ptc2 hkz.out
    exact bodyPost_ret (v := .tuple #[.agg #[.int .u8 0, .slice none 0 0], .bool false]) (by simp [results, Try.results22, go_sem, z0, z1]) rfl ⟨.inr ⟨rfl, hno⟩, hbz⟩
  
theorem eqlB7 (w : World) : (binOp .eql 60 (.agg #[.int .u32 7, .int .u32 9]) (.agg #[.int .u32 7, .int .u32 9])).run Try.prog w = .ok (.bool true) w := by
  have h : (Op.equalIn 10000 60 (.agg #[.int .u32 7, .int .u32 9]) (.agg #[.int .u32 7, .int .u32 9])).run Try.prog w = .ok true w := by
    rw [show (10000 : Nat) = 9999 + 1 from rfl, run_equalIn_agg w 9999 60 _ _ (by kernel_rfl) (by kernel_rfl)]
    simp [go_sem]
  rw [run_eql_struct, h]
  rfl
set_option maxRecDepth 20000 in
set_option maxHeartbeats 4000000 in
theorem alive31_any (w : World) : Calls Try.prog 15 #[] w fun e w' => e = .returned (.bool true) ∧ Below w.heap.size w w' := by
  go_enter Try.func15, Try.ntmps15
  go_wp2_with fail
  refine (bnew_any 5 4 w (by unfold U32; omega)).mono ?_
  rintro e w1 ⟨rfl, hI, hb1⟩
  have I1 := Lib.hid hI
  have B1 := Lib.hid hb1
  clear hI hb1
  go_wp2_with fail
  refine (bcame_any w.heap.size w.heap.size 5 (mostN 4) _ [] 7 2 w1 I1.out (by unfold U32; omega) (by omega) (by omega)).mono ?_
  rintro e w2 ⟨he, ⟨v2, hI, hk⟩, hb⟩
  rw [show cameB 5 [] (mostN 4) 7 2 = (0, [(2, 4)], true) from by decide] at he hI
  rw [show pl 5 (0, [((2 : Nat), (4 : Nat))], true).1 = 5 from by decide] at hI
  dsimp only at he hI
  subst he
  have I2 := Lib.hid hI
  have B2 := Lib.hid (B1.out.trans hb)
  clear hI hk hb I1 B1
  go_wp2_with fail
  refine (bcame_any w.heap.size w.heap.size 5 (mostN 4) _ [(2, 4)] 5 1 w2 I2.out (by unfold U32; omega) (by omega) (by omega)).mono ?_
  rintro e w3 ⟨he, ⟨v3, hI, hk⟩, hb⟩
  rw [show cameB 5 [(2, 4)] (mostN 4) 5 1 = (1, [(1, 3)], true) from by decide] at he hI
  rw [show pl 5 (1, [((1 : Nat), (3 : Nat))], true).1 = 6 from by decide] at hI
  dsimp only at he hI
  subst he
  have I3 := Lib.hid hI
  have B3 := Lib.hid (B2.out.trans hb)
  clear hI hk hb I2 B2
  go_wp2_with fail
  refine (bblocks_any w.heap.size w.heap.size 6 (mostN 4) _ [(1, 3)] w3 I3.out).mono ?_
  rintro e w4 ⟨⟨v4, rfl, ho⟩, hb⟩
  rw [show bks (bdL 6 [(1, 3)]) = [.int .u32 7, .int .u32 9] from rfl] at ho
  have I4 := Lib.hid (I3.out.into hb)
  have HB3 := Lib.hid B3.out.size
  have B4 := Lib.hid (B3.out.trans (hb.mono B3.out.size))
  have HOW := Lib.hid ho
  have HOL := Lib.hid (fun k hk => (I3.out.own.lt k hk).2)
  have HGL := Lib.hid I3.out.lt
  obtain ⟨A4, c4, rfl, _, _, _⟩ := own_form ho
  clear ho hb I3 B3
  go_wp2_with fail
  refine (bwait_any w.heap.size w.heap.size 6 (mostN 4) _ [(1, 3)] w4 I4.out).mono ?_
  rintro e w5 ⟨rfl, rfl⟩
  go_wp2_with fail
  refine (bcame_any w.heap.size w.heap.size 6 (mostN 4) _ [(1, 3)] 6 1 w5 I4.out (by unfold U32; omega) (by omega) (by omega)).mono ?_
  rintro e w6 ⟨he, ⟨v6, hI, hk⟩, hb⟩
  rw [show cameB 6 [(1, 3)] (mostN 4) 6 1 = (3, [], true) from by decide] at he hI
  rw [show pl 6 (3, ([] : List Sp), true).1 = 9 from by decide] at hI
  dsimp only at he hI
  subst he
  have I6 := Lib.hid hI
  have B6 := Lib.hid (B4.out.trans hb)
  have HO6 := own_kept HOW.out fun k hk' => by
    have h1 := HOW.out.lt k hk'
    refine hk.1 k h1.2 (fun e => ?_) (fun e => ?_)
    · have := HGL.out; omega
    · have := HOL.out k e; omega
  obtain ⟨A7, c7, e7, _, _, hr7⟩ := own_form HO6
  injection e7 with i1 i2 i3
  subst i1 i3
  obtain ⟨ab, ao, rfl, hab, hcell⟩ := hr7.2 (by decide)
  have q0 : w6.cell? ⟨ab, ao, none⟩ = some (.int .u32 7) := hcell 0 (by decide)
  have q1 : w6.cell? ⟨ab, ao + 1, none⟩ = some (.int .u32 9) := hcell 1 (by decide)
  have he7 := eqlB7
  clear hI hk hb I4 B4 HO6 hr7 hcell HOW HOL HGL HB3
  go_wp2_with fail
  refine (bwait_any w.heap.size w.heap.size 9 (mostN 4) _ [] w6 I6.out).mono ?_
  rintro e w7 ⟨rfl, rfl⟩
  go_wp2_with fail
  go_ret
  exact ⟨rfl, B6.out⟩
end Go.Proofs.Ytohehnlbknaflaa
