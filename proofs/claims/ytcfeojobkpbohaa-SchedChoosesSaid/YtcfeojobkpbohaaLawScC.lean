/- SchedChooses: the walk. -/
import Derived.Test.YtcfeojobkpbohaaScM
namespace Go.Proofs.Ytcfeojobkpbohaa
open Go.RowKit Go.Sort
set_option linter.unusedVariables false
set_option linter.unusedSimpArgs false
set_option maxRecDepth 20000 in
set_option maxHeartbeats 4000000 in
theorem schedChooses_walk (pol last n : Int) (A : Option Addr) (m c : Nat) (l : List Pth) (w : World) (h : Rd w w.heap.size 7 A m (pths l)) :
    Calls Try.prog 4 #[.agg #[.int .i64 pol, .int .i64 last, .int .i64 n], .slice A m c] w fun e w' => e = .returned (.bool true) ∧ Below w.heap.size w w' := by
  have K1 := Lib.hid (Blk.new w 24 #[.int .i64 pol, .int .i64 last, .int .i64 n])
  have B1 := Lib.hid ((Below.refl w.heap.size w).alloc (Nat.le_refl _) (.cells #[.int .i64 pol, .int .i64 last, .int .i64 n] 24))
  by_cases hm : m ≤ 60
  · have hm' : ¬ (60 : Int) < (m : Int) := by omega
    have HR := Lib.hid (h.into B1.out)
    have HM := Sh.mk (show m ≤ 100 by omega)
    clear h hm
    go_enter Try.func4, Try.ntmps4
    go_upto_region 1 with fail
    generalize w.alloc (.cells #[.int .i64 pol, .int .i64 last, .int .i64 n] 24) = w2 at HR B1 K1 ⊢
    obtain ⟨X, hX⟩ : ∃ X, X = w.heap.size := ⟨_, rfl⟩
    rw [← hX] at K1 ⊢
    have HXX := Sh.mk hX
    clear hX
    go_wp2_with fail
    refine (apart_any A m c l w2 HR.out HM.out).mono ?_
    rintro e w9 ⟨b, rfl, hnd, hb⟩
    have HR9 := Lib.hid (HR.out.into hb)
    have B9 := Lib.hid (B1.out.trans (hb.mono B1.out.size))
    have K9 := Lib.hid (K1.out.below hb K1.out.lt)
    have HND := Lib.hid hnd
    clear hnd hb HR B1 K1
    cases b
    · go_wp2_with fail
      refine bodyPost_ret (v := .bool true) (by kernel_rfl) rfl ?_
      exact ⟨rfl, B9.out⟩
    · go_upto_region 3 with fail
      have HR : Hid (Rd w9 w9.heap.size 7 A m (pths l)) := HR9
      have B1 : Hid (Below w.heap.size w w9) := B9
      have K1 : Hid (Blk w9 X 24 #[.int .i64 pol, .int .i64 last, .int .i64 n]) := K9
      clear HR9 B9 K9
      refine wp_ord [(0, .pure), (1, .read), (2, .pure), (3, .read), (4, .pure), (5, .read), (6, .pure), (8, .pure), (9, .read), (10, .pure), (11, .read), (12, .pure), (13, .read), (14, .pure), (7, .sole), (15, .sole), (16, .sole), (17, .sole), (18, .pure), (19, .sole), (20, .pure), (21, .pure)] [] (by kernel_rfl) (by kernel_rfl) (fun QQ hQ wd hwd => ?_); simp only [List.map_cons, List.map_nil, List.getD_cons_zero, List.getD_cons_succ]
      have hD : Below w9.heap.size w9 wd := by rw [hwd.out]; exact (Below.refl _ _).drew
      have Kd := Lib.hid (K1.out.below hD K1.out.lt)
      have Rd0 := Lib.hid (HR.out.into hD)
      have Bd := Lib.hid (B1.out.trans (hD.mono B1.out.size))
      have c0 : wd.cell? ⟨X, 0, none⟩ = some (.int .i64 pol) := by rw [Kd.out.cell]; rfl
      have c1 : wd.cell? ⟨X, 1, none⟩ = some (.int .i64 last) := by rw [Kd.out.cell]; rfl
      have c2 : wd.cell? ⟨X, 2, none⟩ = some (.int .i64 n) := by rw [Kd.out.cell]; rfl
      clear hD hwd K1 HR B1 Kd
      (refine o_pure (v := ?_) (by rfl) (fun w' => ?_) ?_; rotate_left; (focus (go_simp; (try with_reducible rfl); (try (rw [if_pos (by omega)]; (try with_reducible rfl))))); (try simp only [Act.put, List.setIfInBounds_toArray, List.set_cons_zero, List.set_cons_succ]))
      (refine o_load _ (by rfl) rfl rfl (by assumption) (by kernel_rfl) ?_; simp only [Act.put, List.setIfInBounds_toArray, List.set_cons_zero, List.set_cons_succ])
      (refine o_pure (v := ?_) (by rfl) (fun w' => ?_) ?_; rotate_left; (focus (go_simp; (try with_reducible rfl); (try (rw [if_pos (by omega)]; (try with_reducible rfl))))); (try simp only [Act.put, List.setIfInBounds_toArray, List.set_cons_zero, List.set_cons_succ]))
      (refine o_load _ (by rfl) rfl rfl (by assumption) (by kernel_rfl) ?_; simp only [Act.put, List.setIfInBounds_toArray, List.set_cons_zero, List.set_cons_succ])
      (refine o_pure (v := ?_) (by rfl) (fun w' => ?_) ?_; rotate_left; (focus (go_simp; (try with_reducible rfl); (try (rw [if_pos (by omega)]; (try with_reducible rfl))))); (try simp only [Act.put, List.setIfInBounds_toArray, List.set_cons_zero, List.set_cons_succ]))
      (refine o_load _ (by rfl) rfl rfl (by assumption) (by kernel_rfl) ?_; simp only [Act.put, List.setIfInBounds_toArray, List.set_cons_zero, List.set_cons_succ])
      (refine o_pure (v := ?_) (by rfl) (fun w' => ?_) ?_; rotate_left; (focus (go_simp; (try with_reducible rfl); (try (rw [if_pos (by omega)]; (try with_reducible rfl))))); (try simp only [Act.put, List.setIfInBounds_toArray, List.set_cons_zero, List.set_cons_succ]))
      (refine o_pure (v := ?_) (by rfl) (fun w' => ?_) ?_; rotate_left; (focus (go_simp; (try with_reducible rfl); (try (rw [if_pos (by omega)]; (try with_reducible rfl))))); (try simp only [Act.put, List.setIfInBounds_toArray, List.set_cons_zero, List.set_cons_succ]))
      (refine o_load _ (by rfl) rfl rfl (by assumption) (by kernel_rfl) ?_; simp only [Act.put, List.setIfInBounds_toArray, List.set_cons_zero, List.set_cons_succ])
      (refine o_pure (v := ?_) (by rfl) (fun w' => ?_) ?_; rotate_left; (focus (go_simp; (try with_reducible rfl); (try (rw [if_pos (by omega)]; (try with_reducible rfl))))); (try simp only [Act.put, List.setIfInBounds_toArray, List.set_cons_zero, List.set_cons_succ]))
      (refine o_load _ (by rfl) rfl rfl (by assumption) (by kernel_rfl) ?_; simp only [Act.put, List.setIfInBounds_toArray, List.set_cons_zero, List.set_cons_succ])
      (refine o_pure (v := ?_) (by rfl) (fun w' => ?_) ?_; rotate_left; (focus (go_simp; (try with_reducible rfl); (try (rw [if_pos (by omega)]; (try with_reducible rfl))))); (try simp only [Act.put, List.setIfInBounds_toArray, List.set_cons_zero, List.set_cons_succ]))
      (refine o_load _ (by rfl) rfl rfl (by assumption) (by kernel_rfl) ?_; simp only [Act.put, List.setIfInBounds_toArray, List.set_cons_zero, List.set_cons_succ])
      (refine o_pure (v := ?_) (by rfl) (fun w' => ?_) ?_; rotate_left; (focus (go_simp; (try with_reducible rfl); (try (rw [if_pos (by omega)]; (try with_reducible rfl))))); (try simp only [Act.put, List.setIfInBounds_toArray, List.set_cons_zero, List.set_cons_succ]))
      clear c0 c1 c2
      refine o_sole (fun K hK => ?_)
      go_wp2_with fail
      refine (choose_any pol last n A m c l wd Rd0.out HM.out).mono ?_
      rintro e w3 ⟨v3, s3, rfl, hz, hb, hp, hs⟩
      obtain ⟨A3, n3, cc3, rfl, hnc, hn3, hr3⟩ := hz.out
      have P3 := Lib.hid hp
      have Q3 := Lib.hid hs
      have R3 := hr3
      have N3 := hn3
      have B3 := Lib.hid (Bd.out.trans (hb.mono Bd.out.size))
      have L3 := Lib.hid (Rd0.out.into hb)
      go_wp2_with fail
      refine hK _ _ (fun _ => Ext.of hb) ?_; clear hK K
      clear hz hnc hn3 hr3 hp hs hb Rd0 Bd
      refine o_sole (fun K hK => ?_)
      go_wp2_with fail
      refine (plain_any A m c l w3 L3.out HM.out).mono ?_
      rintro e w4 ⟨v4, rfl, ho, hb⟩
      obtain ⟨A4, cc4, rfl, h41, h42, h43⟩ := own_form ho
      have HL4 := Lib.hid L3.out.pthLen
      have R4 := Lib.hid (show Rd w4 w4.heap.size 7 A4 l.length (pths l) from h43)
      have R34 := Lib.hid (R3.out.into hb)
      have B4 := Lib.hid (B3.out.trans (hb.mono B3.out.size))
      rw [HL4.out] at R4 ⊢
      go_wp2_with fail
      refine hK _ _ (fun _ => Ext.of hb) ?_; clear hK K
      clear ho h41 h42 h43 hb B3 R3 L3
      refine o_sole (fun K hK => ?_)
      go_wp2_with fail
      refine (rChoose_any pol last n A4 m cc4 l w4 R4.out HM.out).mono ?_
      rintro e w5 ⟨v5, s5, rfl, hz, hb, hp, hs⟩
      obtain ⟨A5, n5, cc5, rfl, hnc, hn5, hr5⟩ := hz.out
      have HEQ := Sh.mk (show (chL pol s3).map Pth.id = (chR pol s5).map Pth.id from chL_ids (P3.out.trans hp.symm) Q3.out hs)
      have R5 := hr5
      have R35 := Lib.hid (R34.out.into hb)
      have B5 := Lib.hid (B4.out.trans (hb.mono B4.out.size))
      have HN3 := Sh.mk (show n3 ≤ 65536 by have h1 := N3.out; have h2 := P3.out.length_eq; have h3 := List.length_filter_le (fitP n) l; have h4 := HL4.out; have h5 := HM.out; rw [List.length_map] at h1; have h6 := @chL_len pol s3; omega)
      go_wp2_with fail
      refine hK _ _ (fun _ => Ext.of hb) ?_; clear hK K
      clear hz hnc hn5 hr5 hp hs hb B4 R34 R4
      refine o_sole (fun K hK => ?_)
      have HRW := Lib.hid (row_any A3 A5 n3 n5 cc3 cc5 w5.heap.size w5.heap.size _ _ w5 R35.out R5.out (Nat.le_refl _) (Nat.le_refl _) HN3.out)
      rw [decide_eq_true HEQ.out] at HRW
      go_wp2_with fail
      refine HRW.out.mono ?_
      rintro e w6 ⟨rfl, hb⟩
      have B6 := Lib.hid (B5.out.trans (hb.mono B5.out.size))
      go_wp2_with fail
      refine hK _ _ (fun _ => Ext.of hb) ?_; clear hK K
      clear hb B5 R35 R5 HRW
      (refine o_pure (v := ?_) (by rfl) (fun w' => ?_) ?_; rotate_left; (focus (go_simp; (try with_reducible rfl); (try (rw [if_pos (by omega)]; (try with_reducible rfl))))); (try simp only [Act.put, List.setIfInBounds_toArray, List.set_cons_zero, List.set_cons_succ]))
      refine o_sole (fun K hK => ?_)
      go_wp2_with fail
      refine (alive_any w6).mono ?_
      rintro e w7 ⟨rfl, hb⟩
      have B7 := Lib.hid (B6.out.trans (hb.mono B6.out.size))
      go_wp2_with fail
      refine hK _ _ (fun _ => Ext.of hb) ?_; clear hK K
      clear hb B6
      (refine o_pure (v := ?_) (by rfl) (fun w' => ?_) ?_; rotate_left; (focus (go_simp; (try with_reducible rfl); (try (rw [if_pos (by omega)]; (try with_reducible rfl))))); (try simp only [Act.put, List.setIfInBounds_toArray, List.set_cons_zero, List.set_cons_succ]))
      (refine o_pure (v := ?_) (by rfl) (fun w' => ?_) ?_; rotate_left; (focus (go_simp; (try with_reducible rfl); (try (rw [if_pos (by omega)]; (try with_reducible rfl))))); (try simp only [Act.put, List.setIfInBounds_toArray, List.set_cons_zero, List.set_cons_succ]))
      refine o_nil (hQ.out _ _ ?_); clear hQ QQ
      go_wp2_with fail
      refine bodyPost_ret (v := .bool true) (by kernel_rfl) rfl ?_
      exact ⟨rfl, B7.out⟩
  · have hm' : (60 : Int) < (m : Int) := by omega
    clear h
    go_enter Try.func4, Try.ntmps4
    go_wp2_with fail
    refine bodyPost_ret (v := .bool true) (by kernel_rfl) rfl ?_
    exact ⟨rfl, B1.out⟩
end Go.Proofs.Ytcfeojobkpbohaa
