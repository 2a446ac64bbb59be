/- Layer 19 by the document: which path is ahead; paths put into their order one by one. -/
import Derived.Test.YtcfeojobkpbohaaSc8
namespace Go.Proofs.Ytcfeojobkpbohaa
open Go.RowKit Go.Sort
set_option linter.unusedVariables false
set_option linter.unusedSimpArgs false
theorem rkP_ge (x : Pth) : 0 ≤ rkP x ∧ rkP x ≤ 3 := by unfold rkP; split <;> split <;> omega
set_option maxRecDepth 20000 in
set_option maxHeartbeats 4000000 in
theorem ahead_any (pol last : Int) (x y : Pth) (w : World) : Calls Try.prog 27 #[.agg #[.int .i64 x.id, .bool x.up, .bool x.bk, .bool x.bd, .int .i64 x.room, .int .i64 x.und, .int .i64 x.mean], .agg #[.int .i64 y.id, .bool y.up, .bool y.bk, .bool y.bd, .int .i64 y.room, .int .i64 y.und, .int .i64 y.mean], .int .i64 pol, .int .i64 last] w fun e w' => e = .returned (.bool (ltP pol last x y)) ∧ Below w.heap.size w w' := by
  unfold ltP
  have K1 := Lib.hid ((Blk.new w 41 #[.int .i64 x.id, .bool x.up, .bool x.bk, .bool x.bd, .int .i64 x.room, .int .i64 x.und, .int .i64 x.mean]).alloc (.cells #[.int .i64 y.id, .bool y.up, .bool y.bk, .bool y.bd, .int .i64 y.room, .int .i64 y.und, .int .i64 y.mean] 41))
  have K2 := Lib.hid (Blk.new (w.alloc (.cells #[.int .i64 x.id, .bool x.up, .bool x.bk, .bool x.bd, .int .i64 x.room, .int .i64 x.und, .int .i64 x.mean] 41)) 41 #[.int .i64 y.id, .bool y.up, .bool y.bk, .bool y.bd, .int .i64 y.room, .int .i64 y.und, .int .i64 y.mean])
  have B1 := Lib.hid (((Below.refl w.heap.size w).alloc (Nat.le_refl _) (.cells #[.int .i64 x.id, .bool x.up, .bool x.bk, .bool x.bd, .int .i64 x.room, .int .i64 x.und, .int .i64 x.mean] 41)).alloc (by simp) (.cells #[.int .i64 y.id, .bool y.up, .bool y.bk, .bool y.bd, .int .i64 y.room, .int .i64 y.und, .int .i64 y.mean] 41))
  have hsz : (w.alloc (.cells #[.int .i64 x.id, .bool x.up, .bool x.bk, .bool x.bd, .int .i64 x.room, .int .i64 x.und, .int .i64 x.mean] 41)).heap.size = w.heap.size + 1 := by simp
  have R1 := Lib.hid (fun w' => rrank_any x w')
  have R2 := Lib.hid (fun w' => rrank_any y w')
  generalize rkP x = r1 at *
  generalize rkP y = r2 at *
  by_cases hr : r1 = r2
  · have hr' : (r1 == r2) = true := by simpa using hr
    have hrn : (r1 != r2) = false := by simp [hr]
    by_cases hp : pol = 2
    · have hp' : (pol == 2) = true := by simpa using hp
      have hpn : (pol != 2) = false := by simp [hp]
      have e1 : k2P pol last x = tnP last x := by unfold k2P; rw [if_pos hp]
      have e2 : k2P pol last y = tnP last y := by unfold k2P; rw [if_pos hp]
      rw [e1, e2]
      unfold tnP
      clear e1 e2
      have HP := Sh.mk hp
      have HRR := Sh.mk hr
      clear hp
      subst hr
      by_cases hx : last < x.id
      · by_cases hy : last < y.id
        · rw [if_pos hx, if_pos hy]
          rw [show decide (r1 < r1 ∨ r1 = r1 ∧ ((0 : Int) < 0 ∨ (0 : Int) = 0 ∧ x.id < y.id)) = decide (x.id < y.id) from decide_eq_decide.2 (by omega)]
          go_enter Try.func27, Try.ntmps27
          go_upto_region 1 with fail
          rw [hsz] at K2
          generalize ((w.alloc (.cells #[.int .i64 x.id, .bool x.up, .bool x.bk, .bool x.bd, .int .i64 x.room, .int .i64 x.und, .int .i64 x.mean] 41)).alloc (.cells #[.int .i64 y.id, .bool y.up, .bool y.bk, .bool y.bd, .int .i64 y.room, .int .i64 y.und, .int .i64 y.mean] 41)) = w2 at K1 K2 B1 ⊢
          obtain ⟨X, hX⟩ : ∃ X, X = w.heap.size := ⟨_, rfl⟩
          rw [← hX] at K1 K2 ⊢
          have HXX := Sh.mk hX
          clear hX hsz
          refine wp_ext (by kernel_rfl) (by kernel_rfl) (fun QQ hQ => ?_)
          refine x_loads _ [.int .i64 x.id, .bool x.up, .bool x.bk, .bool x.bd, .int .i64 x.room, .int .i64 x.und, .int .i64 x.mean] (by rfl) rfl rfl (K1.out.loads 0 _ (by rfl)) (Nat.succ_pos _) (by kernel_rfl) (by kernel_rfl) ?_; simp only [Act.put, List.setIfInBounds_toArray, List.set_cons_zero, List.set_cons_succ]
          refine x_call (by rfl) (fun w' hx => by go_simp) (fun w' hx => R1.out w') ?_; simp only [Act.put, List.setIfInBounds_toArray, List.set_cons_zero, List.set_cons_succ]
          refine x_loads _ [.int .i64 y.id, .bool y.up, .bool y.bk, .bool y.bd, .int .i64 y.room, .int .i64 y.und, .int .i64 y.mean] (by rfl) rfl rfl (K2.out.loads 0 _ (by rfl)) (Nat.succ_pos _) (by kernel_rfl) (by kernel_rfl) ?_; simp only [Act.put, List.setIfInBounds_toArray, List.set_cons_zero, List.set_cons_succ]
          refine x_call (by rfl) (fun w' hx => by go_simp) (fun w' hx => R2.out w') ?_; simp only [Act.put, List.setIfInBounds_toArray, List.set_cons_zero, List.set_cons_succ]
          (first | (refine x_load _ (by rfl) rfl rfl (by assumption) (by kernel_rfl) ?_; simp only [Act.put, List.setIfInBounds_toArray, List.set_cons_zero, List.set_cons_succ]) | (refine x_val (v := ?_) (by rfl) (fun w' hx => ?_) ?_; rotate_left; (focus (go_simp; (try with_reducible rfl))); (try simp only [Act.put, List.setIfInBounds_toArray, List.set_cons_zero, List.set_cons_succ])))
          refine x_nil (hQ.out _ ?_); clear hQ QQ
          intro w3 hb
          replace K1 := Lib.hid (K1.out.below hb K1.out.lt)
          replace K2 := Lib.hid (K2.out.below hb K2.out.lt)
          replace B1 := Lib.hid (B1.out.trans (hb.mono B1.out.size))
          clear hb
          have c0 : w3.cell? ⟨X, 0, none⟩ = some (.int .i64 x.id) := by rw [K1.out.cell]; rfl
          have c6 : w3.cell? ⟨X, 6, none⟩ = some (.int .i64 x.mean) := by rw [K1.out.cell]; rfl
          have d0 : w3.cell? ⟨X + 1, 0, none⟩ = some (.int .i64 y.id) := by rw [K2.out.cell]; rfl
          have d6 : w3.cell? ⟨X + 1, 6, none⟩ = some (.int .i64 y.mean) := by rw [K2.out.cell]; rfl
          go_wp2_with fail
          go_ret
          exact ⟨by simp, B1.out⟩
        · rw [if_pos hx, if_neg hy]
          rw [show decide (r1 < r1 ∨ r1 = r1 ∧ ((0 : Int) < 1 ∨ (0 : Int) = 1 ∧ x.id < y.id)) = true from decide_eq_true (by omega)]
          go_enter Try.func27, Try.ntmps27
          go_upto_region 1 with fail
          rw [hsz] at K2
          generalize ((w.alloc (.cells #[.int .i64 x.id, .bool x.up, .bool x.bk, .bool x.bd, .int .i64 x.room, .int .i64 x.und, .int .i64 x.mean] 41)).alloc (.cells #[.int .i64 y.id, .bool y.up, .bool y.bk, .bool y.bd, .int .i64 y.room, .int .i64 y.und, .int .i64 y.mean] 41)) = w2 at K1 K2 B1 ⊢
          obtain ⟨X, hX⟩ : ∃ X, X = w.heap.size := ⟨_, rfl⟩
          rw [← hX] at K1 K2 ⊢
          have HXX := Sh.mk hX
          clear hX hsz
          refine wp_ext (by kernel_rfl) (by kernel_rfl) (fun QQ hQ => ?_)
          refine x_loads _ [.int .i64 x.id, .bool x.up, .bool x.bk, .bool x.bd, .int .i64 x.room, .int .i64 x.und, .int .i64 x.mean] (by rfl) rfl rfl (K1.out.loads 0 _ (by rfl)) (Nat.succ_pos _) (by kernel_rfl) (by kernel_rfl) ?_; simp only [Act.put, List.setIfInBounds_toArray, List.set_cons_zero, List.set_cons_succ]
          refine x_call (by rfl) (fun w' hx => by go_simp) (fun w' hx => R1.out w') ?_; simp only [Act.put, List.setIfInBounds_toArray, List.set_cons_zero, List.set_cons_succ]
          refine x_loads _ [.int .i64 y.id, .bool y.up, .bool y.bk, .bool y.bd, .int .i64 y.room, .int .i64 y.und, .int .i64 y.mean] (by rfl) rfl rfl (K2.out.loads 0 _ (by rfl)) (Nat.succ_pos _) (by kernel_rfl) (by kernel_rfl) ?_; simp only [Act.put, List.setIfInBounds_toArray, List.set_cons_zero, List.set_cons_succ]
          refine x_call (by rfl) (fun w' hx => by go_simp) (fun w' hx => R2.out w') ?_; simp only [Act.put, List.setIfInBounds_toArray, List.set_cons_zero, List.set_cons_succ]
          (first | (refine x_load _ (by rfl) rfl rfl (by assumption) (by kernel_rfl) ?_; simp only [Act.put, List.setIfInBounds_toArray, List.set_cons_zero, List.set_cons_succ]) | (refine x_val (v := ?_) (by rfl) (fun w' hx => ?_) ?_; rotate_left; (focus (go_simp; (try with_reducible rfl))); (try simp only [Act.put, List.setIfInBounds_toArray, List.set_cons_zero, List.set_cons_succ])))
          refine x_nil (hQ.out _ ?_); clear hQ QQ
          intro w3 hb
          replace K1 := Lib.hid (K1.out.below hb K1.out.lt)
          replace K2 := Lib.hid (K2.out.below hb K2.out.lt)
          replace B1 := Lib.hid (B1.out.trans (hb.mono B1.out.size))
          clear hb
          have c0 : w3.cell? ⟨X, 0, none⟩ = some (.int .i64 x.id) := by rw [K1.out.cell]; rfl
          have c6 : w3.cell? ⟨X, 6, none⟩ = some (.int .i64 x.mean) := by rw [K1.out.cell]; rfl
          have d0 : w3.cell? ⟨X + 1, 0, none⟩ = some (.int .i64 y.id) := by rw [K2.out.cell]; rfl
          have d6 : w3.cell? ⟨X + 1, 6, none⟩ = some (.int .i64 y.mean) := by rw [K2.out.cell]; rfl
          go_wp2_with fail
          go_ret
          exact ⟨by simp, B1.out⟩
      · by_cases hy : last < y.id
        · rw [if_neg hx, if_pos hy]
          rw [show decide (r1 < r1 ∨ r1 = r1 ∧ ((1 : Int) < 0 ∨ (1 : Int) = 0 ∧ x.id < y.id)) = false from decide_eq_false (by omega)]
          go_enter Try.func27, Try.ntmps27
          go_upto_region 1 with fail
          rw [hsz] at K2
          generalize ((w.alloc (.cells #[.int .i64 x.id, .bool x.up, .bool x.bk, .bool x.bd, .int .i64 x.room, .int .i64 x.und, .int .i64 x.mean] 41)).alloc (.cells #[.int .i64 y.id, .bool y.up, .bool y.bk, .bool y.bd, .int .i64 y.room, .int .i64 y.und, .int .i64 y.mean] 41)) = w2 at K1 K2 B1 ⊢
          obtain ⟨X, hX⟩ : ∃ X, X = w.heap.size := ⟨_, rfl⟩
          rw [← hX] at K1 K2 ⊢
          have HXX := Sh.mk hX
          clear hX hsz
          refine wp_ext (by kernel_rfl) (by kernel_rfl) (fun QQ hQ => ?_)
          refine x_loads _ [.int .i64 x.id, .bool x.up, .bool x.bk, .bool x.bd, .int .i64 x.room, .int .i64 x.und, .int .i64 x.mean] (by rfl) rfl rfl (K1.out.loads 0 _ (by rfl)) (Nat.succ_pos _) (by kernel_rfl) (by kernel_rfl) ?_; simp only [Act.put, List.setIfInBounds_toArray, List.set_cons_zero, List.set_cons_succ]
          refine x_call (by rfl) (fun w' hx => by go_simp) (fun w' hx => R1.out w') ?_; simp only [Act.put, List.setIfInBounds_toArray, List.set_cons_zero, List.set_cons_succ]
          refine x_loads _ [.int .i64 y.id, .bool y.up, .bool y.bk, .bool y.bd, .int .i64 y.room, .int .i64 y.und, .int .i64 y.mean] (by rfl) rfl rfl (K2.out.loads 0 _ (by rfl)) (Nat.succ_pos _) (by kernel_rfl) (by kernel_rfl) ?_; simp only [Act.put, List.setIfInBounds_toArray, List.set_cons_zero, List.set_cons_succ]
          refine x_call (by rfl) (fun w' hx => by go_simp) (fun w' hx => R2.out w') ?_; simp only [Act.put, List.setIfInBounds_toArray, List.set_cons_zero, List.set_cons_succ]
          (first | (refine x_load _ (by rfl) rfl rfl (by assumption) (by kernel_rfl) ?_; simp only [Act.put, List.setIfInBounds_toArray, List.set_cons_zero, List.set_cons_succ]) | (refine x_val (v := ?_) (by rfl) (fun w' hx => ?_) ?_; rotate_left; (focus (go_simp; (try with_reducible rfl))); (try simp only [Act.put, List.setIfInBounds_toArray, List.set_cons_zero, List.set_cons_succ])))
          refine x_nil (hQ.out _ ?_); clear hQ QQ
          intro w3 hb
          replace K1 := Lib.hid (K1.out.below hb K1.out.lt)
          replace K2 := Lib.hid (K2.out.below hb K2.out.lt)
          replace B1 := Lib.hid (B1.out.trans (hb.mono B1.out.size))
          clear hb
          have c0 : w3.cell? ⟨X, 0, none⟩ = some (.int .i64 x.id) := by rw [K1.out.cell]; rfl
          have c6 : w3.cell? ⟨X, 6, none⟩ = some (.int .i64 x.mean) := by rw [K1.out.cell]; rfl
          have d0 : w3.cell? ⟨X + 1, 0, none⟩ = some (.int .i64 y.id) := by rw [K2.out.cell]; rfl
          have d6 : w3.cell? ⟨X + 1, 6, none⟩ = some (.int .i64 y.mean) := by rw [K2.out.cell]; rfl
          go_wp2_with fail
          go_ret
          exact ⟨by simp, B1.out⟩
        · rw [if_neg hx, if_neg hy]
          rw [show decide (r1 < r1 ∨ r1 = r1 ∧ ((1 : Int) < 1 ∨ (1 : Int) = 1 ∧ x.id < y.id)) = decide (x.id < y.id) from decide_eq_decide.2 (by omega)]
          go_enter Try.func27, Try.ntmps27
          go_upto_region 1 with fail
          rw [hsz] at K2
          generalize ((w.alloc (.cells #[.int .i64 x.id, .bool x.up, .bool x.bk, .bool x.bd, .int .i64 x.room, .int .i64 x.und, .int .i64 x.mean] 41)).alloc (.cells #[.int .i64 y.id, .bool y.up, .bool y.bk, .bool y.bd, .int .i64 y.room, .int .i64 y.und, .int .i64 y.mean] 41)) = w2 at K1 K2 B1 ⊢
          obtain ⟨X, hX⟩ : ∃ X, X = w.heap.size := ⟨_, rfl⟩
          rw [← hX] at K1 K2 ⊢
          have HXX := Sh.mk hX
          clear hX hsz
          refine wp_ext (by kernel_rfl) (by kernel_rfl) (fun QQ hQ => ?_)
          refine x_loads _ [.int .i64 x.id, .bool x.up, .bool x.bk, .bool x.bd, .int .i64 x.room, .int .i64 x.und, .int .i64 x.mean] (by rfl) rfl rfl (K1.out.loads 0 _ (by rfl)) (Nat.succ_pos _) (by kernel_rfl) (by kernel_rfl) ?_; simp only [Act.put, List.setIfInBounds_toArray, List.set_cons_zero, List.set_cons_succ]
          refine x_call (by rfl) (fun w' hx => by go_simp) (fun w' hx => R1.out w') ?_; simp only [Act.put, List.setIfInBounds_toArray, List.set_cons_zero, List.set_cons_succ]
          refine x_loads _ [.int .i64 y.id, .bool y.up, .bool y.bk, .bool y.bd, .int .i64 y.room, .int .i64 y.und, .int .i64 y.mean] (by rfl) rfl rfl (K2.out.loads 0 _ (by rfl)) (Nat.succ_pos _) (by kernel_rfl) (by kernel_rfl) ?_; simp only [Act.put, List.setIfInBounds_toArray, List.set_cons_zero, List.set_cons_succ]
          refine x_call (by rfl) (fun w' hx => by go_simp) (fun w' hx => R2.out w') ?_; simp only [Act.put, List.setIfInBounds_toArray, List.set_cons_zero, List.set_cons_succ]
          (first | (refine x_load _ (by rfl) rfl rfl (by assumption) (by kernel_rfl) ?_; simp only [Act.put, List.setIfInBounds_toArray, List.set_cons_zero, List.set_cons_succ]) | (refine x_val (v := ?_) (by rfl) (fun w' hx => ?_) ?_; rotate_left; (focus (go_simp; (try with_reducible rfl))); (try simp only [Act.put, List.setIfInBounds_toArray, List.set_cons_zero, List.set_cons_succ])))
          refine x_nil (hQ.out _ ?_); clear hQ QQ
          intro w3 hb
          replace K1 := Lib.hid (K1.out.below hb K1.out.lt)
          replace K2 := Lib.hid (K2.out.below hb K2.out.lt)
          replace B1 := Lib.hid (B1.out.trans (hb.mono B1.out.size))
          clear hb
          have c0 : w3.cell? ⟨X, 0, none⟩ = some (.int .i64 x.id) := by rw [K1.out.cell]; rfl
          have c6 : w3.cell? ⟨X, 6, none⟩ = some (.int .i64 x.mean) := by rw [K1.out.cell]; rfl
          have d0 : w3.cell? ⟨X + 1, 0, none⟩ = some (.int .i64 y.id) := by rw [K2.out.cell]; rfl
          have d6 : w3.cell? ⟨X + 1, 6, none⟩ = some (.int .i64 y.mean) := by rw [K2.out.cell]; rfl
          go_wp2_with fail
          go_ret
          exact ⟨by simp, B1.out⟩
    · have hp' : (pol == 2) = false := by simpa using hp
      have hpn : (pol != 2) = true := by simp [hp]
      have e1 : k2P pol last x = x.mean := by unfold k2P; rw [if_neg hp]
      have e2 : k2P pol last y = y.mean := by unfold k2P; rw [if_neg hp]
      rw [e1, e2]
      clear e1 e2
      have HP := Sh.mk hp
      clear hp
      subst hr
      by_cases hm : x.mean = y.mean
      · have hm' : (x.mean != y.mean) = false := by simp [hm]
        have hm2 : (x.mean == y.mean) = true := by simp [hm]
        rw [show decide (r1 < r1 ∨ r1 = r1 ∧ (x.mean < y.mean ∨ x.mean = y.mean ∧ x.id < y.id)) = decide (x.id < y.id) from decide_eq_decide.2 (by omega)]
        have HM := Sh.mk hm
        clear hm
        go_enter Try.func27, Try.ntmps27
        go_upto_region 1 with fail
        rw [hsz] at K2
        generalize ((w.alloc (.cells #[.int .i64 x.id, .bool x.up, .bool x.bk, .bool x.bd, .int .i64 x.room, .int .i64 x.und, .int .i64 x.mean] 41)).alloc (.cells #[.int .i64 y.id, .bool y.up, .bool y.bk, .bool y.bd, .int .i64 y.room, .int .i64 y.und, .int .i64 y.mean] 41)) = w2 at K1 K2 B1 ⊢
        obtain ⟨X, hX⟩ : ∃ X, X = w.heap.size := ⟨_, rfl⟩
        rw [← hX] at K1 K2 ⊢
        have HXX := Sh.mk hX
        clear hX hsz
        refine wp_ext (by kernel_rfl) (by kernel_rfl) (fun QQ hQ => ?_)
        refine x_loads _ [.int .i64 x.id, .bool x.up, .bool x.bk, .bool x.bd, .int .i64 x.room, .int .i64 x.und, .int .i64 x.mean] (by rfl) rfl rfl (K1.out.loads 0 _ (by rfl)) (Nat.succ_pos _) (by kernel_rfl) (by kernel_rfl) ?_; simp only [Act.put, List.setIfInBounds_toArray, List.set_cons_zero, List.set_cons_succ]
        refine x_call (by rfl) (fun w' hx => by go_simp) (fun w' hx => R1.out w') ?_; simp only [Act.put, List.setIfInBounds_toArray, List.set_cons_zero, List.set_cons_succ]
        refine x_loads _ [.int .i64 y.id, .bool y.up, .bool y.bk, .bool y.bd, .int .i64 y.room, .int .i64 y.und, .int .i64 y.mean] (by rfl) rfl rfl (K2.out.loads 0 _ (by rfl)) (Nat.succ_pos _) (by kernel_rfl) (by kernel_rfl) ?_; simp only [Act.put, List.setIfInBounds_toArray, List.set_cons_zero, List.set_cons_succ]
        refine x_call (by rfl) (fun w' hx => by go_simp) (fun w' hx => R2.out w') ?_; simp only [Act.put, List.setIfInBounds_toArray, List.set_cons_zero, List.set_cons_succ]
        (first | (refine x_load _ (by rfl) rfl rfl (by assumption) (by kernel_rfl) ?_; simp only [Act.put, List.setIfInBounds_toArray, List.set_cons_zero, List.set_cons_succ]) | (refine x_val (v := ?_) (by rfl) (fun w' hx => ?_) ?_; rotate_left; (focus (go_simp; (try with_reducible rfl))); (try simp only [Act.put, List.setIfInBounds_toArray, List.set_cons_zero, List.set_cons_succ])))
        refine x_nil (hQ.out _ ?_); clear hQ QQ
        intro w3 hb
        replace K1 := Lib.hid (K1.out.below hb K1.out.lt)
        replace K2 := Lib.hid (K2.out.below hb K2.out.lt)
        replace B1 := Lib.hid (B1.out.trans (hb.mono B1.out.size))
        clear hb
        have c0 : w3.cell? ⟨X, 0, none⟩ = some (.int .i64 x.id) := by rw [K1.out.cell]; rfl
        have c6 : w3.cell? ⟨X, 6, none⟩ = some (.int .i64 x.mean) := by rw [K1.out.cell]; rfl
        have d0 : w3.cell? ⟨X + 1, 0, none⟩ = some (.int .i64 y.id) := by rw [K2.out.cell]; rfl
        have d6 : w3.cell? ⟨X + 1, 6, none⟩ = some (.int .i64 y.mean) := by rw [K2.out.cell]; rfl
        go_wp2_with fail
        go_ret
        exact ⟨by simp, B1.out⟩
      · have hm' : (x.mean != y.mean) = true := by simp [hm]
        have hm2 : (x.mean == y.mean) = false := by simp [hm]
        rw [show decide (r1 < r1 ∨ r1 = r1 ∧ (x.mean < y.mean ∨ x.mean = y.mean ∧ x.id < y.id)) = decide (x.mean < y.mean) from decide_eq_decide.2 (by omega)]
        have HM := Sh.mk hm
        clear hm
        go_enter Try.func27, Try.ntmps27
        go_upto_region 1 with fail
        rw [hsz] at K2
        generalize ((w.alloc (.cells #[.int .i64 x.id, .bool x.up, .bool x.bk, .bool x.bd, .int .i64 x.room, .int .i64 x.und, .int .i64 x.mean] 41)).alloc (.cells #[.int .i64 y.id, .bool y.up, .bool y.bk, .bool y.bd, .int .i64 y.room, .int .i64 y.und, .int .i64 y.mean] 41)) = w2 at K1 K2 B1 ⊢
        obtain ⟨X, hX⟩ : ∃ X, X = w.heap.size := ⟨_, rfl⟩
        rw [← hX] at K1 K2 ⊢
        have HXX := Sh.mk hX
        clear hX hsz
        refine wp_ext (by kernel_rfl) (by kernel_rfl) (fun QQ hQ => ?_)
        refine x_loads _ [.int .i64 x.id, .bool x.up, .bool x.bk, .bool x.bd, .int .i64 x.room, .int .i64 x.und, .int .i64 x.mean] (by rfl) rfl rfl (K1.out.loads 0 _ (by rfl)) (Nat.succ_pos _) (by kernel_rfl) (by kernel_rfl) ?_; simp only [Act.put, List.setIfInBounds_toArray, List.set_cons_zero, List.set_cons_succ]
        refine x_call (by rfl) (fun w' hx => by go_simp) (fun w' hx => R1.out w') ?_; simp only [Act.put, List.setIfInBounds_toArray, List.set_cons_zero, List.set_cons_succ]
        refine x_loads _ [.int .i64 y.id, .bool y.up, .bool y.bk, .bool y.bd, .int .i64 y.room, .int .i64 y.und, .int .i64 y.mean] (by rfl) rfl rfl (K2.out.loads 0 _ (by rfl)) (Nat.succ_pos _) (by kernel_rfl) (by kernel_rfl) ?_; simp only [Act.put, List.setIfInBounds_toArray, List.set_cons_zero, List.set_cons_succ]
        refine x_call (by rfl) (fun w' hx => by go_simp) (fun w' hx => R2.out w') ?_; simp only [Act.put, List.setIfInBounds_toArray, List.set_cons_zero, List.set_cons_succ]
        (first | (refine x_load _ (by rfl) rfl rfl (by assumption) (by kernel_rfl) ?_; simp only [Act.put, List.setIfInBounds_toArray, List.set_cons_zero, List.set_cons_succ]) | (refine x_val (v := ?_) (by rfl) (fun w' hx => ?_) ?_; rotate_left; (focus (go_simp; (try with_reducible rfl))); (try simp only [Act.put, List.setIfInBounds_toArray, List.set_cons_zero, List.set_cons_succ])))
        refine x_nil (hQ.out _ ?_); clear hQ QQ
        intro w3 hb
        replace K1 := Lib.hid (K1.out.below hb K1.out.lt)
        replace K2 := Lib.hid (K2.out.below hb K2.out.lt)
        replace B1 := Lib.hid (B1.out.trans (hb.mono B1.out.size))
        clear hb
        have c0 : w3.cell? ⟨X, 0, none⟩ = some (.int .i64 x.id) := by rw [K1.out.cell]; rfl
        have c6 : w3.cell? ⟨X, 6, none⟩ = some (.int .i64 x.mean) := by rw [K1.out.cell]; rfl
        have d0 : w3.cell? ⟨X + 1, 0, none⟩ = some (.int .i64 y.id) := by rw [K2.out.cell]; rfl
        have d6 : w3.cell? ⟨X + 1, 6, none⟩ = some (.int .i64 y.mean) := by rw [K2.out.cell]; rfl
        go_wp2_with fail
        go_ret
        exact ⟨by simp, B1.out⟩
  · have hr' : (r1 == r2) = false := by simpa using hr
    have hrn : (r1 != r2) = true := by simp [hr]
    rw [show decide (r1 < r2 ∨ r1 = r2 ∧ (k2P pol last x < k2P pol last y ∨ k2P pol last x = k2P pol last y ∧ x.id < y.id)) = decide (r1 < r2) from decide_eq_decide.2 (by omega)]
    have HRR := Sh.mk hr
    clear hr
    go_enter Try.func27, Try.ntmps27
    go_upto_region 1 with fail
    rw [hsz] at K2
    generalize ((w.alloc (.cells #[.int .i64 x.id, .bool x.up, .bool x.bk, .bool x.bd, .int .i64 x.room, .int .i64 x.und, .int .i64 x.mean] 41)).alloc (.cells #[.int .i64 y.id, .bool y.up, .bool y.bk, .bool y.bd, .int .i64 y.room, .int .i64 y.und, .int .i64 y.mean] 41)) = w2 at K1 K2 B1 ⊢
    obtain ⟨X, hX⟩ : ∃ X, X = w.heap.size := ⟨_, rfl⟩
    rw [← hX] at K1 K2 ⊢
    have HXX := Sh.mk hX
    clear hX hsz
    refine wp_ext (by kernel_rfl) (by kernel_rfl) (fun QQ hQ => ?_)
    refine x_loads _ [.int .i64 x.id, .bool x.up, .bool x.bk, .bool x.bd, .int .i64 x.room, .int .i64 x.und, .int .i64 x.mean] (by rfl) rfl rfl (K1.out.loads 0 _ (by rfl)) (Nat.succ_pos _) (by kernel_rfl) (by kernel_rfl) ?_; simp only [Act.put, List.setIfInBounds_toArray, List.set_cons_zero, List.set_cons_succ]
    refine x_call (by rfl) (fun w' hx => by go_simp) (fun w' hx => R1.out w') ?_; simp only [Act.put, List.setIfInBounds_toArray, List.set_cons_zero, List.set_cons_succ]
    refine x_loads _ [.int .i64 y.id, .bool y.up, .bool y.bk, .bool y.bd, .int .i64 y.room, .int .i64 y.und, .int .i64 y.mean] (by rfl) rfl rfl (K2.out.loads 0 _ (by rfl)) (Nat.succ_pos _) (by kernel_rfl) (by kernel_rfl) ?_; simp only [Act.put, List.setIfInBounds_toArray, List.set_cons_zero, List.set_cons_succ]
    refine x_call (by rfl) (fun w' hx => by go_simp) (fun w' hx => R2.out w') ?_; simp only [Act.put, List.setIfInBounds_toArray, List.set_cons_zero, List.set_cons_succ]
    (first | (refine x_load _ (by rfl) rfl rfl (by assumption) (by kernel_rfl) ?_; simp only [Act.put, List.setIfInBounds_toArray, List.set_cons_zero, List.set_cons_succ]) | (refine x_val (v := ?_) (by rfl) (fun w' hx => ?_) ?_; rotate_left; (focus (go_simp; (try with_reducible rfl))); (try simp only [Act.put, List.setIfInBounds_toArray, List.set_cons_zero, List.set_cons_succ])))
    refine x_nil (hQ.out _ ?_); clear hQ QQ
    intro w3 hb
    replace K1 := Lib.hid (K1.out.below hb K1.out.lt)
    replace K2 := Lib.hid (K2.out.below hb K2.out.lt)
    replace B1 := Lib.hid (B1.out.trans (hb.mono B1.out.size))
    clear hb
    go_upto_region 2 with fail
    refine wp_ext (by kernel_rfl) (by kernel_rfl) (fun QQ hQ => ?_)
    refine x_loads _ [.int .i64 x.id, .bool x.up, .bool x.bk, .bool x.bd, .int .i64 x.room, .int .i64 x.und, .int .i64 x.mean] (by rfl) rfl rfl (K1.out.loads 0 _ (by rfl)) (Nat.succ_pos _) (by kernel_rfl) (by kernel_rfl) ?_; simp only [Act.put, List.setIfInBounds_toArray, List.set_cons_zero, List.set_cons_succ]
    refine x_call (by rfl) (fun w' hx => by go_simp) (fun w' hx => R1.out w') ?_; simp only [Act.put, List.setIfInBounds_toArray, List.set_cons_zero, List.set_cons_succ]
    refine x_loads _ [.int .i64 y.id, .bool y.up, .bool y.bk, .bool y.bd, .int .i64 y.room, .int .i64 y.und, .int .i64 y.mean] (by rfl) rfl rfl (K2.out.loads 0 _ (by rfl)) (Nat.succ_pos _) (by kernel_rfl) (by kernel_rfl) ?_; simp only [Act.put, List.setIfInBounds_toArray, List.set_cons_zero, List.set_cons_succ]
    refine x_call (by rfl) (fun w' hx => by go_simp) (fun w' hx => R2.out w') ?_; simp only [Act.put, List.setIfInBounds_toArray, List.set_cons_zero, List.set_cons_succ]
    (first | (refine x_load _ (by rfl) rfl rfl (by assumption) (by kernel_rfl) ?_; simp only [Act.put, List.setIfInBounds_toArray, List.set_cons_zero, List.set_cons_succ]) | (refine x_val (v := ?_) (by rfl) (fun w' hx => ?_) ?_; rotate_left; (focus (go_simp; (try with_reducible rfl))); (try simp only [Act.put, List.setIfInBounds_toArray, List.set_cons_zero, List.set_cons_succ])))
    (first | (refine x_load _ (by rfl) rfl rfl (by assumption) (by kernel_rfl) ?_; simp only [Act.put, List.setIfInBounds_toArray, List.set_cons_zero, List.set_cons_succ]) | (refine x_val (v := ?_) (by rfl) (fun w' hx => ?_) ?_; rotate_left; (focus (go_simp; (try with_reducible rfl))); (try simp only [Act.put, List.setIfInBounds_toArray, List.set_cons_zero, List.set_cons_succ])))
    refine x_nil (hQ.out _ ?_); clear hQ QQ
    intro w4 hb
    replace K1 := Lib.hid (K1.out.below hb K1.out.lt)
    replace K2 := Lib.hid (K2.out.below hb K2.out.lt)
    replace B1 := Lib.hid (B1.out.trans (hb.mono B1.out.size))
    clear hb
    go_wp2_with fail
    go_ret
    exact ⟨by simp, B1.out⟩

section
variable {P : Program} {ops : Array Oper} {rest : List Oper} {op : Oper} {a : Act} {w : World} {Q : Exit → Act → World → Prop}
/-- One path of a row is written. -/
theorem rg_store {rb c i : Nat} {d : Array Pth} {t u : TypeId} (h : RowG w rb c 7 t Pth.el d.toList) (hi : i < d.size) (x : Pth) (hgd : op.guard = none) (X Y : Operand) (ho : op.op = .store u X Y) (hx : a.eval X = .pointer (some ⟨rb, i * 7, none⟩)) (hy : a.eval Y = .agg x.cells)
    (hu : (P.info? u).map (·.size) = some 7)
    (hk : ∀ w', RowG w' rb c 7 t Pth.el (d.setIfInBounds i x).toList → Solo rb w w' → wpList P ops Q rest (a.put op.dst undef) w') : wpList P ops Q (op :: rest) a w := by
  obtain ⟨L, hb, hl, hc, ht⟩ := h
  have h1 := Nat.mul_le_mul_right 7 (show i + 1 ≤ d.toList.length by rw [Array.length_toList]; omega)
  have h2 := Nat.mul_le_mul_right 7 hc
  have hfit : i * 7 + 7 ≤ L.length := by omega
  refine stm_store (cs' := (splv L (i * 7) x.el).toArray) hb hgd X Y ho hx hy (by simpa [Pth.cells] using hfit) (by rw [hu]; rfl) (by simp [Pth.cells, Value.oneCell']) (setL_splv _ _ _ hfit) fun w' hk' hs => ?_
  refine hk w' ?_ hs
  rw [Array.toList_setIfInBounds]
  refine ⟨_, hk', by rw [splv_len (by rw [pth_len]; exact hfit)]; exact hl, by simpa using hc, ?_⟩
  rw [List.length_set]
  exact splv_fm pth_len hl.symm hc ht (by simpa using hi) x
end
theorem rg_nth {w : World} {rb c : Nat} {t : TypeId} {d : Array Pth} (h : RowG w rb c 7 t Pth.el d.toList) {i : Nat} (hi : i < d.size) : ∀ j v, (d[i]!).el[j]? = some v → w.cell? ⟨rb, i * 7 + j, none⟩ = some v :=
  h.loads pth_len (by rw [Array.getElem?_toList, getElem!_pos d i hi, Array.getElem?_eq_getElem hi])
theorem swoP (pol last : Int) : SWO (ltP pol last) := by
  have := swo_cfP pol last
  rwa [show ltOf (cfP pol last) = ltP pol last from funext fun x => funext fun y => ltOf_cfP pol last x y] at this
end Go.Proofs.Ytcfeojobkpbohaa
