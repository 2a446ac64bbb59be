/- Package wheel: Add. -/
import Derived.Test.YtpeagibompohhaaWhNew
namespace Go.Proofs.Ytpeagibompohhaa
open Go.RowKit
set_option linter.unusedVariables false
set_option linter.unusedSimpArgs false
theorem wadd_low (g : Nat) (id ticks : Int) (w : World) (ht : ticks < 1) :
    Calls Try.prog 14 #[.pointer (some ⟨g, 0, none⟩), .int .i64 id, .int .i64 ticks] w fun e w' => e = .returned (.bool false) ∧ w' = w := by
  go_enter Try.func14, Try.ntmps14
  go_wp2_with fail
  go_ret
  exact ⟨rfl, rfl⟩
theorem wadd_high (g : Nat) (id ticks : Int) (w : World) (ht : 65535 < ticks) :
    Calls Try.prog 14 #[.pointer (some ⟨g, 0, none⟩), .int .i64 id, .int .i64 ticks] w fun e w' => e = .returned (.bool false) ∧ w' = w := by
  have h1 : ¬ ticks < 1 := by omega
  go_enter Try.func14, Try.ntmps14
  go_wp2_with fail
  go_ret
  exact ⟨rfl, rfl⟩
set_option maxRecDepth 20000 in
set_option maxHeartbeats 2000000 in
/-- After the old one is cancelled: a full wheel. -/
theorem wadd_full (g B mb most now sz : Nat) (id ticks : Int) (b0 : Bool) (sl : List Value) (S : List (List Int)) (f : Fm) (w : World) (R : World → Prop) (h1 : 1 ≤ ticks) (h2 : ticks ≤ 65535)
    (hC : Calls Try.prog 9 #[.pointer (some ⟨g, 0, none⟩), .int .i64 id] w fun e w' => e = .returned (.bool b0) ∧ R w' ∧ WS w' g B mb most now sl S ∧ MapW w' mb f sz) (hf : most ≤ sz) :
    Calls Try.prog 14 #[.pointer (some ⟨g, 0, none⟩), .int .i64 id, .int .i64 ticks] w fun e w' => e = .returned (.bool false) ∧ ∃ w1, R w1 ∧ WS w1 g B mb most now sl S ∧ MapW w1 mb f sz ∧ w' = w1.drew := by
  have HC := Lib.hid hC
  have t1 : ¬ ticks < 1 := by omega
  have t2 : ¬ 65535 < ticks := by omega
  clear hC h1 h2
  go_enter Try.func14, Try.ntmps14
  go_wp2_with fail
  refine HC.out.mono ?_
  rintro e w1 ⟨rfl, hr, hs, hm⟩
  have HW := Lib.hid hs
  have HM := Lib.hid hm
  have HR := Lib.hid hr
  clear hr hs hm HC
  go_wp2_with fail
  refine wp_ord [(0, .pure), (1, .pure), (2, .pure), (3, .read), (5, .pure), (6, .pure), (7, .pure), (8, .read), (4, .sole), (9, .pure)] [] (by kernel_rfl) (by kernel_rfl) (fun QQ hQ wd hwd => ?_); simp only [List.map_cons, List.map_nil, List.getD_cons_zero, List.getD_cons_succ]
  have hD : Below w1.heap.size w1 wd := by rw [hwd.out]; exact (Below.refl _ _).drew
  have c2 := (HW.out.into hD).c2
  have c0 := (HW.out.into hD).c0
  have hl := fun ty => (HM.out.same (hD.block mb HM.out.lt)).len ty
  have HWD : Hid (wd = w1.drew) := Lib.hid hwd.out
  clear hD hwd
  (refine o_pure (v := ?_) (by rfl) (fun w' => ?_) ?_; rotate_left; (focus (go_simp; (try with_reducible rfl); (try (rw [if_pos (by omega)]; (try with_reducible rfl))))); (try simp only [Act.put, List.setIfInBounds_toArray, List.set_cons_zero, List.set_cons_succ]))
  (refine o_pure (v := ?_) (by rfl) (fun w' => ?_) ?_; rotate_left; (focus (go_simp; (try with_reducible rfl); (try (rw [if_pos (by omega)]; (try with_reducible rfl))))); (try simp only [Act.put, List.setIfInBounds_toArray, List.set_cons_zero, List.set_cons_succ]))
  (refine o_pure (v := ?_) (by rfl) (fun w' => ?_) ?_; rotate_left; (focus (go_simp; (try with_reducible rfl); (try (rw [if_pos (by omega)]; (try with_reducible rfl))))); (try simp only [Act.put, List.setIfInBounds_toArray, List.set_cons_zero, List.set_cons_succ]))
  (refine o_load _ (by rfl) rfl rfl (by assumption) (by kernel_rfl) ?_; simp only [Act.put, List.setIfInBounds_toArray, List.set_cons_zero, List.set_cons_succ])
  (refine o_pure (v := ?_) (by rfl) (fun w' => ?_) ?_; rotate_left; (focus (go_simp; (try with_reducible rfl); (try (rw [if_pos (by omega)]; (try with_reducible rfl))))); (try simp only [Act.put, List.setIfInBounds_toArray, List.set_cons_zero, List.set_cons_succ]))
  (refine o_pure (v := ?_) (by rfl) (fun w' => ?_) ?_; rotate_left; (focus (go_simp; (try with_reducible rfl); (try (rw [if_pos (by omega)]; (try with_reducible rfl))))); (try simp only [Act.put, List.setIfInBounds_toArray, List.set_cons_zero, List.set_cons_succ]))
  (refine o_pure (v := ?_) (by rfl) (fun w' => ?_) ?_; rotate_left; (focus (go_simp; (try with_reducible rfl); (try (rw [if_pos (by omega)]; (try with_reducible rfl))))); (try simp only [Act.put, List.setIfInBounds_toArray, List.set_cons_zero, List.set_cons_succ]))
  (refine o_load _ (by rfl) rfl rfl (by assumption) (by kernel_rfl) ?_; simp only [Act.put, List.setIfInBounds_toArray, List.set_cons_zero, List.set_cons_succ])
  refine o_sole (fun K hK => ?_)
  go_wp2_with fail
  refine hK _ _ (fun _ => Ext.of (Below.refl _ _)) ?_; clear hK K
  (refine o_pure (v := ?_) (by rfl) (fun w' => ?_) ?_; rotate_left; (focus (go_simp; (try with_reducible rfl); (try (rw [if_pos (by omega)]; (try with_reducible rfl))))); (try simp only [Act.put, List.setIfInBounds_toArray, List.set_cons_zero, List.set_cons_succ]))
  refine o_nil (hQ.out _ _ ?_); clear hQ QQ
  clear hl c2 c0
  go_wp2_with fail
  go_ret
  exact ⟨rfl, w1, HR.out, HW.out, HM.out, HWD.out⟩
end Go.Proofs.Ytpeagibompohhaa
