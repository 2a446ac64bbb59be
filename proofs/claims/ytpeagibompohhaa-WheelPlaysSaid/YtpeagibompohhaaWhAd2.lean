/- Package wheel: Add where there is room. -/
import Derived.Test.YtpeagibompohhaaWhAdd
namespace Go.Proofs.Ytpeagibompohhaa
open Go.RowKit
set_option linter.unusedVariables false
set_option linter.unusedSimpArgs false
set_option maxRecDepth 20000 in
set_option maxHeartbeats 2000000 in
/-- After the old one is cancelled: there is room. -/
theorem wadd_put (g B mb most now sz k p : Nat) (id : Int) (b0 : Bool) (sl : List Value) (S : List (List Int)) (f : Fm) (w : World) (R : World → Prop) (v0 : Value) (l0 : List Int) (h1 : 1 ≤ k) (h2 : k ≤ 65535) (hn : now ≤ 4000000000) (hid : I64 id) (hfi : f id = none) (hsz : sz < 8999) (hp : plW now (now + k) = p) (hv0 : sl[p]? = some v0) (hl0 : S[p]? = some l0) (hll : l0.length ≤ 10000)
    (hC : Calls Try.prog 9 #[.pointer (some ⟨g, 0, none⟩), .int .i64 id] w fun e w' => e = .returned (.bool b0) ∧ R w' ∧ WS w' g B mb most now sl S ∧ MapW w' mb f sz) (hf : sz < most) :
    Calls Try.prog 14 #[.pointer (some ⟨g, 0, none⟩), .int .i64 id, .int .i64 (k : Nat)] w fun e w' => e = .returned (.bool true) ∧ ∃ w1 v', R w1 ∧ WS w' g B mb most now (sl.set p v') (S.set p (l0 ++ [id])) ∧ MapW w' mb (f.upd id (some (now + k, l0.length))) (sz + 1) ∧ KeptW g mb sl (sl.set p v') w1 w' := by
  have HC := Lib.hid hC
  have t1 : ¬ (k : Int) < 1 := by omega
  have t2 : ¬ (65535 : Int) < (k : Int) := by omega
  have t3 : ¬ k < 1 := by omega
  have t4 : ¬ 65535 < k := by omega
  have HPU := Lib.hid (fun (w' : World) (hs : WS w' g B mb most now sl S) (hm : MapW w' mb f sz) => wput_any g B mb most now (now + k) sz p id sl S f v0 l0 w' hs hm (by omega) (by omega) hid hsz hp hv0 hl0 hll)
  rw [hfi] at HPU
  simp only [Option.isSome_none, Bool.false_eq_true, if_false] at HPU
  rw [show ((now + k : Nat) : Int) = (now : Int) + (k : Int) by push_cast; rfl] at HPU
  have hf2 : ¬ most ≤ sz := by omega
  clear hC h1 h2 hp hv0 hl0 hll hfi hsz
  go_enter Try.func14, Try.ntmps14
  go_wp2_with fail
  refine HC.out.mono ?_
  rintro e w1 ⟨rfl, hr, hs, hm⟩
  have HW := Lib.hid hs
  have HM := Lib.hid hm
  have HR := Lib.hid hr
  clear hr hs hm HC
  go_wp2_with fail
  refine wp_ord [(0, .pure), (1, .pure), (2, .pure), (3, .read), (5, .pure), (6, .pure), (7, .pure), (8, .read), (4, .sole), (9, .pure)] [] (by kernel_rfl) (by kernel_rfl) (fun QQ hQ wd hwd => ?_); simp only [List.map_cons, List.map_nil, List.getD_cons_zero, List.getD_cons_succ]
  have hD : Below w1.heap.size w1 wd := by rw [hwd.out]; exact (Below.refl _ _).drew
  have c2 := (HW.out.into hD).c2
  have c0 := (HW.out.into hD).c0
  have hl := fun ty => (HM.out.same (hD.block mb HM.out.lt)).len ty
  have HWD := Lib.hid (HW.out.into hD)
  have HMD := Lib.hid (HM.out.same (hD.block mb HM.out.lt))
  have HBD := Lib.hid hD
  clear hD hwd
  (refine o_pure (v := ?_) (by rfl) (fun w' => ?_) ?_; rotate_left; (focus (go_simp; (try with_reducible rfl); (try (rw [if_pos (by omega)]; (try with_reducible rfl))))); (try simp only [Act.put, List.setIfInBounds_toArray, List.set_cons_zero, List.set_cons_succ]))
  (refine o_pure (v := ?_) (by rfl) (fun w' => ?_) ?_; rotate_left; (focus (go_simp; (try with_reducible rfl); (try (rw [if_pos (by omega)]; (try with_reducible rfl))))); (try simp only [Act.put, List.setIfInBounds_toArray, List.set_cons_zero, List.set_cons_succ]))
  (refine o_pure (v := ?_) (by rfl) (fun w' => ?_) ?_; rotate_left; (focus (go_simp; (try with_reducible rfl); (try (rw [if_pos (by omega)]; (try with_reducible rfl))))); (try simp only [Act.put, List.setIfInBounds_toArray, List.set_cons_zero, List.set_cons_succ]))
  (refine o_load _ (by rfl) rfl rfl (by assumption) (by kernel_rfl) ?_; simp only [Act.put, List.setIfInBounds_toArray, List.set_cons_zero, List.set_cons_succ])
  (refine o_pure (v := ?_) (by rfl) (fun w' => ?_) ?_; rotate_left; (focus (go_simp; (try with_reducible rfl); (try (rw [if_pos (by omega)]; (try with_reducible rfl))))); (try simp only [Act.put, List.setIfInBounds_toArray, List.set_cons_zero, List.set_cons_succ]))
  (refine o_pure (v := ?_) (by rfl) (fun w' => ?_) ?_; rotate_left; (focus (go_simp; (try with_reducible rfl); (try (rw [if_pos (by omega)]; (try with_reducible rfl))))); (try simp only [Act.put, List.setIfInBounds_toArray, List.set_cons_zero, List.set_cons_succ]))
  (refine o_pure (v := ?_) (by rfl) (fun w' => ?_) ?_; rotate_left; (focus (go_simp; (try with_reducible rfl); (try (rw [if_pos (by omega)]; (try with_reducible rfl))))); (try simp only [Act.put, List.setIfInBounds_toArray, List.set_cons_zero, List.set_cons_succ]))
  (refine o_load _ (by rfl) rfl rfl (by assumption) (by kernel_rfl) ?_; simp only [Act.put, List.setIfInBounds_toArray, List.set_cons_zero, List.set_cons_succ])
  refine o_sole (fun K hK => ?_)
  go_wp2_with fail
  refine hK _ _ (fun _ => Ext.of (Below.refl _ _)) ?_; clear hK K
  (refine o_pure (v := ?_) (by rfl) (fun w' => ?_) ?_; rotate_left; (focus (go_simp; (try with_reducible rfl); (try (rw [if_pos (by omega)]; (try with_reducible rfl))))); (try simp only [Act.put, List.setIfInBounds_toArray, List.set_cons_zero, List.set_cons_succ]))
  refine o_nil (hQ.out _ _ ?_); clear hQ QQ
  clear hl c2 c0
  have c1 := HWD.out.c1
  go_wp2_with fail
  refine (HPU.out wd HWD.out HMD.out).mono ?_
  rintro e w3 ⟨rfl, v', h3, h4, h5⟩
  have H3 := Lib.hid h3
  have H4 := Lib.hid h4
  have H5 := Lib.hid ((KeptW.of_below HBD.out).trans h5)
  clear h3 h4 h5 c1
  go_wp2_with fail
  go_ret
  exact ⟨rfl, w1, v', HR.out, H3.out, H4.out, H5.out⟩
end Go.Proofs.Ytpeagibompohhaa
