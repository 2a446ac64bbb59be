/- Layer 8: data, as it is read. -/
import Derived.Test.YtbiimgfocgbdaaaG33MacOpens
import Derived.Test.YtbiimgfocgbdaaaOrd

namespace Go.Proofs.Ytbiimgfocgbdaaa
open Go.RowKit
set_option linter.unusedVariables false
/-- What ParseData answers. -/
def DataPost (kd : Nat) (lb : List Nat) (e : Ending) : Prop :=
  (∃ (f p : Bool) (sq ak wn t : Nat), e = .returned (.tuple #[.agg #[.bool f, .bool p, .int .u64 (sq : Int), .int .u64 (ak : Int), .int .u32 (wn : Int), .int .u64 (t : Int)], .bool true]) ∧ DataIs kd lb f p sq ak wn t) ∨ (e = .returned (.tuple #[.agg #[.bool false, .bool false, .int .u64 0, .int .u64 0, .int .u32 0, .int .u64 0], .bool false]) ∧ ∀ (f p : Bool) (sq ak wn t : Nat), ¬ DataIs kd lb f p sq ak wn t)
theorem DataPost.no {kd : Nat} {lb : List Nat} (h : ∀ (f p : Bool) (sq ak wn t : Nat), ¬ DataIs kd lb f p sq ak wn t) : DataPost kd lb (.returned (.tuple #[.agg #[.bool false, .bool false, .int .u64 0, .int .u64 0, .int .u32 0, .int .u64 0], .bool false])) := .inr ⟨rfl, h⟩
set_option maxRecDepth 20000 in
set_option maxHeartbeats 4000000 in
theorem parseData_any (kd : Nat) (A : Option Addr) (n c : Nat) (lb : List Nat) (w : World) (h : Rd w w.heap.size 1 A n (ns .u8 lb)) (hnc : n ≤ c) (hb : ∀ x ∈ lb, x < 256) (hn : n ≤ 10000) :
    Calls Try.prog 63 #[.agg #[.int .u8 (kd : Int), .slice A n c]] w fun e w' => DataPost kd lb e ∧ Below w.heap.size w w' := by
  have hk1 := ((Blk.new w 45 #[.int .u8 (kd : Int), .slice A n c]).alloc (.cells #[.bool false, .bool false, .int .u64 0, .int .u64 0, .int .u32 0, .int .u64 0] 38)).alloc (.cells #[.int .i64 1, .int .i64 8, .int .i64 8, .int .i64 4, .int .i64 8] 3)
  have hk2 := (Blk.new (w.alloc (.cells #[.int .u8 (kd : Int), .slice A n c] 45)) 38 #[.bool false, .bool false, .int .u64 0, .int .u64 0, .int .u32 0, .int .u64 0]).alloc (.cells #[.int .i64 1, .int .i64 8, .int .i64 8, .int .i64 4, .int .i64 8] 3)
  rw [show (w.alloc (.cells #[.int .u8 (kd : Int), .slice A n c] 45)).heap.size = w.heap.size + 1 by simp] at hk2
  have hz3 : (((w.alloc (.cells #[.int .u8 (kd : Int), .slice A n c] 45)).alloc (.cells #[.bool false, .bool false, .int .u64 0, .int .u64 0, .int .u32 0, .int .u64 0] 38)).alloc (.cells #[.int .i64 1, .int .i64 8, .int .i64 8, .int .i64 4, .int .i64 8] 3)).heap.size = w.heap.size + 3 := by simp
  have hzs := Zats.lit (w := ((w.alloc (.cells #[.int .u8 (kd : Int), .slice A n c] 45)).alloc (.cells #[.bool false, .bool false, .int .u64 0, .int .u64 0, .int .u32 0, .int .u64 0] 38))) (e := 3) (k := .i64) (ss := [1, 8, 8, 4, 8]) (n := 5) #[.int .i64 1, .int .i64 8, .int .i64 8, .int .i64 4, .int .i64 8] rfl rfl (by unfold maxLen; omega)
  rw [show ((w.alloc (.cells #[.int .u8 (kd : Int), .slice A n c] 45)).alloc (.cells #[.bool false, .bool false, .int .u64 0, .int .u64 0, .int .u32 0, .int .u64 0] 38)).heap.size = w.heap.size + 2 by simp] at hzs
  have hb0 : Below w.heap.size w (((w.alloc (.cells #[.int .u8 (kd : Int), .slice A n c] 45)).alloc (.cells #[.bool false, .bool false, .int .u64 0, .int .u64 0, .int .u32 0, .int .u64 0] 38)).alloc (.cells #[.int .i64 1, .int .i64 8, .int .i64 8, .int .i64 4, .int .i64 8] 3)) := (((Below.refl _ _).alloc (Nat.le_refl _) _).alloc (by simp) _).alloc (by simp; omega) _
  have K1 := Lib.hid hk1
  have K2 := Lib.hid hk2
  have B0 := Lib.hid hb0
  have Z3 := Lib.hid hz3
  have ZS := Lib.hid hzs
  have HB := Lib.hid hb
  have HR := Lib.hid h
  obtain ⟨q0, q1⟩ := ptc2 hk1
  clear hk1 hk2 hb0 hz3 hzs hb h
  go_enter Try.func63, Try.ntmps63
  go_wp2_with fail
  generalize ((w.alloc (.cells #[.int .u8 (kd : Int), .slice A n c] 45)).alloc (.cells #[.bool false, .bool false, .int .u64 0, .int .u64 0, .int .u32 0, .int .u64 0] 38)).alloc (.cells #[.int .i64 1, .int .i64 8, .int .i64 8, .int .i64 4, .int .i64 8] 3) = W at *
  obtain ⟨T, hT⟩ : ∃ T, T = w.heap.size := ⟨_, rfl⟩
  rw [← hT] at K1 K2 Z3 ZS q0 q1 ⊢
  have HT := Lib.hid hT
  clear hT
  refine (pall_any A (some ⟨T + 2, 0, none⟩) n 5 c 5 lb [1, 8, 8, 4, 8] W (HR.out.into B0.out) ZS.out.rd hnc HB.out (by omega) (by omega)).mono ?_
  rintro e w1 ⟨hb1, hp⟩
  have K1b := Lib.hid (K1.out.below hb1 K1.out.lt)
  have K2b := Lib.hid (K2.out.below hb1 K2.out.lt)
  have B1 := Lib.hid (B0.out.trans (hb1.mono B0.out.size))
  clear hb1 K1 K2 B0 ZS q0 q1 HR
  obtain ⟨z0, z1, z2, z3, z4, z5⟩ := ptc6 K2b.out
  have f0 := K2b.out.frozen 0
  have f1 := K2b.out.frozen 1
  have f2 := K2b.out.frozen 2
  have f3 := K2b.out.frozen 3
  have f4 := K2b.out.frozen 4
  have f5 := K2b.out.frozen 5
  rcases hp with ⟨xs, v, hsay, rfl, hN⟩ | ⟨hno1, rfl⟩
  · obtain ⟨m, sq, ak, wn, t, rfl, hwn, hyes, hnot⟩ := dataS HB.out hsay
    have H_wn := Lib.hid hwn
    have HYES := Lib.hid hyes
    have HNOT := Lib.hid hnot
    clear hyes hnot hwn
    have HN := Lib.hid hN
    clear hN hsay
    by_cases hkd : kd = 3
    rotate_left
    · have hkd1 : ((kd : Int) != 3) = true := by simp; omega
      have hkd2 : ((kd : Int) == 3) = false := by simp; omega
      have HKD := Lib.hid hkd
      obtain ⟨w0, w1'⟩ := ptc2 K1b.out
      clear hkd
      go_wp2_with fail
      have hkz := pt6 (.bool false) (.bool false) (.int .u64 0) (.int .u64 0) (.int .u32 0) (.int .u64 0) K2b.out
      have hbz := ptb6 (.bool false) (.bool false) (.int .u64 0) (.int .u64 0) (.int .u32 0) (.int .u64 0) B1.out (show w.heap.size ≤ T + 1 by rw [← HT.out]; omega)
      unfold ptw6 at hkz hbz
      generalize (((((w1.setCell ⟨T + 1, 0, none⟩ (.bool false)).setCell ⟨T + 1, 1, none⟩ (.bool false)).setCell ⟨T + 1, 2, none⟩ (.int .u64 0)).setCell ⟨T + 1, 3, none⟩ (.int .u64 0)).setCell ⟨T + 1, 4, none⟩ (.int .u32 0)).setCell ⟨T + 1, 5, none⟩ (.int .u64 0) = wz at *
      clear z0 z1 z2 z3 z4 z5 f0 f1 f2 f3 f4 f5
      obtain ⟨z0, z1, z2, z3, z4, z5⟩ := ptc6 hkz
      exact bodyPost_ret (v := .tuple #[.agg #[.bool false, .bool false, .int .u64 0, .int .u64 0, .int .u32 0, .int .u64 0], .bool false]) (by simp [results, Try.results63, go_sem, z0, z1, z2, z3, z4, z5]) rfl ⟨DataPost.no (fun f p sq ak wn t h => HKD.out h.hkd), hbz⟩
    ·
      subst hkd
      obtain ⟨w0, w1'⟩ := ptc2 K1b.out
      by_cases hb2 : 3 < m
      · have hb3 : (3 : Int) < (m : Int) := by omega
        obtain ⟨g, cg, rfl, hgB, hgl, hgc, hcell⟩ := nats_open HN.out (by simp)
        have c0 := hcell 0 _ rfl
        simp only [List.length_cons, List.length_nil] at hgc ⊢
        have HF := Lib.hid (HNOT.out hb2)
        clear hcell
        go_wp2_with fail
        have hkz := pt6 (.bool false) (.bool false) (.int .u64 0) (.int .u64 0) (.int .u32 0) (.int .u64 0) K2b.out
        have hbz := ptb6 (.bool false) (.bool false) (.int .u64 0) (.int .u64 0) (.int .u32 0) (.int .u64 0) B1.out (show w.heap.size ≤ T + 1 by rw [← HT.out]; omega)
        unfold ptw6 at hkz hbz
        generalize (((((w1.setCell ⟨T + 1, 0, none⟩ (.bool false)).setCell ⟨T + 1, 1, none⟩ (.bool false)).setCell ⟨T + 1, 2, none⟩ (.int .u64 0)).setCell ⟨T + 1, 3, none⟩ (.int .u64 0)).setCell ⟨T + 1, 4, none⟩ (.int .u32 0)).setCell ⟨T + 1, 5, none⟩ (.int .u64 0) = wz at *
        clear z0 z1 z2 z3 z4 z5 f0 f1 f2 f3 f4 f5
        obtain ⟨z0, z1, z2, z3, z4, z5⟩ := ptc6 hkz
        exact bodyPost_ret (v := .tuple #[.agg #[.bool false, .bool false, .int .u64 0, .int .u64 0, .int .u32 0, .int .u64 0], .bool false]) (by simp [results, Try.results63, go_sem, z0, z1, z2, z3, z4, z5]) rfl ⟨DataPost.no (fun f p sq ak wn t => HF.out 3 f p sq ak wn t), hbz⟩
      have hb3 : ¬ (3 : Int) < (m : Int) := by omega
      have HIS := Lib.hid (HYES.out (by omega))
      obtain ⟨f, hf⟩ : ∃ f, f = decide (m % 2 = 1) := ⟨_, rfl⟩
      obtain ⟨p, hp⟩ : ∃ p, p = decide (1 < m) := ⟨_, rfl⟩
      rw [← hf, ← hp] at HIS
      obtain ⟨m1, m2, hm1, hm2, ef, ep⟩ : ∃ m1 m2 : Int, bits .and .u64 (m : Int) 1 = m1 ∧ bits .and .u64 (m : Int) 2 = m2 ∧ (m1 != 0) = f ∧ (m2 != 0) = p := by
        have : m = 0 ∨ m = 1 ∨ m = 2 ∨ m = 3 := by omega
        rcases this with rfl | rfl | rfl | rfl <;> exact ⟨_, _, rfl, rfl, by rw [hf]; rfl, by rw [hp]; rfl⟩
      clear hf hp hb2 HYES HNOT
      obtain ⟨g, cg, rfl, hgB, hgl, hgc, hcell⟩ := nats_open HN.out (by simp)
      have c0 := hcell 0 _ rfl
      have c1 := hcell 1 _ rfl
      have c2 := hcell 2 _ rfl
      have c3 := hcell 3 _ rfl
      have c4 := hcell 4 _ rfl
      simp only [List.length_cons, List.length_nil] at hgc ⊢
      clear hcell
      go_wp2_with fail
      refine wp_ord [(0, .pure), (1, .pure), (2, .read), (3, .pure), (4, .pure), (5, .pure), (6, .pure), (7, .read), (8, .pure), (9, .pure), (10, .pure), (11, .pure), (12, .read), (13, .pure), (14, .pure), (15, .read), (16, .pure), (17, .pure), (18, .read), (19, .pure), (20, .pure), (21, .sole), (22, .sole)] [22] (by kernel_rfl) (by kernel_rfl) (fun QQ hQ wd hwd => ?_); simp only [List.map_cons, List.map_nil, List.getD_cons_zero, List.getD_cons_succ]
      have hD : Below w1.heap.size w1 wd := by rw [hwd.out]; exact (Below.refl _ _).drew
      have hdc : ∀ a, wd.cell? a = w1.cell? a := fun a => by rw [hwd.out]; rfl
      rw [← hdc] at c0
      rw [← hdc] at c1
      rw [← hdc] at c2
      rw [← hdc] at c3
      rw [← hdc] at c4
      have HDZ := Lib.hid (show wd.heap.size = w1.heap.size by rw [hwd.out]; rfl)
      have K2d := Lib.hid (K2b.out.below hD K2b.out.lt)
      have Bd := Lib.hid (B1.out.trans (hD.mono B1.out.size))
      clear hdc hwd z0 z1 z2 z3 z4 z5 f0 f1 f2 f3 f4 f5
      have v_wn : IntKind.u32.wrap (wn : Int) = (wn : Int) := by rw [IntKind.wrap_u32]; have := H_wn.out; unfold q32 at this; omega
      (refine o_pure (v := ?_) (by rfl) (fun w' => ?_) ?_; rotate_left; (focus (go_simp; (try with_reducible rfl))); (try simp only [Act.put, List.setIfInBounds_toArray, List.set_cons_zero, List.set_cons_succ]))
      (refine o_pure (v := ?_) (by rfl) (fun w' => ?_) ?_; rotate_left; (focus (go_simp; (try with_reducible rfl))); (try simp only [Act.put, List.setIfInBounds_toArray, List.set_cons_zero, List.set_cons_succ]))
      (refine o_load _ (by rfl) rfl rfl (by assumption) (by kernel_rfl) ?_; simp only [Act.put, List.setIfInBounds_toArray, List.set_cons_zero, List.set_cons_succ])
      (refine o_pure (v := ?_) (by rfl) (fun w' => ?_) ?_; rotate_left; (focus (go_simp; (try with_reducible rfl))); (try simp only [Act.put, List.setIfInBounds_toArray, List.set_cons_zero, List.set_cons_succ]))
      (refine o_pure (v := ?_) (by rfl) (fun w' => ?_) ?_; rotate_left; (focus (go_simp; (try with_reducible rfl))); (try simp only [Act.put, List.setIfInBounds_toArray, List.set_cons_zero, List.set_cons_succ]))
      (refine o_pure (v := ?_) (by rfl) (fun w' => ?_) ?_; rotate_left; (focus (go_simp; (try with_reducible rfl))); (try simp only [Act.put, List.setIfInBounds_toArray, List.set_cons_zero, List.set_cons_succ]))
      (refine o_pure (v := ?_) (by rfl) (fun w' => ?_) ?_; rotate_left; (focus (go_simp; (try with_reducible rfl))); (try simp only [Act.put, List.setIfInBounds_toArray, List.set_cons_zero, List.set_cons_succ]))
      (refine o_load _ (by rfl) rfl rfl (by assumption) (by kernel_rfl) ?_; simp only [Act.put, List.setIfInBounds_toArray, List.set_cons_zero, List.set_cons_succ])
      (refine o_pure (v := ?_) (by rfl) (fun w' => ?_) ?_; rotate_left; (focus (go_simp; (try with_reducible rfl))); (try simp only [Act.put, List.setIfInBounds_toArray, List.set_cons_zero, List.set_cons_succ]))
      (refine o_pure (v := ?_) (by rfl) (fun w' => ?_) ?_; rotate_left; (focus (go_simp; (try with_reducible rfl))); (try simp only [Act.put, List.setIfInBounds_toArray, List.set_cons_zero, List.set_cons_succ]))
      (refine o_pure (v := ?_) (by rfl) (fun w' => ?_) ?_; rotate_left; (focus (go_simp; (try with_reducible rfl))); (try simp only [Act.put, List.setIfInBounds_toArray, List.set_cons_zero, List.set_cons_succ]))
      (refine o_pure (v := ?_) (by rfl) (fun w' => ?_) ?_; rotate_left; (focus (go_simp; (try with_reducible rfl))); (try simp only [Act.put, List.setIfInBounds_toArray, List.set_cons_zero, List.set_cons_succ]))
      (refine o_load _ (by rfl) rfl rfl (by assumption) (by kernel_rfl) ?_; simp only [Act.put, List.setIfInBounds_toArray, List.set_cons_zero, List.set_cons_succ])
      (refine o_pure (v := ?_) (by rfl) (fun w' => ?_) ?_; rotate_left; (focus (go_simp; (try with_reducible rfl))); (try simp only [Act.put, List.setIfInBounds_toArray, List.set_cons_zero, List.set_cons_succ]))
      (refine o_pure (v := ?_) (by rfl) (fun w' => ?_) ?_; rotate_left; (focus (go_simp; (try with_reducible rfl))); (try simp only [Act.put, List.setIfInBounds_toArray, List.set_cons_zero, List.set_cons_succ]))
      (refine o_load _ (by rfl) rfl rfl (by assumption) (by kernel_rfl) ?_; simp only [Act.put, List.setIfInBounds_toArray, List.set_cons_zero, List.set_cons_succ])
      (refine o_pure (v := ?_) (by rfl) (fun w' => ?_) ?_; rotate_left; (focus (go_simp; (try with_reducible rfl))); (try simp only [Act.put, List.setIfInBounds_toArray, List.set_cons_zero, List.set_cons_succ]))
      (refine o_pure (v := ?_) (by rfl) (fun w' => ?_) ?_; rotate_left; (focus (go_simp; (try with_reducible rfl))); (try simp only [Act.put, List.setIfInBounds_toArray, List.set_cons_zero, List.set_cons_succ]))
      (refine o_load _ (by rfl) rfl rfl (by assumption) (by kernel_rfl) ?_; simp only [Act.put, List.setIfInBounds_toArray, List.set_cons_zero, List.set_cons_succ])
      (refine o_pure (v := ?_) (by rfl) (fun w' => ?_) ?_; rotate_left; (focus (go_simp; (try with_reducible rfl))); (try simp only [Act.put, List.setIfInBounds_toArray, List.set_cons_zero, List.set_cons_succ]))
      (refine o_pure (v := ?_) (by rfl) (fun w' => ?_) ?_; rotate_left; (focus (go_simp; (try with_reducible rfl))); (try simp only [Act.put, List.setIfInBounds_toArray, List.set_cons_zero, List.set_cons_succ]))
      refine o_sole (fun K hK => ?_)
      go_wp2_with fail
      refine hK _ _ (fun _ => Ext.of ((Below.refl _ _).alloc (Nat.le_refl _) _)) ?_; clear hK K
      refine o_sole (fun K hK => ?_)
      go_wp2_with fail
      refine hK _ _ (fun h => by cases h) ?_; clear hK K
      refine o_nil (hQ.out _ _ ?_); clear hQ QQ
      generalize hA4 : wd.alloc (.cells #[.bool f, .bool p, .int .u64 (sq : Int), .int .u64 (ak : Int), .int .u32 (wn : Int), .int .u64 0] 38) = w4 at *
      have hk5 : Blk w4 wd.heap.size 38 #[.bool f, .bool p, .int .u64 (sq : Int), .int .u64 (ak : Int), .int .u32 (wn : Int), .int .u64 0] := by rw [← hA4]; exact Blk.new _ _ _
      have hb5 : Below wd.heap.size wd w4 := by rw [← hA4]; exact (Below.refl _ _).alloc (Nat.le_refl _) _
      clear hA4
      have K3 := Lib.hid (K2d.out.below hb5 K2d.out.lt)
      have B3 := Lib.hid (Bd.out.trans (hb5.mono Bd.out.size))
      have ct := (hb5.cell (p := ⟨g, 4, none⟩) (show g < wd.heap.size by first | exact hgl | (rw [HDZ.out]; exact hgl))).trans c4
      have hTN : T + 2 ≤ wd.heap.size := K2d.out.lt
      have s5 := (ptc6 hk5).2.2.2.2.2
      have s6 := hk5.frozen 5
      clear hb5 c0 c1 c2 c3 c4
      go_wp2_with fail
      refine (seal_any wd.heap.size 5 t _ w4 s5 s6).mono ?_
      rintro e w5 ⟨rfl, hw5⟩
      have hk6 : Blk w5 wd.heap.size 38 #[.bool f, .bool p, .int .u64 (sq : Int), .int .u64 (ak : Int), .int .u32 (wn : Int), .int .u64 (t : Int)] := by rw [hw5]; exact hk5.set 5 _
      have hs6 : Solo wd.heap.size w4 w5 := by rw [hw5]; exact Solo.refl.setCell 5 _
      have K5 := Lib.hid (hs6.blk K3.out (by omega))
      have B5 := Lib.hid (B3.out.trans (hs6.1.mono (by rw [← HT.out]; omega)))
      clear hw5 hs6 hk5 s5 s6 ct K3 B3
      obtain ⟨y0, y1, y2, y3, y4, y5⟩ := ptc6 hk6
      obtain ⟨z0, z1, z2, z3, z4, z5⟩ := ptc6 K5.out
      have f0 := K5.out.frozen 0
      have f1 := K5.out.frozen 1
      have f2 := K5.out.frozen 2
      have f3 := K5.out.frozen 3
      have f4 := K5.out.frozen 4
      have f5 := K5.out.frozen 5
      go_wp2_with fail
      have hkz := pt6 (.bool f) (.bool p) (.int .u64 (sq : Int)) (.int .u64 (ak : Int)) (.int .u32 (wn : Int)) (.int .u64 (t : Int)) K5.out
      have hbz := ptb6 (.bool f) (.bool p) (.int .u64 (sq : Int)) (.int .u64 (ak : Int)) (.int .u32 (wn : Int)) (.int .u64 (t : Int)) B5.out (show w.heap.size ≤ T + 1 by rw [← HT.out]; omega)
      unfold ptw6 at hkz hbz
      generalize (((((w5.setCell ⟨T + 1, 0, none⟩ (.bool f)).setCell ⟨T + 1, 1, none⟩ (.bool p)).setCell ⟨T + 1, 2, none⟩ (.int .u64 (sq : Int))).setCell ⟨T + 1, 3, none⟩ (.int .u64 (ak : Int))).setCell ⟨T + 1, 4, none⟩ (.int .u32 (wn : Int))).setCell ⟨T + 1, 5, none⟩ (.int .u64 (t : Int)) = wz at *
      clear z0 z1 z2 z3 z4 z5 f0 f1 f2 f3 f4 f5 y0 y1 y2 y3 y4 y5
      obtain ⟨z0, z1, z2, z3, z4, z5⟩ := ptc6 hkz
      exact bodyPost_ret (v := .tuple #[.agg #[.bool f, .bool p, .int .u64 (sq : Int), .int .u64 (ak : Int), .int .u32 (wn : Int), .int .u64 (t : Int)], .bool true]) (by simp [results, Try.results63, go_sem, z0, z1, z2, z3, z4, z5]) rfl ⟨.inl ⟨f, p, sq, ak, wn, t, rfl, HIS.out⟩, hbz⟩
  · have HNO := Lib.hid hno1
    clear hno1
    go_wp2_with fail
    have hkz := pt6 (.bool false) (.bool false) (.int .u64 0) (.int .u64 0) (.int .u32 0) (.int .u64 0) K2b.out
    have hbz := ptb6 (.bool false) (.bool false) (.int .u64 0) (.int .u64 0) (.int .u32 0) (.int .u64 0) B1.out (show w.heap.size ≤ T + 1 by rw [← HT.out]; omega)
    unfold ptw6 at hkz hbz
    generalize (((((w1.setCell ⟨T + 1, 0, none⟩ (.bool false)).setCell ⟨T + 1, 1, none⟩ (.bool false)).setCell ⟨T + 1, 2, none⟩ (.int .u64 0)).setCell ⟨T + 1, 3, none⟩ (.int .u64 0)).setCell ⟨T + 1, 4, none⟩ (.int .u32 0)).setCell ⟨T + 1, 5, none⟩ (.int .u64 0) = wz at *
    clear z0 z1 z2 z3 z4 z5 f0 f1 f2 f3 f4 f5
    obtain ⟨z0, z1, z2, z3, z4, z5⟩ := ptc6 hkz
    exact bodyPost_ret (v := .tuple #[.agg #[.bool false, .bool false, .int .u64 0, .int .u64 0, .int .u32 0, .int .u64 0], .bool false]) (by simp [results, Try.results63, go_sem, z0, z1, z2, z3, z4, z5]) rfl ⟨DataPost.no (fun f p sq ak wn t => dataNo HNO.out kd f p sq ak wn t), hbz⟩
end Go.Proofs.Ytbiimgfocgbdaaa
