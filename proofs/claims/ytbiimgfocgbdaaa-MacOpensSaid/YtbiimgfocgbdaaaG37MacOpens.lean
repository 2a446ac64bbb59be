/- Layer 8: the document's option of data. -/
import Derived.Test.YtbiimgfocgbdaaaG33MacOpens
import Derived.Test.YtbiimgfocgbdaaaG36MacOpens
import Derived.Test.YtbiimgfocgbdaaaOrd

namespace Go.Proofs.Ytbiimgfocgbdaaa
open Go.RowKit
set_option linter.unusedVariables false
set_option linter.unusedSimpArgs false

/-- What the document's broughamref08.ParseData answers. -/
def RDataPost (kd : Nat) (lb : List Nat) (e : Ending) : Prop :=
  (∃ (f p : Bool) (sq ak wn t : Nat), e = .returned (.tuple #[.agg #[.bool f, .bool p, .int .u64 (sq : Int), .int .u64 (ak : Int), .int .u32 (wn : Int), .int .u64 (t : Int)], .bool true]) ∧ DataIs kd lb f p sq ak wn t) ∨ (e = .returned (.tuple #[.agg #[.bool false, .bool false, .int .u64 0, .int .u64 0, .int .u32 0, .int .u64 0], .bool false]) ∧ ∀ (f p : Bool) (sq ak wn t : Nat), ¬ DataIs kd lb f p sq ak wn t)
theorem RDataPost.no {kd : Nat} {lb : List Nat} (h : ∀ (f p : Bool) (sq ak wn t : Nat), ¬ DataIs kd lb f p sq ak wn t) : RDataPost kd lb (.returned (.tuple #[.agg #[.bool false, .bool false, .int .u64 0, .int .u64 0, .int .u32 0, .int .u64 0], .bool false])) := .inr ⟨rfl, h⟩
set_option maxRecDepth 20000 in
set_option maxHeartbeats 4000000 in
theorem rparseData_any (kd : Nat) (A : Option Addr) (n c : Nat) (lb : List Nat) (w : World) (h : Rd w w.heap.size 1 A n (ns .u8 lb)) (hnc : n ≤ c) (hb : ∀ x ∈ lb, x < 256) (hn : n ≤ 10000) :
    Calls Try.prog 65 #[.agg #[.int .u8 (kd : Int), .slice A n c]] w fun e w' => RDataPost kd lb e ∧ Below w.heap.size w w' := by
  have hk1 := ((Blk.new w 45 #[.int .u8 (kd : Int), .slice A n c]).alloc (.cells #[.bool false, .bool false, .int .u64 0, .int .u64 0, .int .u32 0, .int .u64 0] 58)).alloc (.cells #[.int .i64 1, .int .i64 8, .int .i64 8, .int .i64 4, .int .i64 8] 3)
  have hk2 := (Blk.new (w.alloc (.cells #[.int .u8 (kd : Int), .slice A n c] 45)) 58 #[.bool false, .bool false, .int .u64 0, .int .u64 0, .int .u32 0, .int .u64 0]).alloc (.cells #[.int .i64 1, .int .i64 8, .int .i64 8, .int .i64 4, .int .i64 8] 3)
  rw [show (w.alloc (.cells #[.int .u8 (kd : Int), .slice A n c] 45)).heap.size = w.heap.size + 1 by simp] at hk2
  have hz3 : (((w.alloc (.cells #[.int .u8 (kd : Int), .slice A n c] 45)).alloc (.cells #[.bool false, .bool false, .int .u64 0, .int .u64 0, .int .u32 0, .int .u64 0] 58)).alloc (.cells #[.int .i64 1, .int .i64 8, .int .i64 8, .int .i64 4, .int .i64 8] 3)).heap.size = w.heap.size + 3 := by simp
  have hzs := Zats.lit (w := ((w.alloc (.cells #[.int .u8 (kd : Int), .slice A n c] 45)).alloc (.cells #[.bool false, .bool false, .int .u64 0, .int .u64 0, .int .u32 0, .int .u64 0] 58))) (e := 3) (k := .i64) (ss := [1, 8, 8, 4, 8]) (n := 5) #[.int .i64 1, .int .i64 8, .int .i64 8, .int .i64 4, .int .i64 8] rfl rfl (by unfold maxLen; omega)
  rw [show ((w.alloc (.cells #[.int .u8 (kd : Int), .slice A n c] 45)).alloc (.cells #[.bool false, .bool false, .int .u64 0, .int .u64 0, .int .u32 0, .int .u64 0] 58)).heap.size = w.heap.size + 2 by simp] at hzs
  have hb0 : Below w.heap.size w (((w.alloc (.cells #[.int .u8 (kd : Int), .slice A n c] 45)).alloc (.cells #[.bool false, .bool false, .int .u64 0, .int .u64 0, .int .u32 0, .int .u64 0] 58)).alloc (.cells #[.int .i64 1, .int .i64 8, .int .i64 8, .int .i64 4, .int .i64 8] 3)) := (((Below.refl _ _).alloc (Nat.le_refl _) _).alloc (by simp) _).alloc (by simp; omega) _
  have K1 := Lib.hid hk1
  have K2 := Lib.hid hk2
  have B0 := Lib.hid hb0
  have ZS := Lib.hid hzs
  have HB := Lib.hid hb
  have HR := Lib.hid h
  obtain ⟨q0, q1⟩ := ptc2 hk1
  clear hk1 hk2 hb0 hz3 hzs hb h
  go_enter Try.func65, Try.ntmps65
  go_wp2_with fail
  generalize ((w.alloc (.cells #[.int .u8 (kd : Int), .slice A n c] 45)).alloc (.cells #[.bool false, .bool false, .int .u64 0, .int .u64 0, .int .u32 0, .int .u64 0] 58)).alloc (.cells #[.int .i64 1, .int .i64 8, .int .i64 8, .int .i64 4, .int .i64 8] 3) = W at *
  obtain ⟨T, hT⟩ : ∃ T, T = w.heap.size := ⟨_, rfl⟩
  rw [← hT] at K1 K2 ZS q0 q1 ⊢
  have HT := Lib.hid hT
  clear hT
  refine (rall_any A (some ⟨T + 2, 0, none⟩) n 5 c 5 lb [1, 8, 8, 4, 8] W (HR.out.into B0.out) ZS.out.rd hnc HB.out (by omega) (by omega) (by omega)).mono ?_
  rintro e w1 ⟨hb1, hp⟩
  have K1b := Lib.hid (K1.out.below hb1 K1.out.lt)
  have K2b := Lib.hid (K2.out.below hb1 K2.out.lt)
  have B1 := Lib.hid (B0.out.trans (hb1.mono B0.out.size))
  clear K1 K2 ZS q0 q1 HR
  obtain ⟨z0, z1, z2, z3, z4, z5⟩ := ptc6 K2b.out
  have f0 := K2b.out.frozen 0
  have f1 := K2b.out.frozen 1
  have f2 := K2b.out.frozen 2
  have f3 := K2b.out.frozen 3
  have f4 := K2b.out.frozen 4
  have f5 := K2b.out.frozen 5
  obtain ⟨w0, w1'⟩ := ptc2 K1b.out
  rcases hp with ⟨xs, rest, v, A', n', c', hcut, rfl, hN, hn1, hn2, hr⟩ | ⟨hcut, rfl⟩
  rotate_left
  · have HNO := Lib.hid (show ∀ xs, cut lb [1, 8, 8, 4, 8] ≠ some (xs, []) from fun xs h => by rw [hcut] at h; cases h)
    clear hcut hb1
    by_cases hkd : kd = 3
    · subst hkd
      go_wp2_with fail
      have hkz := pt6 (.bool false) (.bool false) (.int .u64 0) (.int .u64 0) (.int .u32 0) (.int .u64 0) K2b.out
      have hbz := ptb6 (.bool false) (.bool false) (.int .u64 0) (.int .u64 0) (.int .u32 0) (.int .u64 0) B1.out (show w.heap.size ≤ T + 1 by rw [← HT.out]; omega)
      unfold ptw6 at hkz hbz
      generalize (((((w1.setCell ⟨T + 1, 0, none⟩ (.bool false)).setCell ⟨T + 1, 1, none⟩ (.bool false)).setCell ⟨T + 1, 2, none⟩ (.int .u64 0)).setCell ⟨T + 1, 3, none⟩ (.int .u64 0)).setCell ⟨T + 1, 4, none⟩ (.int .u32 0)).setCell ⟨T + 1, 5, none⟩ (.int .u64 0) = wz at *
      clear z0 z1 z2 z3 z4 z5 f0 f1 f2 f3 f4 f5
      obtain ⟨z0, z1, z2, z3, z4, z5⟩ := ptc6 hkz
      exact bodyPost_ret (v := .tuple #[.agg #[.bool false, .bool false, .int .u64 0, .int .u64 0, .int .u32 0, .int .u64 0], .bool false]) (by simp [results, Try.results65, go_sem, z0, z1, z2, z3, z4, z5]) rfl ⟨RDataPost.no (fun f p sq ak wn t => dataNo HNO.out 3 f p sq ak wn t), hbz⟩
    · have hkd1 : ((kd : Int) != 3) = true := by simp; omega
      clear hkd
      go_wp2_with fail
      have hkz := pt6 (.bool false) (.bool false) (.int .u64 0) (.int .u64 0) (.int .u32 0) (.int .u64 0) K2b.out
      have hbz := ptb6 (.bool false) (.bool false) (.int .u64 0) (.int .u64 0) (.int .u32 0) (.int .u64 0) B1.out (show w.heap.size ≤ T + 1 by rw [← HT.out]; omega)
      unfold ptw6 at hkz hbz
      generalize (((((w1.setCell ⟨T + 1, 0, none⟩ (.bool false)).setCell ⟨T + 1, 1, none⟩ (.bool false)).setCell ⟨T + 1, 2, none⟩ (.int .u64 0)).setCell ⟨T + 1, 3, none⟩ (.int .u64 0)).setCell ⟨T + 1, 4, none⟩ (.int .u32 0)).setCell ⟨T + 1, 5, none⟩ (.int .u64 0) = wz at *
      clear z0 z1 z2 z3 z4 z5 f0 f1 f2 f3 f4 f5
      obtain ⟨z0, z1, z2, z3, z4, z5⟩ := ptc6 hkz
      exact bodyPost_ret (v := .tuple #[.agg #[.bool false, .bool false, .int .u64 0, .int .u64 0, .int .u32 0, .int .u64 0], .bool false]) (by simp [results, Try.results65, go_sem, z0, z1, z2, z3, z4, z5]) rfl ⟨RDataPost.no (fun f p sq ak wn t => dataNo HNO.out kd f p sq ak wn t), hbz⟩
  have HCUT := Lib.hid hcut
  have HN := Lib.hid hN
  have HRL := Lib.hid hr.natLen
  clear hcut hN hr hb1
  by_cases hkd : kd = 3
  rotate_left
  · have hkd1 : ((kd : Int) != 3) = true := by simp; omega
    have HKD := Lib.hid hkd
    clear hkd
    go_wp2_with fail
    have hkz := pt6 (.bool false) (.bool false) (.int .u64 0) (.int .u64 0) (.int .u32 0) (.int .u64 0) K2b.out
    have hbz := ptb6 (.bool false) (.bool false) (.int .u64 0) (.int .u64 0) (.int .u32 0) (.int .u64 0) B1.out (show w.heap.size ≤ T + 1 by rw [← HT.out]; omega)
    unfold ptw6 at hkz hbz
    generalize (((((w1.setCell ⟨T + 1, 0, none⟩ (.bool false)).setCell ⟨T + 1, 1, none⟩ (.bool false)).setCell ⟨T + 1, 2, none⟩ (.int .u64 0)).setCell ⟨T + 1, 3, none⟩ (.int .u64 0)).setCell ⟨T + 1, 4, none⟩ (.int .u32 0)).setCell ⟨T + 1, 5, none⟩ (.int .u64 0) = wz at *
    clear z0 z1 z2 z3 z4 z5 f0 f1 f2 f3 f4 f5
    obtain ⟨z0, z1, z2, z3, z4, z5⟩ := ptc6 hkz
    exact bodyPost_ret (v := .tuple #[.agg #[.bool false, .bool false, .int .u64 0, .int .u64 0, .int .u32 0, .int .u64 0], .bool false]) (by simp [results, Try.results65, go_sem, z0, z1, z2, z3, z4, z5]) rfl ⟨RDataPost.no (fun f p sq ak wn t h => HKD.out h.hkd), hbz⟩
  subst hkd
  have hall : ∃ m sq ak wn t, xs = [m, sq, ak, wn, t] := nln5 (by have := (cut_says HB.out HCUT.out).2.1; simpa using this)
  obtain ⟨m, sq, ak, wn, t, rfl⟩ := hall
  obtain ⟨g, cg, rfl, hgB, hgl, hgc, hcell⟩ := nats_open HN.out (by simp)
  have c0 := hcell 0 _ rfl
  have c1 := hcell 1 _ rfl
  have c2 := hcell 2 _ rfl
  have c3 := hcell 3 _ rfl
  have c4 := hcell 4 _ rfl
  simp only [List.length_cons, List.length_nil] at hgc ⊢
  clear hcell
  by_cases hb2 : 3 < m
  · have hb3 : (3 : Int) < (m : Int) := by omega
    have HF := Lib.hid (show ∀ f p sq ak wn t, ¬ DataIs 3 lb f p sq ak wn t from by
      intro f p sq' ak' wn' t' hD
      have e := (cut_says HB.out HCUT.out).1
      rw [hD.hb] at e
      have k1 : m < 256 := (cut_says HB.out HCUT.out).2.2 0 m 1 rfl rfl
      unfold dataB at e
      simp only [bes, show be m (1 : Int).toNat = [m] from ope1 k1] at e
      injection e with e _
      have := bitN_lt f
      have := bitN_lt p
      omega)
    go_wp2_with fail
    have hkz := pt6 (.bool false) (.bool false) (.int .u64 0) (.int .u64 0) (.int .u32 0) (.int .u64 0) K2b.out
    have hbz := ptb6 (.bool false) (.bool false) (.int .u64 0) (.int .u64 0) (.int .u32 0) (.int .u64 0) B1.out (show w.heap.size ≤ T + 1 by rw [← HT.out]; omega)
    unfold ptw6 at hkz hbz
    generalize (((((w1.setCell ⟨T + 1, 0, none⟩ (.bool false)).setCell ⟨T + 1, 1, none⟩ (.bool false)).setCell ⟨T + 1, 2, none⟩ (.int .u64 0)).setCell ⟨T + 1, 3, none⟩ (.int .u64 0)).setCell ⟨T + 1, 4, none⟩ (.int .u32 0)).setCell ⟨T + 1, 5, none⟩ (.int .u64 0) = wz at *
    clear z0 z1 z2 z3 z4 z5 f0 f1 f2 f3 f4 f5
    obtain ⟨z0, z1, z2, z3, z4, z5⟩ := ptc6 hkz
    exact bodyPost_ret (v := .tuple #[.agg #[.bool false, .bool false, .int .u64 0, .int .u64 0, .int .u32 0, .int .u64 0], .bool false]) (by simp [results, Try.results65, go_sem, z0, z1, z2, z3, z4, z5]) rfl ⟨RDataPost.no (fun f p sq ak wn t => HF.out f p sq ak wn t), hbz⟩
  have hb3 : ¬ (3 : Int) < (m : Int) := by omega
  by_cases hr0 : n' = 0
  rotate_left
  · have hr1 : ((n' : Int) != 0) = true := by simp; omega
    have HF := Lib.hid (dataNo (lb := lb) (fun ys h => by
      have e := HCUT.out.symm.trans h
      injection e with e
      injection e with _ e
      have := HRL.out
      rw [e] at this
      simp at this
      omega))
    clear hr0
    go_wp2_with fail
    have hkz := pt6 (.bool false) (.bool false) (.int .u64 0) (.int .u64 0) (.int .u32 0) (.int .u64 0) K2b.out
    have hbz := ptb6 (.bool false) (.bool false) (.int .u64 0) (.int .u64 0) (.int .u32 0) (.int .u64 0) B1.out (show w.heap.size ≤ T + 1 by rw [← HT.out]; omega)
    unfold ptw6 at hkz hbz
    generalize (((((w1.setCell ⟨T + 1, 0, none⟩ (.bool false)).setCell ⟨T + 1, 1, none⟩ (.bool false)).setCell ⟨T + 1, 2, none⟩ (.int .u64 0)).setCell ⟨T + 1, 3, none⟩ (.int .u64 0)).setCell ⟨T + 1, 4, none⟩ (.int .u32 0)).setCell ⟨T + 1, 5, none⟩ (.int .u64 0) = wz at *
    clear z0 z1 z2 z3 z4 z5 f0 f1 f2 f3 f4 f5
    obtain ⟨z0, z1, z2, z3, z4, z5⟩ := ptc6 hkz
    exact bodyPost_ret (v := .tuple #[.agg #[.bool false, .bool false, .int .u64 0, .int .u64 0, .int .u32 0, .int .u64 0], .bool false]) (by simp [results, Try.results65, go_sem, z0, z1, z2, z3, z4, z5]) rfl ⟨RDataPost.no (fun f p sq ak wn t => HF.out 3 f p sq ak wn t), hbz⟩
  subst hr0
  obtain rfl : rest = [] := List.eq_nil_of_length_eq_zero HRL.out
  obtain ⟨m', sq', ak', wn', t', e5, hwn, hyes, _⟩ := dataS HB.out HCUT.out
  simp only [List.cons.injEq, and_true] at e5
  obtain ⟨rfl, rfl, rfl, rfl, rfl⟩ := e5
  have H_wn := Lib.hid hwn
  have HIS := Lib.hid (hyes (by omega))
  obtain ⟨f, hf⟩ : ∃ f, f = decide (m % 2 = 1) := ⟨_, rfl⟩
  obtain ⟨p, hp⟩ : ∃ p, p = decide (1 < m) := ⟨_, rfl⟩
  rw [← hf, ← hp] at HIS
  obtain ⟨m1, hm1, ef, ep⟩ : ∃ m1 : Int, (m : Int).tmod 2 = m1 ∧ (m1 == 1) = f ∧ decide ((m : Int) > 1) = p := by
    have : m = 0 ∨ m = 1 ∨ m = 2 ∨ m = 3 := by omega
    rcases this with rfl | rfl | rfl | rfl <;> exact ⟨_, rfl, by rw [hf]; rfl, by rw [hp]; rfl⟩
  have ep2 : decide ((1 : Int) < (m : Int)) = p := ep
  have wm1 : IntKind.u64.wrap m1 = m1 := by rw [← hm1, Int.tmod_eq_emod_of_nonneg (by omega), IntKind.wrap_u64]; omega
  clear hf hp hb2 hyes hwn
  go_wp2_with fail
  refine wp_ord [(0, .pure), (1, .pure), (2, .read), (3, .pure), (4, .pure), (5, .pure), (6, .pure), (7, .read), (8, .pure), (9, .pure), (10, .pure), (11, .read), (12, .pure), (13, .pure), (14, .read), (15, .pure), (16, .pure), (17, .read), (18, .pure), (19, .pure), (20, .pure), (21, .read), (22, .pure), (23, .sole), (24, .pure)] [23] (by kernel_rfl) (by kernel_rfl) (fun QQ hQ wd hwd => ?_); simp only [List.map_cons, List.map_nil, List.getD_cons_zero, List.getD_cons_succ]
  have hD : Below w1.heap.size w1 wd := by rw [hwd.out]; exact (Below.refl _ _).drew
  have hdc : ∀ a, wd.cell? a = w1.cell? a := fun a => by rw [hwd.out]; rfl
  rw [← hdc] at c0
  rw [← hdc] at c1
  rw [← hdc] at c2
  rw [← hdc] at c3
  rw [← hdc] at c4
  have K2d := Lib.hid (K2b.out.below hD K2b.out.lt)
  have Bd := Lib.hid (B1.out.trans (hD.mono B1.out.size))
  clear hdc hwd hD z0 z1 z2 z3 z4 z5 f0 f1 f2 f3 f4 f5
  obtain ⟨z0, z1, z2, z3, z4, z5⟩ := ptc6 K2d.out
  have f0 := K2d.out.frozen 0
  have f1 := K2d.out.frozen 1
  have f2 := K2d.out.frozen 2
  have f3 := K2d.out.frozen 3
  have f4 := K2d.out.frozen 4
  have f5 := K2d.out.frozen 5
  have v_wn : IntKind.u32.wrap (wn : Int) = (wn : Int) := by rw [IntKind.wrap_u32]; have := H_wn.out; unfold q32 at this; omega
  (refine o_pure (v := ?_) (by rfl) (fun w' => ?_) ?_; rotate_left; (focus (go_simp; (try with_reducible rfl))); (try simp only [Act.put, List.setIfInBounds_toArray, List.set_cons_zero, List.set_cons_succ]))
  (refine o_pure (v := ?_) (by rfl) (fun w' => ?_) ?_; rotate_left; (focus (go_simp; (try with_reducible rfl))); (try simp only [Act.put, List.setIfInBounds_toArray, List.set_cons_zero, List.set_cons_succ]))
  (refine o_load _ (by rfl) rfl rfl (by assumption) (by kernel_rfl) ?_; simp only [Act.put, List.setIfInBounds_toArray, List.set_cons_zero, List.set_cons_succ])
  (refine o_pure (v := ?_) (by rfl) (fun w' => ?_) ?_; rotate_left; (focus (go_simp; (try with_reducible rfl))); (try simp only [Act.put, List.setIfInBounds_toArray, List.set_cons_zero, List.set_cons_succ]))
  (refine o_pure (v := ?_) (by rfl) (fun w' => ?_) ?_; rotate_left; (focus (go_simp; (try with_reducible rfl))); (try simp only [Act.put, List.setIfInBounds_toArray, List.set_cons_zero, List.set_cons_succ]))
  (refine o_pure (v := ?_) (by rfl) (fun w' => ?_) ?_; rotate_left; (focus (go_simp; (try with_reducible rfl))); (try simp only [Act.put, List.setIfInBounds_toArray, List.set_cons_zero, List.set_cons_succ]))
  (refine o_pure (v := ?_) (by rfl) (fun w' => ?_) ?_; rotate_left; (focus (go_simp; (try with_reducible rfl))); (try simp only [Act.put, List.setIfInBounds_toArray, List.set_cons_zero, List.set_cons_succ]))
  (refine o_load _ (by rfl) rfl rfl (by assumption) (by kernel_rfl) ?_; simp only [Act.put, List.setIfInBounds_toArray, List.set_cons_zero, List.set_cons_succ])
  (refine o_pure (v := ?_) (by rfl) (fun w' => ?_) ?_; rotate_left; (focus (go_simp; (try with_reducible rfl))); (try simp only [Act.put, List.setIfInBounds_toArray, List.set_cons_zero, List.set_cons_succ]))
  (refine o_pure (v := ?_) (by rfl) (fun w' => ?_) ?_; rotate_left; (focus (go_simp; (try with_reducible rfl))); (try simp only [Act.put, List.setIfInBounds_toArray, List.set_cons_zero, List.set_cons_succ]))
  (refine o_pure (v := ?_) (by rfl) (fun w' => ?_) ?_; rotate_left; (focus (go_simp; (try with_reducible rfl))); (try simp only [Act.put, List.setIfInBounds_toArray, List.set_cons_zero, List.set_cons_succ]))
  (refine o_load _ (by rfl) rfl rfl (by assumption) (by kernel_rfl) ?_; simp only [Act.put, List.setIfInBounds_toArray, List.set_cons_zero, List.set_cons_succ])
  (refine o_pure (v := ?_) (by rfl) (fun w' => ?_) ?_; rotate_left; (focus (go_simp; (try with_reducible rfl))); (try simp only [Act.put, List.setIfInBounds_toArray, List.set_cons_zero, List.set_cons_succ]))
  (refine o_pure (v := ?_) (by rfl) (fun w' => ?_) ?_; rotate_left; (focus (go_simp; (try with_reducible rfl))); (try simp only [Act.put, List.setIfInBounds_toArray, List.set_cons_zero, List.set_cons_succ]))
  (refine o_load _ (by rfl) rfl rfl (by assumption) (by kernel_rfl) ?_; simp only [Act.put, List.setIfInBounds_toArray, List.set_cons_zero, List.set_cons_succ])
  (refine o_pure (v := ?_) (by rfl) (fun w' => ?_) ?_; rotate_left; (focus (go_simp; (try with_reducible rfl))); (try simp only [Act.put, List.setIfInBounds_toArray, List.set_cons_zero, List.set_cons_succ]))
  (refine o_pure (v := ?_) (by rfl) (fun w' => ?_) ?_; rotate_left; (focus (go_simp; (try with_reducible rfl))); (try simp only [Act.put, List.setIfInBounds_toArray, List.set_cons_zero, List.set_cons_succ]))
  (refine o_load _ (by rfl) rfl rfl (by assumption) (by kernel_rfl) ?_; simp only [Act.put, List.setIfInBounds_toArray, List.set_cons_zero, List.set_cons_succ])
  (refine o_pure (v := ?_) (by rfl) (fun w' => ?_) ?_; rotate_left; (focus (go_simp; (try with_reducible rfl))); (try simp only [Act.put, List.setIfInBounds_toArray, List.set_cons_zero, List.set_cons_succ]))
  (refine o_pure (v := ?_) (by rfl) (fun w' => ?_) ?_; rotate_left; (focus (go_simp; (try with_reducible rfl))); (try simp only [Act.put, List.setIfInBounds_toArray, List.set_cons_zero, List.set_cons_succ]))
  (refine o_pure (v := ?_) (by rfl) (fun w' => ?_) ?_; rotate_left; (focus (go_simp; (try with_reducible rfl))); (try simp only [Act.put, List.setIfInBounds_toArray, List.set_cons_zero, List.set_cons_succ]))
  (refine o_load _ (by rfl) rfl rfl (by assumption) (by kernel_rfl) ?_; simp only [Act.put, List.setIfInBounds_toArray, List.set_cons_zero, List.set_cons_succ])
  (refine o_pure (v := ?_) (by rfl) (fun w' => ?_) ?_; rotate_left; (focus (go_simp; (try with_reducible rfl))); (try simp only [Act.put, List.setIfInBounds_toArray, List.set_cons_zero, List.set_cons_succ]))
  refine o_sole (fun K hK => ?_)
  go_wp2_with fail
  refine hK _ _ (fun h => by cases h) ?_; clear hK K
  (refine o_pure (v := ?_) (by rfl) (fun w' => ?_) ?_; rotate_left; (focus (go_simp; (try with_reducible rfl))); (try simp only [Act.put, List.setIfInBounds_toArray, List.set_cons_zero, List.set_cons_succ]))
  refine o_nil (hQ.out _ _ ?_); clear hQ QQ
  have hkz := pt6 (.bool f) (.bool p) (.int .u64 (sq : Int)) (.int .u64 (ak : Int)) (.int .u32 (wn : Int)) (.int .u64 (t : Int)) K2d.out
  have hbz := ptb6 (.bool f) (.bool p) (.int .u64 (sq : Int)) (.int .u64 (ak : Int)) (.int .u32 (wn : Int)) (.int .u64 (t : Int)) Bd.out (show w.heap.size ≤ T + 1 by rw [← HT.out]; omega)
  unfold ptw6 at hkz hbz
  generalize (((((wd.setCell ⟨T + 1, 0, none⟩ (.bool f)).setCell ⟨T + 1, 1, none⟩ (.bool p)).setCell ⟨T + 1, 2, none⟩ (.int .u64 (sq : Int))).setCell ⟨T + 1, 3, none⟩ (.int .u64 (ak : Int))).setCell ⟨T + 1, 4, none⟩ (.int .u32 (wn : Int))).setCell ⟨T + 1, 5, none⟩ (.int .u64 (t : Int)) = wz at *
  clear z0 z1 z2 z3 z4 z5 f0 f1 f2 f3 f4 f5 c0 c1 c2 c3 c4
  obtain ⟨z0, z1, z2, z3, z4, z5⟩ := ptc6 hkz
  go_wp2_with fail
  exact bodyPost_ret (v := .tuple #[.agg #[.bool f, .bool p, .int .u64 (sq : Int), .int .u64 (ak : Int), .int .u32 (wn : Int), .int .u64 (t : Int)], .bool true]) (by simp [results, Try.results65, go_sem, z0, z1, z2, z3, z4, z5]) rfl ⟨.inl ⟨f, p, sq, ak, wn, t, rfl, HIS.out⟩, hbz⟩
end Go.Proofs.Ytbiimgfocgbdaaa
