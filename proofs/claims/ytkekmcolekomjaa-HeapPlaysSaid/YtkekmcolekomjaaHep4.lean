/- Package heap: Take. -/
import Derived.Test.YtkekmcolekomjaaHep3
namespace Go.Proofs.Ytkekmcolekomjaa
open Go.RowKit
set_option linter.unusedVariables false
set_option linter.unusedSimpArgs false
set_option maxRecDepth 20000 in
theorem htake_nil (g B most puts : Nat) (v : Value) (w : World) (h : HpI w g B most puts v []) :
    Calls Try.prog 16 #[.pointer (some ⟨g, 0, none⟩)] w fun e w' => e = .returned (.tuple #[itv 0 0, .bool false]) ∧ Below w.heap.size w w' := by
  unfold itv
  have HF : Hid (∀ w', Below w.heap.size w w' → Calls Try.prog 22 #[.pointer (some ⟨g, 0, none⟩)] w' fun e w'' => e = .returned (.tuple #[.agg #[.int .i64 0, .int .i64 0], .bool false]) ∧ Below w'.heap.size w' w'') := Lib.hid fun w' hb => hfirst_nil g B most puts v w' (h.into hb)
  clear h
  go_enter Try.func16, Try.ntmps16
  go_upto_region 1 with fail
  have k2 := Lib.hid (Blk.new w 42 #[.int .i64 0, .int .i64 0])
  have b2 := Lib.hid ((Below.refl w.heap.size w).alloc (Nat.le_refl _) (.cells #[.int .i64 0, .int .i64 0] 42))
  generalize w.alloc (.cells #[.int .i64 0, .int .i64 0] 42) = w2 at k2 b2 ⊢
  go_wp2_with fail
  refine (HF.out w2 b2.out).mono ?_
  rintro e w3 ⟨rfl, hb3⟩
  have k3 := Lib.hid (k2.out.below hb3 k2.out.lt)
  have b3 := Lib.hid (b2.out.trans (hb3.mono b2.out.size))
  clear hb3 k2 b2 HF
  obtain ⟨z0, z1⟩ := ptc2 k3.out
  have f0 := k3.out.frozen 0
  have f1 := k3.out.frozen 1
  have hlt := k3.out.lt
  go_wp2_with fail
  have k4 := Lib.hid ((pt2 (.int .i64 0) (.int .i64 0) k3.out).alloc (.cells #[.int .i64 0, .int .i64 0] 42))
  have b4 := Lib.hid ((b3.out.trans ((pts2 (.int .i64 0) (.int .i64 0) (w := w3) (T := w.heap.size)).1)).alloc (by unfold ptw2; simp; omega) (.cells #[.int .i64 0, .int .i64 0] 42))
  unfold ptw2 at k4 b4
  clear z0 z1 f0 f1
  generalize ((w3.setCell ⟨w.heap.size, 0, none⟩ (.int .i64 0)).setCell ⟨w.heap.size, 1, none⟩ (.int .i64 0)).alloc (.cells #[.int .i64 0, .int .i64 0] 42) = w4 at k4 b4 ⊢
  obtain ⟨z0, z1⟩ := ptc2 k4.out
  exact bodyPost_ret (v := .tuple #[.agg #[.int .i64 0, .int .i64 0], .bool false]) (by simp [results, Try.results16, go_sem, z0, z1]) rfl ⟨rfl, b4.out⟩
theorem popN_of {l : List Nd} {m : Nat} (hl : l.length = m + 1) (z : Nd) : (((l.set 0 (gN l m)).set m z).take m) = popN l := by
  unfold popN
  rw [hl, show m + 1 - 1 = m by omega]
  refine List.ext_getElem? fun k => ?_
  rw [List.getElem?_take, List.getElem?_take]
  by_cases hk : k < m
  · rw [if_pos hk, if_pos hk, List.getElem?_set_ne (by omega)]
  · rw [if_neg hk, if_neg hk]
set_option maxRecDepth 20000 in
set_option maxHeartbeats 2000000 in
theorem htake_cons (g B most puts : Nat) (v : Value) (x : Nd) (R : List Nd) (w : World) (h : HpI w g B most puts v (x :: R)) :
    Calls Try.prog 16 #[.pointer (some ⟨g, 0, none⟩)] w fun e w' => e = .returned (.tuple #[itv x.1 x.2.1, .bool true]) ∧ (∃ v', HpI w' g B most puts v' R ∧ KeptH g v v' w w') ∧ Below B w w' := by
  unfold itv
  have HI := Lib.hid h
  have HF : Hid (∀ w', Below w.heap.size w w' → Calls Try.prog 22 #[.pointer (some ⟨g, 0, none⟩)] w' fun e w'' => e = .returned (.tuple #[.agg #[.int .i64 x.1, .int .i64 x.2.1], .bool true]) ∧ Below w'.heap.size w' w'') := Lib.hid fun w' hb => hfirst_cons g B most puts v x R w' (HI.out.into hb)
  obtain ⟨rb, c, l, rfl, hB, hob, hr, hh, hp⟩ := h.open_ (by simp)
  have HPP := Lib.hid (pop_perm hh hp h.srt)
  have HDD := Lib.hid (HD.pop hh)
  have HOB := Lib.hid hob
  obtain ⟨m, hm⟩ : ∃ m, m = R.length := ⟨_, rfl⟩
  have hll : l.length = m + 1 := by rw [hp.length_eq, hm]; rfl
  have HLL := Lib.hid hll
  have hmm : m < 65536 := by have := h.len; have := h.ms; rw [List.length_cons, ← hm] at *; omega
  have HR : Hid (HpR w g rb most puts (m + 1) c l) := Lib.hid (by rw [hm]; exact hr)
  have HM := Lib.hid hm
  obtain ⟨⟨la, lw, lo⟩, hla⟩ : ∃ y, y = gN l m := ⟨_, rfl⟩
  have HLA := Lib.hid (show l[m]? = some (la, lw, lo) by rw [hla]; exact gN_some (by omega))
  have HPO := Lib.hid (popN_of hll (0, 0, 0))
  rw [← hla] at HPO
  have hBg := HI.out.bg
  have hglt := HI.out.lt
  obtain ⟨xa, xw, xo⟩ := x
  dsimp only at HF ⊢
  have hl1 : (List.length ((xa, xw, xo) :: R)) = m + 1 := by rw [hm]; rfl
  rw [hl1] at HOB ⊢
  clear h hr hh hp hob hll hm hla hl1
  go_enter Try.func16, Try.ntmps16
  go_upto_region 1 with fail
  have k2 := Lib.hid (Blk.new w 42 #[.int .i64 0, .int .i64 0])
  have b2 := Lib.hid ((Below.refl w.heap.size w).alloc (Nat.le_refl _) (.cells #[.int .i64 0, .int .i64 0] 42))
  obtain ⟨ib, hib⟩ : ∃ x, x = w.heap.size := ⟨_, rfl⟩
  rw [← hib] at k2 ⊢
  have HIB := Lib.hid hib
  clear hib
  generalize w.alloc (.cells #[.int .i64 0, .int .i64 0] 42) = w2 at k2 b2 ⊢
  go_wp2_with fail
  refine (HF.out w2 b2.out).mono ?_
  rintro e w3 ⟨rfl, hb3⟩
  have k3 := Lib.hid (k2.out.below hb3 k2.out.lt)
  have b3 := Lib.hid (b2.out.trans (hb3.mono b2.out.size))
  clear hb3 k2 b2 HF
  go_upto_region 4 with fail
  have k4 := Lib.hid (Blk.new w3 42 #[.int .i64 xa, .int .i64 xw])
  have hA := (Below.refl w3.heap.size w3).alloc (Nat.le_refl _) (.cells #[.int .i64 xa, .int .i64 xw] 42)
  have b4 := Lib.hid (b3.out.trans (hA.mono b3.out.size))
  have j4 := Lib.hid (k3.out.below hA k3.out.lt)
  have r4 : Hid (HpR (w3.alloc (.cells #[.int .i64 xa, .int .i64 xw] 42)) g rb most puts (m + 1) c l) := Lib.hid ⟨HR.out.blk.below b4.out HR.out.blk.lt, HR.out.row.same (b4.out.block rb HR.out.row.lt), HR.out.len, HR.out.cm, HR.out.ms⟩
  obtain ⟨jb, hjb⟩ : ∃ x, x = w3.heap.size := ⟨_, rfl⟩
  have hij := k3.out.lt
  rw [← hjb] at k4 hij ⊢
  have HJB := Lib.hid hjb
  clear hjb
  generalize w3.alloc (.cells #[.int .i64 xa, .int .i64 xw] 42) = w4 at k4 b4 j4 r4 ⊢
  clear hA k3 b3
  obtain ⟨c0, c1, c2⟩ := ptc3 r4.out.blk
  have hnc := r4.out.nc
  have hcm := r4.out.cm
  unfold maxLen at hcm
  have hgb : g < ib := by rw [HIB.out]; exact hglt
  have hrb : rb < ib := by rw [HIB.out]; exact HR.out.row.lt
  have hgr := r4.out.ne
  have hm1 : (m : Int) < (m : Int) + 1 := by omega
  have hm2 : (0 : Int) < (m : Int) + 1 := by omega
  go_wp2_with fail
  refine wp_ord [(0, .pure), (1, .pure), (2, .pure), (3, .read), (4, .pure), (5, .pure), (6, .pure), (7, .read), (8, .pure), (9, .pure), (10, .read), (11, .pure), (12, .sole)] [12] (by kernel_rfl) (by kernel_rfl) (fun QQ hQ wd hwd => ?_); simp only [List.map_cons, List.map_nil, List.getD_cons_zero, List.getD_cons_succ]
  have hD : Below w4.heap.size w4 wd := by rw [hwd.out]; exact (Below.refl _ _).drew
  have b5 := Lib.hid (b4.out.trans (hD.mono b4.out.size))
  have k5 := Lib.hid (k4.out.below hD k4.out.lt)
  have j5 := Lib.hid (j4.out.below hD j4.out.lt)
  have r5 : Hid (HpR wd g rb most puts (m + 1) c l) := Lib.hid ⟨r4.out.blk.below hD r4.out.blk.lt, r4.out.row.same (hD.block rb r4.out.row.lt), r4.out.len, r4.out.cm, r4.out.ms⟩
  clear hD hwd c0 c1 c2 b4 k4 j4 r4
  obtain ⟨c0, c1, c2⟩ := ptc3 r5.out.blk
  (refine o_pure (v := ?_) (by rfl) (fun w' => ?_) ?_; rotate_left; (focus (go_simp; (try with_reducible rfl); (try (rw [if_pos (by omega)]; (try with_reducible rfl))))); (try simp only [Act.put, List.setIfInBounds_toArray, List.set_cons_zero, List.set_cons_succ]))
  (refine o_pure (v := ?_) (by rfl) (fun w' => ?_) ?_; rotate_left; (focus (go_simp; (try with_reducible rfl); (try (rw [if_pos (by omega)]; (try with_reducible rfl))))); (try simp only [Act.put, List.setIfInBounds_toArray, List.set_cons_zero, List.set_cons_succ]))
  (refine o_pure (v := ?_) (by rfl) (fun w' => ?_) ?_; rotate_left; (focus (go_simp; (try with_reducible rfl); (try (rw [if_pos (by omega)]; (try with_reducible rfl))))); (try simp only [Act.put, List.setIfInBounds_toArray, List.set_cons_zero, List.set_cons_succ]))
  (refine o_load _ (by rfl) rfl rfl (by assumption) (by kernel_rfl) ?_; simp only [Act.put, List.setIfInBounds_toArray, List.set_cons_zero, List.set_cons_succ])
  (refine o_pure (v := ?_) (by rfl) (fun w' => ?_) ?_; rotate_left; (focus (go_simp; (try with_reducible rfl); (try (rw [if_pos (by omega)]; (try with_reducible rfl))))); (try simp only [Act.put, List.setIfInBounds_toArray, List.set_cons_zero, List.set_cons_succ]))
  (refine o_pure (v := ?_) (by rfl) (fun w' => ?_) ?_; rotate_left; (focus (go_simp; (try with_reducible rfl); (try (rw [if_pos (by omega)]; (try with_reducible rfl))))); (try simp only [Act.put, List.setIfInBounds_toArray, List.set_cons_zero, List.set_cons_succ]))
  (refine o_pure (v := ?_) (by rfl) (fun w' => ?_) ?_; rotate_left; (focus (go_simp; (try with_reducible rfl); (try (rw [if_pos (by omega)]; (try with_reducible rfl))))); (try simp only [Act.put, List.setIfInBounds_toArray, List.set_cons_zero, List.set_cons_succ]))
  (refine o_load _ (by rfl) rfl rfl (by assumption) (by kernel_rfl) ?_; simp only [Act.put, List.setIfInBounds_toArray, List.set_cons_zero, List.set_cons_succ])
  (refine o_pure (v := ?_) (by rfl) (fun w' => ?_) ?_; rotate_left; (focus (go_simp; (try with_reducible rfl); (try (rw [if_pos (by omega)]; (try with_reducible rfl))))); (try simp only [Act.put, List.setIfInBounds_toArray, List.set_cons_zero, List.set_cons_succ]))
  (refine o_pure (v := ?_) (by rfl) (fun w' => ?_) ?_; rotate_left; (focus (go_simp; (try with_reducible rfl); (try (rw [if_pos (by omega)]; (try with_reducible rfl))))); (try simp only [Act.put, List.setIfInBounds_toArray, List.set_cons_zero, List.set_cons_succ]))
  (refine o_loads _ [.int .i64 la, .int .i64 lw, .int .i64 (lo : Int)] (by rfl) rfl rfl (r5.out.row.loads HLA.out) (Nat.succ_pos _) (by kernel_rfl) (by kernel_rfl) ?_; simp only [Act.put, List.setIfInBounds_toArray, List.set_cons_zero, List.set_cons_succ])
  (refine o_pure (v := ?_) (by rfl) (fun w' => ?_) ?_; rotate_left; (focus (go_simp; (try with_reducible rfl); (try (rw [if_pos (by omega)]; (try with_reducible rfl))))); (try simp only [Act.put, List.setIfInBounds_toArray, List.set_cons_zero, List.set_cons_succ]))
  obtain ⟨u0, u1, u2⟩ := r5.out.row.get (gN_some (l := l) (i := 0) (by rw [HLL.out]; omega))
  have f0 := r5.out.row.frozen 0
  have f1 := r5.out.row.frozen 1
  have f2 := r5.out.row.frozen 2
  simp only [Nat.zero_mul, Nat.zero_add] at u0 u1 u2
  refine o_sole (fun K hK => ?_)
  go_wp2_with fail
  refine hK _ _ (fun h => by cases h) ?_; clear hK K
  refine o_nil (hQ.out _ _ ?_); clear hQ QQ
  have hs6 : Solo rb wd (((wd.setCell ⟨rb, 0, none⟩ (.int .i64 la)).setCell ⟨rb, 1, none⟩ (.int .i64 lw)).setCell ⟨rb, 2, none⟩ (.int .i64 (lo : Int))) := ((Solo.refl.setCell _ _).setCell _ _).setCell _ _
  have q6 := r5.out.row.set (i := 0) (by rw [HLL.out]; omega) (la, lw, lo)
  simp only [Nat.zero_mul, Nat.zero_add] at q6
  have r6 : Hid (HpR (((wd.setCell ⟨rb, 0, none⟩ (.int .i64 la)).setCell ⟨rb, 1, none⟩ (.int .i64 lw)).setCell ⟨rb, 2, none⟩ (.int .i64 (lo : Int))) g rb most puts (m + 1) c (l.set 0 (la, lw, lo))) := Lib.hid ⟨hs6.blk r5.out.blk hgr, q6, by rw [List.length_set]; exact r5.out.len, r5.out.cm, r5.out.ms⟩
  have s6 := Lib.hid hs6
  have k6 := Lib.hid (hs6.blk k5.out (by omega))
  have j6 := Lib.hid (hs6.blk j5.out (by omega))
  clear hs6 q6 c0 c1 c2 u0 u1 u2 f0 f1 f2 k5 j5 r5
  generalize (((wd.setCell ⟨rb, 0, none⟩ (.int .i64 la)).setCell ⟨rb, 1, none⟩ (.int .i64 lw)).setCell ⟨rb, 2, none⟩ (.int .i64 (lo : Int))) = w6 at r6 s6 k6 j6 ⊢
  obtain ⟨c0, c1, c2⟩ := ptc3 r6.out.blk
  obtain ⟨u0, u1, u2⟩ := r6.out.row.get (gN_some (l := l.set 0 (la, lw, lo)) (i := m) (by rw [List.length_set, HLL.out]; omega))
  have f0 := r6.out.row.frozen (m * 3)
  have f1 := r6.out.row.frozen (m * 3 + 1)
  have f2 := r6.out.row.frozen (m * 3 + 2)
  go_upto_region 7 with fail
  have hs7 : Solo rb w6 (((w6.setCell ⟨rb, m * 3, none⟩ (.int .i64 0)).setCell ⟨rb, m * 3 + 1, none⟩ (.int .i64 0)).setCell ⟨rb, m * 3 + 2, none⟩ (.int .i64 0)) := ((Solo.refl.setCell _ _).setCell _ _).setCell _ _
  have q7 := r6.out.row.set (i := m) (by rw [List.length_set, HLL.out]; omega) (0, 0, 0)
  have r7 : Hid (HpR (((w6.setCell ⟨rb, m * 3, none⟩ (.int .i64 0)).setCell ⟨rb, m * 3 + 1, none⟩ (.int .i64 0)).setCell ⟨rb, m * 3 + 2, none⟩ (.int .i64 0)) g rb most puts (m + 1) c ((l.set 0 (la, lw, lo)).set m (0, 0, 0))) := Lib.hid ⟨hs7.blk r6.out.blk hgr, q7, by rw [List.length_set]; exact r6.out.len, r6.out.cm, r6.out.ms⟩
  have s7 := Lib.hid (s6.out.trans hs7)
  have k7 := Lib.hid (hs7.blk k6.out (by omega))
  have j7 := Lib.hid (hs7.blk j6.out (by omega))
  clear hs7 q7 c0 c1 c2 u0 u1 u2 f0 f1 f2 k6 j6 r6 s6
  generalize (((w6.setCell ⟨rb, m * 3, none⟩ (.int .i64 0)).setCell ⟨rb, m * 3 + 1, none⟩ (.int .i64 0)).setCell ⟨rb, m * 3 + 2, none⟩ (.int .i64 0)) = w7 at r7 s7 k7 j7 ⊢
  obtain ⟨c0, c1, c2⟩ := ptc3 r7.out.blk
  have f2 := r7.out.blk.frozen 2
  have hc0 : ¬ c = 0 := by omega
  have hmc : (m : Int) ≤ (c : Int) := by omega
  go_upto_region 8 with fail
  have hs8 : Solo g w7 (w7.setCell ⟨g, 2, none⟩ (.slice (some ⟨rb, 0, none⟩) m c)) := Solo.refl.setCell 2 _
  have q8 := (r7.out.row.same (hs8.2.2 rb (Ne.symm hgr))).cut m
  rw [HPO.out] at q8
  have r8 : Hid (HpR (w7.setCell ⟨g, 2, none⟩ (.slice (some ⟨rb, 0, none⟩) m c)) g rb most puts m c (popN l)) := Lib.hid ⟨r7.out.blk.set 2 _, q8, by rw [popN_len, HLL.out]; omega, r7.out.cm, by omega⟩
  have k8 := Lib.hid (hs8.blk k7.out (by omega))
  have j8 := Lib.hid (hs8.blk j7.out (by omega))
  have s8 := Lib.hid hs8
  clear hs8 q8 c0 c1 c2 f2 k7 j7 r7
  generalize w7.setCell ⟨g, 2, none⟩ (.slice (some ⟨rb, 0, none⟩) m c) = w8 at r8 s8 k8 j8 ⊢
  go_wp2_with fail
  refine (hsink_any g rb most puts m c _ w8 r8.out HDD.out).mono ?_
  rintro e w9 ⟨rfl, ⟨l9, hh9, hp9, hr9⟩, hs9⟩
  have HH9 := Lib.hid hh9
  have HP9 := Lib.hid (hp9.trans HPP.out)
  have R9 := Lib.hid hr9
  have S9 := Lib.hid hs9
  have k9 := Lib.hid (hs9.blk k8.out (by omega))
  have j9 := Lib.hid (hs9.blk j8.out (by omega))
  clear hh9 hp9 hr9 hs9 k8 j8 r8
  obtain ⟨z0, z1⟩ := ptc2 k9.out
  obtain ⟨y0, y1⟩ := ptc2 j9.out
  have f0 := j9.out.frozen 0
  have f1 := j9.out.frozen 1
  go_wp2_with fail
  have hs10 : Solo ib w9 (ptw2 w9 ib (.int .i64 xa) (.int .i64 xw)) := pts2 _ _
  have k10 := pt2 (.int .i64 xa) (.int .i64 xw) j9.out
  unfold ptw2 at hs10 k10
  have K10 := Lib.hid k10
  have S10 := Lib.hid hs10
  clear k10 hs10 z0 z1 y0 y1 f0 f1
  generalize (w9.setCell ⟨ib, 0, none⟩ (.int .i64 xa)).setCell ⟨ib, 1, none⟩ (.int .i64 xw) = w10 at K10 S10 ⊢
  obtain ⟨z0, z1⟩ := ptc2 K10.out
  refine bodyPost_ret (v := .tuple #[.agg #[.int .i64 xa, .int .i64 xw], .bool true]) (by simp [results, Try.results16, go_sem, z0, z1]) rfl ⟨rfl, ⟨_, ⟨(S10.out.blk R9.out.blk (by omega)), ⟨l9, ?_, HH9.out, HP9.out⟩, (List.pairwise_cons.1 HI.out.srt).2, fun y hy => HI.out.ords y (List.mem_cons_of_mem _ hy), ?_, HI.out.ms, HI.out.pm, hBg⟩, ?_, ?_, ?_⟩, ?_⟩
  · exact own_kept (R9.out.shut hB) fun k hk => S10.out.2.2 k (fun e => by
      simp [Value.ownBlock] at hk
      omega)
  · have := HI.out.len; simp at this; omega
  · intro k hk hg hv
    have hkr : k ≠ rb := fun e => by subst e; exact hv HOB.out
    have h1 : wd.heap[k]? = w.heap[k]? := b5.out.block k hk
    have h2 : w7.heap[k]? = wd.heap[k]? := s7.out.2.2 k hkr
    have h3 : w8.heap[k]? = w7.heap[k]? := s8.out.2.2 k hg
    have h4 : w9.heap[k]? = w8.heap[k]? := S9.out.2.2 k hkr
    have h5 : w10.heap[k]? = w9.heap[k]? := S10.out.2.2 k (by have := HIB.out; omega)
    exact h5.trans (h4.trans (h3.trans (h2.trans h1)))
  · intro k hk
    left
    rw [HOB.out]
    simp [Value.ownBlock] at hk
    rw [hk]
  · rw [S10.out.2.1, S9.out.2.1, s8.out.2.1, s7.out.2.1]
    exact b5.out.size
  · have hBw : B ≤ w.heap.size := by omega
    exact ((((b5.out.mono hBw).trans (s7.out.1.mono hB)).trans (s8.out.1.mono hBg)).trans (S9.out.1.mono hB)).trans (S10.out.1.mono (by have := HIB.out; omega))
end Go.Proofs.Ytkekmcolekomjaa
