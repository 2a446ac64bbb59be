/- Layer 5: the law RingSets answers true, and nothing that was there has turned. -/
import Derived.Test.YtefnojomjdeghaaLawRgO
import Derived.Test.YtefnojomjdeghaaUnd
import Derived.Test.YtefnojomjdeghaaUnd2
import Derived.Test.YtefnojomjdeghaaPass
namespace Go.Proofs.Ytefnojomjdeghaa
open Go.RowKit
set_option linter.unusedVariables false
set_option maxHeartbeats 2000000 in
set_option maxRecDepth 20000 in
theorem ringSets_walk (size : Int) (A : Option Addr) (n c : Nat) (la : List Nat) (A2 : Option Addr) (n2 c2 : Nat) (lb : List Nat) (w : World) (hz : (Lit.int .i64 size).wf = true) (ha : Rd w w.heap.size 1 A n (ns .u8 la)) (hnc : n ≤ c) (hmax : c ≤ maxLen) (ha256 : ∀ x ∈ la, x < 256)
    (hb : Rd w w.heap.size 1 A2 n2 (ns .u8 lb)) (hnc2 : n2 ≤ c2) (hmax2 : c2 ≤ maxLen) (hb256 : ∀ x ∈ lb, x < 256) :
    Calls Try.prog 4 #[.int .i64 size, .slice A n c, .slice A2 n2 c2] w fun e w' => e = .returned (.bool true) ∧ Below w.heap.size w w' := by
  have HA := Lib.hid ha; have HB := Lib.hid hb; have HA2 := Lib.hid ha256; have HB2 := Lib.hid hb256
  have HLA := Lib.hid ha.natLen; have HLB := Lib.hid hb.natLen
  unfold maxLen at hmax hmax2
  have hz' := bounds_i64 hz
  have HZ := Lib.hid hz'
  clear ha hb ha256 hb256 hz hz'
  by_cases h1 : size < 1
  · go_enter Try.func4, Try.ntmps4
    go_wp2_with fail
    go_ret
    exact ⟨rfl, Below.refl _ _⟩
  by_cases h2 : 500 < size
  · go_enter Try.func4, Try.ntmps4
    go_wp2_with fail
    go_ret
    exact ⟨rfl, Below.refl _ _⟩
  obtain ⟨z, rfl⟩ : ∃ z : Nat, size = (z : Int) := ⟨size.toNat, by omega⟩
  have hz1 : 1 ≤ z := by omega
  have hz2 : z ≤ 500 := by omega
  clear h1 h2
  have h1 : (1 : Int) ≤ (z : Int) := by omega
  have h2 : (z : Int) ≤ 500 := by omega
  by_cases hn : 300 < n
  · have hn' : (300 : Int) < (n : Int) := by omega
    go_enter Try.func4, Try.ntmps4
    go_wp2_with fail
    go_ret
    exact ⟨rfl, Below.refl _ _⟩
  have hn3 : n ≤ 300 := by omega
  have hn4 : (n : Int) ≤ 300 := by omega
  clear hn
  by_cases hn : 300 < n2
  · have hn' : (300 : Int) < (n2 : Int) := by omega
    go_enter Try.func4, Try.ntmps4
    go_wp2_with fail
    go_ret
    exact ⟨rfl, Below.refl _ _⟩
  have hn5 : n2 ≤ 300 := by omega
  have hn6 : (n2 : Int) ≤ 300 := by omega
  clear hn
  go_enter Try.func4, Try.ntmps4
  go_wp2_with fail
  refine (new_any z w hz1 (by omega)).mono ?_
  rintro e w1 ⟨g, p, rfl, hg, hp, hb1, hr1⟩
  have HR1 := Lib.hid hr1
  have HM := Lib.hid hmax
  have HM2 := Lib.hid hmax2
  clear hr1 hmax hmax2
  go_wp2_with fail
  refine (write_any g p z 0 n c _ A _ la w1 HR1.out (HA.out.below hb1) HA2.out (HA.out.apt hp) hnc (by omega)).mono ?_
  rintro e w2 ⟨rfl, hd2, hr2⟩
  rw [Nat.zero_add, Nat.sub_zero] at hr2
  rw [Nat.sub_zero]
  obtain ⟨k, hk⟩ : ∃ k, k = min n z := ⟨_, rfl⟩
  rw [← hk] at hr2 ⊢
  have hk1 : k ≤ n := by omega
  have hk2 : k ≤ z := by omega
  have hb2 := hb1.trans (hd2.below hg hp)
  have HR2 := Lib.hid hr2
  clear hr2 hd2 hk HR1 hb1
  go_wp2_with fail
  refine (skip_any g p z k _ _ w2 HR2.out (k / 2) (by omega) (by omega)).mono ?_
  rintro e w3 ⟨rfl, hd3, hr3⟩
  obtain ⟨h, hh⟩ : ∃ h, h = k / 2 := ⟨_, rfl⟩
  rw [← hh] at hr3 ⊢
  have hh1 : h ≤ k := by omega
  have hh2 : h < k ∨ k = 0 := by omega
  obtain ⟨t, ht⟩ : ∃ t, t = k - h := ⟨_, rfl⟩
  rw [← ht] at hr3
  have ht1 : t + h = k := by omega
  have hb3 := hb2.trans (hd3.below hg hp)
  have htake : ((spl (List.replicate z 0) 0 (la.take k)).drop h ++ List.replicate h 0).take t = (la.drop h).take t := by
    have hl : (la.take k).length = k := by rw [List.length_take, HLA.out]; omega
    unfold spl
    rw [List.take_zero, List.nil_append, List.drop_append_of_le_length (by rw [hl]; omega), List.append_assoc, List.take_append_of_le_length (by rw [List.length_drop, hl]; omega), List.drop_take, ← ht, List.take_take, Nat.min_self]
  generalize (spl (List.replicate z 0) 0 (la.take k)).drop h ++ List.replicate h 0 = L1 at hr3 htake
  have HR3 := Lib.hid hr3
  have HT := Lib.hid htake
  have HT1 := Lib.hid ht1
  clear hr3 hd3 hb2 HR2 hh ht htake ht1
  go_wp2_with fail
  refine (lenR g p z t _ w3 HR3.out).mono ?_
  rintro e w4 ⟨rfl, rfl⟩
  have htz := HR3.out.ts
  have htz' : (t : Int) ≤ (z : Int) := by omega
  go_wp2_with fail
  refine (set_any g p z t t n2 c2 _ A2 L1 lb w4 HR3.out (HB.out.below hb3) HB2.out (HB.out.apt hp) hnc2 (by omega) htz).mono ?_
  rintro e w5 ⟨rfl, hd5, hr5⟩
  have hb5 := hb3.trans (hd5.below hg hp)
  clear hd5 hb3
  have hkn : k ≤ c := by omega
  have hkn' : (k : Int) ≤ (c : Int) := by omega
  have hhk' : (h : Int) ≤ (k : Int) := by omega
  have hk1' : (k : Int) ≤ (n : Int) := by omega
  have hkh : k - h = t := by have := HT1.out; omega
  have hsl := (HA.out.dropN (m := h) (cap := c) (by omega) hnc).takeN (m := t) (by have := HT1.out; omega)
  have HKH := Lib.hid hkh
  clear hkh
  have hrun := run_cut elB A n c h k hh1 (by omega)
  have hrun2 : ∀ w, (Instr.sliceAt 28 (.slice A n c) (some (.int .i64 (h : Int))) (some (.int .i64 (k : Int))) none).run Try.prog w = .ok (.slice (if c = h then A else A.map (·.add h)) (k - h) (c - h)) w := by
    intro w
    have hu : Try.prog.underlying 28 = some (.slice (Try.prog.elem 28)) := by unfold Program.elem; rw [Try.underlying28]
    rw [run_sliceAt_slice w _ _ _ _ _ hu]
    exact hrun w
  generalize (if c = h then A else A.map (fun x => x.add h)) = X at hsl hrun hrun2
  have HSL := Lib.hid hsl
  clear hsl
  by_cases hok : n2 ≤ z - t
  · rw [if_pos hok] at hr5
    rw [decide_eq_true hok]
    have hok' : (n2 : Int) ≤ (z : Int) - (t : Int) := by omega
    have htk5 : (spl L1 t lb).take t = (la.drop h).take t := by
      unfold spl
      have : (L1.take t).length = t := by rw [List.length_take, HR3.out.len]; omega
      rw [List.append_assoc, List.take_left' this, HT.out]
    have htk6 : (spl L1 t lb).take (t + n2) = (la.drop h).take t ++ lb := by
      unfold spl
      have e1 : (L1.take t).length = t := by rw [List.length_take, HR3.out.len]; omega
      rw [List.take_left' (by rw [List.length_append, e1, HLB.out]), HT.out]
    generalize spl L1 t lb = L2 at hr5 htk5 htk6
    have HR5 := Lib.hid hr5
    have HTK5 := Lib.hid htk5
    have HTK6 := Lib.hid htk6
    clear hr5 htk5 htk6
    have hsw : IntKind.i64.wrap ((z : Int) - (t : Int)) = (z : Int) - (t : Int) := IntWalk.i64_in _ (by omega)
    have HSELF := strN_self ((la.drop h).take t)
    go_wp2_with fail
    refine wp_opend [([0, 1, 2, 3, 4, 5, 6, 7, 8, 9, 11], some 10), ([12, 13, 14, 15, 16, 19, 20, 21, 22, 23], some 17), ([18, 24, 25], none)] (by kernel_rfl) (by kernel_rfl) (by kernel_rfl) (fun QQ hQ wd hwd => ?_)
    have hbd := hb5.trans (drawn_below hwd _)
    have HRd := Lib.hid (by rw [hwd.out]; exact HR5.out.drew : Ring wd g p z t L2)
    clear hwd hb5 HR5
    refine walkS_sole fun R hR => ?_; simp only [List.map_cons, List.map_nil, List.getD_cons_zero, List.getD_cons_succ]; (repeat (first | (refine qskip (by rfl) ?_; simp only [Act.put, List.setIfInBounds_toArray, List.set_cons_zero, List.set_cons_succ]) | (refine qstep (by rfl) (fun K hK => qval (v := ?_) (fun w' hx => ?_) (hK _ ?_)); rotate_left; (go_simp; with_reducible rfl); clear hK K; (try simp only [Act.put, List.setIfInBounds_toArray, List.set_cons_zero, List.set_cons_succ])) | (refine qstep (by rfl) (fun K hK => qload _ rfl rfl (by assumption) (by kernel_rfl) (hK _ ?_)); clear hK K; simp only [Act.put, List.setIfInBounds_toArray, List.set_cons_zero, List.set_cons_succ]))); refine wpQuiet_nil ?_; intro K hK; go_wp2_with fail; refine (lenR g p z t L2 wd HRd.out).mono ?_; rintro e w6 ⟨rfl, rfl⟩; go_wp2_with fail
    refine hK _ _ (Ext.refl _) (hR.out _ _ ?_); clear hR hK R K
    have HSLd := Lib.hid ((HSL.out.re HKH.out.symm).below hbd)
    refine walkS_sole fun R hR => ?_
    simp only [List.map_cons, List.map_nil, List.getD_cons_zero, List.getD_cons_succ]
    (repeat (first | (refine qskip (by rfl) ?_; simp only [Act.put, List.setIfInBounds_toArray, List.set_cons_zero, List.set_cons_succ]) | (refine qstep (by rfl) (fun K hK => qval (v := ?_) (fun w' hx => ?_) (hK _ ?_)); rotate_left; (go_simp; with_reducible rfl); clear hK K; (try simp only [Act.put, List.setIfInBounds_toArray, List.set_cons_zero, List.set_cons_succ])) | (refine qstep (by rfl) (fun K hK => qload _ rfl rfl (by assumption) (by kernel_rfl) (hK _ ?_)); clear hK K; simp only [Act.put, List.setIfInBounds_toArray, List.set_cons_zero, List.set_cons_succ])))
    refine qstep (by rfl) (fun K hK => qconv Try.underlying28 Try.underlying5 Try.underlying9 _ rfl rfl (((HSLd.out).mono hbd.size)) (Nat.le_refl _) (hK _ ?_)); clear hK K; simp only [Act.put, List.setIfInBounds_toArray, List.set_cons_zero, List.set_cons_succ]
    refine wpQuiet_nil ?_
    intro K hK
    go_wp2_with fail
    have epk : ((L2.take t).drop 0).take ((z : Nat) : Int).toNat = (la.drop h).take t := by
      rw [List.drop_zero, HTK5.out, List.take_of_length_le]
      rw [List.length_take]
      omega
    refine (peek_any g p z t 0 (z : Int) L2 w6 HRd.out (by omega) (by omega)).mono ?_
    rintro e w7 ⟨v7, rfl, hn7, hb7⟩
    rw [epk] at hn7
    obtain ⟨A7, n7, c7, rfl, hc7, hl7, hr7⟩ := hn7.out
    have HR7 := Lib.hid (HRd.out.below hb7 HRd.out.bl.1 HRd.out.bl.2)
    have hbl7 := hbd.trans (hb7.mono hbd.size)
    clear hn7 epk HRd
    go_wp2_with fail
    refine hK _ _ (Ext.of hb7) (hR.out _ _ ?_); clear hR hK R K
    refine walkS_last ?_
    simp only [List.map_cons, List.map_nil, List.getD_cons_zero, List.getD_cons_succ]
    refine qstep (by rfl) (fun K hK => qconv Try.underlying28 Try.underlying5 Try.underlying9 _ rfl rfl (hr7.out) (Nat.le_refl _) (hK _ ?_)); clear hK K; simp only [Act.put, List.setIfInBounds_toArray, List.set_cons_zero, List.set_cons_succ]
    (repeat (first | (refine qskip (by rfl) ?_; simp only [Act.put, List.setIfInBounds_toArray, List.set_cons_zero, List.set_cons_succ]) | (refine qstep (by rfl) (fun K hK => qval (v := ?_) (fun w' hx => ?_) (hK _ ?_)); rotate_left; (go_simp; with_reducible rfl); clear hK K; (try simp only [Act.put, List.setIfInBounds_toArray, List.set_cons_zero, List.set_cons_succ])) | (refine qstep (by rfl) (fun K hK => qload _ rfl rfl (by assumption) (by kernel_rfl) (hK _ ?_)); clear hK K; simp only [Act.put, List.setIfInBounds_toArray, List.set_cons_zero, List.set_cons_succ])))
    refine wpQuiet_nil (hQ.out _ _ ?_)
    clear hQ
    go_wp2_with fail
    refine (grow_any g p z t n2 L2 w7 HR7.out hok).mono ?_
    rintro e w8 ⟨rfl, hd8, hr8⟩
    have HR8 := Lib.hid hr8
    have hb8 := hbl7.trans (hd8.below hg hp)
    have hsum : (strN ((la.drop h).take t)).size + (strN lb).size ≤ 100000 := by
      rw [strN_size, strN_size, HLB.out, List.length_take]
      omega
    have hsum' : ¬ 9223372036854775807 < (strN ((la.drop h).take t)).size + (strN lb).size := by omega
    have HAPP : strN ((la.drop h).take t ++ lb) = strN ((la.drop h).take t) ++ strN lb := strN_append _ _
    clear hd8 hr8 hr7 hl7 HR7 hb7 hbd hbl7
    go_wp2_with fail
    refine U.wp_opend (B := w.heap.size) [([0, 1, 2, 3, 6, 7, 8, 9, 10, 11, 12, 13], some 4), ([], some 5), ([14, 15, 16, 17, 19], some 18), ([20, 21, 22], some 23), ([24, 25], none)] (by kernel_rfl) (by kernel_rfl) (by kernel_rfl) (fun QQ hQ wd hwd => ?_)
    have hbd := hb8.trans (drawn_below hwd _)
    have HRd := Lib.hid (by rw [hwd.out]; exact HR8.out.drew : Ring wd g p z (t + n2) L2)
    have HSLd := Lib.hid ((HSL.out.re HKH.out.symm).below hbd)
    have HBd := Lib.hid (HB.out.below hbd)
    clear hwd hb8 HR8
    refine U.walkS_sole fun R hR => ?_
    simp only [List.map_cons, List.map_nil, List.getD_cons_zero, List.getD_cons_succ]
    (repeat (first | (refine qskip (by rfl) ?_; simp only [Act.put, List.setIfInBounds_toArray, List.set_cons_zero, List.set_cons_succ]) | (refine qstep (by rfl) (fun K hK => U.qval (v := ?_) (fun w' hx => ?_) (hK _ ?_)); rotate_left; (go_simp; with_reducible rfl); clear hK K; (try simp only [Act.put, List.setIfInBounds_toArray, List.set_cons_zero, List.set_cons_succ])) | (refine qstep (by rfl) (fun K hK => U.qload _ rfl rfl (by first | assumption | omega) (by assumption) (by kernel_rfl) (hK _ ?_)); clear hK K; simp only [Act.put, List.setIfInBounds_toArray, List.set_cons_zero, List.set_cons_succ])))
    refine qstep (by rfl) (fun K hK => U.qconv Try.underlying28 Try.underlying5 Try.underlying9 _ rfl rfl (HSLd.out) (Nat.le_refl _) (hK _ ?_)); clear hK K; simp only [Act.put, List.setIfInBounds_toArray, List.set_cons_zero, List.set_cons_succ]
    (repeat (first | (refine qskip (by rfl) ?_; simp only [Act.put, List.setIfInBounds_toArray, List.set_cons_zero, List.set_cons_succ]) | (refine qstep (by rfl) (fun K hK => U.qval (v := ?_) (fun w' hx => ?_) (hK _ ?_)); rotate_left; (go_simp; with_reducible rfl); clear hK K; (try simp only [Act.put, List.setIfInBounds_toArray, List.set_cons_zero, List.set_cons_succ])) | (refine qstep (by rfl) (fun K hK => U.qload _ rfl rfl (by first | assumption | omega) (by assumption) (by kernel_rfl) (hK _ ?_)); clear hK K; simp only [Act.put, List.setIfInBounds_toArray, List.set_cons_zero, List.set_cons_succ])))
    refine qstep (by rfl) (fun K hK => U.qconv Try.underlying28 Try.underlying5 Try.underlying9 _ rfl rfl (HBd.out) (Nat.le_refl _) (hK _ ?_)); clear hK K; simp only [Act.put, List.setIfInBounds_toArray, List.set_cons_zero, List.set_cons_succ]
    (repeat (first | (refine qskip (by rfl) ?_; simp only [Act.put, List.setIfInBounds_toArray, List.set_cons_zero, List.set_cons_succ]) | (refine qstep (by rfl) (fun K hK => U.qval (v := ?_) (fun w' hx => ?_) (hK _ ?_)); rotate_left; (go_simp; with_reducible rfl); clear hK K; (try simp only [Act.put, List.setIfInBounds_toArray, List.set_cons_zero, List.set_cons_succ])) | (refine qstep (by rfl) (fun K hK => U.qload _ rfl rfl (by first | assumption | omega) (by assumption) (by kernel_rfl) (hK _ ?_)); clear hK K; simp only [Act.put, List.setIfInBounds_toArray, List.set_cons_zero, List.set_cons_succ])))
    refine wpQuiet_nil ?_
    intro K hK
    go_wp2_with fail
    refine (read_any g p z (t + n2) (z : Int) L2 wd HRd.out (by omega) (t + n2) (by omega)).mono ?_
    rintro e w9 ⟨v9, rfl, hn9, hb9, hr9⟩
    rw [HTK6.out] at hn9
    rw [Nat.sub_self] at hr9
    obtain ⟨A9, n9, c9, rfl, hc9, hl9, hrd9⟩ := hn9.out
    have hb10 : Below w.heap.size wd w9 := hb9.mono (by omega)
    have hbl9 := hbd.trans hb10
    have HR9 := Lib.hid hr9
    clear hn9 hb9 hr9
    go_wp2_with fail
    refine hK _ _ (Upto.of hb10) (hR.out _ _ ?_); clear hR hK R K
    refine U.walkS_sole fun R hR => ?_
    simp only [List.map_nil, List.getD_cons_zero, List.getD_cons_succ]
    refine wpQuiet_nil ?_
    intro K hK
    go_wp2_with (refine wpList_conv Try.underlying28 Try.underlying5 Try.underlying9 rfl _ rfl rfl hrd9.out ?_)
    refine hK _ _ (Upto.refl _ _) (hR.out _ _ ?_); clear hR hK R K
    have HSS := strN_self ((la.drop h).take t ++ lb)
    refine U.walkS_sole fun R hR => ?_
    simp only [List.map_cons, List.map_nil, List.getD_cons_zero, List.getD_cons_succ]
    (repeat (first | (refine qskip (by rfl) ?_; simp only [Act.put, List.setIfInBounds_toArray, List.set_cons_zero, List.set_cons_succ]) | (refine qstep (by rfl) (fun K hK => U.qval (v := ?_) (fun w' hx => ?_) (hK _ ?_)); rotate_left; (go_simp; with_reducible rfl); clear hK K; (try simp only [Act.put, List.setIfInBounds_toArray, List.set_cons_zero, List.set_cons_succ])) | (refine qstep (by rfl) (fun K hK => U.qload _ rfl rfl (by first | assumption | omega) (by assumption) (by kernel_rfl) (hK _ ?_)); clear hK K; simp only [Act.put, List.setIfInBounds_toArray, List.set_cons_zero, List.set_cons_succ])))
    refine wpQuiet_nil ?_
    intro K hK
    go_wp2_with fail
    refine (freeR g p z 0 _ w9 HR9.out).mono ?_
    rintro e w10 ⟨rfl, q, hq⟩
    have hb11 : Below w.heap.size w9 w10 := hq ▸ below_drewN (Below.refl _ _) q
    have hbl10 := hbl9.trans hb11
    clear hq
    go_wp2_with fail
    refine hK _ _ (Upto.of hb11) (hR.out _ _ ?_); clear hR hK R K
    refine U.walkS_sole fun R hR => ?_; simp only [List.map_cons, List.map_nil, List.getD_cons_zero, List.getD_cons_succ]; (repeat (first | (refine qskip (by rfl) ?_; simp only [Act.put, List.setIfInBounds_toArray, List.set_cons_zero, List.set_cons_succ]) | (refine qstep (by rfl) (fun K hK => U.qval (v := ?_) (fun w' hx => ?_) (hK _ ?_)); rotate_left; (go_simp; with_reducible rfl); clear hK K; (try simp only [Act.put, List.setIfInBounds_toArray, List.set_cons_zero, List.set_cons_succ])) | (refine qstep (by rfl) (fun K hK => U.qload _ rfl rfl (by first | assumption | omega) (by assumption) (by kernel_rfl) (hK _ ?_)); clear hK K; simp only [Act.put, List.setIfInBounds_toArray, List.set_cons_zero, List.set_cons_succ]))); refine wpQuiet_nil ?_; intro K hK; go_wp2_with fail; refine (alive05 w10).mono ?_; rintro e w11 ⟨rfl, hb12⟩; go_wp2_with fail
    have hb13 : Below w.heap.size w10 w11 := hb12.mono hbl10.size
    refine hK _ _ (Upto.of hb13) (hR.out _ _ ?_); clear hR hK R K
    refine U.walkS_last ?_; simp only [List.map_cons, List.map_nil, List.getD_cons_zero, List.getD_cons_succ]; (repeat (first | (refine qskip (by rfl) ?_; simp only [Act.put, List.setIfInBounds_toArray, List.set_cons_zero, List.set_cons_succ]) | (refine qstep (by rfl) (fun K hK => U.qval (v := ?_) (fun w' hx => ?_) (hK _ ?_)); rotate_left; (go_simp; with_reducible rfl); clear hK K; (try simp only [Act.put, List.setIfInBounds_toArray, List.set_cons_zero, List.set_cons_succ])) | (refine qstep (by rfl) (fun K hK => U.qload _ rfl rfl (by first | assumption | omega) (by assumption) (by kernel_rfl) (hK _ ?_)); clear hK K; simp only [Act.put, List.setIfInBounds_toArray, List.set_cons_zero, List.set_cons_succ]))); refine wpQuiet_nil (hQ.out _ _ ?_); clear hQ
    go_wp2_with fail
    go_ret
    exact ⟨rfl, hbl10.trans hb13⟩
  · rw [if_neg hok] at hr5
    rw [decide_eq_false hok]
    have hok' : decide ((n2 : Int) ≤ (z : Int) - (t : Int)) = false := decide_eq_false (by omega)
    have HR5 := Lib.hid hr5
    have HTK5 := HT
    clear hr5
    have L2 := L1
    have hsw : IntKind.i64.wrap ((z : Int) - (t : Int)) = (z : Int) - (t : Int) := IntWalk.i64_in _ (by omega)
    have HSELF := strN_self ((la.drop h).take t)
    go_wp2_with fail
    refine wp_opend [([0, 1, 2, 3, 4, 5, 6, 7, 8, 9, 11], some 10), ([12, 13, 14, 15, 16, 19, 20, 21, 22, 23], some 17), ([18, 24, 25], none)] (by kernel_rfl) (by kernel_rfl) (by kernel_rfl) (fun QQ hQ wd hwd => ?_)
    have hbd := hb5.trans (drawn_below hwd _)
    have HRd := Lib.hid (by rw [hwd.out]; exact HR5.out.drew : Ring wd g p z t L1)
    clear hwd hb5 HR5
    refine walkS_sole fun R hR => ?_; simp only [List.map_cons, List.map_nil, List.getD_cons_zero, List.getD_cons_succ]; (repeat (first | (refine qskip (by rfl) ?_; simp only [Act.put, List.setIfInBounds_toArray, List.set_cons_zero, List.set_cons_succ]) | (refine qstep (by rfl) (fun K hK => qval (v := ?_) (fun w' hx => ?_) (hK _ ?_)); rotate_left; (go_simp; with_reducible rfl); clear hK K; (try simp only [Act.put, List.setIfInBounds_toArray, List.set_cons_zero, List.set_cons_succ])) | (refine qstep (by rfl) (fun K hK => qload _ rfl rfl (by assumption) (by kernel_rfl) (hK _ ?_)); clear hK K; simp only [Act.put, List.setIfInBounds_toArray, List.set_cons_zero, List.set_cons_succ]))); refine wpQuiet_nil ?_; intro K hK; go_wp2_with fail; refine (lenR g p z t L1 wd HRd.out).mono ?_; rintro e w6 ⟨rfl, rfl⟩; go_wp2_with fail
    refine hK _ _ (Ext.refl _) (hR.out _ _ ?_); clear hR hK R K
    have HSLd := Lib.hid ((HSL.out.re HKH.out.symm).below hbd)
    refine walkS_sole fun R hR => ?_
    simp only [List.map_cons, List.map_nil, List.getD_cons_zero, List.getD_cons_succ]
    (repeat (first | (refine qskip (by rfl) ?_; simp only [Act.put, List.setIfInBounds_toArray, List.set_cons_zero, List.set_cons_succ]) | (refine qstep (by rfl) (fun K hK => qval (v := ?_) (fun w' hx => ?_) (hK _ ?_)); rotate_left; (go_simp; with_reducible rfl); clear hK K; (try simp only [Act.put, List.setIfInBounds_toArray, List.set_cons_zero, List.set_cons_succ])) | (refine qstep (by rfl) (fun K hK => qload _ rfl rfl (by assumption) (by kernel_rfl) (hK _ ?_)); clear hK K; simp only [Act.put, List.setIfInBounds_toArray, List.set_cons_zero, List.set_cons_succ])))
    refine qstep (by rfl) (fun K hK => qconv Try.underlying28 Try.underlying5 Try.underlying9 _ rfl rfl (((HSLd.out).mono hbd.size)) (Nat.le_refl _) (hK _ ?_)); clear hK K; simp only [Act.put, List.setIfInBounds_toArray, List.set_cons_zero, List.set_cons_succ]
    refine wpQuiet_nil ?_
    intro K hK
    go_wp2_with fail
    have epk : ((L1.take t).drop 0).take ((z : Nat) : Int).toNat = (la.drop h).take t := by
      rw [List.drop_zero, HTK5.out, List.take_of_length_le]
      rw [List.length_take]
      omega
    refine (peek_any g p z t 0 (z : Int) L1 w6 HRd.out (by omega) (by omega)).mono ?_
    rintro e w7 ⟨v7, rfl, hn7, hb7⟩
    rw [epk] at hn7
    obtain ⟨A7, n7, c7, rfl, hc7, hl7, hr7⟩ := hn7.out
    have HR7 := Lib.hid (HRd.out.below hb7 HRd.out.bl.1 HRd.out.bl.2)
    have hbl7 := hbd.trans (hb7.mono hbd.size)
    clear hn7 epk HRd
    go_wp2_with fail
    refine hK _ _ (Ext.of hb7) (hR.out _ _ ?_); clear hR hK R K
    refine walkS_last ?_
    simp only [List.map_cons, List.map_nil, List.getD_cons_zero, List.getD_cons_succ]
    refine qstep (by rfl) (fun K hK => qconv Try.underlying28 Try.underlying5 Try.underlying9 _ rfl rfl (hr7.out) (Nat.le_refl _) (hK _ ?_)); clear hK K; simp only [Act.put, List.setIfInBounds_toArray, List.set_cons_zero, List.set_cons_succ]
    (repeat (first | (refine qskip (by rfl) ?_; simp only [Act.put, List.setIfInBounds_toArray, List.set_cons_zero, List.set_cons_succ]) | (refine qstep (by rfl) (fun K hK => qval (v := ?_) (fun w' hx => ?_) (hK _ ?_)); rotate_left; (go_simp; with_reducible rfl); clear hK K; (try simp only [Act.put, List.setIfInBounds_toArray, List.set_cons_zero, List.set_cons_succ])) | (refine qstep (by rfl) (fun K hK => qload _ rfl rfl (by assumption) (by kernel_rfl) (hK _ ?_)); clear hK K; simp only [Act.put, List.setIfInBounds_toArray, List.set_cons_zero, List.set_cons_succ])))
    refine wpQuiet_nil (hQ.out _ _ ?_)
    clear hQ
    go_wp2_with fail
    refine (alive05 w7).mono ?_
    rintro e w8 ⟨rfl, hb8⟩
    go_wp2_with fail
    go_ret
    exact ⟨rfl, hbl7.trans (hb8.mono hbl7.size)⟩
end Go.Proofs.Ytefnojomjdeghaa
