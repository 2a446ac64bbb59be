/- Layer 43, VarintBack: the law answers true, and nothing that was there has turned. -/
import Derived.Test.YtnnhndgeedlpgaaVar7
import Derived.Test.YtnnhndgeedlpgaaPass
namespace Go.Proofs.Ytnnhndgeedlpgaa
open Go.RowKit
set_option linter.unusedVariables false

/-- The bits of a number with a sign. -/
def tu (x : Int) : Nat := (x % 18446744073709551616).toNat
theorem tu_lt (x : Int) : tu x < 18446744073709551616 := by unfold tu; omega
theorem tu_wrap (x : Int) : IntKind.u64.wrap x = ((tu x : Nat) : Int) := by rw [IntKind.wrap_u64]; unfold tu; omega

set_option maxRecDepth 100000 in
set_option maxHeartbeats 4000000 in
theorem varintBack_walk (A : Option Addr) (n c : Nat) (l : List Int) (C : Option Addr) (m d : Nat) (b : List Nat) (w : World)
    (hr : Rd w w.heap.size 1 A n (zs .i64 l)) (hnc : n ≤ c) (hmax : c ≤ maxLen) (hl : ∀ x ∈ l, -9223372036854775808 ≤ x ∧ x < 9223372036854775808) (hs : Rd w w.heap.size 1 C m (ns .u8 b)) (hmd : m ≤ d) (hmax2 : d ≤ maxLen) (hb : ∀ x ∈ b, x < 256) :
    Calls Try.prog 8 #[.slice A n c, .slice C m d] w fun e w' => e = .returned (.bool true) ∧ Below w.heap.size w w' := by
  have HR := Lib.hid hr; have HB := Lib.hid hb; have HS := Lib.hid hs; have HL := Lib.hid hl
  have HLL := Lib.hid hr.intLen; have HLB := Lib.hid hs.natLen
  clear hr hb hs hl
  unfold maxLen at hmax hmax2
  by_cases hn : 200 < n
  · go_enter Try.func8, Try.ntmps8
    go_wp2_with fail
    go_ret
    exact ⟨rfl, Below.refl _ _⟩
  by_cases hm : 2000 < m
  · go_enter Try.func8, Try.ntmps8
    go_wp2_with fail
    go_ret
    exact ⟨rfl, Below.refl _ _⟩
  have hm2 : decide ((2000 : Int) < (m : Int)) = false := by simp; omega
  have hM : m ≤ 2000 := by omega
  have hN : n ≤ 200 := by omega
  clear hm hmax hmax2
  go_enter Try.func8, Try.ntmps8
  go_wp2_with fail
  clear hn hm2
  go_loopw [5, 6] (fun v i wr => ∃ k : Nat, k ≤ n ∧ i = .int .i64 k ∧ Nats wr 24 .u64 w.heap.size v ((l.take k).map tu) ∧ Below w.heap.size w wr) (fun _ i _ => n - (intOf i).toNat)
  case atStart => exact ⟨0, Nat.zero_le _, rfl, by simpa using Nats.nil _ _ _ _, Below.refl _ _⟩
  case round =>
    obtain ⟨k, hk, rfl, h1, hb1⟩ := hrel
    by_cases hlt : k < n
    · obtain ⟨bb, off, x, rfl, hbk, hcell, hx⟩ := (HR.out.below hb1).nthz hlt
      have h0 : (0 : Int) ≤ (k : Int) := by omega
      have h2 : (k : Int) < (n : Int) := by omega
      have h3 : IntKind.u64.wrap x = ((tu x : Nat) : Int) := tu_wrap x
      have HX := Lib.hid (HL.out x (nth_mem hx))
      go_wp2_with fail
      refine wp_opend [([0, 1, 2, 3, 6, 7, 8, 9], some 4), ([], some 5), ([10, 11, 12, 13, 14, 15, 17, 18, 19, 20], some 16), ([], some 21), ([22, 23, 24, 25, 26, 27, 28, 29, 32, 33, 34, 35, 36], some 30), ([], some 31), ([37, 38], none)] (by kernel_rfl) (by kernel_rfl) (by kernel_rfl) (fun QQ hQ wd hwd => ?_)
      have hcell' : wd.cell? ⟨bb, off + k, none⟩ = some (.int .i64 x) := by rw [hwd.out]; exact hcell
      have h1' := h1.drawn hwd
      have hb1' := hb1.trans (drawn_below hwd _)
      clear hcell h1 hb1
      have e1 : unfold_ (fold x) = x := unfold_fold x
      have e2 : fold (unfold_ (tu x)) = tu x := fold_unfold _
      have HF := Lib.hid (fold_lt HX.out.1 HX.out.2)
      have HU := Lib.hid (unfold_in (tu_lt x))
      refine walkS_sole fun R hR => ?_; simp only [List.map_cons, List.map_nil, List.getD_cons_zero, List.getD_cons_succ]; (repeat (first | (refine qskip (by rfl) ?_; simp only [Act.put, List.setIfInBounds_toArray, List.set_cons_zero, List.set_cons_succ]) | (refine qstep (by rfl) (fun K hK => qval (v := ?_) (fun w' hx => ?_) (hK _ ?_)); rotate_left; (go_simp; with_reducible rfl); clear hK K; (try simp only [Act.put, List.setIfInBounds_toArray, List.set_cons_zero, List.set_cons_succ])) | (refine qstep (by rfl) (fun K hK => qload _ rfl rfl (by assumption) (by kernel_rfl) (hK _ ?_)); clear hK K; simp only [Act.put, List.setIfInBounds_toArray, List.set_cons_zero, List.set_cons_succ]))); refine wpQuiet_nil ?_; intro K hK; go_wp2_with fail; refine (fold_any x _ HX.out.1 HX.out.2).mono ?_; rintro e w2 ⟨rfl, rfl⟩; go_wp2_with fail
      refine hK _ _ (Ext.refl _) (hR.out _ _ ?_); clear hR hK R K
      refine walkS_sole fun R hR => ?_; simp only [List.map_nil, List.getD_cons_zero, List.getD_cons_succ]; refine wpQuiet_nil ?_; intro K hK; go_wp2_with fail; refine (unfold_any (fold x) _ HF.out).mono ?_; rintro e w2 ⟨rfl, rfl⟩; go_wp2_with fail
      refine hK _ _ (Ext.refl _) (hR.out _ _ ?_); clear hR hK R K
      refine walkS_sole fun R hR => ?_; simp only [List.map_cons, List.map_nil, List.getD_cons_zero, List.getD_cons_succ]; (repeat (first | (refine qskip (by rfl) ?_; simp only [Act.put, List.setIfInBounds_toArray, List.set_cons_zero, List.set_cons_succ]) | (refine qstep (by rfl) (fun K hK => qval (v := ?_) (fun w' hx => ?_) (hK _ ?_)); rotate_left; (go_simp; with_reducible rfl); clear hK K; (try simp only [Act.put, List.setIfInBounds_toArray, List.set_cons_zero, List.set_cons_succ])) | (refine qstep (by rfl) (fun K hK => qload _ rfl rfl (by assumption) (by kernel_rfl) (hK _ ?_)); clear hK K; simp only [Act.put, List.setIfInBounds_toArray, List.set_cons_zero, List.set_cons_succ]))); refine wpQuiet_nil ?_; intro K hK; go_wp2_with fail; refine (fold_any x _ HX.out.1 HX.out.2).mono ?_; rintro e w2 ⟨rfl, rfl⟩; go_wp2_with fail
      refine hK _ _ (Ext.refl _) (hR.out _ _ ?_); clear hR hK R K
      refine walkS_sole fun R hR => ?_; simp only [List.map_nil, List.getD_cons_zero, List.getD_cons_succ]; refine wpQuiet_nil ?_; intro K hK; go_wp2_with fail; refine (refFold_any x _ HX.out.1 HX.out.2).mono ?_; rintro e w2 ⟨rfl, rfl⟩; go_wp2_with fail
      refine hK _ _ (Ext.refl _) (hR.out _ _ ?_); clear hR hK R K
      refine walkS_sole fun R hR => ?_; simp only [List.map_cons, List.map_nil, List.getD_cons_zero, List.getD_cons_succ]; (repeat (first | (refine qskip (by rfl) ?_; simp only [Act.put, List.setIfInBounds_toArray, List.set_cons_zero, List.set_cons_succ]) | (refine qstep (by rfl) (fun K hK => qval (v := ?_) (fun w' hx => ?_) (hK _ ?_)); rotate_left; (go_simp; with_reducible rfl); clear hK K; (try simp only [Act.put, List.setIfInBounds_toArray, List.set_cons_zero, List.set_cons_succ])) | (refine qstep (by rfl) (fun K hK => qload _ rfl rfl (by assumption) (by kernel_rfl) (hK _ ?_)); clear hK K; simp only [Act.put, List.setIfInBounds_toArray, List.set_cons_zero, List.set_cons_succ]))); refine wpQuiet_nil ?_; intro K hK; go_wp2_with fail; refine (unfold_any (tu x) _ (tu_lt x)).mono ?_; rintro e w2 ⟨rfl, rfl⟩; go_wp2_with fail
      refine hK _ _ (Ext.refl _) (hR.out _ _ ?_); clear hR hK R K
      refine walkS_sole fun R hR => ?_; simp only [List.map_nil, List.getD_cons_zero, List.getD_cons_succ]; refine wpQuiet_nil ?_; intro K hK; go_wp2_with fail; refine (fold_any (unfold_ (tu x)) _ HU.out.1 HU.out.2).mono ?_; rintro e w2 ⟨rfl, rfl⟩; go_wp2_with fail
      refine hK _ _ (Ext.refl _) (hR.out _ _ ?_); clear hR hK R K
      refine walkS_last ?_
      simp only [List.map_cons, List.map_nil, List.getD_cons_zero, List.getD_cons_succ]
      (repeat (first | (refine qskip (by rfl) ?_; simp only [Act.put, List.setIfInBounds_toArray, List.set_cons_zero, List.set_cons_succ]) | (refine qstep (by rfl) (fun K hK => qval (v := ?_) (fun w' hx => ?_) (hK _ ?_)); rotate_left; (go_simp; with_reducible rfl); clear hK K; (try simp only [Act.put, List.setIfInBounds_toArray, List.set_cons_zero, List.set_cons_succ])) | (refine qstep (by rfl) (fun K hK => qload _ rfl rfl (by assumption) (by kernel_rfl) (hK _ ?_)); clear hK K; simp only [Act.put, List.setIfInBounds_toArray, List.set_cons_zero, List.set_cons_succ])))
      refine wpQuiet_nil (hQ.out _ _ ?_)
      clear hQ
      go_wp2_with (at_builtin; go_must (refine app1n el64 (tu x) rfl _ _ rfl rfl h1' rfl ?_ ?_ ?_ ?_))
      · rfl
      · exact room_ge (by simp; omega)
      · exact hb1'.size
      intro v3 w3 h3 _ hb3
      go_wp2
      go_roundw
      case rel => exact ⟨k + 1, by omega, by go_num, by rw [nth_take hx]; simpa using h3, hb1'.trans hb3⟩
      case measure => simp [intOf]; omega
    · have hk : k = n := by omega
      subst hk
      rw [List.take_of_length_le (by have := HLL.out; omega)] at h1
      obtain ⟨A1, n1, c1, rfl, hc1, hn1, hr1⟩ := h1.out
      have HUL : Hid (∀ x ∈ l.map tu, x < 18446744073709551616) := Lib.hid (by intro x hx; obtain ⟨y, _, rfl⟩ := List.mem_map.1 hx; exact tu_lt y)
      have hnk : n1 = k := by have := hn1.out; rw [List.length_map, HLL.out] at this; exact this.symm
      subst hnk
      have HDN : Hid ((dl 0 l).length = n1) := Lib.hid (by rw [dl_len]; exact HLL.out)
      have hvl := vbs_len (l.map tu) HUL.out
      have hdl := vbs_len (dl 0 l) (dl_lt l 0)
      rw [hn1.out] at hvl
      rw [HDN.out] at hdl
      have hpl := vall_vbs (l.map tu) HUL.out
      have hpd := vall_vbs (dl 0 l) (dl_lt l 0)
      have HVL := Lib.hid hvl; have HDL := Lib.hid hdl; have HPL := Lib.hid hpl; have HPD := Lib.hid hpd
      have HBY : Hid (∀ u : List Nat, ∀ x ∈ vbs u, x < 256) := Lib.hid (by intro u x hx; simp only [vbs, List.mem_flatMap] at hx; obtain ⟨y, _, hy⟩ := hx; exact vb_byte y x hy)
      clear hvl hdl hpl hpd
      go_wp2_with fail
      refine (put_any none A1 0 n1 0 c1 [] (l.map tu) wr (Rd.nil _ _ _ _) hr1.out HUL.out (by omega)).mono ?_
      rintro e w2 ⟨v2, rfl, h2, hb2⟩
      rw [List.nil_append] at h2
      obtain ⟨A2, n2, c2, rfl, hc2, hn2, hr2⟩ := h2.out
      have hbl2 := hb1.trans (hb2.mono hb1.size)
      have hr1 := Lib.hid (hr1.out.into hb2)
      go_wp2_with fail
      refine (all_any A2 n2 c2 (vbs (l.map tu)) w2 hr2.out hc2 (HBY.out _) (by have := HVL.out; have := hn2.out; omega)).mono ?_
      rintro e w3 ⟨hb3, hc3⟩
      obtain ⟨xs, hv, v3, rfl, h3⟩ := hc3.resolve_right (fun h => by have := HPL.out.symm.trans h.1; cases this)
      obtain rfl : l.map tu = xs := by have := HPL.out.symm.trans hv; injection this
      clear hv
      have hbl3 := hbl2.trans (hb3.mono hbl2.size)
      have hr1 := Lib.hid (hr1.out.into hb3)
      obtain ⟨A3, n3, c3, rfl, hc3, hn3, hr3⟩ := h3.out
      go_wp2_with fail
      refine (deltas_any A n1 c l w3 ((HR.out.below hbl3).mono hbl3.size) (by omega)).mono ?_
      rintro e w4 ⟨v4, rfl, h4, hb4⟩
      obtain ⟨A4, n4, c4, rfl, hc4, hn4, hr4⟩ := h4.out
      have hbl4 := hbl3.trans (hb4.mono hbl3.size)
      have hr1 := Lib.hid (hr1.out.into hb4)
      have hr3 := Lib.hid (hr3.out.into hb4)
      go_wp2_with fail
      refine (undeltas_any A4 n4 c4 (vbs (dl 0 l)) w4 hr4.out hc4 (HBY.out _) (by have := HDL.out; have := hn4.out; omega)).mono ?_
      rintro e w5 ⟨hb5, hc5⟩
      obtain ⟨xs, hv, v5, rfl, h5⟩ := hc5.resolve_right (fun h => by have := HPD.out.symm.trans h.1; cases this)
      obtain rfl : dl 0 l = xs := by have := HPD.out.symm.trans hv; injection this
      clear hv
      rw [undl_dl l HL.out] at h5
      have hbl5 := hbl4.trans (hb5.mono hbl4.size)
      have hr1 := Lib.hid (hr1.out.into hb5)
      have hr3 := Lib.hid (hr3.out.into hb5)
      obtain ⟨A5, n5, c5, rfl, hc5, hn5, hr5⟩ := h5.out
      have hnk : n5 = n1 := by have := hn5.out; rw [HLL.out] at this; exact this.symm
      subst hnk
      have hnn : ((n5 : Int) != (n5 : Int)) = false := by simp
      go_wp2_with fail
      refine (row_any A3 A1 n3 n5 c3 c1 (l.map tu) (l.map tu) w5 hr3.out hr1.out (by have := hn3.out; have := hn1.out; omega) (by omega)).mono ?_
      rintro e w6 ⟨rfl, q, rfl⟩
      rw [decide_eq_true rfl]
      go_wp2_with fail
      -- element by element
      go_loopw [11] (fun i wr => ∃ j r : Nat, j ≤ n5 ∧ i = .int .i64 j ∧ wr = w5.drewN r) (fun i _ => n5 - (intOf i).toNat)
      case atStart => exact ⟨0, q, Nat.zero_le _, rfl, rfl⟩
      case round =>
        obtain ⟨j, r, hj, rfl, rfl⟩ := hrel
        by_cases hlt : j < n5
        · obtain ⟨b1, o1, x, rfl, hb1, hcx, hx⟩ := (HR.out.below hbl5).nthz hlt
          obtain ⟨b2, o2, y, rfl, hb2, hcy, hy⟩ := hr5.out.nthz hlt
          obtain rfl : x = y := by have := hx.out.symm.trans hy.out; injection this
          have hq : ((x : Int) != (x : Int)) = false := by simp
          have h2 : (j : Int) < (n5 : Int) := by omega
          have h3 : (0 : Int) ≤ (j : Int) := by omega
          go_wp2_with fail
          go_quiet (fail)
          go_wp2_with fail
          go_roundw
          case rel => exact ⟨j + 1, r + nq, by omega, by go_num, rfl⟩
          case measure => simp [intOf]; omega
        · have hj : j = n5 := by omega
          subst hj
          have hbl6 := below_drewN hbl5 r
          go_wp2_with fail
          refine (undeltas_any C m d b (w5.drewN r) ((HS.out.below hbl6).mono hbl6.size) hmd HB.out (by omega)).mono ?_
          rintro e w7 ⟨hb7, hc7⟩
          have hbl7 := hbl6.trans (hb7.mono hbl6.size)
          rcases hc7 with ⟨xs, hv, v7, rfl, h7⟩ | ⟨hv, rfl⟩
          · have HV := Lib.hid hv
            have hxl := vall_len hv
            rw [HLB.out] at hxl
            have HXS := Lib.hid (vbs_vall b xs hv)
            clear hv
            obtain ⟨A7, n7, c7, rfl, hc7, hn7, hr7⟩ := h7.out
            go_wp2_with fail
            refine (all_any C m d b w7 ((HS.out.below hbl7).mono hbl7.size) hmd HB.out (by omega)).mono ?_
            rintro e w8 ⟨hb8, hc8⟩
            obtain ⟨ys, hv, v8, rfl, h8⟩ := hc8.resolve_right (fun h => by have := HV.out.symm.trans h.1; cases this)
            obtain rfl : xs = ys := by have := HV.out.symm.trans hv; injection this
            clear hv
            have hbl8 := hbl7.trans (hb8.mono hbl7.size)
            have hr7 := Lib.hid (hr7.out.into hb8)
            obtain ⟨A8, n8, c8, rfl, hc8, hn8, hr8⟩ := h8.out
            go_wp2_with fail
            refine wp_opend [([0, 1, 2, 3, 4, 5, 6, 7, 10, 11], some 8), ([9, 12, 13, 14, 17, 18], some 15), ([16, 19, 20, 21, 22, 23], some 24), ([25, 26], none)] (by kernel_rfl) (by kernel_rfl) (by kernel_rfl) (fun QQ hQ wd hwd => ?_)
            have hbd := hbl8.trans (drawn_below hwd _)
            have hsz := drawn_size hwd
            have hr7 := Lib.hid (hr7.out.drawn hwd)
            have hr8 := Lib.hid (hr8.out.drawn hwd)
            refine walkS_sole fun R hR => ?_
            simp only [List.map_cons, List.map_nil, List.getD_cons_zero, List.getD_cons_succ]
            (repeat (first | (refine qskip (by rfl) ?_; simp only [Act.put, List.setIfInBounds_toArray, List.set_cons_zero, List.set_cons_succ]) | (refine qstep (by rfl) (fun K hK => qval (v := ?_) (fun w' hx => ?_) (hK _ ?_)); rotate_left; (go_simp; with_reducible rfl); clear hK K; (try simp only [Act.put, List.setIfInBounds_toArray, List.set_cons_zero, List.set_cons_succ])) | (refine qstep (by rfl) (fun K hK => qload _ rfl rfl (by assumption) (by kernel_rfl) (hK _ ?_)); clear hK K; simp only [Act.put, List.setIfInBounds_toArray, List.set_cons_zero, List.set_cons_succ])))
            refine qstep (by rfl) (fun K hK => qconv Try.underlying22 Try.underlying5 Try.underlying9 _ rfl rfl (((HS.out.below hbd).mono hbd.size)) (Nat.le_refl _) (hK _ ?_)); clear hK K; simp only [Act.put, List.setIfInBounds_toArray, List.set_cons_zero, List.set_cons_succ]
            refine wpQuiet_nil ?_
            intro K hK
            go_wp2_with fail
            refine (deltas_any A7 n7 c7 (undl 0 xs) wd (hr7.out.mono (by omega)) (by have := hn7.out; rw [undl_len] at this; omega)).mono ?_
            rintro e w9 ⟨v9, rfl, h9, hb9⟩
            rw [dl_undl xs HXS.out.2, HXS.out.1] at h9
            obtain ⟨A9, n9, c9, rfl, hc9, hn9, hr9⟩ := h9.out
            have hbl9 := hbd.trans (hb9.mono hbd.size)
            have hr8 := Lib.hid ((hr8.out.mono (by omega : _ ≤ wd.heap.size)).into hb9)
            go_wp2_with fail
            refine hK _ _ (Ext.of hb9) (hR.out _ _ ?_); clear hR hK R K
            have HSELF := strN_self b
            refine walkS_sole fun R hR => ?_
            simp only [List.map_cons, List.map_nil, List.getD_cons_zero, List.getD_cons_succ]
            refine qstep (by rfl) (fun K hK => qconv Try.underlying22 Try.underlying5 Try.underlying9 _ rfl rfl (hr9.out) (Nat.le_refl _) (hK _ ?_)); clear hK K; simp only [Act.put, List.setIfInBounds_toArray, List.set_cons_zero, List.set_cons_succ]
            (repeat (first | (refine qskip (by rfl) ?_; simp only [Act.put, List.setIfInBounds_toArray, List.set_cons_zero, List.set_cons_succ]) | (refine qstep (by rfl) (fun K hK => qval (v := ?_) (fun w' hx => ?_) (hK _ ?_)); rotate_left; (go_simp; with_reducible rfl); clear hK K; (try simp only [Act.put, List.setIfInBounds_toArray, List.set_cons_zero, List.set_cons_succ])) | (refine qstep (by rfl) (fun K hK => qload _ rfl rfl (by assumption) (by kernel_rfl) (hK _ ?_)); clear hK K; simp only [Act.put, List.setIfInBounds_toArray, List.set_cons_zero, List.set_cons_succ])))
            refine qstep (by rfl) (fun K hK => qconv Try.underlying22 Try.underlying5 Try.underlying9 _ rfl rfl (((HS.out.below hbl9).mono hbl9.size)) (Nat.le_refl _) (hK _ ?_)); clear hK K; simp only [Act.put, List.setIfInBounds_toArray, List.set_cons_zero, List.set_cons_succ]
            refine wpQuiet_nil ?_
            intro K hK
            go_wp2_with fail
            refine (put_any none A8 0 n8 0 c8 [] xs w9 (Rd.nil _ _ _ _) hr8.out HXS.out.2 (by have := hn8.out; omega)).mono ?_
            rintro e w10 ⟨v10, rfl, h10, hb10⟩
            rw [List.nil_append, HXS.out.1] at h10
            obtain ⟨A10, n10, c10, rfl, hc10, hn10, hr10⟩ := h10.out
            have hbl10 := hbl9.trans (hb10.mono hbl9.size)
            go_wp2_with fail
            refine hK _ _ (Ext.of hb10) (hR.out _ _ ?_); clear hR hK R K
            refine walkS_sole fun R hR => ?_
            simp only [List.map_cons, List.map_nil, List.getD_cons_zero, List.getD_cons_succ]
            refine qstep (by rfl) (fun K hK => qconv Try.underlying22 Try.underlying5 Try.underlying9 _ rfl rfl (hr10.out) (Nat.le_refl _) (hK _ ?_)); clear hK K; simp only [Act.put, List.setIfInBounds_toArray, List.set_cons_zero, List.set_cons_succ]
            (repeat (first | (refine qskip (by rfl) ?_; simp only [Act.put, List.setIfInBounds_toArray, List.set_cons_zero, List.set_cons_succ]) | (refine qstep (by rfl) (fun K hK => qval (v := ?_) (fun w' hx => ?_) (hK _ ?_)); rotate_left; (go_simp; with_reducible rfl); clear hK K; (try simp only [Act.put, List.setIfInBounds_toArray, List.set_cons_zero, List.set_cons_succ])) | (refine qstep (by rfl) (fun K hK => qload _ rfl rfl (by assumption) (by kernel_rfl) (hK _ ?_)); clear hK K; simp only [Act.put, List.setIfInBounds_toArray, List.set_cons_zero, List.set_cons_succ])))
            refine wpQuiet_nil ?_
            intro K hK
            go_wp2_with fail
            refine (alive43 _).mono ?_
            rintro e w11 ⟨rfl, hb11⟩
            have hbl11 := hbl10.trans (hb11.mono hbl10.size)
            go_wp2_with fail
            refine hK _ _ (Ext.of hb11) (hR.out _ _ ?_); clear hR hK R K
            refine walkS_last ?_
            simp only [List.map_cons, List.map_nil, List.getD_cons_zero, List.getD_cons_succ]
            (repeat (first | (refine qskip (by rfl) ?_; simp only [Act.put, List.setIfInBounds_toArray, List.set_cons_zero, List.set_cons_succ]) | (refine qstep (by rfl) (fun K hK => qval (v := ?_) (fun w' hx => ?_) (hK _ ?_)); rotate_left; (go_simp; with_reducible rfl); clear hK K; (try simp only [Act.put, List.setIfInBounds_toArray, List.set_cons_zero, List.set_cons_succ])) | (refine qstep (by rfl) (fun K hK => qload _ rfl rfl (by assumption) (by kernel_rfl) (hK _ ?_)); clear hK K; simp only [Act.put, List.setIfInBounds_toArray, List.set_cons_zero, List.set_cons_succ])))
            refine wpQuiet_nil (hQ.out _ _ ?_)
            clear hQ
            go_wp2_with fail
            go_ret
            exact ⟨rfl, hbl11⟩
          · have HV := Lib.hid hv; clear hv
            go_wp2_with fail
            refine (all_any C m d b w7 ((HS.out.below hbl7).mono hbl7.size) hmd HB.out (by omega)).mono ?_
            rintro e w8 ⟨hb8, hc8⟩
            rcases hc8 with ⟨ys, hv, _⟩ | ⟨hv, rfl⟩
            · have := HV.out.symm.trans hv; cases this
            have hbl8 := hbl7.trans (hb8.mono hbl7.size)
            go_wp2_with fail
            refine wp_opend [([0, 1, 2, 3, 4, 5, 6, 7, 10, 11], some 8), ([9, 12, 13, 14, 17, 18], some 15), ([16, 19, 20, 21, 22, 23], some 24), ([25, 26], none)] (by kernel_rfl) (by kernel_rfl) (by kernel_rfl) (fun QQ hQ wd hwd => ?_)
            have hbd := hbl8.trans (drawn_below hwd _)
            refine walkS_pass fun R hR => ?_; simp only [List.map_cons, List.map_nil, List.getD_cons_zero, List.getD_cons_succ]; (repeat (first | (refine qskip (by rfl) ?_; simp only [Act.put, List.setIfInBounds_toArray, List.set_cons_zero, List.set_cons_succ]) | (refine qstep (by rfl) (fun K hK => qval (v := ?_) (fun w' hx => ?_) (hK _ ?_)); rotate_left; (go_simp; with_reducible rfl); clear hK K; (try simp only [Act.put, List.setIfInBounds_toArray, List.set_cons_zero, List.set_cons_succ])) | (refine qstep (by rfl) (fun K hK => qload _ rfl rfl (by assumption) (by kernel_rfl) (hK _ ?_)); clear hK K; simp only [Act.put, List.setIfInBounds_toArray, List.set_cons_zero, List.set_cons_succ]))); refine wpQuiet_nil (And.intro (by rfl) (hR.out _ _ ?_)); clear hR R; simp only [List.setIfInBounds_toArray, List.set_cons_zero, List.set_cons_succ]
            refine walkS_pass fun R hR => ?_; simp only [List.map_cons, List.map_nil, List.getD_cons_zero, List.getD_cons_succ]; (repeat (first | (refine qskip (by rfl) ?_; simp only [Act.put, List.setIfInBounds_toArray, List.set_cons_zero, List.set_cons_succ]) | (refine qstep (by rfl) (fun K hK => qval (v := ?_) (fun w' hx => ?_) (hK _ ?_)); rotate_left; (go_simp; with_reducible rfl); clear hK K; (try simp only [Act.put, List.setIfInBounds_toArray, List.set_cons_zero, List.set_cons_succ])) | (refine qstep (by rfl) (fun K hK => qload _ rfl rfl (by assumption) (by kernel_rfl) (hK _ ?_)); clear hK K; simp only [Act.put, List.setIfInBounds_toArray, List.set_cons_zero, List.set_cons_succ]))); refine wpQuiet_nil (And.intro (by rfl) (hR.out _ _ ?_)); clear hR R; simp only [List.setIfInBounds_toArray, List.set_cons_zero, List.set_cons_succ]
            refine walkS_sole fun R hR => ?_
            simp only [List.map_cons, List.map_nil, List.getD_cons_zero, List.getD_cons_succ]
            (repeat (first | (refine qskip (by rfl) ?_; simp only [Act.put, List.setIfInBounds_toArray, List.set_cons_zero, List.set_cons_succ]) | (refine qstep (by rfl) (fun K hK => qval (v := ?_) (fun w' hx => ?_) (hK _ ?_)); rotate_left; (go_simp; with_reducible rfl); clear hK K; (try simp only [Act.put, List.setIfInBounds_toArray, List.set_cons_zero, List.set_cons_succ])) | (refine qstep (by rfl) (fun K hK => qload _ rfl rfl (by assumption) (by kernel_rfl) (hK _ ?_)); clear hK K; simp only [Act.put, List.setIfInBounds_toArray, List.set_cons_zero, List.set_cons_succ])))
            refine wpQuiet_nil ?_
            intro K hK
            go_wp2_with fail
            refine (alive43 _).mono ?_
            rintro e w11 ⟨rfl, hb11⟩
            have hbl11 := hbd.trans (hb11.mono hbd.size)
            go_wp2_with fail
            refine hK _ _ (Ext.of hb11) (hR.out _ _ ?_); clear hR hK R K
            refine walkS_last ?_
            simp only [List.map_cons, List.map_nil, List.getD_cons_zero, List.getD_cons_succ]
            (repeat (first | (refine qskip (by rfl) ?_; simp only [Act.put, List.setIfInBounds_toArray, List.set_cons_zero, List.set_cons_succ]) | (refine qstep (by rfl) (fun K hK => qval (v := ?_) (fun w' hx => ?_) (hK _ ?_)); rotate_left; (go_simp; with_reducible rfl); clear hK K; (try simp only [Act.put, List.setIfInBounds_toArray, List.set_cons_zero, List.set_cons_succ])) | (refine qstep (by rfl) (fun K hK => qload _ rfl rfl (by assumption) (by kernel_rfl) (hK _ ?_)); clear hK K; simp only [Act.put, List.setIfInBounds_toArray, List.set_cons_zero, List.set_cons_succ])))
            refine wpQuiet_nil (hQ.out _ _ ?_)
            clear hQ
            go_wp2_with fail
            go_ret
            exact ⟨rfl, hbl11⟩
end Go.Proofs.Ytnnhndgeedlpgaa
