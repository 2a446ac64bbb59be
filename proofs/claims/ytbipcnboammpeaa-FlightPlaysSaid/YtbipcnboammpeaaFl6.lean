/- Package flight: Add, Acked. -/
import Derived.Test.YtbipcnboammpeaaFl5
namespace Go.Proofs.Ytbipcnboammpeaa
open Go.RowKit
set_option linter.unusedVariables false
set_option linter.unusedSimpArgs false
set_option maxRecDepth 20000 in
set_option maxHeartbeats 4000000 in
theorem fl_add (B g most : Nat) (l : List Chk) (c : Chk) (w : World) (h : FL w B g most l) (hl : l.length ≤ most) (hm : most ≤ 64) :
    Calls Try.prog 21 #[.pointer (some ⟨g, 0, none⟩), .agg #[.int .u64 (c.fr : Nat), .int .i64 c.len, .bool c.fin, .int .i64 c.flow, .int .u32 c.en, .int .i64 c.sent, .int .i64 c.tries, .bool c.came, .bool c.lost]] w fun e w' => e = .returned (.bool (decide (l.length < most))) ∧ FL w' B g most (if l.length < most then l ++ [c] else l) ∧ Kp B g w w' := by
  have hb1 := (Below.refl w.heap.size w).alloc (Nat.le_refl _) (.cells #[.int .u64 (c.fr : Nat), .int .i64 c.len, .bool c.fin, .int .i64 c.flow, .int .u32 c.en, .int .i64 c.sent, .int .i64 c.tries, .bool c.came, .bool c.lost] 30)
  have H1 := Lib.hid (h.into hb1)
  have FR := Lib.hid (fl_free B g most l _ H1.out hl hm)
  have KC := Lib.hid (Blk.new w 30 #[.int .u64 (c.fr : Nat), .int .i64 c.len, .bool c.fin, .int .i64 c.flow, .int .u32 c.en, .int .i64 c.sent, .int .i64 c.tries, .bool c.came, .bool c.lost])
  have HB1 := Lib.hid hb1
  obtain ⟨r, hr⟩ : ∃ r, r = most - l.length := ⟨_, rfl⟩
  rw [← hr] at FR
  have HGL := Lib.hid h.lt
  by_cases hlt : l.length < most
  · rw [decide_eq_true hlt, if_pos hlt]
    have hr1 : ¬ (r : Int) < 1 := by omega
    have HL := Lib.hid hlt
    have HM := Lib.hid hm
    clear h hl hm hb1 hr hlt
    obtain ⟨X, hX⟩ : ∃ X, X = w.heap.size := ⟨_, rfl⟩
    have HX := Lib.hid hX
    clear hX
    go_enter Try.func21, Try.ntmps21
    go_wp2_with fail
    refine FR.out.mono ?_
    rintro e w2 ⟨rfl, hb2⟩
    have H2 := Lib.hid (H1.out.into hb2)
    have KC2 := Lib.hid (KC.out.below hb2 KC.out.lt)
    have HB2 := Lib.hid (HB1.out.trans (hb2.mono HB1.out.size))
    clear hb2 H1 KC HB1 FR
    obtain ⟨A, n, cp, hn, hnc, hcm, HK, HO, HR⟩ := H2.out.open_
    rw [← HX.out] at KC2 ⊢
    go_upto_region 3 with fail
    refine wp_ord [(0, .pure), (1, .pure), (2, .pure), (3, .pure), (4, .read), (5, .read), (6, .sole), (7, .sole), (8, .pure), (9, .pure), (10, .sole)] [7, 10] (by kernel_rfl) (by kernel_rfl) (fun QQ hQ wd hwd => ?_); simp only [List.map_cons, List.map_nil, List.getD_cons_zero, List.getD_cons_succ]
    have hD : Below w2.heap.size w2 wd := by rw [hwd.out]; exact (Below.refl _ _).drew
    have KD := Lib.hid (Blk.below HK.out hD HK.out.lt)
    have OD := Lib.hid (own_below HO.out hD fun k hk => (HO.out.lt k hk).2)
    have CD := Lib.hid (Blk.below KC2.out hD KC2.out.lt)
    have HBD := Lib.hid (HB2.out.trans (hD.mono HB2.out.size))
    have d1 : wd.cell? ⟨g, 1, none⟩ = some (.slice A n cp) := by rw [KD.out.cell]; rfl
    clear hD hwd
    (refine o_pure (v := ?_) (by rfl) (fun w' => ?_) ?_; rotate_left; (focus (go_simp; (try with_reducible rfl); (try (rw [if_pos (by omega)]; (try with_reducible rfl))))); (try simp only [Act.put, List.setIfInBounds_toArray, List.set_cons_zero, List.set_cons_succ]))
    (refine o_pure (v := ?_) (by rfl) (fun w' => ?_) ?_; rotate_left; (focus (go_simp; (try with_reducible rfl); (try (rw [if_pos (by omega)]; (try with_reducible rfl))))); (try simp only [Act.put, List.setIfInBounds_toArray, List.set_cons_zero, List.set_cons_succ]))
    (refine o_pure (v := ?_) (by rfl) (fun w' => ?_) ?_; rotate_left; (focus (go_simp; (try with_reducible rfl); (try (rw [if_pos (by omega)]; (try with_reducible rfl))))); (try simp only [Act.put, List.setIfInBounds_toArray, List.set_cons_zero, List.set_cons_succ]))
    (refine o_pure (v := ?_) (by rfl) (fun w' => ?_) ?_; rotate_left; (focus (go_simp; (try with_reducible rfl); (try (rw [if_pos (by omega)]; (try with_reducible rfl))))); (try simp only [Act.put, List.setIfInBounds_toArray, List.set_cons_zero, List.set_cons_succ]))
    (refine o_load _ (by rfl) rfl rfl (by assumption) (by kernel_rfl) ?_; simp only [Act.put, List.setIfInBounds_toArray, List.set_cons_zero, List.set_cons_succ])
    (refine o_loads _ [.int .u64 (c.fr : Nat), .int .i64 c.len, .bool c.fin, .int .i64 c.flow, .int .u32 c.en, .int .i64 c.sent, .int .i64 c.tries, .bool c.came, .bool c.lost] (by rfl) rfl rfl (CD.out.loads 0 _ (by rfl)) (Nat.succ_pos _) (by kernel_rfl) (by kernel_rfl) ?_; simp only [Act.put, List.setIfInBounds_toArray, List.set_cons_zero, List.set_cons_succ])
    refine o_sole (fun K hK => ?_)
    go_wp2_with fail
    refine hK _ _ (fun _ => Ext.of ((Below.refl _ _).alloc (Nat.le_refl _) _)) ?_; clear hK K
    have hA := (Below.refl wd.heap.size wd).alloc (Nat.le_refl _) (.cells #[.int .u64 (c.fr : Nat), .int .i64 c.len, .bool c.fin, .int .i64 c.flow, .int .u32 c.en, .int .i64 c.sent, .int .i64 c.tries, .bool c.came, .bool c.lost] 30)
    have K4 := Lib.hid (KD.out.below hA KD.out.lt)
    have O4 := Lib.hid (own_below OD.out hA fun k hk => (OD.out.lt k hk).2)
    have N4 := Lib.hid (Rd.made (n := 1) (size := 9) wd 30 #[.int .u64 (c.fr : Nat), .int .i64 c.len, .bool c.fin, .int .i64 c.flow, .int .u32 c.en, .int .i64 c.sent, .int .i64 c.tries, .bool c.came, .bool c.lost] rfl)
    have B4 := Lib.hid (HBD.out.trans (hA.mono HBD.out.size))
    obtain ⟨xb, hxb⟩ : ∃ x, x = wd.heap.size := ⟨_, rfl⟩
    rw [← hxb] at N4 ⊢
    generalize wd.alloc (.cells #[.int .u64 (c.fr : Nat), .int .i64 c.len, .bool c.fin, .int .i64 c.flow, .int .u32 c.en, .int .i64 c.sent, .int .i64 c.tries, .bool c.came, .bool c.lost] 30) = w4 at K4 O4 N4 B4 ⊢
    have hBz : B ≤ w4.heap.size := Nat.le_trans H2.out.hB (Nat.le_of_lt K4.out.lt)
    have hroom4 : (n + 1) * 64 ≤ room := room_ge (by have := HL.out; have := HM.out; omega)
    have HONE := Lib.hid (chk_one c)
    clear hA hxb d1 KD OD HBD CD
    refine o_sole (fun K hK => ?_)
    go_wp2_with (at_builtin; refine app2 flkEl rfl _ _ rfl rfl O4.out (by decide) rfl N4.out HONE.out hroom4 hBz ?_)
    intro v5 w5 ho5 hg5 hn5
    have O5 := Lib.hid ho5
    have K5 := Lib.hid (K4.out.far2 O4.out (by decide) hg5)
    have P5 := Lib.hid ((Kp.of (B := B) (g := g) B4.out).trans (Kp.grown (g := g) O4.out hg5))
    clear ho5 hg5 hn5
    refine hK _ _ (fun h => by cases h) ?_; clear hK K
    (refine o_pure (v := ?_) (by rfl) (fun w' => ?_) ?_; rotate_left; (focus (go_simp; (try with_reducible rfl); (try (rw [if_pos (by omega)]; (try with_reducible rfl))))); (try simp only [Act.put, List.setIfInBounds_toArray, List.set_cons_zero, List.set_cons_succ]))
    (refine o_pure (v := ?_) (by rfl) (fun w' => ?_) ?_; rotate_left; (focus (go_simp; (try with_reducible rfl); (try (rw [if_pos (by omega)]; (try with_reducible rfl))))); (try simp only [Act.put, List.setIfInBounds_toArray, List.set_cons_zero, List.set_cons_succ]))
    have d1 : w5.cell? ⟨g, 1, none⟩ = some (.slice A n cp) := by rw [K5.out.cell]; rfl
    have f1 := K5.out.frozen 1
    obtain ⟨A5, c5, rfl, hnc5, hcm5, _⟩ := own_form O5.out
    refine o_sole (fun K hK => ?_)
    go_wp2_with fail
    refine hK _ _ (fun h => by cases h) ?_; clear hK K
    refine o_nil (hQ.out _ _ ?_); clear hQ QQ
    have hs6 : Solo g w5 (w5.setCell ⟨g, 1, none⟩ (.slice A5 (n + 1) c5)) := Solo.refl.setCell 1 _
    have K6 : Hid (Blk (w5.setCell ⟨g, 1, none⟩ (.slice A5 (n + 1) c5)) g 57 #[.int .i64 (most : Nat), .slice A5 (n + 1) c5]) := Lib.hid (K5.out.set 1 _)
    have O6 := Lib.hid (own_kept O5.out fun k hk => hs6.2.2 k (fun e => by subst e; exact own_nt O5.out K5.out (by decide) hk))
    have P6 := Lib.hid (P5.out.solo hs6)
    generalize w5.setCell ⟨g, 1, none⟩ (.slice A5 (n + 1) c5) = w6 at K6 O6 P6 ⊢
    clear hs6 d1 f1
    go_wp2_with fail
    go_ret
    have hz : B ≤ w.heap.size := by have := H2.out.hB; have := HGL.out; omega
    exact ⟨rfl, FL.shut H2.out.hB (Nat.le_trans hz P6.out.size) (by rw [List.length_append, hn]; rfl) K6.out (by rw [chs_snoc]; exact O6.out), P6.out⟩
  · rw [decide_eq_false hlt, if_neg hlt]
    have hr1 : (r : Int) < 1 := by omega
    clear h hl hm hb1 hr hlt KC
    go_enter Try.func21, Try.ntmps21
    go_wp2_with fail
    refine FR.out.mono ?_
    rintro e w2 ⟨rfl, hb2⟩
    have H2 := Lib.hid (H1.out.into hb2)
    have HB2 := Lib.hid (HB1.out.trans (hb2.mono HB1.out.size))
    clear hb2 H1 HB1 FR
    go_wp2_with fail
    go_ret
    exact ⟨rfl, H2.out, Kp.of HB2.out⟩
end Go.Proofs.Ytbipcnboammpeaa
