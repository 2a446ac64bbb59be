/- Package addrs: New, Gone, Add, List, Paths. -/
import Derived.Test.YtdcpmfodkggpeaaAd1
import Derived.Test.YtdcpmfodkggpeaaAdP
import Derived.Test.YtdcpmfodkggpeaaShelf
import Derived.Test.YtdcpmfodkggpeaaSz3
import Derived.Sort.OwnSortedInts
namespace Go.Proofs.Ytdcpmfodkggpeaa
open Go.RowKit
set_option linter.unusedVariables false
set_option linter.unusedSimpArgs false
set_option maxRecDepth 20000 in
set_option maxHeartbeats 4000000 in
theorem ad_new (m0 p0 : Int) (w : World) :
    Calls Try.prog 6 #[.int .i64 m0, .int .i64 p0] w fun e w' => ∃ g b, e = .returned (.pointer (some ⟨g, 0, none⟩)) ∧ TB w' w.heap.size g b (.slice none 0 0) (clN 0 8 m0) (clN 1 4 p0) 64 [] ∧ Below w.heap.size w w' := by
  have HB := Lib.hid (bkt_new 64 1 w (by decide) (by decide))
  obtain ⟨m1, hm1⟩ : ∃ a, a = max m0 0 := ⟨_, rfl⟩
  obtain ⟨p1, hp1⟩ : ∃ a, a = max p0 1 := ⟨_, rfl⟩
  obtain ⟨m2, hm2⟩ : ∃ a, a = clN 0 8 m0 := ⟨_, rfl⟩
  obtain ⟨p2, hp2⟩ : ∃ a, a = clN 1 4 p0 := ⟨_, rfl⟩
  have e1 : max m0 0 = m1 := hm1.symm
  have e2 : max p0 1 = p1 := hp1.symm
  have e3 : min m1 8 = (m2 : Int) := by rw [hm2]; unfold clN; split <;> (try split) <;> omega
  have e4 : min p1 4 = (p2 : Int) := by rw [hp2]; unfold clN; split <;> (try split) <;> omega
  have f1 : (if m0 < 0 then 0 else m0) = m1 := by split <;> omega
  have f2 : (if p0 < 1 then 1 else p0) = p1 := by split <;> omega
  have f3 : (if m1 < 8 then m1 else 8) = (m2 : Int) := by split <;> omega
  have f4 : (if p1 < 4 then p1 else 4) = (p2 : Int) := by split <;> omega
  have f5 : (if 8 < m1 then 8 else m1) = (m2 : Int) := by split <;> omega
  have f6 : (if 4 < p1 then 4 else p1) = (p2 : Int) := by split <;> omega
  rw [← hm2, ← hp2]
  clear hm1 hp1 hm2 hp2
  go_enter Try.func6, Try.ntmps6
  go_wp2_with fail
  refine HB.out.mono ?_
  rintro e w2 ⟨rfl, hk, hb⟩
  have HK := Lib.hid (show Bkt w2 w.heap.size 64 1 64 from hk)
  have B2 := Lib.hid hb
  have WL := Lib.hid (show w.heap.size < w2.heap.size from Blk.lt hk)
  clear hk hb HB
  go_wp2_with fail
  go_ret
  refine ⟨w2.heap.size, w.heap.size, rfl, ?_, B2.out.trans ((Below.refl w2.heap.size w2).alloc (Nat.le_refl _) _ |>.mono B2.out.size)⟩
  exact ⟨Nat.le_of_lt WL.out, Nat.le_refl _, by have := WL.out; omega, by simp; have := WL.out; omega, Blk.new _ _ _, Blk.alloc HK.out _, Pzs.nil _ _ _⟩
set_option maxRecDepth 20000 in
set_option maxHeartbeats 4000000 in
theorem ad_list (B g b : Nat) (v : Value) (most paths left : Nat) (l : List (Int × Int)) (w : World) (h : TB w B g b v most paths left l) (hl : l.length ≤ 1000) :
    Calls Try.prog 15 #[.pointer (some ⟨g, 0, none⟩)] w fun e w' => ∃ v', e = .returned v' ∧ Pzs w' 36 w.heap.size v' l ∧ Below w.heap.size w w' := by
  obtain ⟨A, n, c, rfl, hn, _⟩ := h.vform
  have c3 := h.c3
  have HC := Lib.hid (adrClone A n c w.heap.size (pz l) w h.rd (Nat.le_refl _) (pz_one _) (by omega))
  clear h hl
  go_enter Try.func15, Try.ntmps15
  go_wp2_with fail
  refine HC.out.mono ?_
  rintro e w2 ⟨v', rfl, ho, hb⟩
  have HO := Lib.hid (show Pzs w2 36 w.heap.size v' l by unfold Pzs; rw [hn]; exact ho)
  have HB := Lib.hid hb
  clear ho hb HC c3
  go_wp2_with fail
  refine bodyPost_ret (v := v') (by kernel_rfl) rfl ?_
  exact ⟨_, rfl, HO.out, HB.out⟩
theorem pz_erase {l : List (Int × Int)} {k : Nat} : (pz l).take (k * 2) ++ (pz l).drop ((k + 1) * 2) = pz (l.eraseIdx k) := by
  rw [show (pz l).take (k * 2) = pz (l.take k) from fm_take pzel_len l k, show (pz l).drop ((k + 1) * 2) = pz (l.drop (k + 1)) from fm_drop pzel_len l (k + 1), ← pz_append, List.eraseIdx_eq_take_drop_succ]
/-- The row of a table has turned, and is laid down in it. -/
theorem TB.lay {w w1 w2 : World} {B g b most paths left left' : Nat} {v v' : Value} {l l' : List (Int × Int)} (h : TB w B g b v most paths left l) (hk : KT g b v v w w1) (h1 : TB w1 B g b v most paths left' l)
    (hg : w1.grownBy w2 v.ownBlock) (hn : NewOr v v' w1) (ho : Pzs w2 36 B v' l') :
    TB (w2.setCell ⟨g, 3, none⟩ v') B g b v' most paths left' l' ∧ KT g b v v' w (w2.setCell ⟨g, 3, none⟩ v') := by
  have hK2 : Blk w2 g 28 #[.pointer (some ⟨b, 0, none⟩), .int .i64 (most : Nat), .int .i64 (paths : Nat), v] := (hg.block g h1.blk.lt fun e => own_nt h1.row h1.blk (by decide) e.symm).trans h1.blk
  have hB2 : Bkt w2 b 64 1 left' := (hg.block b (Blk.lt h1.bkt) fun e => own_nt h1.row h1.bkt (by decide) e.symm).trans h1.bkt
  have hs : Solo g w2 (w2.setCell ⟨g, 3, none⟩ v') := Solo.refl.setCell 3 _
  refine ⟨⟨h.bg, h.bb, h.ne, Nat.le_trans h1.hw (by rw [hs.2.1]; exact hg.size), hK2.set 3 v', hs.blk hB2 (fun e => h.ne e.symm), own_kept ho fun q hq => hs.2.2 q fun e => own_nt ho hK2 (by decide) (by rw [hq, e])⟩, ?_⟩
  refine hk.trans ⟨hs.1.os.trans hg.os, hs.1.tape.trans hg.tape, hs.1.output.trans hg.output, by rw [hs.2.1]; exact hg.size, fun i hi a1 a2 a3 => (hs.2.2 i a1).trans (hg.block i hi fun e => a3 e.symm), hn⟩
set_option maxRecDepth 20000 in
set_option maxHeartbeats 4000000 in
theorem ad_gone (B g b : Nat) (v : Value) (most paths left : Nat) (l : List (Int × Int)) (id : Int) (w : World) (h : TB w B g b v most paths left l) (hl : l.length ≤ 1000) :
    Calls Try.prog 9 #[.pointer (some ⟨g, 0, none⟩), .int .i64 id] w fun e w' => ∃ v', e = .returned (.bool (adGone l id).2) ∧ TB w' B g b v' most paths left (adGone l id).1 ∧ KT g b v v' w w' := by
  have HP := Lib.hid (ad_place B g b v most paths left l id w h hl)
  have H := Lib.hid h
  obtain ⟨A, n, c, rfl, hn, _⟩ := h.vform
  have HN := Sh.mk hn
  clear h
  by_cases hk : atI l id < l.length
  · have HG := Sh.mk (show adGone l id = (l.eraseIdx (atI l id), true) by unfold adGone; rw [if_pos hk])
    obtain ⟨k, hkk⟩ : ∃ k, k = atI l id := ⟨_, rfl⟩
    have hkn : k < n := by omega
    have hpk : plI l id = (k : Int) := by unfold plI; rw [if_pos hk, hkk]
    rw [← hkk] at HG
    rw [hpk] at HP
    rw [HG.out]
    have k0 : ¬ (k : Int) < 0 := by omega
    have ek : IntKind.i64.wrap ((k : Int) + 1) = ((k + 1 : Nat) : Int) := by rw [IntKind.wrap_i64]; omega
    clear hkk hpk hk HG
    go_enter Try.func9, Try.ntmps9
    go_wp2_with fail
    refine HP.out.mono ?_
    rintro e w2 ⟨rfl, hb⟩
    have H2 := Lib.hid (H.out.into hb)
    have K2 := Lib.hid (KT.of (g := g) (b := b) (v := .slice A n c) hb)
    clear hb HP
    have c3 := H2.out.c3
    have fz := H2.out.blk.frozen 3
    have HD := Lib.hid (adrDelete (.slice A n c) n k (k + 1) B (pz l) w2 (by have := H2.out.row; unfold Pzs at this; rwa [HN.out] at this) (pz_one _) (by omega) (by omega) (by omega))
    go_wp2_with fail
    refine HD.out.mono ?_
    rintro e w3 ⟨v', rfl, ho, hg, hv, hz⟩
    obtain ⟨A', c', rfl, _, _, _⟩ := own_form ho
    obtain ⟨n1, hn1⟩ : ∃ n1, n1 = n - (k + 1 - k) := ⟨_, rfl⟩
    rw [← hn1] at ho hv ⊢
    have HL := Lib.hid (H.out.lay (left' := left) (l' := l.eraseIdx k) K2.out H2.out hg (NewOr.same hv) (show Pzs w3 36 B _ (l.eraseIdx k) by
      unfold Pzs
      rw [show (l.eraseIdx k).length = n1 by rw [List.length_eraseIdx, if_pos (by rw [HN.out]; exact hkn), HN.out]; omega, ← pz_erase]
      exact ho))
    have hKg := (hg.block g H2.out.blk.lt fun e => own_nt H2.out.row H2.out.blk (by decide) e.symm).trans H2.out.blk
    have fz := Blk.frozen hKg 3
    have cz := Blk.cell hKg 3
    simp only [List.getElem?_toArray, List.getElem?_cons_zero, List.getElem?_cons_succ] at cz
    clear hKg ho hg hv hz c3 HD hn1
    go_wp2_with fail
    go_ret
    exact ⟨_, rfl, HL.out.1, HL.out.2⟩
  · have HG := Sh.mk (show adGone l id = (l, false) by unfold adGone; rw [if_neg hk])
    have hpk : plI l id = -1 := by unfold plI; rw [if_neg hk]
    rw [hpk] at HP
    rw [HG.out]
    clear hpk hk HG
    go_enter Try.func9, Try.ntmps9
    go_wp2_with fail
    refine HP.out.mono ?_
    rintro e w2 ⟨rfl, hb⟩
    have H2 := Lib.hid (H.out.into hb)
    have K2 := Lib.hid (KT.of (g := g) (b := b) (v := .slice A n c) hb)
    clear hb HP
    go_wp2_with fail
    go_ret
    exact ⟨_, rfl, H2.out, K2.out⟩
set_option maxRecDepth 20000 in
set_option maxHeartbeats 4000000 in
theorem ad_addA (B g b : Nat) (v : Value) (most paths left : Nat) (l : List (Int × Int)) (x y : Int) (w : World) (h : TB w B g b v most paths left l) (hl : l.length ≤ most) (h8 : most ≤ 8) (h64 : left ≤ 64) (hmay : mayB paths (x, y) = false) :
    Calls Try.prog 13 #[.pointer (some ⟨g, 0, none⟩), .agg #[.int .i64 x, .int .i64 y]] w fun e w' => ∃ v', e = .returned (.bool false) ∧ TB w' B g b v' most paths left l ∧ KT g b v v' w w' := by
  have hb1 := (Below.refl w.heap.size w).alloc (Nat.le_refl _) (.cells #[.int .i64 x, .int .i64 y] 36)
  have K1 := Lib.hid (Blk.new w 36 #[.int .i64 x, .int .i64 y])
  have H1 := Lib.hid (h.into hb1)
  have T1 := Lib.hid (KT.of (g := g) (b := b) (v := v) hb1)
  obtain ⟨A, n, c, rfl, hn, hnc⟩ := h.vform
  have HN := Sh.mk hn
  have hn8 : n ≤ 8 := by omega
  clear h hb1 hl h64
  go_enter Try.func13, Try.ntmps13
  go_upto_region 1 with fail
  generalize w.alloc (.cells #[.int .i64 x, .int .i64 y] 36) = w1 at K1 H1 T1 ⊢
  obtain ⟨X, hX⟩ : ∃ X, X = w.heap.size := ⟨_, rfl⟩
  have HX0 := Sh.mk hX
  rw [← hX] at K1 ⊢
  clear hX
  have MB := Lib.hid (fun w' (hw : Below w1.heap.size w1 w') => ad_may B g b (.slice A n c) most paths left l x y w' (H1.out.into hw))
  rw [hmay] at MB
  have c3 := H1.out.c3
  refine wp_ext (by kernel_rfl) (by kernel_rfl) (fun QQ hQ => ?_)
  (first | (refine x_load _ (by rfl) rfl rfl (by assumption) (by kernel_rfl) ?_; simp only [Act.put, List.setIfInBounds_toArray, List.set_cons_zero, List.set_cons_succ]) | (refine x_val (v := ?_) (by rfl) (fun w' hx => ?_) ?_; rotate_left; (focus (go_simp; (try with_reducible rfl))); (try simp only [Act.put, List.setIfInBounds_toArray, List.set_cons_zero, List.set_cons_succ])))
  refine x_loads _ [.int .i64 x, .int .i64 y] (by rfl) rfl rfl (K1.out.loads 0 _ (by rfl)) (Nat.succ_pos _) (by kernel_rfl) (by kernel_rfl) ?_; simp only [Act.put, List.setIfInBounds_toArray, List.set_cons_zero, List.set_cons_succ]
  refine x_call (by rfl) (fun w' hx => by go_simp) (fun w' hx => MB.out w' hx) ?_; simp only [Act.put, List.setIfInBounds_toArray, List.set_cons_zero, List.set_cons_succ]
  (first | (refine x_load _ (by rfl) rfl rfl (by assumption) (by kernel_rfl) ?_; simp only [Act.put, List.setIfInBounds_toArray, List.set_cons_zero, List.set_cons_succ]) | (refine x_val (v := ?_) (by rfl) (fun w' hx => ?_) ?_; rotate_left; (focus (go_simp; (try with_reducible rfl))); (try simp only [Act.put, List.setIfInBounds_toArray, List.set_cons_zero, List.set_cons_succ])))
  (first | (refine x_load _ (by rfl) rfl rfl (by assumption) (by kernel_rfl) ?_; simp only [Act.put, List.setIfInBounds_toArray, List.set_cons_zero, List.set_cons_succ]) | (refine x_val (v := ?_) (by rfl) (fun w' hx => ?_) ?_; rotate_left; (focus (go_simp; (try with_reducible rfl))); (try simp only [Act.put, List.setIfInBounds_toArray, List.set_cons_zero, List.set_cons_succ])))
  iterate 6 (first | (refine x_skip (by rfl) ?_; simp only [Act.put, List.setIfInBounds_toArray, List.set_cons_zero, List.set_cons_succ]))
  (first | (refine x_load _ (by rfl) rfl rfl (by assumption) (by kernel_rfl) ?_; simp only [Act.put, List.setIfInBounds_toArray, List.set_cons_zero, List.set_cons_succ]) | (refine x_val (v := ?_) (by rfl) (fun w' hx => ?_) ?_; rotate_left; (focus (go_simp; (try with_reducible rfl))); (try simp only [Act.put, List.setIfInBounds_toArray, List.set_cons_zero, List.set_cons_succ])))
  refine x_nil (hQ.out _ ?_); clear hQ QQ
  intro w2 hb
  have H2 := Lib.hid (H1.out.into hb)
  have T2 := Lib.hid (T1.out.trans (KT.of hb))
  have K2 := Lib.hid (K1.out.below hb K1.out.lt)
  clear hb H1 T1 K1 MB c3
  go_wp2_with fail
  go_ret
  exact ⟨_, rfl, H2.out, T2.out⟩
set_option maxRecDepth 20000 in
set_option maxHeartbeats 4000000 in
theorem ad_addB (B g b : Nat) (v : Value) (most paths left : Nat) (l : List (Int × Int)) (x y : Int) (w : World) (h : TB w B g b v most paths left l) (hl : l.length ≤ most) (h8 : most ≤ 8) (h64 : left ≤ 64) (hmay : mayB paths (x, y) = true) (hin : decide ((x, y) ∈ l) = true) :
    Calls Try.prog 13 #[.pointer (some ⟨g, 0, none⟩), .agg #[.int .i64 x, .int .i64 y]] w fun e w' => ∃ v', e = .returned (.bool false) ∧ TB w' B g b v' most paths left l ∧ KT g b v v' w w' := by
  have hb1 := (Below.refl w.heap.size w).alloc (Nat.le_refl _) (.cells #[.int .i64 x, .int .i64 y] 36)
  have K1 := Lib.hid (Blk.new w 36 #[.int .i64 x, .int .i64 y])
  have H1 := Lib.hid (h.into hb1)
  have T1 := Lib.hid (KT.of (g := g) (b := b) (v := v) hb1)
  obtain ⟨A, n, c, rfl, hn, hnc⟩ := h.vform
  have HN := Sh.mk hn
  have hn8 : n ≤ 8 := by omega
  clear h hb1 hl h64
  go_enter Try.func13, Try.ntmps13
  go_upto_region 1 with fail
  generalize w.alloc (.cells #[.int .i64 x, .int .i64 y] 36) = w1 at K1 H1 T1 ⊢
  obtain ⟨X, hX⟩ : ∃ X, X = w.heap.size := ⟨_, rfl⟩
  have HX0 := Sh.mk hX
  rw [← hX] at K1 ⊢
  clear hX
  have MB := Lib.hid (fun w' (hw : Below w1.heap.size w1 w') => ad_may B g b (.slice A n c) most paths left l x y w' (H1.out.into hw))
  have CN := Lib.hid (fun w' (hw : Below w1.heap.size w1 w') => ad_contains A n c x y l w' (H1.out.into hw).rd (by omega))
  rw [hin] at CN
  rw [hmay] at MB
  have c3 := H1.out.c3
  refine wp_ext (by kernel_rfl) (by kernel_rfl) (fun QQ hQ => ?_)
  (first | (refine x_load _ (by rfl) rfl rfl (by assumption) (by kernel_rfl) ?_; simp only [Act.put, List.setIfInBounds_toArray, List.set_cons_zero, List.set_cons_succ]) | (refine x_val (v := ?_) (by rfl) (fun w' hx => ?_) ?_; rotate_left; (focus (go_simp; (try with_reducible rfl))); (try simp only [Act.put, List.setIfInBounds_toArray, List.set_cons_zero, List.set_cons_succ])))
  refine x_loads _ [.int .i64 x, .int .i64 y] (by rfl) rfl rfl (K1.out.loads 0 _ (by rfl)) (Nat.succ_pos _) (by kernel_rfl) (by kernel_rfl) ?_; simp only [Act.put, List.setIfInBounds_toArray, List.set_cons_zero, List.set_cons_succ]
  refine x_call (by rfl) (fun w' hx => by go_simp) (fun w' hx => MB.out w' hx) ?_; simp only [Act.put, List.setIfInBounds_toArray, List.set_cons_zero, List.set_cons_succ]
  (first | (refine x_load _ (by rfl) rfl rfl (by assumption) (by kernel_rfl) ?_; simp only [Act.put, List.setIfInBounds_toArray, List.set_cons_zero, List.set_cons_succ]) | (refine x_val (v := ?_) (by rfl) (fun w' hx => ?_) ?_; rotate_left; (focus (go_simp; (try with_reducible rfl))); (try simp only [Act.put, List.setIfInBounds_toArray, List.set_cons_zero, List.set_cons_succ])))
  (first | (refine x_load _ (by rfl) rfl rfl (by assumption) (by kernel_rfl) ?_; simp only [Act.put, List.setIfInBounds_toArray, List.set_cons_zero, List.set_cons_succ]) | (refine x_val (v := ?_) (by rfl) (fun w' hx => ?_) ?_; rotate_left; (focus (go_simp; (try with_reducible rfl))); (try simp only [Act.put, List.setIfInBounds_toArray, List.set_cons_zero, List.set_cons_succ])))
  (first | (refine x_load _ (by rfl) rfl rfl (by assumption) (by kernel_rfl) ?_; simp only [Act.put, List.setIfInBounds_toArray, List.set_cons_zero, List.set_cons_succ]) | (refine x_val (v := ?_) (by rfl) (fun w' hx => ?_) ?_; rotate_left; (focus (go_simp; (try with_reducible rfl))); (try simp only [Act.put, List.setIfInBounds_toArray, List.set_cons_zero, List.set_cons_succ])))
  (first | (refine x_load _ (by rfl) rfl rfl (by assumption) (by kernel_rfl) ?_; simp only [Act.put, List.setIfInBounds_toArray, List.set_cons_zero, List.set_cons_succ]) | (refine x_val (v := ?_) (by rfl) (fun w' hx => ?_) ?_; rotate_left; (focus (go_simp; (try with_reducible rfl))); (try simp only [Act.put, List.setIfInBounds_toArray, List.set_cons_zero, List.set_cons_succ])))
  (first | (refine x_load _ (by rfl) rfl rfl (by assumption) (by kernel_rfl) ?_; simp only [Act.put, List.setIfInBounds_toArray, List.set_cons_zero, List.set_cons_succ]) | (refine x_val (v := ?_) (by rfl) (fun w' hx => ?_) ?_; rotate_left; (focus (go_simp; (try with_reducible rfl))); (try simp only [Act.put, List.setIfInBounds_toArray, List.set_cons_zero, List.set_cons_succ])))
  (first | (refine x_load _ (by rfl) rfl rfl (by assumption) (by kernel_rfl) ?_; simp only [Act.put, List.setIfInBounds_toArray, List.set_cons_zero, List.set_cons_succ]) | (refine x_val (v := ?_) (by rfl) (fun w' hx => ?_) ?_; rotate_left; (focus (go_simp; (try with_reducible rfl))); (try simp only [Act.put, List.setIfInBounds_toArray, List.set_cons_zero, List.set_cons_succ])))
  refine x_loads _ [.int .i64 x, .int .i64 y] (by rfl) rfl rfl (K1.out.loads 0 _ (by rfl)) (Nat.succ_pos _) (by kernel_rfl) (by kernel_rfl) ?_; simp only [Act.put, List.setIfInBounds_toArray, List.set_cons_zero, List.set_cons_succ]
  refine x_call (by rfl) (fun w' hx => by go_simp) (fun w' hx => CN.out w' hx) ?_; simp only [Act.put, List.setIfInBounds_toArray, List.set_cons_zero, List.set_cons_succ]
  (first | (refine x_load _ (by rfl) rfl rfl (by assumption) (by kernel_rfl) ?_; simp only [Act.put, List.setIfInBounds_toArray, List.set_cons_zero, List.set_cons_succ]) | (refine x_val (v := ?_) (by rfl) (fun w' hx => ?_) ?_; rotate_left; (focus (go_simp; (try with_reducible rfl))); (try simp only [Act.put, List.setIfInBounds_toArray, List.set_cons_zero, List.set_cons_succ])))
  refine x_nil (hQ.out _ ?_); clear hQ QQ
  intro w2 hb
  have H2 := Lib.hid (H1.out.into hb)
  have T2 := Lib.hid (T1.out.trans (KT.of hb))
  have K2 := Lib.hid (K1.out.below hb K1.out.lt)
  clear hb H1 T1 K1 MB c3
  go_wp2_with fail
  go_ret
  exact ⟨_, rfl, H2.out, T2.out⟩
set_option maxRecDepth 20000 in
set_option maxHeartbeats 4000000 in
theorem ad_addC (B g b : Nat) (v : Value) (most paths left : Nat) (l : List (Int × Int)) (x y : Int) (w : World) (h : TB w B g b v most paths left l) (hl : l.length ≤ most) (h8 : most ≤ 8) (h64 : left ≤ 64) (hmay : mayB paths (x, y) = true) (hin : decide ((x, y) ∈ l) = false) (hpl : plI l x = -1) (hfull : most ≤ l.length) :
    Calls Try.prog 13 #[.pointer (some ⟨g, 0, none⟩), .agg #[.int .i64 x, .int .i64 y]] w fun e w' => ∃ v', e = .returned (.bool false) ∧ TB w' B g b v' most paths left l ∧ KT g b v v' w w' := by
  have hb1 := (Below.refl w.heap.size w).alloc (Nat.le_refl _) (.cells #[.int .i64 x, .int .i64 y] 36)
  have K1 := Lib.hid (Blk.new w 36 #[.int .i64 x, .int .i64 y])
  have H1 := Lib.hid (h.into hb1)
  have T1 := Lib.hid (KT.of (g := g) (b := b) (v := v) hb1)
  obtain ⟨A, n, c, rfl, hn, hnc⟩ := h.vform
  have HN := Sh.mk hn
  have hn8 : n ≤ 8 := by omega
  clear h hb1 h64
  go_enter Try.func13, Try.ntmps13
  go_upto_region 1 with fail
  generalize w.alloc (.cells #[.int .i64 x, .int .i64 y] 36) = w1 at K1 H1 T1 ⊢
  obtain ⟨X, hX⟩ : ∃ X, X = w.heap.size := ⟨_, rfl⟩
  have HX0 := Sh.mk hX
  rw [← hX] at K1 ⊢
  clear hX
  have MB := Lib.hid (fun w' (hw : Below w1.heap.size w1 w') => ad_may B g b (.slice A n c) most paths left l x y w' (H1.out.into hw))
  have CN := Lib.hid (fun w' (hw : Below w1.heap.size w1 w') => ad_contains A n c x y l w' (H1.out.into hw).rd (by omega))
  rw [hin] at CN
  rw [hmay] at MB
  have c3 := H1.out.c3
  refine wp_ext (by kernel_rfl) (by kernel_rfl) (fun QQ hQ => ?_)
  (first | (refine x_load _ (by rfl) rfl rfl (by assumption) (by kernel_rfl) ?_; simp only [Act.put, List.setIfInBounds_toArray, List.set_cons_zero, List.set_cons_succ]) | (refine x_val (v := ?_) (by rfl) (fun w' hx => ?_) ?_; rotate_left; (focus (go_simp; (try with_reducible rfl))); (try simp only [Act.put, List.setIfInBounds_toArray, List.set_cons_zero, List.set_cons_succ])))
  refine x_loads _ [.int .i64 x, .int .i64 y] (by rfl) rfl rfl (K1.out.loads 0 _ (by rfl)) (Nat.succ_pos _) (by kernel_rfl) (by kernel_rfl) ?_; simp only [Act.put, List.setIfInBounds_toArray, List.set_cons_zero, List.set_cons_succ]
  refine x_call (by rfl) (fun w' hx => by go_simp) (fun w' hx => MB.out w' hx) ?_; simp only [Act.put, List.setIfInBounds_toArray, List.set_cons_zero, List.set_cons_succ]
  (first | (refine x_load _ (by rfl) rfl rfl (by assumption) (by kernel_rfl) ?_; simp only [Act.put, List.setIfInBounds_toArray, List.set_cons_zero, List.set_cons_succ]) | (refine x_val (v := ?_) (by rfl) (fun w' hx => ?_) ?_; rotate_left; (focus (go_simp; (try with_reducible rfl))); (try simp only [Act.put, List.setIfInBounds_toArray, List.set_cons_zero, List.set_cons_succ])))
  (first | (refine x_load _ (by rfl) rfl rfl (by assumption) (by kernel_rfl) ?_; simp only [Act.put, List.setIfInBounds_toArray, List.set_cons_zero, List.set_cons_succ]) | (refine x_val (v := ?_) (by rfl) (fun w' hx => ?_) ?_; rotate_left; (focus (go_simp; (try with_reducible rfl))); (try simp only [Act.put, List.setIfInBounds_toArray, List.set_cons_zero, List.set_cons_succ])))
  (first | (refine x_load _ (by rfl) rfl rfl (by assumption) (by kernel_rfl) ?_; simp only [Act.put, List.setIfInBounds_toArray, List.set_cons_zero, List.set_cons_succ]) | (refine x_val (v := ?_) (by rfl) (fun w' hx => ?_) ?_; rotate_left; (focus (go_simp; (try with_reducible rfl))); (try simp only [Act.put, List.setIfInBounds_toArray, List.set_cons_zero, List.set_cons_succ])))
  (first | (refine x_load _ (by rfl) rfl rfl (by assumption) (by kernel_rfl) ?_; simp only [Act.put, List.setIfInBounds_toArray, List.set_cons_zero, List.set_cons_succ]) | (refine x_val (v := ?_) (by rfl) (fun w' hx => ?_) ?_; rotate_left; (focus (go_simp; (try with_reducible rfl))); (try simp only [Act.put, List.setIfInBounds_toArray, List.set_cons_zero, List.set_cons_succ])))
  (first | (refine x_load _ (by rfl) rfl rfl (by assumption) (by kernel_rfl) ?_; simp only [Act.put, List.setIfInBounds_toArray, List.set_cons_zero, List.set_cons_succ]) | (refine x_val (v := ?_) (by rfl) (fun w' hx => ?_) ?_; rotate_left; (focus (go_simp; (try with_reducible rfl))); (try simp only [Act.put, List.setIfInBounds_toArray, List.set_cons_zero, List.set_cons_succ])))
  (first | (refine x_load _ (by rfl) rfl rfl (by assumption) (by kernel_rfl) ?_; simp only [Act.put, List.setIfInBounds_toArray, List.set_cons_zero, List.set_cons_succ]) | (refine x_val (v := ?_) (by rfl) (fun w' hx => ?_) ?_; rotate_left; (focus (go_simp; (try with_reducible rfl))); (try simp only [Act.put, List.setIfInBounds_toArray, List.set_cons_zero, List.set_cons_succ])))
  refine x_loads _ [.int .i64 x, .int .i64 y] (by rfl) rfl rfl (K1.out.loads 0 _ (by rfl)) (Nat.succ_pos _) (by kernel_rfl) (by kernel_rfl) ?_; simp only [Act.put, List.setIfInBounds_toArray, List.set_cons_zero, List.set_cons_succ]
  refine x_call (by rfl) (fun w' hx => by go_simp) (fun w' hx => CN.out w' hx) ?_; simp only [Act.put, List.setIfInBounds_toArray, List.set_cons_zero, List.set_cons_succ]
  (first | (refine x_load _ (by rfl) rfl rfl (by assumption) (by kernel_rfl) ?_; simp only [Act.put, List.setIfInBounds_toArray, List.set_cons_zero, List.set_cons_succ]) | (refine x_val (v := ?_) (by rfl) (fun w' hx => ?_) ?_; rotate_left; (focus (go_simp; (try with_reducible rfl))); (try simp only [Act.put, List.setIfInBounds_toArray, List.set_cons_zero, List.set_cons_succ])))
  refine x_nil (hQ.out _ ?_); clear hQ QQ
  intro w2 hb
  have H2 := Lib.hid (H1.out.into hb)
  have T2 := Lib.hid (T1.out.trans (KT.of hb))
  have K2 := Lib.hid (K1.out.below hb K1.out.lt)
  clear hb H1 T1 K1 MB c3
  have HP := Lib.hid (ad_place B g b (.slice A n c) most paths left l x w2 H2.out (by rw [HN.out]; omega))
  have a0 : w2.cell? ⟨X, 0, none⟩ = some (.int .i64 x) := by rw [K2.out.cell]; rfl
  go_wp2_with fail
  refine HP.out.mono ?_
  rintro e w3 ⟨rfl, hb⟩
  have H3 := Lib.hid (H2.out.into hb)
  have T3 := Lib.hid (T2.out.trans (KT.of hb))
  have K3 := Lib.hid (K2.out.below hb K2.out.lt)
  clear hb H2 T2 K2 a0 HP
  have hnm : n = most := by have := HN.out; omega
  subst hnm
  rw [hpl]
  have c3 := H3.out.c3
  have c1 := H3.out.c1
  clear hl hfull CN
  go_upto_region 4 with fail
  refine wp_ext (by kernel_rfl) (by kernel_rfl) (fun QQ hQ => ?_)
  iterate 19 (first | (refine x_skip (by rfl) ?_; simp only [Act.put, List.setIfInBounds_toArray, List.set_cons_zero, List.set_cons_succ]) | (first | (refine x_load _ (by rfl) rfl rfl (by assumption) (by kernel_rfl) ?_; simp only [Act.put, List.setIfInBounds_toArray, List.set_cons_zero, List.set_cons_succ]) | (refine x_val (v := ?_) (by rfl) (fun w' hx => ?_) ?_; rotate_left; (focus (go_simp; (try with_reducible rfl))); (try simp only [Act.put, List.setIfInBounds_toArray, List.set_cons_zero, List.set_cons_succ]))))
  refine x_nil (hQ.out _ ?_); clear hQ QQ
  intro w4 hb
  have H4 := Lib.hid (H3.out.into hb)
  have T4 := Lib.hid (T3.out.trans (KT.of hb))
  clear hb H3 T3 c3 c1
  go_wp2_with fail
  go_ret
  exact ⟨_, rfl, H4.out, T4.out⟩
set_option maxRecDepth 20000 in
set_option maxHeartbeats 4000000 in
theorem ad_addD (B g b : Nat) (v : Value) (most paths left : Nat) (l : List (Int × Int)) (x y : Int) (w : World) (h : TB w B g b v most paths left l) (hl : l.length ≤ most) (h8 : most ≤ 8) (h64 : left ≤ 64) (hmay : mayB paths (x, y) = true) (hin : decide ((x, y) ∈ l) = false) (k : Nat) (hpl : plI l x = (k : Int)) (hlow : left < 16) :
    Calls Try.prog 13 #[.pointer (some ⟨g, 0, none⟩), .agg #[.int .i64 x, .int .i64 y]] w fun e w' => ∃ v', e = .returned (.bool false) ∧ TB w' B g b v' most paths left l ∧ KT g b v v' w w' := by
  have hb1 := (Below.refl w.heap.size w).alloc (Nat.le_refl _) (.cells #[.int .i64 x, .int .i64 y] 36)
  have K1 := Lib.hid (Blk.new w 36 #[.int .i64 x, .int .i64 y])
  have H1 := Lib.hid (h.into hb1)
  have T1 := Lib.hid (KT.of (g := g) (b := b) (v := v) hb1)
  obtain ⟨A, n, c, rfl, hn, hnc⟩ := h.vform
  have HN := Sh.mk hn
  have hn8 : n ≤ 8 := by omega
  clear h hb1 h64
  go_enter Try.func13, Try.ntmps13
  go_upto_region 1 with fail
  generalize w.alloc (.cells #[.int .i64 x, .int .i64 y] 36) = w1 at K1 H1 T1 ⊢
  obtain ⟨X, hX⟩ : ∃ X, X = w.heap.size := ⟨_, rfl⟩
  have HX0 := Sh.mk hX
  rw [← hX] at K1 ⊢
  clear hX
  have MB := Lib.hid (fun w' (hw : Below w1.heap.size w1 w') => ad_may B g b (.slice A n c) most paths left l x y w' (H1.out.into hw))
  have CN := Lib.hid (fun w' (hw : Below w1.heap.size w1 w') => ad_contains A n c x y l w' (H1.out.into hw).rd (by omega))
  rw [hin] at CN
  rw [hmay] at MB
  have c3 := H1.out.c3
  refine wp_ext (by kernel_rfl) (by kernel_rfl) (fun QQ hQ => ?_)
  (first | (refine x_load _ (by rfl) rfl rfl (by assumption) (by kernel_rfl) ?_; simp only [Act.put, List.setIfInBounds_toArray, List.set_cons_zero, List.set_cons_succ]) | (refine x_val (v := ?_) (by rfl) (fun w' hx => ?_) ?_; rotate_left; (focus (go_simp; (try with_reducible rfl))); (try simp only [Act.put, List.setIfInBounds_toArray, List.set_cons_zero, List.set_cons_succ])))
  refine x_loads _ [.int .i64 x, .int .i64 y] (by rfl) rfl rfl (K1.out.loads 0 _ (by rfl)) (Nat.succ_pos _) (by kernel_rfl) (by kernel_rfl) ?_; simp only [Act.put, List.setIfInBounds_toArray, List.set_cons_zero, List.set_cons_succ]
  refine x_call (by rfl) (fun w' hx => by go_simp) (fun w' hx => MB.out w' hx) ?_; simp only [Act.put, List.setIfInBounds_toArray, List.set_cons_zero, List.set_cons_succ]
  (first | (refine x_load _ (by rfl) rfl rfl (by assumption) (by kernel_rfl) ?_; simp only [Act.put, List.setIfInBounds_toArray, List.set_cons_zero, List.set_cons_succ]) | (refine x_val (v := ?_) (by rfl) (fun w' hx => ?_) ?_; rotate_left; (focus (go_simp; (try with_reducible rfl))); (try simp only [Act.put, List.setIfInBounds_toArray, List.set_cons_zero, List.set_cons_succ])))
  (first | (refine x_load _ (by rfl) rfl rfl (by assumption) (by kernel_rfl) ?_; simp only [Act.put, List.setIfInBounds_toArray, List.set_cons_zero, List.set_cons_succ]) | (refine x_val (v := ?_) (by rfl) (fun w' hx => ?_) ?_; rotate_left; (focus (go_simp; (try with_reducible rfl))); (try simp only [Act.put, List.setIfInBounds_toArray, List.set_cons_zero, List.set_cons_succ])))
  (first | (refine x_load _ (by rfl) rfl rfl (by assumption) (by kernel_rfl) ?_; simp only [Act.put, List.setIfInBounds_toArray, List.set_cons_zero, List.set_cons_succ]) | (refine x_val (v := ?_) (by rfl) (fun w' hx => ?_) ?_; rotate_left; (focus (go_simp; (try with_reducible rfl))); (try simp only [Act.put, List.setIfInBounds_toArray, List.set_cons_zero, List.set_cons_succ])))
  (first | (refine x_load _ (by rfl) rfl rfl (by assumption) (by kernel_rfl) ?_; simp only [Act.put, List.setIfInBounds_toArray, List.set_cons_zero, List.set_cons_succ]) | (refine x_val (v := ?_) (by rfl) (fun w' hx => ?_) ?_; rotate_left; (focus (go_simp; (try with_reducible rfl))); (try simp only [Act.put, List.setIfInBounds_toArray, List.set_cons_zero, List.set_cons_succ])))
  (first | (refine x_load _ (by rfl) rfl rfl (by assumption) (by kernel_rfl) ?_; simp only [Act.put, List.setIfInBounds_toArray, List.set_cons_zero, List.set_cons_succ]) | (refine x_val (v := ?_) (by rfl) (fun w' hx => ?_) ?_; rotate_left; (focus (go_simp; (try with_reducible rfl))); (try simp only [Act.put, List.setIfInBounds_toArray, List.set_cons_zero, List.set_cons_succ])))
  (first | (refine x_load _ (by rfl) rfl rfl (by assumption) (by kernel_rfl) ?_; simp only [Act.put, List.setIfInBounds_toArray, List.set_cons_zero, List.set_cons_succ]) | (refine x_val (v := ?_) (by rfl) (fun w' hx => ?_) ?_; rotate_left; (focus (go_simp; (try with_reducible rfl))); (try simp only [Act.put, List.setIfInBounds_toArray, List.set_cons_zero, List.set_cons_succ])))
  refine x_loads _ [.int .i64 x, .int .i64 y] (by rfl) rfl rfl (K1.out.loads 0 _ (by rfl)) (Nat.succ_pos _) (by kernel_rfl) (by kernel_rfl) ?_; simp only [Act.put, List.setIfInBounds_toArray, List.set_cons_zero, List.set_cons_succ]
  refine x_call (by rfl) (fun w' hx => by go_simp) (fun w' hx => CN.out w' hx) ?_; simp only [Act.put, List.setIfInBounds_toArray, List.set_cons_zero, List.set_cons_succ]
  (first | (refine x_load _ (by rfl) rfl rfl (by assumption) (by kernel_rfl) ?_; simp only [Act.put, List.setIfInBounds_toArray, List.set_cons_zero, List.set_cons_succ]) | (refine x_val (v := ?_) (by rfl) (fun w' hx => ?_) ?_; rotate_left; (focus (go_simp; (try with_reducible rfl))); (try simp only [Act.put, List.setIfInBounds_toArray, List.set_cons_zero, List.set_cons_succ])))
  refine x_nil (hQ.out _ ?_); clear hQ QQ
  intro w2 hb
  have H2 := Lib.hid (H1.out.into hb)
  have T2 := Lib.hid (T1.out.trans (KT.of hb))
  have K2 := Lib.hid (K1.out.below hb K1.out.lt)
  clear hb H1 T1 K1 MB c3
  have HP := Lib.hid (ad_place B g b (.slice A n c) most paths left l x w2 H2.out (by rw [HN.out]; omega))
  have a0 : w2.cell? ⟨X, 0, none⟩ = some (.int .i64 x) := by rw [K2.out.cell]; rfl
  go_wp2_with fail
  refine HP.out.mono ?_
  rintro e w3 ⟨rfl, hb⟩
  have H3 := Lib.hid (H2.out.into hb)
  have T3 := Lib.hid (T2.out.trans (KT.of hb))
  have K3 := Lib.hid (K2.out.below hb K2.out.lt)
  clear hb H2 T2 K2 a0 HP
  have hk0 : ¬ (k : Int) < 0 := by omega
  have hkd : decide ((k : Int) < 0) = false := decide_eq_false hk0
  rw [hpl]
  have c3 := H3.out.c3
  have c1 := H3.out.c1
  have PY := Lib.hid (fun w' (hw : Below w3.heap.size w3 w') => (ad_pay_no B g b (.slice A n c) most paths left l w' (H3.out.into hw) hlow).mono (R' := fun e w'' => e = .returned (.bool false) ∧ Below w'.heap.size w' w'') (by rintro e w'' ⟨rfl, rfl⟩; exact ⟨rfl, Below.refl _ _⟩))
  clear CN
  go_upto_region 4 with fail
  refine wp_ext (by kernel_rfl) (by kernel_rfl) (fun QQ hQ => ?_)
  iterate 16 (first | (refine x_skip (by rfl) ?_; simp only [Act.put, List.setIfInBounds_toArray, List.set_cons_zero, List.set_cons_succ]) | (first | (refine x_load _ (by rfl) rfl rfl (by assumption) (by kernel_rfl) ?_; simp only [Act.put, List.setIfInBounds_toArray, List.set_cons_zero, List.set_cons_succ]) | (refine x_val (v := ?_) (by rfl) (fun w' hx => ?_) ?_; rotate_left; (focus (go_simp; (try with_reducible rfl))); (try simp only [Act.put, List.setIfInBounds_toArray, List.set_cons_zero, List.set_cons_succ]))))
  refine x_call (by rfl) (fun w' hx => by go_simp) (fun w' hx => PY.out w' hx) ?_; simp only [Act.put, List.setIfInBounds_toArray, List.set_cons_zero, List.set_cons_succ]
  (first | (refine x_load _ (by rfl) rfl rfl (by assumption) (by kernel_rfl) ?_; simp only [Act.put, List.setIfInBounds_toArray, List.set_cons_zero, List.set_cons_succ]) | (refine x_val (v := ?_) (by rfl) (fun w' hx => ?_) ?_; rotate_left; (focus (go_simp; (try with_reducible rfl))); (try simp only [Act.put, List.setIfInBounds_toArray, List.set_cons_zero, List.set_cons_succ])))
  (first | (refine x_load _ (by rfl) rfl rfl (by assumption) (by kernel_rfl) ?_; simp only [Act.put, List.setIfInBounds_toArray, List.set_cons_zero, List.set_cons_succ]) | (refine x_val (v := ?_) (by rfl) (fun w' hx => ?_) ?_; rotate_left; (focus (go_simp; (try with_reducible rfl))); (try simp only [Act.put, List.setIfInBounds_toArray, List.set_cons_zero, List.set_cons_succ])))
  refine x_nil (hQ.out _ ?_); clear hQ QQ
  intro w4 hb
  have H4 := Lib.hid (H3.out.into hb)
  have T4 := Lib.hid (T3.out.trans (KT.of hb))
  clear hb H3 T3 c3 c1
  go_wp2_with fail
  go_ret
  exact ⟨_, rfl, H4.out, T4.out⟩
set_option maxRecDepth 20000 in
set_option maxHeartbeats 4000000 in
theorem ad_addE (B g b : Nat) (v : Value) (most paths left : Nat) (l : List (Int × Int)) (x y : Int) (w : World) (h : TB w B g b v most paths left l) (hl : l.length ≤ most) (h8 : most ≤ 8) (h64 : left ≤ 64) (hmay : mayB paths (x, y) = true) (hin : decide ((x, y) ∈ l) = false) (hpl : plI l x = -1) (hroom : l.length < most) (hlow : left < 16) :
    Calls Try.prog 13 #[.pointer (some ⟨g, 0, none⟩), .agg #[.int .i64 x, .int .i64 y]] w fun e w' => ∃ v', e = .returned (.bool false) ∧ TB w' B g b v' most paths left l ∧ KT g b v v' w w' := by
  have hb1 := (Below.refl w.heap.size w).alloc (Nat.le_refl _) (.cells #[.int .i64 x, .int .i64 y] 36)
  have K1 := Lib.hid (Blk.new w 36 #[.int .i64 x, .int .i64 y])
  have H1 := Lib.hid (h.into hb1)
  have T1 := Lib.hid (KT.of (g := g) (b := b) (v := v) hb1)
  obtain ⟨A, n, c, rfl, hn, hnc⟩ := h.vform
  have HN := Sh.mk hn
  have hn8 : n ≤ 8 := by omega
  clear h hb1 h64
  go_enter Try.func13, Try.ntmps13
  go_upto_region 1 with fail
  generalize w.alloc (.cells #[.int .i64 x, .int .i64 y] 36) = w1 at K1 H1 T1 ⊢
  obtain ⟨X, hX⟩ : ∃ X, X = w.heap.size := ⟨_, rfl⟩
  have HX0 := Sh.mk hX
  rw [← hX] at K1 ⊢
  clear hX
  have MB := Lib.hid (fun w' (hw : Below w1.heap.size w1 w') => ad_may B g b (.slice A n c) most paths left l x y w' (H1.out.into hw))
  have CN := Lib.hid (fun w' (hw : Below w1.heap.size w1 w') => ad_contains A n c x y l w' (H1.out.into hw).rd (by omega))
  rw [hin] at CN
  rw [hmay] at MB
  have c3 := H1.out.c3
  refine wp_ext (by kernel_rfl) (by kernel_rfl) (fun QQ hQ => ?_)
  (first | (refine x_load _ (by rfl) rfl rfl (by assumption) (by kernel_rfl) ?_; simp only [Act.put, List.setIfInBounds_toArray, List.set_cons_zero, List.set_cons_succ]) | (refine x_val (v := ?_) (by rfl) (fun w' hx => ?_) ?_; rotate_left; (focus (go_simp; (try with_reducible rfl))); (try simp only [Act.put, List.setIfInBounds_toArray, List.set_cons_zero, List.set_cons_succ])))
  refine x_loads _ [.int .i64 x, .int .i64 y] (by rfl) rfl rfl (K1.out.loads 0 _ (by rfl)) (Nat.succ_pos _) (by kernel_rfl) (by kernel_rfl) ?_; simp only [Act.put, List.setIfInBounds_toArray, List.set_cons_zero, List.set_cons_succ]
  refine x_call (by rfl) (fun w' hx => by go_simp) (fun w' hx => MB.out w' hx) ?_; simp only [Act.put, List.setIfInBounds_toArray, List.set_cons_zero, List.set_cons_succ]
  (first | (refine x_load _ (by rfl) rfl rfl (by assumption) (by kernel_rfl) ?_; simp only [Act.put, List.setIfInBounds_toArray, List.set_cons_zero, List.set_cons_succ]) | (refine x_val (v := ?_) (by rfl) (fun w' hx => ?_) ?_; rotate_left; (focus (go_simp; (try with_reducible rfl))); (try simp only [Act.put, List.setIfInBounds_toArray, List.set_cons_zero, List.set_cons_succ])))
  (first | (refine x_load _ (by rfl) rfl rfl (by assumption) (by kernel_rfl) ?_; simp only [Act.put, List.setIfInBounds_toArray, List.set_cons_zero, List.set_cons_succ]) | (refine x_val (v := ?_) (by rfl) (fun w' hx => ?_) ?_; rotate_left; (focus (go_simp; (try with_reducible rfl))); (try simp only [Act.put, List.setIfInBounds_toArray, List.set_cons_zero, List.set_cons_succ])))
  (first | (refine x_load _ (by rfl) rfl rfl (by assumption) (by kernel_rfl) ?_; simp only [Act.put, List.setIfInBounds_toArray, List.set_cons_zero, List.set_cons_succ]) | (refine x_val (v := ?_) (by rfl) (fun w' hx => ?_) ?_; rotate_left; (focus (go_simp; (try with_reducible rfl))); (try simp only [Act.put, List.setIfInBounds_toArray, List.set_cons_zero, List.set_cons_succ])))
  (first | (refine x_load _ (by rfl) rfl rfl (by assumption) (by kernel_rfl) ?_; simp only [Act.put, List.setIfInBounds_toArray, List.set_cons_zero, List.set_cons_succ]) | (refine x_val (v := ?_) (by rfl) (fun w' hx => ?_) ?_; rotate_left; (focus (go_simp; (try with_reducible rfl))); (try simp only [Act.put, List.setIfInBounds_toArray, List.set_cons_zero, List.set_cons_succ])))
  (first | (refine x_load _ (by rfl) rfl rfl (by assumption) (by kernel_rfl) ?_; simp only [Act.put, List.setIfInBounds_toArray, List.set_cons_zero, List.set_cons_succ]) | (refine x_val (v := ?_) (by rfl) (fun w' hx => ?_) ?_; rotate_left; (focus (go_simp; (try with_reducible rfl))); (try simp only [Act.put, List.setIfInBounds_toArray, List.set_cons_zero, List.set_cons_succ])))
  (first | (refine x_load _ (by rfl) rfl rfl (by assumption) (by kernel_rfl) ?_; simp only [Act.put, List.setIfInBounds_toArray, List.set_cons_zero, List.set_cons_succ]) | (refine x_val (v := ?_) (by rfl) (fun w' hx => ?_) ?_; rotate_left; (focus (go_simp; (try with_reducible rfl))); (try simp only [Act.put, List.setIfInBounds_toArray, List.set_cons_zero, List.set_cons_succ])))
  refine x_loads _ [.int .i64 x, .int .i64 y] (by rfl) rfl rfl (K1.out.loads 0 _ (by rfl)) (Nat.succ_pos _) (by kernel_rfl) (by kernel_rfl) ?_; simp only [Act.put, List.setIfInBounds_toArray, List.set_cons_zero, List.set_cons_succ]
  refine x_call (by rfl) (fun w' hx => by go_simp) (fun w' hx => CN.out w' hx) ?_; simp only [Act.put, List.setIfInBounds_toArray, List.set_cons_zero, List.set_cons_succ]
  (first | (refine x_load _ (by rfl) rfl rfl (by assumption) (by kernel_rfl) ?_; simp only [Act.put, List.setIfInBounds_toArray, List.set_cons_zero, List.set_cons_succ]) | (refine x_val (v := ?_) (by rfl) (fun w' hx => ?_) ?_; rotate_left; (focus (go_simp; (try with_reducible rfl))); (try simp only [Act.put, List.setIfInBounds_toArray, List.set_cons_zero, List.set_cons_succ])))
  refine x_nil (hQ.out _ ?_); clear hQ QQ
  intro w2 hb
  have H2 := Lib.hid (H1.out.into hb)
  have T2 := Lib.hid (T1.out.trans (KT.of hb))
  have K2 := Lib.hid (K1.out.below hb K1.out.lt)
  clear hb H1 T1 K1 MB c3
  have HP := Lib.hid (ad_place B g b (.slice A n c) most paths left l x w2 H2.out (by rw [HN.out]; omega))
  have a0 : w2.cell? ⟨X, 0, none⟩ = some (.int .i64 x) := by rw [K2.out.cell]; rfl
  go_wp2_with fail
  refine HP.out.mono ?_
  rintro e w3 ⟨rfl, hb⟩
  have H3 := Lib.hid (H2.out.into hb)
  have T3 := Lib.hid (T2.out.trans (KT.of hb))
  have K3 := Lib.hid (K2.out.below hb K2.out.lt)
  clear hb H2 T2 K2 a0 HP
  have hnm : ¬ (most : Int) ≤ (n : Int) := by have := HN.out; omega
  have hnd : decide ((most : Int) ≤ (n : Int)) = false := decide_eq_false hnm
  have hnn : decide (most ≤ n) = false := decide_eq_false (by omega)
  rw [hpl]
  have c3 := H3.out.c3
  have c1 := H3.out.c1
  have PY := Lib.hid (fun w' (hw : Below w3.heap.size w3 w') => (ad_pay_no B g b (.slice A n c) most paths left l w' (H3.out.into hw) hlow).mono (R' := fun e w'' => e = .returned (.bool false) ∧ Below w'.heap.size w' w'') (by rintro e w'' ⟨rfl, rfl⟩; exact ⟨rfl, Below.refl _ _⟩))
  clear CN
  go_upto_region 4 with fail
  refine wp_ext (by kernel_rfl) (by kernel_rfl) (fun QQ hQ => ?_)
  iterate 16 (first | (refine x_skip (by rfl) ?_; simp only [Act.put, List.setIfInBounds_toArray, List.set_cons_zero, List.set_cons_succ]) | (first | (refine x_load _ (by rfl) rfl rfl (by assumption) (by kernel_rfl) ?_; simp only [Act.put, List.setIfInBounds_toArray, List.set_cons_zero, List.set_cons_succ]) | (refine x_val (v := ?_) (by rfl) (fun w' hx => ?_) ?_; rotate_left; (focus (go_simp; (try with_reducible rfl))); (try simp only [Act.put, List.setIfInBounds_toArray, List.set_cons_zero, List.set_cons_succ]))))
  refine x_call (by rfl) (fun w' hx => by go_simp) (fun w' hx => PY.out w' hx) ?_; simp only [Act.put, List.setIfInBounds_toArray, List.set_cons_zero, List.set_cons_succ]
  (first | (refine x_load _ (by rfl) rfl rfl (by assumption) (by kernel_rfl) ?_; simp only [Act.put, List.setIfInBounds_toArray, List.set_cons_zero, List.set_cons_succ]) | (refine x_val (v := ?_) (by rfl) (fun w' hx => ?_) ?_; rotate_left; (focus (go_simp; (try with_reducible rfl))); (try simp only [Act.put, List.setIfInBounds_toArray, List.set_cons_zero, List.set_cons_succ])))
  (first | (refine x_load _ (by rfl) rfl rfl (by assumption) (by kernel_rfl) ?_; simp only [Act.put, List.setIfInBounds_toArray, List.set_cons_zero, List.set_cons_succ]) | (refine x_val (v := ?_) (by rfl) (fun w' hx => ?_) ?_; rotate_left; (focus (go_simp; (try with_reducible rfl))); (try simp only [Act.put, List.setIfInBounds_toArray, List.set_cons_zero, List.set_cons_succ])))
  refine x_nil (hQ.out _ ?_); clear hQ QQ
  intro w4 hb
  have H4 := Lib.hid (H3.out.into hb)
  have T4 := Lib.hid (T3.out.trans (KT.of hb))
  clear hb H3 T3 c3 c1
  go_wp2_with fail
  go_ret
  exact ⟨_, rfl, H4.out, T4.out⟩
set_option maxRecDepth 20000 in
set_option maxHeartbeats 4000000 in
theorem ad_addF (B g b : Nat) (v : Value) (most paths left : Nat) (l : List (Int × Int)) (x y : Int) (w : World) (h : TB w B g b v most paths left l) (hl : l.length ≤ most) (h8 : most ≤ 8) (h64 : left ≤ 64) (hmay : mayB paths (x, y) = true) (hin : decide ((x, y) ∈ l) = false) (hpl : plI l x = -1) (hroom : l.length < most) (h16 : 16 ≤ left) :
    Calls Try.prog 13 #[.pointer (some ⟨g, 0, none⟩), .agg #[.int .i64 x, .int .i64 y]] w fun e w' => ∃ v', e = .returned (.bool true) ∧ TB w' B g b v' most paths (left - 16) (l ++ [(x, y)]) ∧ KT g b v v' w w' := by
  have hb1 := (Below.refl w.heap.size w).alloc (Nat.le_refl _) (.cells #[.int .i64 x, .int .i64 y] 36)
  have K1 := Lib.hid (Blk.new w 36 #[.int .i64 x, .int .i64 y])
  have H1 := Lib.hid (h.into hb1)
  have T1 := Lib.hid (KT.of (g := g) (b := b) (v := v) hb1)
  obtain ⟨A, n, c, rfl, hn, hnc⟩ := h.vform
  have HN := Sh.mk hn
  have HW := Lib.hid h.hw
  have HG0 := Lib.hid h.blk
  have HB0 := Lib.hid h.bkt
  have HR0 := Lib.hid h.row
  have hn8 : n ≤ 8 := by omega
  clear h hb1
  go_enter Try.func13, Try.ntmps13
  go_upto_region 1 with fail
  generalize w.alloc (.cells #[.int .i64 x, .int .i64 y] 36) = w1 at K1 H1 T1 ⊢
  obtain ⟨X, hX⟩ : ∃ X, X = w.heap.size := ⟨_, rfl⟩
  have HX0 := Sh.mk hX
  rw [← hX] at K1 ⊢
  clear hX
  have MB := Lib.hid (fun w' (hw : Below w1.heap.size w1 w') => ad_may B g b (.slice A n c) most paths left l x y w' (H1.out.into hw))
  have CN := Lib.hid (fun w' (hw : Below w1.heap.size w1 w') => ad_contains A n c x y l w' (H1.out.into hw).rd (by omega))
  rw [hin] at CN
  rw [hmay] at MB
  have c3 := H1.out.c3
  refine wp_ext (by kernel_rfl) (by kernel_rfl) (fun QQ hQ => ?_)
  (first | (refine x_load _ (by rfl) rfl rfl (by assumption) (by kernel_rfl) ?_; simp only [Act.put, List.setIfInBounds_toArray, List.set_cons_zero, List.set_cons_succ]) | (refine x_val (v := ?_) (by rfl) (fun w' hx => ?_) ?_; rotate_left; (focus (go_simp; (try with_reducible rfl))); (try simp only [Act.put, List.setIfInBounds_toArray, List.set_cons_zero, List.set_cons_succ])))
  refine x_loads _ [.int .i64 x, .int .i64 y] (by rfl) rfl rfl (K1.out.loads 0 _ (by rfl)) (Nat.succ_pos _) (by kernel_rfl) (by kernel_rfl) ?_; simp only [Act.put, List.setIfInBounds_toArray, List.set_cons_zero, List.set_cons_succ]
  refine x_call (by rfl) (fun w' hx => by go_simp) (fun w' hx => MB.out w' hx) ?_; simp only [Act.put, List.setIfInBounds_toArray, List.set_cons_zero, List.set_cons_succ]
  (first | (refine x_load _ (by rfl) rfl rfl (by assumption) (by kernel_rfl) ?_; simp only [Act.put, List.setIfInBounds_toArray, List.set_cons_zero, List.set_cons_succ]) | (refine x_val (v := ?_) (by rfl) (fun w' hx => ?_) ?_; rotate_left; (focus (go_simp; (try with_reducible rfl))); (try simp only [Act.put, List.setIfInBounds_toArray, List.set_cons_zero, List.set_cons_succ])))
  (first | (refine x_load _ (by rfl) rfl rfl (by assumption) (by kernel_rfl) ?_; simp only [Act.put, List.setIfInBounds_toArray, List.set_cons_zero, List.set_cons_succ]) | (refine x_val (v := ?_) (by rfl) (fun w' hx => ?_) ?_; rotate_left; (focus (go_simp; (try with_reducible rfl))); (try simp only [Act.put, List.setIfInBounds_toArray, List.set_cons_zero, List.set_cons_succ])))
  (first | (refine x_load _ (by rfl) rfl rfl (by assumption) (by kernel_rfl) ?_; simp only [Act.put, List.setIfInBounds_toArray, List.set_cons_zero, List.set_cons_succ]) | (refine x_val (v := ?_) (by rfl) (fun w' hx => ?_) ?_; rotate_left; (focus (go_simp; (try with_reducible rfl))); (try simp only [Act.put, List.setIfInBounds_toArray, List.set_cons_zero, List.set_cons_succ])))
  (first | (refine x_load _ (by rfl) rfl rfl (by assumption) (by kernel_rfl) ?_; simp only [Act.put, List.setIfInBounds_toArray, List.set_cons_zero, List.set_cons_succ]) | (refine x_val (v := ?_) (by rfl) (fun w' hx => ?_) ?_; rotate_left; (focus (go_simp; (try with_reducible rfl))); (try simp only [Act.put, List.setIfInBounds_toArray, List.set_cons_zero, List.set_cons_succ])))
  (first | (refine x_load _ (by rfl) rfl rfl (by assumption) (by kernel_rfl) ?_; simp only [Act.put, List.setIfInBounds_toArray, List.set_cons_zero, List.set_cons_succ]) | (refine x_val (v := ?_) (by rfl) (fun w' hx => ?_) ?_; rotate_left; (focus (go_simp; (try with_reducible rfl))); (try simp only [Act.put, List.setIfInBounds_toArray, List.set_cons_zero, List.set_cons_succ])))
  (first | (refine x_load _ (by rfl) rfl rfl (by assumption) (by kernel_rfl) ?_; simp only [Act.put, List.setIfInBounds_toArray, List.set_cons_zero, List.set_cons_succ]) | (refine x_val (v := ?_) (by rfl) (fun w' hx => ?_) ?_; rotate_left; (focus (go_simp; (try with_reducible rfl))); (try simp only [Act.put, List.setIfInBounds_toArray, List.set_cons_zero, List.set_cons_succ])))
  refine x_loads _ [.int .i64 x, .int .i64 y] (by rfl) rfl rfl (K1.out.loads 0 _ (by rfl)) (Nat.succ_pos _) (by kernel_rfl) (by kernel_rfl) ?_; simp only [Act.put, List.setIfInBounds_toArray, List.set_cons_zero, List.set_cons_succ]
  refine x_call (by rfl) (fun w' hx => by go_simp) (fun w' hx => CN.out w' hx) ?_; simp only [Act.put, List.setIfInBounds_toArray, List.set_cons_zero, List.set_cons_succ]
  (first | (refine x_load _ (by rfl) rfl rfl (by assumption) (by kernel_rfl) ?_; simp only [Act.put, List.setIfInBounds_toArray, List.set_cons_zero, List.set_cons_succ]) | (refine x_val (v := ?_) (by rfl) (fun w' hx => ?_) ?_; rotate_left; (focus (go_simp; (try with_reducible rfl))); (try simp only [Act.put, List.setIfInBounds_toArray, List.set_cons_zero, List.set_cons_succ])))
  refine x_nil (hQ.out _ ?_); clear hQ QQ
  intro w2 hb
  have H2 := Lib.hid (H1.out.into hb)
  have T2 := Lib.hid (T1.out.trans (KT.of hb))
  have K2 := Lib.hid (K1.out.below hb K1.out.lt)
  clear hb H1 T1 K1 MB c3
  have HP := Lib.hid (ad_place B g b (.slice A n c) most paths left l x w2 H2.out (by rw [HN.out]; omega))
  have a0 : w2.cell? ⟨X, 0, none⟩ = some (.int .i64 x) := by rw [K2.out.cell]; rfl
  go_wp2_with fail
  refine HP.out.mono ?_
  rintro e w3 ⟨rfl, hb⟩
  have H3 := Lib.hid (H2.out.into hb)
  have T3 := Lib.hid (T2.out.trans (KT.of hb))
  have K3 := Lib.hid (K2.out.below hb K2.out.lt)
  clear hb H2 T2 K2 a0 HP
  have hnm : ¬ (most : Int) ≤ (n : Int) := by have := HN.out; omega
  have hnd : decide ((most : Int) ≤ (n : Int)) = false := decide_eq_false hnm
  have hnn : decide (most ≤ n) = false := decide_eq_false (by omega)
  rw [hpl]
  have PY := Lib.hid (fun w' (hw : Below w3.heap.size w3 w') => ad_pay_yes B g b (.slice A n c) most paths left l w' (H3.out.into hw) h16 h64)
  clear CN
  go_upto_region 4 with fail
  refine wp_ord [(0, .pure), (1, .pure), (2, .pure), (3, .pure), (4, .pure), (5, .pure), (6, .read), (7, .pure), (8, .pure), (9, .pure), (10, .pure), (11, .read), (12, .pure), (13, .pure), (14, .pure), (15, .pure), (16, .sole), (17, .pure), (18, .pure)] [16] (by kernel_rfl) (by kernel_rfl) (fun QQ hQ wd hwd => ?_); simp only [List.map_cons, List.map_nil, List.getD_cons_zero, List.getD_cons_succ]
  have hD : Below w3.heap.size w3 wd := by rw [hwd.out]; exact (Below.refl _ _).drew
  have Hd := Lib.hid (H3.out.into hD)
  have Td := Lib.hid (T3.out.trans (KT.of hD))
  have Kd := Lib.hid (K3.out.below hD K3.out.lt)
  have PYd := Lib.hid (PY.out wd hD)
  have c3 := Hd.out.c3
  have c1 := Hd.out.c1
  clear hD hwd H3 T3 K3 PY
  (refine o_pure (v := ?_) (by rfl) (fun w' => ?_) ?_; rotate_left; (focus (go_simp; (try with_reducible rfl); (try (rw [if_pos (by omega)]; (try with_reducible rfl))))); (try simp only [Act.put, List.setIfInBounds_toArray, List.set_cons_zero, List.set_cons_succ]))
  (refine o_pure (v := ?_) (by rfl) (fun w' => ?_) ?_; rotate_left; (focus (go_simp; (try with_reducible rfl); (try (rw [if_pos (by omega)]; (try with_reducible rfl))))); (try simp only [Act.put, List.setIfInBounds_toArray, List.set_cons_zero, List.set_cons_succ]))
  (refine o_pure (v := ?_) (by rfl) (fun w' => ?_) ?_; rotate_left; (focus (go_simp; (try with_reducible rfl); (try (rw [if_pos (by omega)]; (try with_reducible rfl))))); (try simp only [Act.put, List.setIfInBounds_toArray, List.set_cons_zero, List.set_cons_succ]))
  (refine o_pure (v := ?_) (by rfl) (fun w' => ?_) ?_; rotate_left; (focus (go_simp; (try with_reducible rfl); (try (rw [if_pos (by omega)]; (try with_reducible rfl))))); (try simp only [Act.put, List.setIfInBounds_toArray, List.set_cons_zero, List.set_cons_succ]))
  (refine o_pure (v := ?_) (by rfl) (fun w' => ?_) ?_; rotate_left; (focus (go_simp; (try with_reducible rfl); (try (rw [if_pos (by omega)]; (try with_reducible rfl))))); (try simp only [Act.put, List.setIfInBounds_toArray, List.set_cons_zero, List.set_cons_succ]))
  (refine o_pure (v := ?_) (by rfl) (fun w' => ?_) ?_; rotate_left; (focus (go_simp; (try with_reducible rfl); (try (rw [if_pos (by omega)]; (try with_reducible rfl))))); (try simp only [Act.put, List.setIfInBounds_toArray, List.set_cons_zero, List.set_cons_succ]))
  (refine o_load _ (by rfl) rfl rfl (by assumption) (by kernel_rfl) ?_; simp only [Act.put, List.setIfInBounds_toArray, List.set_cons_zero, List.set_cons_succ])
  (refine o_pure (v := ?_) (by rfl) (fun w' => ?_) ?_; rotate_left; (focus (go_simp; (try with_reducible rfl); (try (rw [if_pos (by omega)]; (try with_reducible rfl))))); (try simp only [Act.put, List.setIfInBounds_toArray, List.set_cons_zero, List.set_cons_succ]))
  (refine o_pure (v := ?_) (by rfl) (fun w' => ?_) ?_; rotate_left; (focus (go_simp; (try with_reducible rfl); (try (rw [if_pos (by omega)]; (try with_reducible rfl))))); (try simp only [Act.put, List.setIfInBounds_toArray, List.set_cons_zero, List.set_cons_succ]))
  (refine o_pure (v := ?_) (by rfl) (fun w' => ?_) ?_; rotate_left; (focus (go_simp; (try with_reducible rfl); (try (rw [if_pos (by omega)]; (try with_reducible rfl))))); (try simp only [Act.put, List.setIfInBounds_toArray, List.set_cons_zero, List.set_cons_succ]))
  (refine o_pure (v := ?_) (by rfl) (fun w' => ?_) ?_; rotate_left; (focus (go_simp; (try with_reducible rfl); (try (rw [if_pos (by omega)]; (try with_reducible rfl))))); (try simp only [Act.put, List.setIfInBounds_toArray, List.set_cons_zero, List.set_cons_succ]))
  (refine o_load _ (by rfl) rfl rfl (by assumption) (by kernel_rfl) ?_; simp only [Act.put, List.setIfInBounds_toArray, List.set_cons_zero, List.set_cons_succ])
  (refine o_pure (v := ?_) (by rfl) (fun w' => ?_) ?_; rotate_left; (focus (go_simp; (try with_reducible rfl); (try (rw [if_pos (by omega)]; (try with_reducible rfl))))); (try simp only [Act.put, List.setIfInBounds_toArray, List.set_cons_zero, List.set_cons_succ]))
  (refine o_pure (v := ?_) (by rfl) (fun w' => ?_) ?_; rotate_left; (focus (go_simp; (try with_reducible rfl); (try (rw [if_pos (by omega)]; (try with_reducible rfl))))); (try simp only [Act.put, List.setIfInBounds_toArray, List.set_cons_zero, List.set_cons_succ]))
  (refine o_pure (v := ?_) (by rfl) (fun w' => ?_) ?_; rotate_left; (focus (go_simp; (try with_reducible rfl); (try (rw [if_pos (by omega)]; (try with_reducible rfl))))); (try simp only [Act.put, List.setIfInBounds_toArray, List.set_cons_zero, List.set_cons_succ]))
  (refine o_pure (v := ?_) (by rfl) (fun w' => ?_) ?_; rotate_left; (focus (go_simp; (try with_reducible rfl); (try (rw [if_pos (by omega)]; (try with_reducible rfl))))); (try simp only [Act.put, List.setIfInBounds_toArray, List.set_cons_zero, List.set_cons_succ]))
  refine o_sole (fun K hK => ?_)
  go_wp2_with fail
  refine PYd.out.mono ?_
  rintro e w4 ⟨rfl, hk, hs⟩
  have H4 := Lib.hid (Hd.out.solo hk hs)
  have T4 := Lib.hid (Td.out.trans (KT.ofb hs))
  have K4 := Lib.hid (hs.blk Kd.out (blk_nt Kd.out Hd.out.bkt (by decide)))
  clear hk hs Hd Td Kd PYd c3 c1
  go_wp2_with fail
  refine hK _ _ (fun h => by cases h) ?_; clear hK K
  (refine o_pure (v := ?_) (by rfl) (fun w' => ?_) ?_; rotate_left; (focus (go_simp; (try with_reducible rfl); (try (rw [if_pos (by omega)]; (try with_reducible rfl))))); (try simp only [Act.put, List.setIfInBounds_toArray, List.set_cons_zero, List.set_cons_succ]))
  (refine o_pure (v := ?_) (by rfl) (fun w' => ?_) ?_; rotate_left; (focus (go_simp; (try with_reducible rfl); (try (rw [if_pos (by omega)]; (try with_reducible rfl))))); (try simp only [Act.put, List.setIfInBounds_toArray, List.set_cons_zero, List.set_cons_succ]))
  refine o_nil (hQ.out _ _ ?_); clear hQ QQ
  go_upto_region 7 with fail
  refine wp_ord [(0, .pure), (1, .pure), (2, .pure), (3, .pure), (4, .read), (5, .read), (6, .sole), (7, .sole), (8, .pure), (9, .pure), (10, .sole)] [7, 10] (by kernel_rfl) (by kernel_rfl) (fun QQ hQ wd hwd => ?_); simp only [List.map_cons, List.map_nil, List.getD_cons_zero, List.getD_cons_succ]
  have hD : Below w4.heap.size w4 wd := by rw [hwd.out]; exact (Below.refl _ _).drew
  have Hd := Lib.hid (H4.out.into hD)
  have Td := Lib.hid (T4.out.trans (KT.of hD))
  have Kd := Lib.hid (K4.out.below hD K4.out.lt)
  have c3 := Hd.out.c3
  clear hD hwd H4 T4 K4
  (refine o_pure (v := ?_) (by rfl) (fun w' => ?_) ?_; rotate_left; (focus (go_simp; (try with_reducible rfl); (try (rw [if_pos (by omega)]; (try with_reducible rfl))))); (try simp only [Act.put, List.setIfInBounds_toArray, List.set_cons_zero, List.set_cons_succ]))
  (refine o_pure (v := ?_) (by rfl) (fun w' => ?_) ?_; rotate_left; (focus (go_simp; (try with_reducible rfl); (try (rw [if_pos (by omega)]; (try with_reducible rfl))))); (try simp only [Act.put, List.setIfInBounds_toArray, List.set_cons_zero, List.set_cons_succ]))
  (refine o_pure (v := ?_) (by rfl) (fun w' => ?_) ?_; rotate_left; (focus (go_simp; (try with_reducible rfl); (try (rw [if_pos (by omega)]; (try with_reducible rfl))))); (try simp only [Act.put, List.setIfInBounds_toArray, List.set_cons_zero, List.set_cons_succ]))
  (refine o_pure (v := ?_) (by rfl) (fun w' => ?_) ?_; rotate_left; (focus (go_simp; (try with_reducible rfl); (try (rw [if_pos (by omega)]; (try with_reducible rfl))))); (try simp only [Act.put, List.setIfInBounds_toArray, List.set_cons_zero, List.set_cons_succ]))
  (refine o_load _ (by rfl) rfl rfl (by assumption) (by kernel_rfl) ?_; simp only [Act.put, List.setIfInBounds_toArray, List.set_cons_zero, List.set_cons_succ])
  (refine o_loads _ [.int .i64 x, .int .i64 y] (by rfl) rfl rfl (Kd.out.loads 0 _ (by rfl)) (Nat.succ_pos _) (by kernel_rfl) (by kernel_rfl) ?_; simp only [Act.put, List.setIfInBounds_toArray, List.set_cons_zero, List.set_cons_succ])
  clear c3
  refine o_sole (fun K hK => ?_)
  go_wp2_with fail
  refine hK _ _ (fun _ => Ext.of ((Below.refl _ _).alloc (Nat.le_refl _) _)) ?_; clear hK K
  have hb := (Below.refl wd.heap.size wd).alloc (Nat.le_refl _) (.cells #[.int .i64 x, .int .i64 y] 36)
  have H5 := Lib.hid (Hd.out.into hb)
  have T5 := Lib.hid (Td.out.trans (KT.of hb))
  have RL := Lib.hid (Rd.made (size := 2) (n := 1) wd 36 #[.int .i64 x, .int .i64 y] rfl)
  clear hb Hd Td Kd
  generalize hgz : wd.heap.size = gz at *
  clear hgz
  generalize wd.alloc (.cells #[.int .i64 x, .int .i64 y] 36) = w5 at *
  refine o_sole (fun K hK => ?_)
  have hrm : (n + 1) * 16 ≤ room := room_ge (by omega)
  have ho := H5.out.row
  unfold Pzs at ho
  rw [HN.out] at ho
  have hbw := H5.out.hw
  refine app2 adrEl rfl _ _ rfl rfl ho (by omega) rfl RL.out (pz_one [(x, y)]) hrm hbw ?_
  intro v6 w6 ho6 hg6 hn6
  obtain ⟨A6, c6, rfl, _, _, _⟩ := own_form ho6
  have HL := Lib.hid (TB.lay (w := w) (left := left) (left' := left - 16) (l' := l ++ [(x, y)]) ⟨H5.out.bg, H5.out.bb, H5.out.ne, HW.out, HG0.out, HB0.out, HR0.out⟩ T5.out H5.out hg6 hn6 (show Pzs w6 36 B _ (l ++ [(x, y)]) by
    unfold Pzs
    rw [List.length_append, HN.out, pz_append]
    exact ho6))
  have hKg := (hg6.block g H5.out.blk.lt fun e => own_nt H5.out.row H5.out.blk (by decide) e.symm).trans H5.out.blk
  have fz := Blk.frozen hKg 3
  have cz := Blk.cell hKg 3
  simp only [List.getElem?_toArray, List.getElem?_cons_zero, List.getElem?_cons_succ] at cz
  clear hKg ho ho6 hg6 hn6 H5 T5 hbw
  refine wpList_nil ?_
  refine hK _ _ (fun h => by cases h) ?_; clear hK K
  (refine o_pure (v := ?_) (by rfl) (fun w' => ?_) ?_; rotate_left; (focus (go_simp; (try with_reducible rfl); (try (rw [if_pos (by omega)]; (try with_reducible rfl))))); (try simp only [Act.put, List.setIfInBounds_toArray, List.set_cons_zero, List.set_cons_succ]))
  (refine o_pure (v := ?_) (by rfl) (fun w' => ?_) ?_; rotate_left; (focus (go_simp; (try with_reducible rfl); (try (rw [if_pos (by omega)]; (try with_reducible rfl))))); (try simp only [Act.put, List.setIfInBounds_toArray, List.set_cons_zero, List.set_cons_succ]))
  refine o_sole (fun K hK => ?_)
  go_wp2_with fail
  refine hK _ _ (fun h => by cases h) ?_; clear hK K
  refine o_nil (hQ.out _ _ ?_); clear hQ QQ
  go_wp2_with fail
  go_ret
  exact ⟨_, rfl, HL.out.1, HL.out.2⟩
theorem pz_set {L : List Value} {c k : Nat} {l : List (Int × Int)} {a : Int × Int} (hL : c * 2 = L.length) (hc : l.length ≤ c) (ht : L.take (l.length * 2) = pz l) (hk : k < l.length) : (splv L (k * 2) (pzel a)).take (l.length * 2) = pz (l.set k a) := splv_fm pzel_len hL hc ht hk a
set_option maxRecDepth 20000 in
set_option maxHeartbeats 4000000 in
theorem ad_addG (B g b : Nat) (v : Value) (most paths left : Nat) (l : List (Int × Int)) (x y : Int) (w : World) (h : TB w B g b v most paths left l) (hl : l.length ≤ most) (h8 : most ≤ 8) (h64 : left ≤ 64) (hmay : mayB paths (x, y) = true) (hin : decide ((x, y) ∈ l) = false) (k : Nat) (hpl : plI l x = (k : Int)) (hkl : k < l.length) (h16 : 16 ≤ left) :
    Calls Try.prog 13 #[.pointer (some ⟨g, 0, none⟩), .agg #[.int .i64 x, .int .i64 y]] w fun e w' => ∃ v', e = .returned (.bool true) ∧ TB w' B g b v' most paths (left - 16) (l.set k (x, y)) ∧ KT g b v v' w w' := by
  have hb1 := (Below.refl w.heap.size w).alloc (Nat.le_refl _) (.cells #[.int .i64 x, .int .i64 y] 36)
  have K1 := Lib.hid (Blk.new w 36 #[.int .i64 x, .int .i64 y])
  have H1 := Lib.hid (h.into hb1)
  have T1 := Lib.hid (KT.of (g := g) (b := b) (v := v) hb1)
  obtain ⟨A, n, c, rfl, hn, hnc⟩ := h.vform
  have HN := Sh.mk hn
  have hn8 : n ≤ 8 := by omega
  clear h hb1
  go_enter Try.func13, Try.ntmps13
  go_upto_region 1 with fail
  generalize w.alloc (.cells #[.int .i64 x, .int .i64 y] 36) = w1 at K1 H1 T1 ⊢
  obtain ⟨X, hX⟩ : ∃ X, X = w.heap.size := ⟨_, rfl⟩
  have HX0 := Sh.mk hX
  rw [← hX] at K1 ⊢
  clear hX
  have MB := Lib.hid (fun w' (hw : Below w1.heap.size w1 w') => ad_may B g b (.slice A n c) most paths left l x y w' (H1.out.into hw))
  have CN := Lib.hid (fun w' (hw : Below w1.heap.size w1 w') => ad_contains A n c x y l w' (H1.out.into hw).rd (by omega))
  rw [hin] at CN
  rw [hmay] at MB
  have c3 := H1.out.c3
  refine wp_ext (by kernel_rfl) (by kernel_rfl) (fun QQ hQ => ?_)
  (first | (refine x_load _ (by rfl) rfl rfl (by assumption) (by kernel_rfl) ?_; simp only [Act.put, List.setIfInBounds_toArray, List.set_cons_zero, List.set_cons_succ]) | (refine x_val (v := ?_) (by rfl) (fun w' hx => ?_) ?_; rotate_left; (focus (go_simp; (try with_reducible rfl))); (try simp only [Act.put, List.setIfInBounds_toArray, List.set_cons_zero, List.set_cons_succ])))
  refine x_loads _ [.int .i64 x, .int .i64 y] (by rfl) rfl rfl (K1.out.loads 0 _ (by rfl)) (Nat.succ_pos _) (by kernel_rfl) (by kernel_rfl) ?_; simp only [Act.put, List.setIfInBounds_toArray, List.set_cons_zero, List.set_cons_succ]
  refine x_call (by rfl) (fun w' hx => by go_simp) (fun w' hx => MB.out w' hx) ?_; simp only [Act.put, List.setIfInBounds_toArray, List.set_cons_zero, List.set_cons_succ]
  (first | (refine x_load _ (by rfl) rfl rfl (by assumption) (by kernel_rfl) ?_; simp only [Act.put, List.setIfInBounds_toArray, List.set_cons_zero, List.set_cons_succ]) | (refine x_val (v := ?_) (by rfl) (fun w' hx => ?_) ?_; rotate_left; (focus (go_simp; (try with_reducible rfl))); (try simp only [Act.put, List.setIfInBounds_toArray, List.set_cons_zero, List.set_cons_succ])))
  (first | (refine x_load _ (by rfl) rfl rfl (by assumption) (by kernel_rfl) ?_; simp only [Act.put, List.setIfInBounds_toArray, List.set_cons_zero, List.set_cons_succ]) | (refine x_val (v := ?_) (by rfl) (fun w' hx => ?_) ?_; rotate_left; (focus (go_simp; (try with_reducible rfl))); (try simp only [Act.put, List.setIfInBounds_toArray, List.set_cons_zero, List.set_cons_succ])))
  (first | (refine x_load _ (by rfl) rfl rfl (by assumption) (by kernel_rfl) ?_; simp only [Act.put, List.setIfInBounds_toArray, List.set_cons_zero, List.set_cons_succ]) | (refine x_val (v := ?_) (by rfl) (fun w' hx => ?_) ?_; rotate_left; (focus (go_simp; (try with_reducible rfl))); (try simp only [Act.put, List.setIfInBounds_toArray, List.set_cons_zero, List.set_cons_succ])))
  (first | (refine x_load _ (by rfl) rfl rfl (by assumption) (by kernel_rfl) ?_; simp only [Act.put, List.setIfInBounds_toArray, List.set_cons_zero, List.set_cons_succ]) | (refine x_val (v := ?_) (by rfl) (fun w' hx => ?_) ?_; rotate_left; (focus (go_simp; (try with_reducible rfl))); (try simp only [Act.put, List.setIfInBounds_toArray, List.set_cons_zero, List.set_cons_succ])))
  (first | (refine x_load _ (by rfl) rfl rfl (by assumption) (by kernel_rfl) ?_; simp only [Act.put, List.setIfInBounds_toArray, List.set_cons_zero, List.set_cons_succ]) | (refine x_val (v := ?_) (by rfl) (fun w' hx => ?_) ?_; rotate_left; (focus (go_simp; (try with_reducible rfl))); (try simp only [Act.put, List.setIfInBounds_toArray, List.set_cons_zero, List.set_cons_succ])))
  (first | (refine x_load _ (by rfl) rfl rfl (by assumption) (by kernel_rfl) ?_; simp only [Act.put, List.setIfInBounds_toArray, List.set_cons_zero, List.set_cons_succ]) | (refine x_val (v := ?_) (by rfl) (fun w' hx => ?_) ?_; rotate_left; (focus (go_simp; (try with_reducible rfl))); (try simp only [Act.put, List.setIfInBounds_toArray, List.set_cons_zero, List.set_cons_succ])))
  refine x_loads _ [.int .i64 x, .int .i64 y] (by rfl) rfl rfl (K1.out.loads 0 _ (by rfl)) (Nat.succ_pos _) (by kernel_rfl) (by kernel_rfl) ?_; simp only [Act.put, List.setIfInBounds_toArray, List.set_cons_zero, List.set_cons_succ]
  refine x_call (by rfl) (fun w' hx => by go_simp) (fun w' hx => CN.out w' hx) ?_; simp only [Act.put, List.setIfInBounds_toArray, List.set_cons_zero, List.set_cons_succ]
  (first | (refine x_load _ (by rfl) rfl rfl (by assumption) (by kernel_rfl) ?_; simp only [Act.put, List.setIfInBounds_toArray, List.set_cons_zero, List.set_cons_succ]) | (refine x_val (v := ?_) (by rfl) (fun w' hx => ?_) ?_; rotate_left; (focus (go_simp; (try with_reducible rfl))); (try simp only [Act.put, List.setIfInBounds_toArray, List.set_cons_zero, List.set_cons_succ])))
  refine x_nil (hQ.out _ ?_); clear hQ QQ
  intro w2 hb
  have H2 := Lib.hid (H1.out.into hb)
  have T2 := Lib.hid (T1.out.trans (KT.of hb))
  have K2 := Lib.hid (K1.out.below hb K1.out.lt)
  clear hb H1 T1 K1 MB c3
  have HP := Lib.hid (ad_place B g b (.slice A n c) most paths left l x w2 H2.out (by rw [HN.out]; omega))
  have a0 : w2.cell? ⟨X, 0, none⟩ = some (.int .i64 x) := by rw [K2.out.cell]; rfl
  go_wp2_with fail
  refine HP.out.mono ?_
  rintro e w3 ⟨rfl, hb⟩
  have H3 := Lib.hid (H2.out.into hb)
  have T3 := Lib.hid (T2.out.trans (KT.of hb))
  have K3 := Lib.hid (K2.out.below hb K2.out.lt)
  clear hb H2 T2 K2 a0 HP
  have hk0 : ¬ (k : Int) < 0 := by omega
  have hkd : decide ((k : Int) < 0) = false := decide_eq_false hk0
  have hk1 : (0 : Int) ≤ (k : Int) := by omega
  have hkn : (k : Int) < (n : Int) := by have := HN.out; omega
  rw [hpl]
  have PY := Lib.hid (fun w' (hw : Below w3.heap.size w3 w') => ad_pay_yes B g b (.slice A n c) most paths left l w' (H3.out.into hw) h16 h64)
  clear CN
  go_upto_region 4 with fail
  refine wp_ord [(0, .pure), (1, .pure), (2, .pure), (3, .pure), (4, .pure), (5, .pure), (6, .read), (7, .pure), (8, .pure), (9, .pure), (10, .pure), (11, .read), (12, .pure), (13, .pure), (14, .pure), (15, .pure), (16, .sole), (17, .pure), (18, .pure)] [16] (by kernel_rfl) (by kernel_rfl) (fun QQ hQ wd hwd => ?_); simp only [List.map_cons, List.map_nil, List.getD_cons_zero, List.getD_cons_succ]
  have hD : Below w3.heap.size w3 wd := by rw [hwd.out]; exact (Below.refl _ _).drew
  have Hd := Lib.hid (H3.out.into hD)
  have Td := Lib.hid (T3.out.trans (KT.of hD))
  have Kd := Lib.hid (K3.out.below hD K3.out.lt)
  have PYd := Lib.hid (PY.out wd hD)
  have c3 := Hd.out.c3
  have c1 := Hd.out.c1
  clear hD hwd H3 T3 K3 PY
  (refine o_pure (v := ?_) (by rfl) (fun w' => ?_) ?_; rotate_left; (focus (go_simp; (try with_reducible rfl); (try (rw [if_pos (by omega)]; (try with_reducible rfl))))); (try simp only [Act.put, List.setIfInBounds_toArray, List.set_cons_zero, List.set_cons_succ]))
  (refine o_pure (v := ?_) (by rfl) (fun w' => ?_) ?_; rotate_left; (focus (go_simp; (try with_reducible rfl); (try (rw [if_pos (by omega)]; (try with_reducible rfl))))); (try simp only [Act.put, List.setIfInBounds_toArray, List.set_cons_zero, List.set_cons_succ]))
  (refine o_pure (v := ?_) (by rfl) (fun w' => ?_) ?_; rotate_left; (focus (go_simp; (try with_reducible rfl); (try (rw [if_pos (by omega)]; (try with_reducible rfl))))); (try simp only [Act.put, List.setIfInBounds_toArray, List.set_cons_zero, List.set_cons_succ]))
  (first | (refine o_skip (by intro h; cases h) (by rfl) ?_; simp only [Act.put, List.setIfInBounds_toArray, List.set_cons_zero, List.set_cons_succ]) | (refine o_pass (by rfl) ?_; simp only [Act.put, List.setIfInBounds_toArray, List.set_cons_zero, List.set_cons_succ]))
  (first | (refine o_skip (by intro h; cases h) (by rfl) ?_; simp only [Act.put, List.setIfInBounds_toArray, List.set_cons_zero, List.set_cons_succ]) | (refine o_pass (by rfl) ?_; simp only [Act.put, List.setIfInBounds_toArray, List.set_cons_zero, List.set_cons_succ]))
  (first | (refine o_skip (by intro h; cases h) (by rfl) ?_; simp only [Act.put, List.setIfInBounds_toArray, List.set_cons_zero, List.set_cons_succ]) | (refine o_pass (by rfl) ?_; simp only [Act.put, List.setIfInBounds_toArray, List.set_cons_zero, List.set_cons_succ]))
  (first | (refine o_skip (by intro h; cases h) (by rfl) ?_; simp only [Act.put, List.setIfInBounds_toArray, List.set_cons_zero, List.set_cons_succ]) | (refine o_pass (by rfl) ?_; simp only [Act.put, List.setIfInBounds_toArray, List.set_cons_zero, List.set_cons_succ]))
  (first | (refine o_skip (by intro h; cases h) (by rfl) ?_; simp only [Act.put, List.setIfInBounds_toArray, List.set_cons_zero, List.set_cons_succ]) | (refine o_pass (by rfl) ?_; simp only [Act.put, List.setIfInBounds_toArray, List.set_cons_zero, List.set_cons_succ]))
  (first | (refine o_skip (by intro h; cases h) (by rfl) ?_; simp only [Act.put, List.setIfInBounds_toArray, List.set_cons_zero, List.set_cons_succ]) | (refine o_pass (by rfl) ?_; simp only [Act.put, List.setIfInBounds_toArray, List.set_cons_zero, List.set_cons_succ]))
  (first | (refine o_skip (by intro h; cases h) (by rfl) ?_; simp only [Act.put, List.setIfInBounds_toArray, List.set_cons_zero, List.set_cons_succ]) | (refine o_pass (by rfl) ?_; simp only [Act.put, List.setIfInBounds_toArray, List.set_cons_zero, List.set_cons_succ]))
  (first | (refine o_skip (by intro h; cases h) (by rfl) ?_; simp only [Act.put, List.setIfInBounds_toArray, List.set_cons_zero, List.set_cons_succ]) | (refine o_pass (by rfl) ?_; simp only [Act.put, List.setIfInBounds_toArray, List.set_cons_zero, List.set_cons_succ]))
  (first | (refine o_skip (by intro h; cases h) (by rfl) ?_; simp only [Act.put, List.setIfInBounds_toArray, List.set_cons_zero, List.set_cons_succ]) | (refine o_pass (by rfl) ?_; simp only [Act.put, List.setIfInBounds_toArray, List.set_cons_zero, List.set_cons_succ]))
  (first | (refine o_skip (by intro h; cases h) (by rfl) ?_; simp only [Act.put, List.setIfInBounds_toArray, List.set_cons_zero, List.set_cons_succ]) | (refine o_pass (by rfl) ?_; simp only [Act.put, List.setIfInBounds_toArray, List.set_cons_zero, List.set_cons_succ]))
  (refine o_pure (v := ?_) (by rfl) (fun w' => ?_) ?_; rotate_left; (focus (go_simp; (try with_reducible rfl); (try (rw [if_pos (by omega)]; (try with_reducible rfl))))); (try simp only [Act.put, List.setIfInBounds_toArray, List.set_cons_zero, List.set_cons_succ]))
  (refine o_pure (v := ?_) (by rfl) (fun w' => ?_) ?_; rotate_left; (focus (go_simp; (try with_reducible rfl); (try (rw [if_pos (by omega)]; (try with_reducible rfl))))); (try simp only [Act.put, List.setIfInBounds_toArray, List.set_cons_zero, List.set_cons_succ]))
  (refine o_pure (v := ?_) (by rfl) (fun w' => ?_) ?_; rotate_left; (focus (go_simp; (try with_reducible rfl); (try (rw [if_pos (by omega)]; (try with_reducible rfl))))); (try simp only [Act.put, List.setIfInBounds_toArray, List.set_cons_zero, List.set_cons_succ]))
  refine o_sole (fun K hK => ?_)
  go_wp2_with fail
  refine PYd.out.mono ?_
  rintro e w4 ⟨rfl, hk, hs⟩
  have H4 := Lib.hid (Hd.out.solo hk hs)
  have T4 := Lib.hid (Td.out.trans (KT.ofb hs))
  have K4 := Lib.hid (hs.blk Kd.out (blk_nt Kd.out Hd.out.bkt (by decide)))
  clear hk hs Hd Td Kd PYd c3 c1
  go_wp2_with fail
  refine hK _ _ (fun h => by cases h) ?_; clear hK K
  (refine o_pure (v := ?_) (by rfl) (fun w' => ?_) ?_; rotate_left; (focus (go_simp; (try with_reducible rfl); (try (rw [if_pos (by omega)]; (try with_reducible rfl))))); (try simp only [Act.put, List.setIfInBounds_toArray, List.set_cons_zero, List.set_cons_succ]))
  (refine o_pure (v := ?_) (by rfl) (fun w' => ?_) ?_; rotate_left; (focus (go_simp; (try with_reducible rfl); (try (rw [if_pos (by omega)]; (try with_reducible rfl))))); (try simp only [Act.put, List.setIfInBounds_toArray, List.set_cons_zero, List.set_cons_succ]))
  refine o_nil (hQ.out _ _ ?_); clear hQ QQ
  go_upto_region 8 with fail
  obtain ⟨rb, c5, L, hv, hBr, hb, hnc5, hcm, hll, ht⟩ := (own_open H4.out.row).resolve_left (by rintro ⟨_, h0, _⟩; omega)
  injection hv with hv1 hv2 hv3
  subst hv1
  subst hv3
  have HLL := Sh.mk hll
  have HT := Sh.mk ht
  have HNC := Sh.mk hnc5
  clear hv2 hll ht hnc5
  refine wp_ord [(0, .pure), (1, .pure), (2, .pure), (3, .read), (4, .pure), (5, .read), (6, .pure), (7, .sole)] [7] (by kernel_rfl) (by kernel_rfl) (fun QQ hQ wd hwd => ?_); simp only [List.map_cons, List.map_nil, List.getD_cons_zero, List.getD_cons_succ]
  have hD : Below w4.heap.size w4 wd := by rw [hwd.out]; exact (Below.refl _ _).drew
  have Hd := Lib.hid (H4.out.into hD)
  have Td := Lib.hid (T4.out.trans (KT.of hD))
  have Kd := Lib.hid (K4.out.below hD K4.out.lt)
  have RB := Lib.hid (Blk.below hb hD hb.lt)
  have c3 := Hd.out.c3
  clear hD hwd H4 T4 K4 hb
  (refine o_pure (v := ?_) (by rfl) (fun w' => ?_) ?_; rotate_left; (focus (go_simp; (try with_reducible rfl); (try (rw [if_pos (by omega)]; (try with_reducible rfl))))); (try simp only [Act.put, List.setIfInBounds_toArray, List.set_cons_zero, List.set_cons_succ]))
  (refine o_pure (v := ?_) (by rfl) (fun w' => ?_) ?_; rotate_left; (focus (go_simp; (try with_reducible rfl); (try (rw [if_pos (by omega)]; (try with_reducible rfl))))); (try simp only [Act.put, List.setIfInBounds_toArray, List.set_cons_zero, List.set_cons_succ]))
  (refine o_pure (v := ?_) (by rfl) (fun w' => ?_) ?_; rotate_left; (focus (go_simp; (try with_reducible rfl); (try (rw [if_pos (by omega)]; (try with_reducible rfl))))); (try simp only [Act.put, List.setIfInBounds_toArray, List.set_cons_zero, List.set_cons_succ]))
  (refine o_load _ (by rfl) rfl rfl (by assumption) (by kernel_rfl) ?_; simp only [Act.put, List.setIfInBounds_toArray, List.set_cons_zero, List.set_cons_succ])
  (refine o_pure (v := ?_) (by rfl) (fun w' => ?_) ?_; rotate_left; (focus (go_simp; (try with_reducible rfl); (try (rw [if_pos (by omega)]; (try with_reducible rfl))))); (try simp only [Act.put, List.setIfInBounds_toArray, List.set_cons_zero, List.set_cons_succ]))
  (refine o_loads _ [.int .i64 x, .int .i64 y] (by rfl) rfl rfl (Kd.out.loads 0 _ (by rfl)) (Nat.succ_pos _) (by kernel_rfl) (by kernel_rfl) ?_; simp only [Act.put, List.setIfInBounds_toArray, List.set_cons_zero, List.set_cons_succ])
  (refine o_pure (v := ?_) (by rfl) (fun w' => ?_) ?_; rotate_left; (focus (go_simp; (try with_reducible rfl); (try (rw [if_pos (by omega)]; (try with_reducible rfl))))); (try simp only [Act.put, List.setIfInBounds_toArray, List.set_cons_zero, List.set_cons_succ]))
  clear c3
  refine o_sole (fun K hK => ?_)
  have hfit : k * 2 + 2 ≤ L.length := by have := HN.out; have := HLL.out; have := HNC.out; omega
  refine stm_store (cs' := (splv L (k * 2) (pzel (x, y))).toArray) RB.out rfl _ _ rfl rfl rfl (by simpa using hfit) (by kernel_rfl) (by simp [Value.oneCell']) (by
    show (L.toArray.setIfInBounds (k * 2) (.int .i64 x)).setIfInBounds (k * 2 + 1) (.int .i64 y) = _
    rw [List.setIfInBounds_toArray, List.setIfInBounds_toArray, splv2 hfit]
    rfl) fun w6 hk6 hs6 => ?_
  refine wpList_nil ?_
  refine hK _ _ (fun h => by cases h) ?_; clear hK K
  have ne1 : g ≠ rb := blk_nt Hd.out.blk RB.out (by decide)
  have ne2 : b ≠ rb := blk_nt Hd.out.bkt RB.out (by decide)
  have H6 := Lib.hid (show TB w6 B g b (.slice (some ⟨rb, 0, none⟩) n c) most paths (left - 16) (l.set k (x, y)) from ⟨Hd.out.bg, Hd.out.bb, Hd.out.ne, by rw [hs6.2.1]; exact Hd.out.hw, hs6.blk Hd.out.blk ne1, hs6.blk Hd.out.bkt ne2, by
    unfold Pzs
    rw [List.length_set, HN.out]
    refine own_shut hBr hk6 (by rw [← HN.out]; exact HNC.out) hcm (by rw [splv_len (by exact hfit)]; exact HLL.out) ?_
    have := pz_set (a := (x, y)) HLL.out.symm HNC.out HT.out hkl
    rwa [HN.out] at this⟩)
  have T6 := Lib.hid (Td.out.trans (show KT g b (.slice (some ⟨rb, 0, none⟩) n c) (.slice (some ⟨rb, 0, none⟩) n c) wd w6 from ⟨hs6.1.os, hs6.1.tape, hs6.1.output, Nat.le_of_eq hs6.2.1.symm, fun i _ _ _ h3 => hs6.2.2 i fun e => h3 (by rw [e]; rfl), NewOr.same rfl⟩))
  clear hk6 hs6 hfit ne1 ne2 Hd Td Kd RB
  refine o_nil (hQ.out _ _ ?_); clear hQ QQ
  go_wp2_with fail
  go_ret
  exact ⟨_, rfl, H6.out, T6.out⟩
theorem ad_add (B g b : Nat) (v : Value) (most paths left : Nat) (l : List (Int × Int)) (x y : Int) (w : World) (h : TB w B g b v most paths left l) (hl : l.length ≤ most) (h8 : most ≤ 8) (h64 : left ≤ 64) :
    Calls Try.prog 13 #[.pointer (some ⟨g, 0, none⟩), .agg #[.int .i64 x, .int .i64 y]] w fun e w' => ∃ v', e = .returned (.bool (adAdd most paths left l (x, y)).2.2) ∧ TB w' B g b v' most paths (adAdd most paths left l (x, y)).1 (adAdd most paths left l (x, y)).2.1 ∧ KT g b v v' w w' := by
  unfold adAdd
  cases hm : mayB paths (x, y)
  · rw [if_pos (.inl rfl)]
    exact ad_addA B g b v most paths left l x y w h hl h8 h64 hm
  by_cases hin : (x, y) ∈ l
  · rw [if_pos (.inr (.inl hin))]
    exact ad_addB B g b v most paths left l x y w h hl h8 h64 hm (decide_eq_true hin)
  have hin' := decide_eq_false hin
  by_cases hk : atI l x < l.length
  · have hpl : plI l x = (atI l x : Int) := by unfold plI; rw [if_pos hk]
    by_cases h16 : left < 16
    · rw [if_pos (.inr (.inr (.inl h16)))]
      exact ad_addD B g b v most paths left l x y w h hl h8 h64 hm hin' (atI l x) hpl h16
    · rw [if_neg (by rintro (h | h | h | ⟨h, _⟩); (cases h); (exact hin h); (exact h16 h); exact absurd hk (Nat.not_lt.2 h))]
      simp only [if_pos hk]
      exact ad_addG B g b v most paths left l x y w h hl h8 h64 hm hin' (atI l x) hpl hk (by omega)
  · have hpl : plI l x = -1 := by unfold plI; rw [if_neg hk]
    by_cases hf : most ≤ l.length
    · rw [if_pos (.inr (.inr (.inr ⟨by simpa using hk, hf⟩)))]
      exact ad_addC B g b v most paths left l x y w h hl h8 h64 hm hin' hpl hf
    by_cases h16 : left < 16
    · rw [if_pos (.inr (.inr (.inl h16)))]
      exact ad_addE B g b v most paths left l x y w h hl h8 h64 hm hin' hpl (by omega) h16
    · rw [if_neg (by rintro (h | h | h | ⟨_, h⟩); (cases h); (exact hin h); (exact h16 h); exact hf h)]
      simp only [if_neg hk]
      exact ad_addF B g b v most paths left l x y w h hl h8 h64 hm hin' hpl (by omega) (by omega)
theorem ad_intEl : El Try.prog 51 3 (.int .i64 0) 1 8 := ⟨Try.underlying51, by kernel_rfl, rfl, by omega, by omega⟩
theorem own_cutI {w : World} {B n c k : Nat} {A : Option Addr} {l : List Int} (h : Zats w 3 .i64 B (.slice A n c) l) (hk : k ≤ l.length) : Zats w 3 .i64 B (.slice A k c) (l.take k) := by
  have hl : (l.take k).length = k := by rw [List.length_take]; omega
  unfold Zats at h ⊢
  rw [hl]
  rcases own_open h with ⟨hv, h0, _⟩ | ⟨g, c2, L, hv, hB, hb, h1, h2, h3, h4⟩
  · injection hv with e1 e2 e3
    have hk0 : k = 0 := by omega
    subst e1 e3 hk0
    exact World.ownsRow_nil _ _ _ _
  · injection hv with e1 e2 e3
    subst e1 e3
    refine own_shut hB hb (by omega) h2 h3 ?_
    rw [Nat.mul_one] at h4 ⊢
    rw [show zs .i64 (l.take k) = (zs .i64 l).take k by simp [zs, List.map_take], ← h4, List.take_take]
    congr 1
    omega
/-- slices.Sort at a row of the call's own. -/
theorem ad_sort (B : Nat) (v : Value) (l : List Int) (w : World) (h : Zats w 3 .i64 B v l) (hl : l.length ≤ 10000) :
    Calls Try.prog 33 #[v] w fun e w' => e = .returned (.tuple #[]) ∧ Zats w' 3 .i64 B v (isort l) ∧ w.grownBy w' v.ownBlock := by
  rcases h.2 with ⟨rfl, h0⟩ | ⟨rb, c, cur, rfl, hB, hr, hnc, hcm, hcs, hT⟩
  · have hl0 : l = [] := List.eq_nil_of_length_eq_zero h0
    subst hl0
    refine (Try.slices_Sort_int_none none 0 w).mono ?_
    rintro e w' ⟨rfl, rfl⟩
    exact ⟨rfl, by rw [show isort [] = [] from by unfold isort; simp]; exact Zats.nil _ _ _ _, grownBy_refl _ _⟩
  · have hT' : cur.toList.take l.length = l.map (Value.int .i64) := by rw [Nat.mul_one] at hT; exact hT
    refine (Try.slices_Sort_int rb 0 c l w (Go.holds_of_blockI hr hT') (by exact (Array.getElem?_eq_some_iff.1 hr).1) (by omega)).mono ?_
    rintro e w' ⟨rfl, n, os, rfl⟩
    have hg := Go.grownBy_sortedI (w := w) (g := rb) (n := n) (os := os) (l.mergeSort fun x y => decide (x ≤ y)).toArray
    refine ⟨rfl, ?_, hg⟩
    have := Go.ownsRow_sortedI (n := n) (os := os) (ss := l) (ts := l.mergeSort fun x y => decide (x ≤ y)) (List.length_mergeSort _) hB hr hnc hcm hcs
    unfold Zats
    rw [isort_len]
    exact this
/-- slices.Compact at a row of the call's own. -/
theorem ad_compact (B : Nat) (v : Value) (l : List Int) (w : World) (h : Zats w 3 .i64 B v l) (hl : l.length ≤ 10000) :
    Calls Try.prog 34 #[v] w fun e w' => ∃ v', e = .returned v' ∧ Zats w' 3 .i64 B v' (Lib.compact l) ∧ w.grownBy w' v.ownBlock := by
  rcases h.2 with ⟨rfl, h0⟩ | ⟨rb, c, cur, rfl, hB, hr, hnc, hcm, hcs, hT⟩
  · have hl0 : l = [] := List.eq_nil_of_length_eq_zero h0
    subst hl0
    refine (Try.slices_Compact_int_empty none 0 w).mono ?_
    rintro e w' ⟨rfl, rfl⟩
    exact ⟨_, rfl, by rw [show Lib.compact ([] : List Int) = [] from rfl]; exact Zats.nil _ _ _ _, grownBy_refl _ _⟩
  · have hT' : cur.toList.take l.length = l.map (Value.int .i64) := by rw [Nat.mul_one] at hT; exact hT
    have hcl : (Lib.compact l).length ≤ l.length := by
      unfold Lib.compact Lib.compactUpTo
      rw [List.length_map]
      have := List.length_filter_le (Lib.keeps l.toArray) (List.range l.length)
      simpa using this
    refine (Try.slices_Compact_int rb 0 c l w (Go.holds_of_blockI hr hT') (by omega) hnc).mono ?_
    rintro e w' ⟨rfl, q, rfl⟩
    have hg := Go.grownBy_sortedI (w := w) (g := rb) (n := q) (os := #[]) (Lib.compact l ++ List.replicate (l.length - (Lib.compact l).length) 0).toArray
    have ho := Go.ownsRow_sortedI (n := q) (os := #[]) (ss := l) (ts := Lib.compact l ++ List.replicate (l.length - (Lib.compact l).length) 0) (by simp; omega) hB hr hnc hcm hcs
    rw [Go.Sort.grow_empty] at hg ho
    refine ⟨_, rfl, ?_, hg⟩
    have hz : Zats (Go.Sort.putRow (Value.int .i64) (Go.Sort.ahead w q) rb 0 (Lib.compact l ++ List.replicate (l.length - (Lib.compact l).length) 0).toArray) 3 .i64 B (.slice (some ⟨rb, 0, none⟩) l.length c) (Lib.compact l ++ List.replicate (l.length - (Lib.compact l).length) 0) := by
      unfold Zats
      rw [show (Lib.compact l ++ List.replicate (l.length - (Lib.compact l).length) (0 : Int)).length = l.length by simp; omega]
      exact ho
    have := own_cutI (k := (Lib.compact l).length) hz (by simp)
    rwa [List.take_left] at this
theorem map_pz {l : List (Int × Int)} {k : Nat} {x y : Int} (h : l[k]? = some (x, y)) : (l.take (k + 1)).map Prod.snd = (l.take k).map Prod.snd ++ [y] := by
  rw [List.take_add_one, h]
  simp
set_option maxRecDepth 20000 in
set_option maxHeartbeats 4000000 in
theorem ad_paths (B g b : Nat) (v : Value) (most paths left : Nat) (l : List (Int × Int)) (w : World) (h : TB w B g b v most paths left l) (hl : l.length ≤ 1000) :
    Calls Try.prog 18 #[.pointer (some ⟨g, 0, none⟩)] w fun e w' => ∃ v', e = .returned v' ∧ Zats w' 3 .i64 w.heap.size v' (riseL (l.map Prod.snd)) ∧ Below w.heap.size w w' := by
  obtain ⟨A, n, c, rfl, hn, _⟩ := h.vform
  have c3 := h.c3
  have HR := Lib.hid h.rd
  have HN := Sh.mk hn
  have hn1 : n ≤ 1000 := by omega
  have HO0 : Hid (Zats w 3 .i64 w.heap.size (.slice none 0 0) ((l.take 0).map Prod.snd)) := Lib.hid (Zats.nil _ _ _ _)
  clear h hl hn
  go_enter Try.func18, Try.ntmps18
  go_wp2_with fail
  clear c3
  go_loopw [3, 11] (fun qv iv wr => ∃ (k : Nat), k ≤ n ∧ iv = .int .i64 (k : Nat) ∧ Hid (Zats wr 3 .i64 w.heap.size qv ((l.take k).map Prod.snd)) ∧ Hid (Below w.heap.size w wr)) (fun _ iv _ => n - (intOf iv).toNat)
  case atStart => exact ⟨0, Nat.zero_le _, rfl, HO0, Lib.hid (Below.refl _ _)⟩
  case round =>
    clear HO0
    obtain ⟨k, hk, rfl, HO, BB⟩ := hrel
    by_cases hlt : k < n
    · have hlt' : (k : Int) < (n : Int) := by omega
      have hk0 : (0 : Int) ≤ (k : Int) := by omega
      obtain ⟨rb, off, x, y, hA, hrb, hx, hy, HX⟩ := HR.out.pz hlt
      subst hA
      have a0 := (BB.out.cell (p := ⟨rb, off + k * 2, none⟩) hrb).trans hx
      have a1 := (BB.out.cell (p := ⟨rb, off + k * 2 + 1, none⟩) hrb).trans hy
      clear hx hy
      go_upto_region 5 with fail
      have K1 := Lib.hid (Blk.new wr 36 #[.int .i64 x, .int .i64 y])
      have hb1 := (Below.refl wr.heap.size wr).alloc (Nat.le_refl _) (.cells #[.int .i64 x, .int .i64 y] 36)
      have B2 := Lib.hid (BB.out.trans (hb1.mono BB.out.size))
      have O2 := Lib.hid (HO.out.below hb1)
      obtain ⟨Y, hY⟩ : ∃ Y, Y = wr.heap.size := ⟨_, rfl⟩
      rw [← hY] at K1 ⊢
      clear hb1 hY BB HO a0 a1
      generalize wr.alloc (.cells #[.int .i64 x, .int .i64 y] 36) = w3 at *
      have b1 : w3.cell? ⟨Y, 1, none⟩ = some (.int .i64 y) := by rw [K1.out.cell]; rfl
      have hroom : (((l.take k).map Prod.snd).length + 1) * 8 ≤ room := room_ge (by rw [List.length_map, List.length_take]; have := HN.out; omega)
      have hbw : w.heap.size ≤ w3.heap.size := B2.out.size
      go_wp2_with (at_builtin; go_must (refine app1z ad_intEl y rfl _ _ rfl rfl O2.out rfl rfl hroom hbw ?_))
      intro v5 w5 ho5 hg5 hb5
      have O5 := Lib.hid (show Zats w5 3 .i64 w.heap.size v5 ((l.take (k + 1)).map Prod.snd) by rw [map_pz HX.out, List.map_take]; exact ho5)
      have B5 := Lib.hid (B2.out.trans hb5)
      clear ho5 hg5 hb5 b1 B2 O2 K1 hroom hbw
      go_wp2_with fail
      go_roundw
      case rel => exact ⟨k + 1, by omega, by go_num, O5, B5⟩
      case measure => simp [intOf]; omega
    · have hlt' : ¬ (k : Int) < (n : Int) := by omega
      have O2 := Lib.hid (show Zats wr 3 .i64 w.heap.size u3 (l.map Prod.snd) by have := HO.out; rw [List.take_of_length_le (by rw [HN.out]; omega)] at this; exact this)
      have HS := Lib.hid (ad_sort w.heap.size u3 (l.map Prod.snd) wr O2.out (by rw [List.length_map, HN.out]; omega))
      clear HO hlt
      go_wp2_with fail
      refine HS.out.mono ?_
      rintro e w4 ⟨rfl, hz, hg⟩
      have O4 := Lib.hid hz
      have B4 := Lib.hid (BB.out.grown hg BB.out.size fun q hq => (O2.out.lt q hq).1)
      have HC := Lib.hid (ad_compact w.heap.size u3 (isort (l.map Prod.snd)) w4 hz (by rw [isort_len, List.length_map, HN.out]; omega))
      clear hz hg HS O2 BB
      go_wp2_with fail
      refine HC.out.mono ?_
      rintro e w5 ⟨v5, rfl, hz, hg⟩
      have O5 := Lib.hid hz
      have B5 := Lib.hid (B4.out.grown hg B4.out.size fun q hq => (O4.out.lt q hq).1)
      clear hz hg HC O4 B4
      go_wp2_with fail
      refine bodyPost_ret (v := v5) (by kernel_rfl) rfl ?_
      exact ⟨_, rfl, O5.out, B5.out⟩
end Go.Proofs.Ytdcpmfodkggpeaa
