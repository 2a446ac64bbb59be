/- InletTwice: the walk. -/
import Derived.Test.YtnngjbieoakanaaG49InletTwice
import Derived.Test.YtnngjbieoakanaaOrdF
import Derived.Test.YtnngjbieoakanaaG48InletTwice

namespace Go.Proofs.Ytnngjbieoakanaa
open Go.RowKit
set_option linter.unusedVariables false
set_option linter.unusedSimpArgs false
set_option maxRecDepth 20000 in
set_option maxHeartbeats 40000000 in
theorem inletTwice_walk (size : Int) (A : Option Addr) (n c : Nat) (l : List InOp) (qo : InOp) (w : World) (hz : -9223372036854775808 ≤ size ∧ size < 9223372036854775808) (hr : Rd w w.heap.size 5 A n (incs l)) (hok : ∀ q ∈ l, q.ok w) (hqo : qo.ok w) :
    Calls Try.prog 3 #[.int .i64 size, .slice A n c, .agg #[.int .i64 qo.k, .int .i64 qo.nn, .int .u64 (qo.at_ : Int), .bool qo.far, .slice qo.A qo.m qo.c]] w fun e w' => e = .returned (.bool true) ∧ Below w.heap.size w w' := by
  have B0 := Lib.hid ((Below.refl w.heap.size w).alloc (Nat.le_refl _) (.cells #[.int .i64 qo.k, .int .i64 qo.nn, .int .u64 (qo.at_ : Int), .bool qo.far, .slice qo.A qo.m qo.c] 26))
  have K5 := Lib.hid (Blk.new w 26 #[.int .i64 qo.k, .int .i64 qo.nn, .int .u64 (qo.at_ : Int), .bool qo.far, .slice qo.A qo.m qo.c])
  have HRW := Lib.hid hr
  have HGR := Lib.hid (great18 A n c l (w.alloc (.cells #[.int .i64 qo.k, .int .i64 qo.nn, .int .u64 (qo.at_ : Int), .bool qo.far, .slice qo.A qo.m qo.c] 26)) ((hr.below B0.out).mono B0.out.size))
  have HOK := Lib.hid hok
  have HQO := Lib.hid hqo
  have HQM := Lib.hid (show ∀ w', Below w.heap.size w w' → Rd w' w.heap.size 1 qo.A qo.m (ns .u8 qo.l) from fun w' hb => hqo.rd.below hb)
  have HLL := Sh.mk (show l.length = n by have := hr.1; rw [incs_len] at this; omega)
  have hat := hqo.at_
  have hmc := hqo.mc
  clear hr hok hqo
  by_cases h1 : size < 1
  · have h1d : decide (size < 1) = true := decide_eq_true h1
    go_enter Try.func3, Try.ntmps3
    go_wp2_with fail
    refine HGR.out.mono ?_
    rintro e w0 ⟨b, rfl, hb0, _⟩
    have BB := Lib.hid (B0.out.trans (hb0.mono B0.out.size))
    clear hb0 HGR
    cases b
    case true =>
      dsimp only
      go_wp2_with fail
      go_ret
      exact ⟨rfl, BB.out⟩
    case false =>
    dsimp only
    go_wp2_with fail
    go_ret
    exact ⟨rfl, BB.out⟩
  have h1d : decide (size < 1) = false := decide_eq_false h1
  by_cases h2 : 200 < size
  · have h2d : decide (200 < size) = true := decide_eq_true h2
    go_enter Try.func3, Try.ntmps3
    go_wp2_with fail
    refine HGR.out.mono ?_
    rintro e w0 ⟨b, rfl, hb0, _⟩
    have BB := Lib.hid (B0.out.trans (hb0.mono B0.out.size))
    clear hb0 HGR
    cases b
    case true =>
      dsimp only
      go_wp2_with fail
      go_ret
      exact ⟨rfl, BB.out⟩
    case false =>
    dsimp only
    go_wp2_with fail
    go_ret
    exact ⟨rfl, BB.out⟩
  have h2d : decide (200 < size) = false := decide_eq_false h2
  have o4 : (w.alloc (.cells #[.int .i64 qo.k, .int .i64 qo.nn, .int .u64 (qo.at_ : Int), .bool qo.far, .slice qo.A qo.m qo.c] 26)).cell? ⟨w.heap.size, 4, none⟩ = some (.slice qo.A qo.m qo.c) := by rw [K5.out.cell]; rfl
  clear o4
  by_cases h3 : 300 < qo.m
  · have h3' : (300 : Int) < (qo.m : Int) := by omega
    have h3d : decide (300 < qo.m) = true := decide_eq_true h3
    go_enter Try.func3, Try.ntmps3
    go_wp2_with fail
    refine HGR.out.mono ?_
    rintro e w0 ⟨b, rfl, hb0, _⟩
    have BB := Lib.hid (B0.out.trans (hb0.mono B0.out.size))
    have K5W := Lib.hid (K5.out.below hb0 K5.out.lt)
    clear hb0 HGR
    cases b
    case true =>
      dsimp only
      go_wp2_with fail
      go_ret
      exact ⟨rfl, BB.out⟩
    case false =>
    dsimp only
    have o4 : w0.cell? ⟨w.heap.size, 4, none⟩ = some (.slice qo.A qo.m qo.c) := by rw [(K5W.out).cell]; rfl
    go_wp2_with fail
    go_ret
    exact ⟨rfl, BB.out⟩
  have h3' : ¬ (300 : Int) < (qo.m : Int) := by omega
  have h3d : decide (300 < qo.m) = false := decide_eq_false h3
  have hm3 : qo.m ≤ 300 := by omega
  obtain ⟨z, rfl⟩ : ∃ z : Nat, size = (z : Int) := ⟨size.toNat, by omega⟩
  have hz1 : 1 ≤ z := by omega
  have hz2 : z ≤ 200 := by omega
  have h1n : decide (z < 1) = false := decide_eq_false (by omega)
  have h2n : decide (200 < z) = false := decide_eq_false (by omega)
  have h1i : ¬ (z : Int) < 1 := h1
  have h2i : ¬ (200 : Int) < (z : Int) := h2
  clear h1 h2 h3 hz
  go_enter Try.func3, Try.ntmps3
  go_upto_region 1 with fail
  obtain ⟨X5, hX5⟩ : ∃ X, X = w.heap.size := ⟨_, rfl⟩
  have HX5 := Sh.mk hX5
  rw [← hX5] at K5 ⊢
  clear hX5
  generalize w.alloc (.cells #[.int .i64 qo.k, .int .i64 qo.nn, .int .u64 (qo.at_ : Int), .bool qo.far, .slice qo.A qo.m qo.c] 26) = w9 at K5 B0 HGR ⊢
  go_wp2_with fail
  refine HGR.out.mono ?_
  rintro e w0 ⟨b, rfl, hb0, hgr⟩
  have BB := Lib.hid (B0.out.trans (hb0.mono B0.out.size))
  replace K5 := Lib.hid (K5.out.below hb0 K5.out.lt)
  have o4 : w0.cell? ⟨X5, 4, none⟩ = some (.slice qo.A qo.m qo.c) := by rw [K5.out.cell]; rfl
  cases b
  case true =>
    dsimp only
    go_wp2_with fail
    go_ret
    exact ⟨rfl, BB.out⟩
  case false =>
  dsimp only
  obtain ⟨hn60, hm300⟩ := hgr rfl
  have HM300 := Lib.hid hm300
  clear hb0 hgr HGR hm300 B0
  go_wp2_with fail
  refine (in_new z 4 w0 hz1 (by omega) (by omega)).mono ?_
  rintro e w1 ⟨x, g, p, s, rfl, hi, hb1⟩
  obtain ⟨B, hB⟩ : ∃ B, B = w0.heap.size := ⟨_, rfl⟩
  have HI := Lib.hid (show IN w1 B x g p s ⟨0, z, 0, 4, 0, false, [], List.replicate z 0⟩ by rw [hB]; exact hi)
  have XB := Lib.hid (show X5 < B by rw [hB]; exact K5.out.lt)
  have WB := Lib.hid (show w.heap.size ≤ B by rw [hB]; exact BB.out.size)
  replace K5 := Lib.hid (K5.out.below hb1 K5.out.lt)
  replace BB := Lib.hid (BB.out.trans (hb1.mono BB.out.size))
  have c0 := hi.c0
  clear hi hb1 hB o4 h1d h2d h1n h2n h1i h2i h3' h3d
  go_wp2_with fail
  have LT1 := Lib.hid HI.out.lt
  have HN := Lib.hid (r18_new z w1 hz2)
  obtain ⟨B1, hB1⟩ : ∃ B1, B1 = w1.heap.size := ⟨_, rfl⟩
  rw [← hB1] at LT1
  have HB1 := Sh.mk hB1
  clear c0 hB1
  go_wp2_with fail
  refine HN.out.mono ?_
  rintro e w2 ⟨v, rfl, hxo, hb2⟩
  obtain ⟨base, en, kn, A1, A2, c1, c2, rfl, hle, hxr⟩ := hxo
  have HXR := Lib.hid (show XR w2 B1 z A1 c1 A2 c2 by rw [HB1.out]; exact hxr)
  replace HI := Lib.hid (HI.out.into hb2)
  replace K5 := Lib.hid (K5.out.below hb2 K5.out.lt)
  replace BB := Lib.hid (BB.out.trans (hb2.mono BB.out.size))
  have B1W := Lib.hid (show B1 ≤ w2.heap.size by rw [HB1.out]; exact hb2.size)
  have HLE := Sh.mk (show base ≤ 0 from hle)
  clear hxr hb2 hle HN HB1
  go_upto_region 7 with fail
  have KY := Lib.hid (Blk.new w2 38 #[.int .u64 (base : Int), .slice A1 z c1, .slice A2 z c2, .int .i64 (4 : Int), .int .u64 (en : Int), .bool kn])
  have hb3 := (Below.refl w2.heap.size w2).alloc (Nat.le_refl _) (.cells #[.int .u64 (base : Int), .slice A1 z c1, .slice A2 z c2, .int .i64 (4 : Int), .int .u64 (en : Int), .bool kn] 38)
  have YL := Lib.hid (show B1 ≤ w2.heap.size from B1W.out)
  replace HXR := Lib.hid (HXR.out.into hb3)
  replace HI := Lib.hid (HI.out.into hb3)
  replace K5 := Lib.hid (K5.out.below hb3 K5.out.lt)
  replace BB := Lib.hid (BB.out.trans (hb3.mono BB.out.size))
  have W3S := Lib.hid (show B1 ≤ (w2.alloc (.cells #[.int .u64 (base : Int), .slice A1 z c1, .slice A2 z c2, .int .i64 (4 : Int), .int .u64 (en : Int), .bool kn] 38)).heap.size from Nat.le_trans B1W.out hb3.size)
  obtain ⟨Y, hY⟩ : ∃ Y, Y = w2.heap.size := ⟨_, rfl⟩
  rw [← hY] at KY YL ⊢
  clear hb3 hY B1W
  generalize w2.alloc (.cells #[.int .u64 (base : Int), .slice A1 z c1, .slice A2 z c2, .int .i64 (4 : Int), .int .u64 (en : Int), .bool kn] 38) = w3 at *
  go_wp2_with fail
  go_loopw [10] (fun iv wr => ∃ (i base en c1 c2 : Nat) (kn : Bool) (A1 A2 : Option Addr) (st : Ist), i ≤ n ∧ iv = .int .i64 (i : Nat) ∧ base ≤ i * 200 ∧ Hid (st.base ≤ i * 200 ∧ st.size = z) ∧ Hid (IN wr B x g p s st) ∧ Hid (XR wr B1 z A1 c1 A2 c2) ∧ Hid (Blk wr Y 38 #[.int .u64 (base : Int), .slice A1 z c1, .slice A2 z c2, .int .i64 (4 : Int), .int .u64 (en : Int), .bool kn]) ∧ Hid (Blk wr X5 26 #[.int .i64 qo.k, .int .i64 qo.nn, .int .u64 (qo.at_ : Int), .bool qo.far, .slice qo.A qo.m qo.c]) ∧ Hid (B1 ≤ wr.heap.size) ∧ Hid (Below w.heap.size w wr)) (fun iv _ => n - (intOf iv).toNat)
  case atStart => exact ⟨0, base, en, c1, c2, kn, A1, A2, _, Nat.zero_le _, rfl, by have := HLE.out; omega, Lib.hid ⟨Nat.le_refl _, rfl⟩, HI, HXR, KY, K5, W3S, BB⟩
  case round =>
    clear HI HXR KY K5 W3S BB HLE
    obtain ⟨i, base, en, c1, c2, kn, A1, A2, st, hi, rfl, hbase, HST, HI, HXR, KY, K5, W3S, BB⟩ := hrel
    have NXL := Lib.hid (show x < B1 ∧ g < B1 ∧ p < B1 ∧ s < B1 from LT1.out)
    have X5N := Lib.hid (show X5 ≠ x ∧ X5 ≠ g ∧ X5 ≠ p ∧ X5 ≠ s by have := XB.out; have := HI.out.bx; have := HI.out.bg; have := HI.out.bp; have := HI.out.ss; omega)
    have YN := Lib.hid (show Y ≠ x ∧ Y ≠ g ∧ Y ≠ p ∧ Y ≠ s by have := YL.out; have := NXL.out; omega)
    by_cases hlt : i < n
    · have hlt' : (i : Int) < (n : Int) := by omega
      have hi0 : (0 : Int) ≤ (i : Int) := by omega
      have ei : IntKind.i64.wrap ((i : Int) + 1) = (i : Int) + 1 := by rw [IntKind.wrap_i64]; omega
      obtain ⟨rb, off, q, rfl, hrb, q0, q1, q2, q3, q4, hq⟩ := HRW.out.inop hlt
      have QM := List.mem_of_getElem? hq
      have hqok := HOK.out q QM
      have hqm := HM300.out q QM
      have ONE := Lib.hid (fun w' (hw : Below wr.heap.size wr w') => one_any B x g p s B1 z 4 base en c1 c2 w.heap.size st kn A1 A2 q w' (HI.out.into hw) (HXR.out.into hw) NXL.out (Nat.le_trans W3S.out hw.size) WB.out hz2 (by omega) hqok.at_ hqok.nn.2 ((hqok.rd.below BB.out).below (hw.mono BB.out.size)) hqm hqok.mc hqok.lt (by have := HST.out; unfold iLim; omega))
      have LQ := Lib.hid (show ∀ w', Below w.heap.size w w' → ∀ j v, [Value.int .i64 q.k, .int .i64 q.nn, .int .u64 (q.at_ : Int), .bool q.far, .slice q.A q.m q.c][j]? = some v → w'.cell? ⟨rb, off + i * 5 + j, none⟩ = some v from fun w' hw j v hj => by
        match j, hj with
        | 0, hj => exact ((hw.cell (p := ⟨rb, off + i * 5, none⟩) hrb).trans q0).trans hj
        | 1, hj => exact ((hw.cell (p := ⟨rb, off + i * 5 + 1, none⟩) hrb).trans q1).trans hj
        | 2, hj => exact ((hw.cell (p := ⟨rb, off + i * 5 + 2, none⟩) hrb).trans q2).trans hj
        | 3, hj => exact ((hw.cell (p := ⟨rb, off + i * 5 + 3, none⟩) hrb).trans q3).trans hj
        | 4, hj => exact ((hw.cell (p := ⟨rb, off + i * 5 + 4, none⟩) hrb).trans q4).trans hj)
      have hrs : rb = Y ∨ rb < w.heap.size := .inr hrb
      have hys : Y = Y ∨ Y < w.heap.size := .inl rfl
      have WBY := Lib.hid (show ∀ k, k = Y ∨ k < w.heap.size → k < B1 ∨ k = Y from fun k hk => by have := WB.out; have := HI.out.bx; have := NXL.out; omega)
      clear q0 q1 q2 q3 q4 hq QM hqok hqm
      go_upto_region 10 with fail
      refine OB.wp_f ⟨fun k => k = Y ∨ k < w.heap.size, [10]⟩ (by kernel_rfl) (fun QQ hQ wd hwd => ?_)
      have hD : Below wr.heap.size wr wd := by rw [hwd.out]; exact (Below.refl _ _).drew
      have ON := Lib.hid (ONE.out wd hD)
      replace HI := Lib.hid (HI.out.into hD)
      replace KY := Lib.hid (KY.out.below hD KY.out.lt)
      replace K5 := Lib.hid (K5.out.below hD K5.out.lt)
      replace W3S := Lib.hid (Nat.le_trans W3S.out hD.size)
      replace BB := Lib.hid (BB.out.trans (hD.mono BB.out.size))
      clear hD hwd ONE HXR
      refine OB.f_walk [(0, .pure), (1, .read), (2, .pure), (3, .pure), (4, .pure), (5, .read), (6, .sole), (7, .pure), (8, .pure)] 2 (by rfl) (by kernel_rfl) ?_; (try simp only [List.map_cons, List.map_nil, List.getD_cons_zero, List.getD_cons_succ])
      (refine OB.o_pure (v := ?_) (by rfl) (fun w' => ?_) ?_; rotate_left; (focus (go_simp; (try with_reducible rfl))); (try simp only [Act.put, List.setIfInBounds_toArray, List.set_cons_zero, List.set_cons_succ]))
      (refine OB.o_loads _ [.int .u64 (base : Int), .slice A1 z c1, .slice A2 z c2, .int .i64 (4 : Int), .int .u64 (en : Int), .bool kn] (by rfl) rfl rfl (by dsimp only; first | assumption | omega) (KY.out.loads 0 _ (by rfl)) (Nat.succ_pos _) (by kernel_rfl) (by kernel_rfl) ?_; simp only [Act.put, List.setIfInBounds_toArray, List.set_cons_zero, List.set_cons_succ])
      (refine OB.o_pure (v := ?_) (by rfl) (fun w' => ?_) ?_; rotate_left; (focus (go_simp; (try with_reducible rfl))); (try simp only [Act.put, List.setIfInBounds_toArray, List.set_cons_zero, List.set_cons_succ]))
      (refine OB.o_pure (v := ?_) (by rfl) (fun w' => ?_) ?_; rotate_left; (focus (go_simp; (try with_reducible rfl))); (try simp only [Act.put, List.setIfInBounds_toArray, List.set_cons_zero, List.set_cons_succ]))
      (refine OB.o_pure (v := ?_) (by rfl) (fun w' => ?_) ?_; rotate_left; (focus (go_simp; (try with_reducible rfl))); (try simp only [Act.put, List.setIfInBounds_toArray, List.set_cons_zero, List.set_cons_succ]))
      (refine OB.o_loads _ [.int .i64 q.k, .int .i64 q.nn, .int .u64 (q.at_ : Int), .bool q.far, .slice q.A q.m q.c] (by rfl) rfl rfl (by dsimp only; first | assumption | omega) (LQ.out wd BB.out) (Nat.succ_pos _) (by kernel_rfl) (by kernel_rfl) ?_; simp only [Act.put, List.setIfInBounds_toArray, List.set_cons_zero, List.set_cons_succ])
      refine OB.o_sole (fun K hK => ?_)
      go_wp2_with fail
      refine ON.out.mono ?_
      rintro e w5 ⟨v, ob, st', rfl, hxo, hin, hik, hst1, hst2⟩
      obtain ⟨base', en', kn', A1', A2', c1', c2', rfl, hle, hxr⟩ := hxo
      go_wp2_with fail
      refine hK _ _ (fun _ => fun k hk => by
        rcases hk with rfl | hk
        · exact (hik.blk KY.out YN.out (by decide)).trans KY.out.symm
        · exact (HI.out.bel hik).block k (by have := WB.out; omega)) ?_; clear hK K
      replace KY := Lib.hid (hik.blk KY.out YN.out (by decide))
      replace K5 := Lib.hid (hik.blk K5.out X5N.out (by decide))
      replace W3S := Lib.hid (Nat.le_trans W3S.out hik.size)
      replace BB := Lib.hid (BB.out.trans ((HI.out.bel hik).mono WB.out))
      have HXR := Lib.hid hxr
      have HI2 := Lib.hid hin
      replace HST := Lib.hid (show st'.base ≤ (i + 1) * 200 ∧ st'.size = z by have := HST.out; omega)
      have HB2 := Sh.mk (show base' ≤ (i + 1) * 200 by omega)
      clear hik hin hxr hst1 hst2 ON HI hle LQ hrs hys WBY
      have HI := HI2
      clear HI2
      (refine OB.o_pure (v := ?_) (by rfl) (fun w' => ?_) ?_; rotate_left; (focus (go_simp; (try with_reducible rfl))); (try simp only [Act.put, List.setIfInBounds_toArray, List.set_cons_zero, List.set_cons_succ]))
      (refine OB.o_pure (v := ?_) (by rfl) (fun w' => ?_) ?_; rotate_left; (focus (go_simp; (try with_reducible rfl))); (try simp only [Act.put, List.setIfInBounds_toArray, List.set_cons_zero, List.set_cons_succ]))
      refine OB.o_nil ?_
      refine OB.f_fork 9 10 (by kernel_rfl) (by kernel_rfl) ?_ ?_
      · (try simp only [List.map_cons, List.map_nil, List.getD_cons_zero, List.getD_cons_succ])
        refine OB.o_sole (fun K hK => ?_)
        go_wp2_with fail
        refine hK _ _ (fun _ => OB.ExtB.refl _ _) ?_; clear hK K
        refine OB.o_nil ?_
        refine OB.f_walk [(10, .sole)] 0 (by rfl) (by kernel_rfl) ?_; (try simp only [List.map_cons, List.map_nil, List.getD_cons_zero, List.getD_cons_succ])
        refine OB.o_sole (fun K hK => ?_)
        refine stm_store (cs' := #[.int .u64 (base' : Int), .slice A1' z c1', .slice A2' z c2', .int .i64 (4 : Int), .int .u64 (en' : Int), .bool kn']) KY.out rfl _ _ rfl rfl rfl (by simp) (by kernel_rfl) (by simp [Value.oneCell']) (by simp [setL]) fun w6 hk hs => ?_
        refine wpList_nil ?_
        refine hK _ _ (fun h => by cases h) ?_; clear hK K
        replace HI := Lib.hid (HI.out.aside KY.out (by decide) (by decide) (by have := NXL.out; have := YL.out; omega) hs)
        replace HXR := Lib.hid (HXR.out.solo KY.out (by decide) (by decide) hs)
        replace K5 := Lib.hid (hs.blk K5.out (by have := XB.out; have := YL.out; have := NXL.out; have := HI.out.bx; omega))
        replace W3S := Lib.hid (show B1 ≤ w6.heap.size by rw [hs.2.1]; exact W3S.out)
        replace BB := Lib.hid (BB.out.trans (hs.1.mono (by have := WB.out; have := YL.out; have := NXL.out; have := HI.out.bx; omega)))
        replace KY := Lib.hid (show Blk _ _ _ #[.int .u64 (base' : Int), .slice A1' z c1', .slice A2' z c2', .int .i64 (4 : Int), .int .u64 (en' : Int), .bool kn'] from hk)
        clear hk hs
        refine OB.o_nil ?_
        refine OB.f_end (by kernel_rfl) (hQ.out _ _ ?_); clear hQ QQ
        go_wp2_with fail
        go_roundw
        case rel => exact ⟨i + 1, base', en', c1', c2', kn', A1', A2', st', by omega, by go_num, HB2.out, HST, HI, HXR, KY, K5, W3S, BB⟩
        case measure => simp [intOf]; omega
      · (try simp only [List.map_cons, List.map_nil, List.getD_cons_zero, List.getD_cons_succ])
        refine OB.o_sole (fun K hK => ?_)
        refine stm_store (cs' := #[.int .u64 (base' : Int), .slice A1' z c1', .slice A2' z c2', .int .i64 (4 : Int), .int .u64 (en' : Int), .bool kn']) KY.out rfl _ _ rfl rfl rfl (by simp) (by kernel_rfl) (by simp [Value.oneCell']) (by simp [setL]) fun w6 hk hs => ?_
        refine wpList_nil ?_
        refine hK _ _ (fun h => by cases h) ?_; clear hK K
        replace HI := Lib.hid (HI.out.aside KY.out (by decide) (by decide) (by have := NXL.out; have := YL.out; omega) hs)
        replace HXR := Lib.hid (HXR.out.solo KY.out (by decide) (by decide) hs)
        replace K5 := Lib.hid (hs.blk K5.out (by have := XB.out; have := YL.out; have := NXL.out; have := HI.out.bx; omega))
        replace W3S := Lib.hid (show B1 ≤ w6.heap.size by rw [hs.2.1]; exact W3S.out)
        replace BB := Lib.hid (BB.out.trans (hs.1.mono (by have := WB.out; have := YL.out; have := NXL.out; have := HI.out.bx; omega)))
        replace KY := Lib.hid (show Blk _ _ _ #[.int .u64 (base' : Int), .slice A1' z c1', .slice A2' z c2', .int .i64 (4 : Int), .int .u64 (en' : Int), .bool kn'] from hk)
        clear hk hs
        refine OB.o_nil ?_
        refine OB.f_walk [(9, .pure)] 0 (by rfl) (by kernel_rfl) ?_; (try simp only [List.map_cons, List.map_nil, List.getD_cons_zero, List.getD_cons_succ])
        (refine OB.o_pure (v := ?_) (by rfl) (fun w' => ?_) ?_; rotate_left; (focus (go_simp; (try with_reducible rfl))); (try simp only [Act.put, List.setIfInBounds_toArray, List.set_cons_zero, List.set_cons_succ]))
        refine OB.o_nil ?_
        refine OB.f_end (by kernel_rfl) (hQ.out _ _ ?_); clear hQ QQ
        go_wp2_with fail
        go_roundw
        case rel => exact ⟨i + 1, base', en', c1', c2', kn', A1', A2', st', by omega, by go_num, HB2.out, HST, HI, HXR, KY, K5, W3S, BB⟩
        case measure => simp [intOf]; omega
    · have hlt' : ¬ (i : Int) < (n : Int) := by omega
      have HML := Sh.mk (HQM.out w (Below.refl _ _)).natLen
      have HLT := Sh.mk HQO.out.lt
      have HBASE := Sh.mk (show st.base ≤ 12000 ∧ st.size = z by have := HST.out; omega)
      clear hlt HXR W3S HST hbase
      have o2 : wr.cell? ⟨X5, 2, none⟩ = some (.int .u64 (qo.at_ : Int)) := by rw [K5.out.cell]; rfl
      obtain ⟨d, hd⟩ : ∃ d, d = 2 * z := ⟨_, rfl⟩
      have e1 : (2 : Int) * (z : Int) = (d : Int) := by omega
      have e2 : IntKind.i64.wrap (d : Int) = (d : Int) := by rw [IntKind.wrap_i64]; omega
      have e3 : IntKind.u64.wrap (d : Int) = (d : Int) := by rw [IntKind.wrap_u64]; omega
      have d0 : ((d : Int) == 0) = false := by simp; omega
      have d1 : (d == 0) = false := by simp; omega
      have d2 : (d : Int) ≠ 0 := by omega
      have d3 : d ≠ 0 := by omega
      obtain ⟨m, hm⟩ : ∃ m, m = qo.at_ % d := ⟨_, rfl⟩
      have hmd : m < 400 := by have := Nat.mod_lt qo.at_ (show 0 < d by omega); omega
      have e4 : (qo.at_ : Int).tmod (d : Int) = (m : Int) := by rw [Int.tmod_eq_emod_of_nonneg (by omega)]; omega
      obtain ⟨f, hf⟩ : ∃ f, f = st.base + m := ⟨_, rfl⟩
      have hfl : f < 18446744073709551616 := by have := HBASE.out; omega
      have e5 : (st.base : Int) + (m : Int) = (f : Int) := by omega
      have e6 : IntKind.u64.wrap (f : Int) = (f : Int) := by rw [IntKind.wrap_u64]; omega
      have HFL := Sh.mk hfl
      clear hd hm hmd hf hfl
      go_upto_region 11 with fail
      refine wp_ord [(0, .pure), (2, .pure), (3, .read), (4, .pure), (5, .pure), (6, .pure), (7, .pure), (1, .sole), (8, .pure), (9, .pure)] [] (by kernel_rfl) (by kernel_rfl) (fun QQ hQ wd hwd => ?_); simp only [List.map_cons, List.map_nil, List.getD_cons_zero, List.getD_cons_succ]
      have hD : Below wr.heap.size wr wd := by rw [hwd.out]; exact (Below.refl _ _).drew
      replace o2 : wd.cell? ⟨X5, 2, none⟩ = some (.int .u64 (qo.at_ : Int)) := by rw [hwd.out]; exact o2
      replace KY := Lib.hid (KY.out.below hD KY.out.lt)
      replace K5 := Lib.hid (K5.out.below hD K5.out.lt)
      replace BB := Lib.hid (BB.out.trans (hD.mono BB.out.size))
      replace HI := Lib.hid (HI.out.into hD)
      clear hD hwd
      (refine o_pure (v := ?_) (by rfl) (fun w' => ?_) ?_; rotate_left; (focus (go_simp; (try with_reducible rfl); (try (rw [if_pos (by omega)]; (try with_reducible rfl))))); (try simp only [Act.put, List.setIfInBounds_toArray, List.set_cons_zero, List.set_cons_succ]))
      (refine o_pure (v := ?_) (by rfl) (fun w' => ?_) ?_; rotate_left; (focus (go_simp; (try with_reducible rfl); (try (rw [if_pos (by omega)]; (try with_reducible rfl))))); (try simp only [Act.put, List.setIfInBounds_toArray, List.set_cons_zero, List.set_cons_succ]))
      (refine o_load _ (by rfl) rfl rfl (by assumption) (by kernel_rfl) ?_; simp only [Act.put, List.setIfInBounds_toArray, List.set_cons_zero, List.set_cons_succ])
      (refine o_pure (v := ?_) (by rfl) (fun w' => ?_) ?_; rotate_left; (focus (go_simp; (try with_reducible rfl); (try (rw [if_pos (by omega)]; (try with_reducible rfl))))); (try simp only [Act.put, List.setIfInBounds_toArray, List.set_cons_zero, List.set_cons_succ]))
      (refine o_pure (v := ?_) (by rfl) (fun w' => ?_) ?_; rotate_left; (focus (go_simp; (try with_reducible rfl); (try (rw [if_pos (by omega)]; (try with_reducible rfl))))); (try simp only [Act.put, List.setIfInBounds_toArray, List.set_cons_zero, List.set_cons_succ]))
      (refine o_pure (v := ?_) (by rfl) (fun w' => ?_) ?_; rotate_left; (focus (go_simp; (try with_reducible rfl); (try (rw [if_pos (by omega)]; (try with_reducible rfl))))); (try simp only [Act.put, List.setIfInBounds_toArray, List.set_cons_zero, List.set_cons_succ]))
      (refine o_pure (v := ?_) (by rfl) (fun w' => ?_) ?_; rotate_left; (focus (go_simp; (try with_reducible rfl); (try (rw [if_pos (by omega)]; (try with_reducible rfl))))); (try simp only [Act.put, List.setIfInBounds_toArray, List.set_cons_zero, List.set_cons_succ]))
      have HBS := Lib.hid (in_base B x g p s st wd HI.out)
      refine o_sole (fun K hK => ?_)
      go_wp2_with fail
      refine HBS.out.mono ?_
      rintro e w4 ⟨rfl, hw⟩
      have hw := hw.symm
      subst hw
      go_wp2_with fail
      refine hK _ _ (fun _ => Ext.of (Below.refl _ _)) ?_; clear hK K
      (refine o_pure (v := ?_) (by rfl) (fun w' => ?_) ?_; rotate_left; (focus (go_simp; (try with_reducible rfl); (try (rw [if_pos (by omega)]; (try with_reducible rfl))))); (try simp only [Act.put, List.setIfInBounds_toArray, List.set_cons_zero, List.set_cons_succ]))
      (refine o_pure (v := ?_) (by rfl) (fun w' => ?_) ?_; rotate_left; (focus (go_simp; (try with_reducible rfl); (try (rw [if_pos (by omega)]; (try with_reducible rfl))))); (try simp only [Act.put, List.setIfInBounds_toArray, List.set_cons_zero, List.set_cons_succ]))
      refine o_nil (hQ.out _ _ ?_); clear hQ QQ
      clear e1 e2 e3 e4 e5 e6 d0 d1 d2 d3 o2 HBS
      have TW := Lib.hid (HI.out.ok.put_twice (f := f) (bs := qo.l))
      have PS := Lib.hid (Ist.put_same (s := st) (f := f) (bs := qo.l))
      have PS2 := Lib.hid (Ist.put_same (s := (st.put f qo.l).1) (f := f) (bs := qo.l))
      have HP := Lib.hid (in_put B x g p s st f qo.A qo.m qo.c qo.l wd HI.out (by unfold pmax; exact HFL.out) HML.out HLT.out hmc (by omega) ((HQM.out wd BB.out).apt (Nat.le_trans WB.out HI.out.bp)) (fun w9 k9 => ((HQM.out wd BB.out).below ((HI.out.bel k9).mono WB.out)).mono (show w.heap.size ≤ wd.heap.size from BB.out.size)))
      have o4 : wd.cell? ⟨X5, 4, none⟩ = some (.slice qo.A qo.m qo.c) := by rw [K5.out.cell]; rfl
      go_wp2_with fail
      refine HP.out.mono ?_
      rintro e w5 ⟨rfl, hin, hik⟩
      replace KY := Lib.hid (hik.blk KY.out YN.out (by decide))
      replace K5 := Lib.hid (hik.blk K5.out X5N.out (by decide))
      replace BB := Lib.hid (BB.out.trans ((HI.out.bel hik).mono WB.out))
      replace HI := Lib.hid (hin)
      clear hin hik HP o4
      obtain ⟨r1, hr1⟩ : ∃ r, r = st.put f qo.l := ⟨_, rfl⟩
      rw [← hr1] at HI TW PS PS2 ⊢
      obtain ⟨s1, a1⟩ := r1
      dsimp only at HI TW PS PS2 ⊢
      clear hr1
      have NX1 := Lib.hid (in_next B x g p s s1 w5 HI.out)
      go_wp2_with fail
      refine NX1.out.mono ?_
      rintro e w6 ⟨rfl, k1, rfl⟩
      have hb : Below w5.heap.size w5 (w5.drewN k1) := below_drewN (Below.refl _ _) k1
      replace KY := Lib.hid (KY.out.below hb KY.out.lt)
      replace K5 := Lib.hid (K5.out.below hb K5.out.lt)
      replace BB := Lib.hid (BB.out.trans (hb.mono BB.out.size))
      replace HI := Lib.hid (HI.out.into hb)
      generalize w5.drewN k1 = w6 at *
      clear hb
      have PC1 := Lib.hid (in_pieces B x g p s s1 w6 HI.out)
      go_wp2_with fail
      refine PC1.out.mono ?_
      rintro e w7 ⟨rfl, hb⟩
      replace KY := Lib.hid (KY.out.below hb KY.out.lt)
      replace K5 := Lib.hid (K5.out.below hb K5.out.lt)
      replace BB := Lib.hid (BB.out.trans (hb.mono BB.out.size))
      replace HI := Lib.hid (HI.out.into hb)
      clear hb NX1 PC1
      have AC1 := Lib.hid (in_ack B x g p s s1 w7 HI.out)
      go_wp2_with fail
      refine AC1.out.mono ?_
      rintro e w8 ⟨rfl, k2, rfl⟩
      have hb : Below w7.heap.size w7 (w7.drewN k2) := below_drewN (Below.refl _ _) k2
      replace KY := Lib.hid (KY.out.below hb KY.out.lt)
      replace K5 := Lib.hid (K5.out.below hb K5.out.lt)
      replace BB := Lib.hid (BB.out.trans (hb.mono BB.out.size))
      replace HI := Lib.hid (HI.out.into hb)
      generalize w7.drewN k2 = w8 at *
      clear hb
      clear AC1
      have HP := Lib.hid (in_put B x g p s s1 f qo.A qo.m qo.c qo.l w8 HI.out (by unfold pmax; exact HFL.out) HML.out HLT.out hmc (by omega) ((HQM.out w8 BB.out).apt (Nat.le_trans WB.out HI.out.bp)) (fun w9 k9 => ((HQM.out w8 BB.out).below ((HI.out.bel k9).mono WB.out)).mono (show w.heap.size ≤ w8.heap.size from BB.out.size)))
      have o4 : w8.cell? ⟨X5, 4, none⟩ = some (.slice qo.A qo.m qo.c) := by rw [K5.out.cell]; rfl
      go_wp2_with fail
      refine HP.out.mono ?_
      rintro e w10 ⟨rfl, hin, hik⟩
      replace KY := Lib.hid (hik.blk KY.out YN.out (by decide))
      replace K5 := Lib.hid (hik.blk K5.out X5N.out (by decide))
      replace BB := Lib.hid (BB.out.trans ((HI.out.bel hik).mono WB.out))
      replace HI := Lib.hid (hin)
      clear hin hik HP o4
      obtain ⟨r2, hr2⟩ : ∃ r, r = s1.put f qo.l := ⟨_, rfl⟩
      rw [← hr2] at HI TW PS2 ⊢
      obtain ⟨s2, a2⟩ := r2
      dsimp only at HI TW PS2 ⊢
      clear hr2
      have HS2 := Lib.hid (show s2.base = st.base ∧ s2.size = st.size ∧ s2.en = s1.en ∧ s2.kn = s1.kn from ⟨PS2.out.1.trans PS.out.1, PS2.out.2.1.trans PS.out.2.1, PS2.out.2.2.2.1, PS2.out.2.2.2.2⟩)
      have HB3 := Lib.hid (in_base B x g p s s2 w10 HI.out)
      go_wp2_with fail
      refine HB3.out.mono ?_
      rintro e w11 ⟨rfl, hw⟩
      have hw := hw.symm
      subst hw
      clear HB3
      by_cases hbz : 0 < s2.base
      · have hbz' : (0 : Int) < (s2.base : Int) := by omega
        have hbd : decide (0 < s2.base) = true := decide_eq_true hbz
        have hbi : decide ((0 : Int) < (s2.base : Int)) = true := decide_eq_true hbz'
        have o4 : w10.cell? ⟨X5, 4, none⟩ = some (.slice qo.A qo.m qo.c) := by rw [K5.out.cell]; rfl
        have hs0 : ∀ w, (Instr.slice 24 (.slice qo.A qo.m qo.c) none (some (.int .i64 0)) none).run Try.prog w = .ok (.slice qo.A 0 qo.c) w := fun w => run_cut_h byEl qo.A qo.m qo.c 0 (Nat.zero_le _) w
        have HP := Lib.hid (in_put B x g p s s2 0 qo.A 0 qo.c [] w10 HI.out (by unfold pmax; omega) rfl (fun y hy => by cases hy) (Nat.zero_le _) (by omega) (fun h => absurd h (Nat.lt_irrefl _)) (fun w9 k9 => Rd.nil _ _ _ _))
        have HP0 := Sh.mk (Ist.put_none (s := s2))
        go_wp2_with fail
        refine HP.out.mono ?_
        rintro e w12 ⟨rfl, hin, hik⟩
        replace KY := Lib.hid (hik.blk KY.out YN.out (by decide))
        replace K5 := Lib.hid (hik.blk K5.out X5N.out (by decide))
        replace BB := Lib.hid (BB.out.trans ((HI.out.bel hik).mono WB.out))
        replace HI := Lib.hid ((show IN w12 B x g p s s2 by have h9 := hin; rw [HP0.out] at h9; exact h9))
        clear hin hik HP o4 hs0 hbz' hbd hbi
        obtain ⟨b8, hb8⟩ : ∃ b8, b8 = (s2.put 0 []).2 := ⟨_, rfl⟩
        rw [← hb8]
        clear hb8
        go_upto_region 17 with fail
        refine wp_ord [(0, .pure), (1, .pure), (3, .pure), (4, .read), (2, .sole), (5, .sole)] [5] (by kernel_rfl) (by kernel_rfl) (fun QQ hQ wd hwd => ?_); simp only [List.map_cons, List.map_nil, List.getD_cons_zero, List.getD_cons_succ]
        have hD : Below w12.heap.size w12 wd := by rw [hwd.out]; exact (Below.refl _ _).drew
        replace KY := Lib.hid (KY.out.below hD KY.out.lt)
        replace K5 := Lib.hid (K5.out.below hD K5.out.lt)
        replace BB := Lib.hid (BB.out.trans (hD.mono BB.out.size))
        replace HI := Lib.hid (HI.out.into hD)
        clear hD hwd
        have o4 : wd.cell? ⟨X5, 4, none⟩ = some (.slice qo.A qo.m qo.c) := by rw [K5.out.cell]; rfl
        (refine o_pure (v := ?_) (by rfl) (fun w' => ?_) ?_; rotate_left; (focus (go_simp; (try with_reducible rfl); (try (rw [if_pos (by omega)]; (try with_reducible rfl))))); (try simp only [Act.put, List.setIfInBounds_toArray, List.set_cons_zero, List.set_cons_succ]))
        (refine o_pure (v := ?_) (by rfl) (fun w' => ?_) ?_; rotate_left; (focus (go_simp; (try with_reducible rfl); (try (rw [if_pos (by omega)]; (try with_reducible rfl))))); (try simp only [Act.put, List.setIfInBounds_toArray, List.set_cons_zero, List.set_cons_succ]))
        (refine o_pure (v := ?_) (by rfl) (fun w' => ?_) ?_; rotate_left; (focus (go_simp; (try with_reducible rfl); (try (rw [if_pos (by omega)]; (try with_reducible rfl))))); (try simp only [Act.put, List.setIfInBounds_toArray, List.set_cons_zero, List.set_cons_succ]))
        (refine o_load _ (by rfl) rfl rfl (by assumption) (by kernel_rfl) ?_; simp only [Act.put, List.setIfInBounds_toArray, List.set_cons_zero, List.set_cons_succ])
        clear o4
        have HE := Lib.hid (in_edge B x g p s s2 wd HI.out)
        obtain ⟨eg, heg⟩ : ∃ eg, eg = s2.base + s2.size := ⟨_, rfl⟩
        rw [← heg] at HE
        have HEQ := Sh.mk heg
        clear heg
        refine o_sole (fun K hK => ?_)
        go_wp2_with fail
        refine HE.out.mono ?_
        rintro e w13 ⟨rfl, k3, rfl⟩
        go_wp2_with fail
        refine hK _ _ (fun _ => Ext.of (below_drewN (Below.refl _ _) k3)) ?_; clear hK K
        have hb : Below wd.heap.size wd (wd.drewN k3) := below_drewN (Below.refl _ _) k3
        replace KY := Lib.hid (KY.out.below hb KY.out.lt)
        replace K5 := Lib.hid (K5.out.below hb K5.out.lt)
        replace BB := Lib.hid (BB.out.trans (hb.mono BB.out.size))
        replace HI := Lib.hid (HI.out.into hb)
        generalize wd.drewN k3 = w13 at *
        clear hb
        clear HE
        have HEG := Sh.mk (Ist.put_edge (s := s2) (bs := qo.l) (e := eg) (by have := HEQ.out; omega))
        have hegl : eg < 18446744073709551616 := by have := HBASE.out; have := HS2.out; have := HEQ.out; omega
        have HEL := Sh.mk hegl
        clear hegl
        have HP := Lib.hid (in_put B x g p s s2 eg qo.A qo.m qo.c qo.l w13 HI.out (by unfold pmax; exact HEL.out) HML.out HLT.out hmc (by omega) ((HQM.out w13 BB.out).apt (Nat.le_trans WB.out HI.out.bp)) (fun w9 k9 => ((HQM.out w13 BB.out).below ((HI.out.bel k9).mono WB.out)).mono (show w.heap.size ≤ w13.heap.size from BB.out.size)))
        refine o_sole (fun K hK => ?_)
        go_wp2_with fail
        refine HP.out.mono ?_
        rintro e w14 ⟨rfl, hin, hik⟩
        go_wp2_with fail
        refine hK _ _ (fun h => by cases h) ?_; clear hK K
        refine o_nil (hQ.out _ _ ?_); clear hQ QQ
        replace KY := Lib.hid (hik.blk KY.out YN.out (by decide))
        replace K5 := Lib.hid (hik.blk K5.out X5N.out (by decide))
        replace BB := Lib.hid (BB.out.trans ((HI.out.bel hik).mono WB.out))
        replace HI := Lib.hid ((show IN w14 B x g p s s2 by have h9 := hin; rw [HEG.out] at h9; exact h9))
        clear hin hik HP
        obtain ⟨b9, hb9⟩ : ∃ b9, b9 = (s2.put eg qo.l).2 := ⟨_, rfl⟩
        rw [← hb9]
        clear hb9
        have HNX := Lib.hid (in_next B x g p s s2 w14 HI.out)
        rw [TW.out.2.1] at HNX
        have hnn1 : ((s1.next : Int) == (s1.next : Int)) = true := by simp
        have hpp1 : ((s1.P.length : Int) == (s1.P.length : Int)) = true := by simp
        have haa1 : ((s1.ack : Int) == (s1.ack : Int)) = true := by simp
        have AB := Sh.mk TW.out.2.2
        have y3 : w14.cell? ⟨Y, 3, none⟩ = some (.int .i64 4) := by rw [KY.out.cell]; rfl
        have AL := Lib.hid alive18
        have TWP := Sh.mk (show s2.P.length = s1.P.length by rw [TW.out.1])
        have TWA := Sh.mk (show s2.ack = s1.ack from Ist.ack_same TW.out.2.1 HS2.out.2.2.1 HS2.out.2.2.2)
        clear TW y3
        have FINI : ∀ (b1 b2 : Bool), a1 = b1 → a2 = b2 → (b1 = b2 ∨ b1 = false) → (b1, b2) = (true, true) ∨ b1 = false := fun b1 b2 _ _ h => by cases b1 <;> cases b2 <;> simp_all
        clear FINI
        cases a1
        · cases a2
          · go_wp2_with fail
            refine HNX.out.mono ?_
            rintro e w15 ⟨rfl, k4, rfl⟩
            have hb : Below w14.heap.size w14 (w14.drewN k4) := below_drewN (Below.refl _ _) k4
            replace KY := Lib.hid (KY.out.below hb KY.out.lt)
            replace K5 := Lib.hid (K5.out.below hb K5.out.lt)
            replace BB := Lib.hid (BB.out.trans (hb.mono BB.out.size))
            replace HI := Lib.hid (HI.out.into hb)
            generalize w14.drewN k4 = w15 at *
            clear hb
            have PC2 := Lib.hid (in_pieces B x g p s s2 w15 HI.out)
            rw [TWP.out] at PC2
            go_wp2_with fail
            refine PC2.out.mono ?_
            rintro e w16 ⟨rfl, hb⟩
            replace KY := Lib.hid (KY.out.below hb KY.out.lt)
            replace K5 := Lib.hid (K5.out.below hb K5.out.lt)
            replace BB := Lib.hid (BB.out.trans (hb.mono BB.out.size))
            replace HI := Lib.hid (HI.out.into hb)
            clear hb PC2
            have AC2 := Lib.hid (in_ack B x g p s s2 w16 HI.out)
            rw [TWA.out] at AC2
            go_wp2_with fail
            refine AC2.out.mono ?_
            rintro e w17 ⟨rfl, k5, rfl⟩
            have hb : Below w16.heap.size w16 (w16.drewN k5) := below_drewN (Below.refl _ _) k5
            replace KY := Lib.hid (KY.out.below hb KY.out.lt)
            replace K5 := Lib.hid (K5.out.below hb K5.out.lt)
            replace BB := Lib.hid (BB.out.trans (hb.mono BB.out.size))
            replace HI := Lib.hid (HI.out.into hb)
            generalize w16.drewN k5 = w17 at *
            clear hb
            clear AC2
            have y3 : w17.cell? ⟨Y, 3, none⟩ = some (.int .i64 4) := by rw [KY.out.cell]; rfl
            go_wp2_with fail
            refine (AL.out w17).mono ?_
            rintro e w18 ⟨rfl, hb⟩
            replace BB := Lib.hid (BB.out.trans (hb.mono BB.out.size))
            clear hb
            go_wp2_with fail
            go_ret
            exact ⟨by simp, BB.out⟩
          · go_wp2_with fail
            refine HNX.out.mono ?_
            rintro e w15 ⟨rfl, k4, rfl⟩
            have hb : Below w14.heap.size w14 (w14.drewN k4) := below_drewN (Below.refl _ _) k4
            replace KY := Lib.hid (KY.out.below hb KY.out.lt)
            replace K5 := Lib.hid (K5.out.below hb K5.out.lt)
            replace BB := Lib.hid (BB.out.trans (hb.mono BB.out.size))
            replace HI := Lib.hid (HI.out.into hb)
            generalize w14.drewN k4 = w15 at *
            clear hb
            have PC2 := Lib.hid (in_pieces B x g p s s2 w15 HI.out)
            rw [TWP.out] at PC2
            go_wp2_with fail
            refine PC2.out.mono ?_
            rintro e w16 ⟨rfl, hb⟩
            replace KY := Lib.hid (KY.out.below hb KY.out.lt)
            replace K5 := Lib.hid (K5.out.below hb K5.out.lt)
            replace BB := Lib.hid (BB.out.trans (hb.mono BB.out.size))
            replace HI := Lib.hid (HI.out.into hb)
            clear hb PC2
            have AC2 := Lib.hid (in_ack B x g p s s2 w16 HI.out)
            rw [TWA.out] at AC2
            go_wp2_with fail
            refine AC2.out.mono ?_
            rintro e w17 ⟨rfl, k5, rfl⟩
            have hb : Below w16.heap.size w16 (w16.drewN k5) := below_drewN (Below.refl _ _) k5
            replace KY := Lib.hid (KY.out.below hb KY.out.lt)
            replace K5 := Lib.hid (K5.out.below hb K5.out.lt)
            replace BB := Lib.hid (BB.out.trans (hb.mono BB.out.size))
            replace HI := Lib.hid (HI.out.into hb)
            generalize w16.drewN k5 = w17 at *
            clear hb
            clear AC2
            have y3 : w17.cell? ⟨Y, 3, none⟩ = some (.int .i64 4) := by rw [KY.out.cell]; rfl
            go_wp2_with fail
            refine (AL.out w17).mono ?_
            rintro e w18 ⟨rfl, hb⟩
            replace BB := Lib.hid (BB.out.trans (hb.mono BB.out.size))
            clear hb
            go_wp2_with fail
            go_ret
            exact ⟨by simp, BB.out⟩
        · cases a2
          · exact absurd AB.out (by simp)
          · go_wp2_with fail
            refine HNX.out.mono ?_
            rintro e w15 ⟨rfl, k4, rfl⟩
            have hb : Below w14.heap.size w14 (w14.drewN k4) := below_drewN (Below.refl _ _) k4
            replace KY := Lib.hid (KY.out.below hb KY.out.lt)
            replace K5 := Lib.hid (K5.out.below hb K5.out.lt)
            replace BB := Lib.hid (BB.out.trans (hb.mono BB.out.size))
            replace HI := Lib.hid (HI.out.into hb)
            generalize w14.drewN k4 = w15 at *
            clear hb
            have PC2 := Lib.hid (in_pieces B x g p s s2 w15 HI.out)
            rw [TWP.out] at PC2
            go_wp2_with fail
            refine PC2.out.mono ?_
            rintro e w16 ⟨rfl, hb⟩
            replace KY := Lib.hid (KY.out.below hb KY.out.lt)
            replace K5 := Lib.hid (K5.out.below hb K5.out.lt)
            replace BB := Lib.hid (BB.out.trans (hb.mono BB.out.size))
            replace HI := Lib.hid (HI.out.into hb)
            clear hb PC2
            have AC2 := Lib.hid (in_ack B x g p s s2 w16 HI.out)
            rw [TWA.out] at AC2
            go_wp2_with fail
            refine AC2.out.mono ?_
            rintro e w17 ⟨rfl, k5, rfl⟩
            have hb : Below w16.heap.size w16 (w16.drewN k5) := below_drewN (Below.refl _ _) k5
            replace KY := Lib.hid (KY.out.below hb KY.out.lt)
            replace K5 := Lib.hid (K5.out.below hb K5.out.lt)
            replace BB := Lib.hid (BB.out.trans (hb.mono BB.out.size))
            replace HI := Lib.hid (HI.out.into hb)
            generalize w16.drewN k5 = w17 at *
            clear hb
            clear AC2
            have y3 : w17.cell? ⟨Y, 3, none⟩ = some (.int .i64 4) := by rw [KY.out.cell]; rfl
            go_wp2_with fail
            refine (AL.out w17).mono ?_
            rintro e w18 ⟨rfl, hb⟩
            replace BB := Lib.hid (BB.out.trans (hb.mono BB.out.size))
            clear hb
            go_wp2_with fail
            go_ret
            exact ⟨by simp, BB.out⟩
      · have hbz' : ¬ (0 : Int) < (s2.base : Int) := by omega
        have hbd : decide (0 < s2.base) = false := decide_eq_false hbz
        have hbi : decide ((0 : Int) < (s2.base : Int)) = false := decide_eq_false hbz'
        go_upto_region 17 with fail
        refine wp_ord [(0, .pure), (1, .pure), (3, .pure), (4, .read), (2, .sole), (5, .sole)] [5] (by kernel_rfl) (by kernel_rfl) (fun QQ hQ wd hwd => ?_); simp only [List.map_cons, List.map_nil, List.getD_cons_zero, List.getD_cons_succ]
        have hD : Below w10.heap.size w10 wd := by rw [hwd.out]; exact (Below.refl _ _).drew
        replace KY := Lib.hid (KY.out.below hD KY.out.lt)
        replace K5 := Lib.hid (K5.out.below hD K5.out.lt)
        replace BB := Lib.hid (BB.out.trans (hD.mono BB.out.size))
        replace HI := Lib.hid (HI.out.into hD)
        clear hD hwd
        have o4 : wd.cell? ⟨X5, 4, none⟩ = some (.slice qo.A qo.m qo.c) := by rw [K5.out.cell]; rfl
        (refine o_pure (v := ?_) (by rfl) (fun w' => ?_) ?_; rotate_left; (focus (go_simp; (try with_reducible rfl); (try (rw [if_pos (by omega)]; (try with_reducible rfl))))); (try simp only [Act.put, List.setIfInBounds_toArray, List.set_cons_zero, List.set_cons_succ]))
        (refine o_pure (v := ?_) (by rfl) (fun w' => ?_) ?_; rotate_left; (focus (go_simp; (try with_reducible rfl); (try (rw [if_pos (by omega)]; (try with_reducible rfl))))); (try simp only [Act.put, List.setIfInBounds_toArray, List.set_cons_zero, List.set_cons_succ]))
        (refine o_pure (v := ?_) (by rfl) (fun w' => ?_) ?_; rotate_left; (focus (go_simp; (try with_reducible rfl); (try (rw [if_pos (by omega)]; (try with_reducible rfl))))); (try simp only [Act.put, List.setIfInBounds_toArray, List.set_cons_zero, List.set_cons_succ]))
        (refine o_load _ (by rfl) rfl rfl (by assumption) (by kernel_rfl) ?_; simp only [Act.put, List.setIfInBounds_toArray, List.set_cons_zero, List.set_cons_succ])
        clear o4 hbz' hbd hbi
        have HE := Lib.hid (in_edge B x g p s s2 wd HI.out)
        obtain ⟨eg, heg⟩ : ∃ eg, eg = s2.base + s2.size := ⟨_, rfl⟩
        rw [← heg] at HE
        have HEQ := Sh.mk heg
        clear heg
        refine o_sole (fun K hK => ?_)
        go_wp2_with fail
        refine HE.out.mono ?_
        rintro e w13 ⟨rfl, k3, rfl⟩
        go_wp2_with fail
        refine hK _ _ (fun _ => Ext.of (below_drewN (Below.refl _ _) k3)) ?_; clear hK K
        have hb : Below wd.heap.size wd (wd.drewN k3) := below_drewN (Below.refl _ _) k3
        replace KY := Lib.hid (KY.out.below hb KY.out.lt)
        replace K5 := Lib.hid (K5.out.below hb K5.out.lt)
        replace BB := Lib.hid (BB.out.trans (hb.mono BB.out.size))
        replace HI := Lib.hid (HI.out.into hb)
        generalize wd.drewN k3 = w13 at *
        clear hb
        clear HE
        have HEG := Sh.mk (Ist.put_edge (s := s2) (bs := qo.l) (e := eg) (by have := HEQ.out; omega))
        have hegl : eg < 18446744073709551616 := by have := HBASE.out; have := HS2.out; have := HEQ.out; omega
        have HEL := Sh.mk hegl
        clear hegl
        have HP := Lib.hid (in_put B x g p s s2 eg qo.A qo.m qo.c qo.l w13 HI.out (by unfold pmax; exact HEL.out) HML.out HLT.out hmc (by omega) ((HQM.out w13 BB.out).apt (Nat.le_trans WB.out HI.out.bp)) (fun w9 k9 => ((HQM.out w13 BB.out).below ((HI.out.bel k9).mono WB.out)).mono (show w.heap.size ≤ w13.heap.size from BB.out.size)))
        refine o_sole (fun K hK => ?_)
        go_wp2_with fail
        refine HP.out.mono ?_
        rintro e w14 ⟨rfl, hin, hik⟩
        go_wp2_with fail
        refine hK _ _ (fun h => by cases h) ?_; clear hK K
        refine o_nil (hQ.out _ _ ?_); clear hQ QQ
        replace KY := Lib.hid (hik.blk KY.out YN.out (by decide))
        replace K5 := Lib.hid (hik.blk K5.out X5N.out (by decide))
        replace BB := Lib.hid (BB.out.trans ((HI.out.bel hik).mono WB.out))
        replace HI := Lib.hid ((show IN w14 B x g p s s2 by have h9 := hin; rw [HEG.out] at h9; exact h9))
        clear hin hik HP
        obtain ⟨b9, hb9⟩ : ∃ b9, b9 = (s2.put eg qo.l).2 := ⟨_, rfl⟩
        rw [← hb9]
        clear hb9
        have HNX := Lib.hid (in_next B x g p s s2 w14 HI.out)
        rw [TW.out.2.1] at HNX
        have hnn1 : ((s1.next : Int) == (s1.next : Int)) = true := by simp
        have hpp1 : ((s1.P.length : Int) == (s1.P.length : Int)) = true := by simp
        have haa1 : ((s1.ack : Int) == (s1.ack : Int)) = true := by simp
        have AB := Sh.mk TW.out.2.2
        have y3 : w14.cell? ⟨Y, 3, none⟩ = some (.int .i64 4) := by rw [KY.out.cell]; rfl
        have AL := Lib.hid alive18
        have TWP := Sh.mk (show s2.P.length = s1.P.length by rw [TW.out.1])
        have TWA := Sh.mk (show s2.ack = s1.ack from Ist.ack_same TW.out.2.1 HS2.out.2.2.1 HS2.out.2.2.2)
        clear TW y3
        have FINI : ∀ (b1 b2 : Bool), a1 = b1 → a2 = b2 → (b1 = b2 ∨ b1 = false) → (b1, b2) = (true, true) ∨ b1 = false := fun b1 b2 _ _ h => by cases b1 <;> cases b2 <;> simp_all
        clear FINI
        cases a1
        · cases a2
          · go_wp2_with fail
            refine HNX.out.mono ?_
            rintro e w15 ⟨rfl, k4, rfl⟩
            have hb : Below w14.heap.size w14 (w14.drewN k4) := below_drewN (Below.refl _ _) k4
            replace KY := Lib.hid (KY.out.below hb KY.out.lt)
            replace K5 := Lib.hid (K5.out.below hb K5.out.lt)
            replace BB := Lib.hid (BB.out.trans (hb.mono BB.out.size))
            replace HI := Lib.hid (HI.out.into hb)
            generalize w14.drewN k4 = w15 at *
            clear hb
            have PC2 := Lib.hid (in_pieces B x g p s s2 w15 HI.out)
            rw [TWP.out] at PC2
            go_wp2_with fail
            refine PC2.out.mono ?_
            rintro e w16 ⟨rfl, hb⟩
            replace KY := Lib.hid (KY.out.below hb KY.out.lt)
            replace K5 := Lib.hid (K5.out.below hb K5.out.lt)
            replace BB := Lib.hid (BB.out.trans (hb.mono BB.out.size))
            replace HI := Lib.hid (HI.out.into hb)
            clear hb PC2
            have AC2 := Lib.hid (in_ack B x g p s s2 w16 HI.out)
            rw [TWA.out] at AC2
            go_wp2_with fail
            refine AC2.out.mono ?_
            rintro e w17 ⟨rfl, k5, rfl⟩
            have hb : Below w16.heap.size w16 (w16.drewN k5) := below_drewN (Below.refl _ _) k5
            replace KY := Lib.hid (KY.out.below hb KY.out.lt)
            replace K5 := Lib.hid (K5.out.below hb K5.out.lt)
            replace BB := Lib.hid (BB.out.trans (hb.mono BB.out.size))
            replace HI := Lib.hid (HI.out.into hb)
            generalize w16.drewN k5 = w17 at *
            clear hb
            clear AC2
            have y3 : w17.cell? ⟨Y, 3, none⟩ = some (.int .i64 4) := by rw [KY.out.cell]; rfl
            go_wp2_with fail
            refine (AL.out w17).mono ?_
            rintro e w18 ⟨rfl, hb⟩
            replace BB := Lib.hid (BB.out.trans (hb.mono BB.out.size))
            clear hb
            go_wp2_with fail
            go_ret
            exact ⟨by simp, BB.out⟩
          · go_wp2_with fail
            refine HNX.out.mono ?_
            rintro e w15 ⟨rfl, k4, rfl⟩
            have hb : Below w14.heap.size w14 (w14.drewN k4) := below_drewN (Below.refl _ _) k4
            replace KY := Lib.hid (KY.out.below hb KY.out.lt)
            replace K5 := Lib.hid (K5.out.below hb K5.out.lt)
            replace BB := Lib.hid (BB.out.trans (hb.mono BB.out.size))
            replace HI := Lib.hid (HI.out.into hb)
            generalize w14.drewN k4 = w15 at *
            clear hb
            have PC2 := Lib.hid (in_pieces B x g p s s2 w15 HI.out)
            rw [TWP.out] at PC2
            go_wp2_with fail
            refine PC2.out.mono ?_
            rintro e w16 ⟨rfl, hb⟩
            replace KY := Lib.hid (KY.out.below hb KY.out.lt)
            replace K5 := Lib.hid (K5.out.below hb K5.out.lt)
            replace BB := Lib.hid (BB.out.trans (hb.mono BB.out.size))
            replace HI := Lib.hid (HI.out.into hb)
            clear hb PC2
            have AC2 := Lib.hid (in_ack B x g p s s2 w16 HI.out)
            rw [TWA.out] at AC2
            go_wp2_with fail
            refine AC2.out.mono ?_
            rintro e w17 ⟨rfl, k5, rfl⟩
            have hb : Below w16.heap.size w16 (w16.drewN k5) := below_drewN (Below.refl _ _) k5
            replace KY := Lib.hid (KY.out.below hb KY.out.lt)
            replace K5 := Lib.hid (K5.out.below hb K5.out.lt)
            replace BB := Lib.hid (BB.out.trans (hb.mono BB.out.size))
            replace HI := Lib.hid (HI.out.into hb)
            generalize w16.drewN k5 = w17 at *
            clear hb
            clear AC2
            have y3 : w17.cell? ⟨Y, 3, none⟩ = some (.int .i64 4) := by rw [KY.out.cell]; rfl
            go_wp2_with fail
            refine (AL.out w17).mono ?_
            rintro e w18 ⟨rfl, hb⟩
            replace BB := Lib.hid (BB.out.trans (hb.mono BB.out.size))
            clear hb
            go_wp2_with fail
            go_ret
            exact ⟨by simp, BB.out⟩
        · cases a2
          · exact absurd AB.out (by simp)
          · go_wp2_with fail
            refine HNX.out.mono ?_
            rintro e w15 ⟨rfl, k4, rfl⟩
            have hb : Below w14.heap.size w14 (w14.drewN k4) := below_drewN (Below.refl _ _) k4
            replace KY := Lib.hid (KY.out.below hb KY.out.lt)
            replace K5 := Lib.hid (K5.out.below hb K5.out.lt)
            replace BB := Lib.hid (BB.out.trans (hb.mono BB.out.size))
            replace HI := Lib.hid (HI.out.into hb)
            generalize w14.drewN k4 = w15 at *
            clear hb
            have PC2 := Lib.hid (in_pieces B x g p s s2 w15 HI.out)
            rw [TWP.out] at PC2
            go_wp2_with fail
            refine PC2.out.mono ?_
            rintro e w16 ⟨rfl, hb⟩
            replace KY := Lib.hid (KY.out.below hb KY.out.lt)
            replace K5 := Lib.hid (K5.out.below hb K5.out.lt)
            replace BB := Lib.hid (BB.out.trans (hb.mono BB.out.size))
            replace HI := Lib.hid (HI.out.into hb)
            clear hb PC2
            have AC2 := Lib.hid (in_ack B x g p s s2 w16 HI.out)
            rw [TWA.out] at AC2
            go_wp2_with fail
            refine AC2.out.mono ?_
            rintro e w17 ⟨rfl, k5, rfl⟩
            have hb : Below w16.heap.size w16 (w16.drewN k5) := below_drewN (Below.refl _ _) k5
            replace KY := Lib.hid (KY.out.below hb KY.out.lt)
            replace K5 := Lib.hid (K5.out.below hb K5.out.lt)
            replace BB := Lib.hid (BB.out.trans (hb.mono BB.out.size))
            replace HI := Lib.hid (HI.out.into hb)
            generalize w16.drewN k5 = w17 at *
            clear hb
            clear AC2
            have y3 : w17.cell? ⟨Y, 3, none⟩ = some (.int .i64 4) := by rw [KY.out.cell]; rfl
            go_wp2_with fail
            refine (AL.out w17).mono ?_
            rintro e w18 ⟨rfl, hb⟩
            replace BB := Lib.hid (BB.out.trans (hb.mono BB.out.size))
            clear hb
            go_wp2_with fail
            go_ret
            exact ⟨by simp, BB.out⟩
end Go.Proofs.Ytnngjbieoakanaa
