/- Package quota: Give, Drop, Fair, Move. -/
import Derived.Test.YtonindjpbegdgaaQu2
namespace Go.Proofs.Ytonindjpbegdgaa
open Go.RowKit
set_option linter.unusedVariables false
set_option linter.unusedSimpArgs false
set_option maxRecDepth 20000 in
set_option maxHeartbeats 4000000 in
theorem qu_give (g mb all each : Nat) (L : Ql) (id n : Int) (w : World) (h : PoolW w g mb all each L) (hq : QB all each L) (hi : I64 id) (hn : I64 n) :
    Calls Try.prog 8 #[.pointer (some ⟨g, 0, none⟩), .int .i64 id, .int .i64 n] w fun e w' => e = .returned (.int .i64 (gvN L id n : Nat)) ∧ PoolW w' g mb all each (gvL L id n) ∧ Tw g mb w w' := by
  have CO := Lib.hid (qu_of g mb all each L id w h hi)
  have CS := Lib.hid (fun t (ht : t ≤ 4294967296) => qu_set g mb all each L id t w h hq hi ht)
  have hv1 := hq.own id
  have hme := hq.me
  have hgl := gvN_le L id n
  unfold gvL
  have hgc : gvN L id n = clN 0 (ofQ L id) n := rfl
  obtain ⟨v, hv⟩ : ∃ v, v = ofQ L id := ⟨_, rfl⟩
  rw [← hv] at CO hv1 hgl hgc ⊢
  obtain ⟨k, hk⟩ : ∃ k, k = gvN L id n := ⟨_, rfl⟩
  rw [← hk] at hgl hgc ⊢
  obtain ⟨x1, hx1⟩ : ∃ x1 : Int, (if n < 0 then (0 : Int) else n) = x1 := ⟨_, rfl⟩
  have hmm : (if (v : Int) < x1 then (v : Int) else x1) = (k : Nat) := by rw [hgc, ← hx1]; unfold clN; split <;> split <;> (try split) <;> (try split) <;> omega
  obtain ⟨t, ht⟩ : ∃ t, t = v - k := ⟨_, rfl⟩
  have hti : (v : Int) - (k : Int) = (t : Nat) := by omega
  have htb : t ≤ 4294967296 := by omega
  have hvb : v ≤ 1073741824 := by omega
  rw [← ht]
  clear h hq hi hn hv hk hgc ht hv1 hme
  go_enter Try.func8, Try.ntmps8
  go_wp2_with fail
  refine CO.out.mono ?_
  rintro e w1 ⟨rfl, rfl⟩
  go_upto_region 3 with fail
  (try rw [hx1])
  (try rw [hmm])
  clear hmm hx1
  go_wp2_with fail
  refine (CS.out t htb).mono ?_
  rintro e w3 ⟨rfl, h3, t3⟩
  have H3 := Lib.hid h3
  have T3 := Lib.hid t3
  clear h3 t3
  go_wp2_with fail
  go_ret
  exact ⟨rfl, H3.out, T3.out⟩
set_option maxRecDepth 20000 in
set_option maxHeartbeats 4000000 in
theorem qu_drop (g mb all each : Nat) (L : Ql) (id : Int) (w : World) (h : PoolW w g mb all each L) (hq : QB all each L) (hi : I64 id) :
    Calls Try.prog 10 #[.pointer (some ⟨g, 0, none⟩), .int .i64 id] w fun e w' => e = .returned (.int .i64 (gvN L id (ofQ L id : Nat) : Nat)) ∧ PoolW w' g mb all each (gvL L id (ofQ L id : Nat)) ∧ Tw g mb w w' := by
  have hv1 := hq.own id
  have hme := hq.me
  have CO := Lib.hid (qu_of g mb all each L id w h hi)
  have CG := Lib.hid (qu_give g mb all each L id (ofQ L id : Nat) w h hq hi ⟨by omega, by omega⟩)
  obtain ⟨v, hv⟩ : ∃ v, v = ofQ L id := ⟨_, rfl⟩
  rw [← hv] at CO CG ⊢
  clear h hq hi hv hv1 hme
  go_enter Try.func10, Try.ntmps10
  go_wp2_with fail
  refine CO.out.mono ?_
  rintro e w1 ⟨rfl, rfl⟩
  go_wp2_with fail
  refine CG.out.mono ?_
  rintro e w3 ⟨rfl, h3, t3⟩
  have H3 := Lib.hid h3
  have T3 := Lib.hid t3
  clear h3 t3
  go_wp2_with fail
  go_ret
  exact ⟨rfl, H3.out, T3.out⟩
set_option maxRecDepth 20000 in
set_option maxHeartbeats 4000000 in
theorem qu_fair (g mb all each : Nat) (L : Ql) (n : Int) (w : World) (h : PoolW w g mb all each L) (hq : QB all each L) (hn : I64 n) :
    Calls Try.prog 19 #[.pointer (some ⟨g, 0, none⟩), .int .i64 n] w fun e w' => e = .returned (.int .i64 (frN all each n : Nat)) ∧ Below w.heap.size w w' := by
  have hma := hq.ma
  have hme := hq.me
  obtain ⟨u, hu⟩ : ∃ u, u = usedQ L := ⟨_, rfl⟩
  have H := Lib.hid h.blk
  rw [← hu] at H
  unfold frN
  clear h hq hu
  by_cases h1 : n < 1
  · rw [if_pos h1]
    go_enter Try.func19, Try.ntmps19
    go_wp2_with fail
    go_ret
    exact ⟨rfl, Below.refl _ _⟩
  rw [if_neg h1]
  obtain ⟨m, rfl⟩ : ∃ m : Nat, n = (m : Int) := ⟨n.toNat, by omega⟩
  rw [Int.toNat_natCast]
  have hm0 : 0 < m := by omega
  have hmz : m ≠ 0 := by omega
  have hmzi : ¬ (m : Int) = 0 := by omega
  obtain ⟨q, hqq⟩ : ∃ q, q = all / m := ⟨_, rfl⟩
  have hqb : q ≤ all := by rw [hqq]; exact Nat.div_le_self _ _
  have hqi : (all : Int) / (m : Int) = (q : Nat) := by rw [hqq]; push_cast; rfl
  have hqt : (all : Int).tdiv (m : Int) = (q : Nat) := by rw [Int.tdiv_eq_ediv_of_nonneg (by omega)]; exact hqi
  have hwq : IntKind.i64.wrap (q : Int) = (q : Nat) := by rw [IntKind.wrap_i64]; omega
  obtain ⟨f, hf⟩ : ∃ f, f = min q each := ⟨_, rfl⟩
  have hmin : (if each < q then (each : Int) else (q : Int)) = (f : Nat) := by rw [hf]; split <;> omega
  rw [← hqq, ← hf]
  clear hqq hf hqb
  go_enter Try.func19, Try.ntmps19
  go_upto_region 3 with fail
  refine GH.wp_ghl2 (M := false) 12 ((GH.SP.eq (.pointer (some ⟨g, 0, none⟩))) :: (GH.SP.eq (.pointer (some ⟨g, 0, none⟩))) :: (GH.SP.eq (.pointer (some ⟨g, 0, none⟩))) :: (GH.SP.eq (.int .i64 (all : Nat))) :: (GH.SP.eq (.int .i64 (m : Nat))) :: (GH.SP.eq (.int .i64 (q : Nat))) :: (GH.SP.eq (.pointer (some ⟨g, 0, none⟩))) :: (GH.SP.eq (.pointer (some ⟨g, 0, none⟩))) :: (GH.SP.eq (.pointer (some ⟨g, 1, none⟩))) :: (GH.SP.eq (.int .i64 (each : Nat))) :: (GH.SP.eq (.int .i64 (f : Nat))) :: (GH.SP.eq (.int .i64 (f : Nat))) :: []) (none :: none :: none :: none :: (some 11) :: none :: none :: (some 0) :: (some 1) :: (some 2) :: (some 3) :: (some 4) :: (some 5) :: (some 6) :: (some 7) :: (some 8) :: (some 9) :: (some 10) :: []) [7, 8, 9, 10, 11, 12, 13, 14, 15, 16, 17, 4] (by rfl) (by kernel_rfl) (by kernel_rfl) ?_ ?_ ?_
  · intro S jx v hjx
    match jx, hjx with
    | 0, _ => rfl
    | 1, _ => rfl
    | 2, _ => rfl
    | 3, _ => rfl
    | 4, _ => rfl
    | 5, _ => rfl
    | 6, _ => rfl
    | 7, _ => rfl
    | 8, _ => rfl
    | 9, _ => rfl
    | 10, _ => rfl
    | 11, _ => rfl
    | nx + 12, hjx => omega
  · intro jx hjx S w' hb hd
    match jx, hjx, hd with
    | 0, _, hd =>
      simp only [GH.mkL, List.getD_cons_succ, List.getD_cons_zero]
      clear hd
      refine GH.st_eq (by rfl) ?_
      go_simp
      (try with_reducible rfl)
    | 1, _, hd =>
      simp only [GH.mkL, List.getD_cons_succ, List.getD_cons_zero]
      have d0 : S 0 = .pointer (some ⟨g, 0, none⟩) := (hd 0 (by kernel_rfl)).2
      rw [d0]
      clear d0
      clear hd
      refine GH.st_eq (by rfl) ?_
      go_simp
      (try with_reducible rfl)
    | 2, _, hd =>
      simp only [GH.mkL, List.getD_cons_succ, List.getD_cons_zero]
      have d1 : S 1 = .pointer (some ⟨g, 0, none⟩) := (hd 1 (by kernel_rfl)).2
      rw [d1]
      clear d1
      clear hd
      refine GH.st_eq (by rfl) ?_
      go_simp
      (try with_reducible rfl)
    | 3, _, hd =>
      simp only [GH.mkL, List.getD_cons_succ, List.getD_cons_zero]
      have d2 : S 2 = .pointer (some ⟨g, 0, none⟩) := (hd 2 (by kernel_rfl)).2
      rw [d2]
      clear d2
      clear hd
      exact GH.st_load _ (by rfl) rfl rfl (((H.out.below hb.below H.out.lt)).cell 0) (by kernel_rfl)
    | 4, _, hd =>
      simp only [GH.mkL, List.getD_cons_succ, List.getD_cons_zero]
      clear hd
      refine GH.st_eq (by rfl) ?_
      go_simp
      (try with_reducible rfl)
    | 5, _, hd =>
      simp only [GH.mkL, List.getD_cons_succ, List.getD_cons_zero]
      have d3 : S 3 = .int .i64 (all : Nat) := (hd 3 (by kernel_rfl)).2
      rw [d3]
      clear d3
      have d4 : S 4 = .int .i64 (m : Nat) := (hd 4 (by kernel_rfl)).2
      rw [d4]
      clear d4
      clear hd
      refine GH.st_eq (by rfl) ?_
      go_simp
      (try simp only [hqi, hqt, hwq])
      (try with_reducible rfl)
    | 6, _, hd =>
      simp only [GH.mkL, List.getD_cons_succ, List.getD_cons_zero]
      clear hd
      refine GH.st_eq (by rfl) ?_
      go_simp
      (try with_reducible rfl)
    | 7, _, hd =>
      simp only [GH.mkL, List.getD_cons_succ, List.getD_cons_zero]
      have d6 : S 6 = .pointer (some ⟨g, 0, none⟩) := (hd 6 (by kernel_rfl)).2
      rw [d6]
      clear d6
      clear hd
      refine GH.st_eq (by rfl) ?_
      go_simp
      (try with_reducible rfl)
    | 8, _, hd =>
      simp only [GH.mkL, List.getD_cons_succ, List.getD_cons_zero]
      have d7 : S 7 = .pointer (some ⟨g, 0, none⟩) := (hd 7 (by kernel_rfl)).2
      rw [d7]
      clear d7
      clear hd
      refine GH.st_eq (by rfl) ?_
      go_simp
      (try with_reducible rfl)
    | 9, _, hd =>
      simp only [GH.mkL, List.getD_cons_succ, List.getD_cons_zero]
      have d8 : S 8 = .pointer (some ⟨g, 1, none⟩) := (hd 8 (by kernel_rfl)).2
      rw [d8]
      clear d8
      clear hd
      exact GH.st_load _ (by rfl) rfl rfl (((H.out.below hb.below H.out.lt)).cell 1) (by kernel_rfl)
    | 10, _, hd =>
      simp only [GH.mkL, List.getD_cons_succ, List.getD_cons_zero]
      have d5 : S 5 = .int .i64 (q : Nat) := (hd 5 (by kernel_rfl)).2
      rw [d5]
      clear d5
      have d9 : S 9 = .int .i64 (each : Nat) := (hd 9 (by kernel_rfl)).2
      rw [d9]
      clear d9
      clear hd
      refine GH.st_eq (by rfl) ?_
      go_simp
      (try exact hmin)
    | 11, _, hd =>
      simp only [GH.mkL, List.getD_cons_succ, List.getD_cons_zero]
      have d0 : S 0 = .pointer (some ⟨g, 0, none⟩) := (hd 0 (by kernel_rfl)).2
      rw [d0]
      clear d0
      have d1 : S 1 = .pointer (some ⟨g, 0, none⟩) := (hd 1 (by kernel_rfl)).2
      rw [d1]
      clear d1
      have d2 : S 2 = .pointer (some ⟨g, 0, none⟩) := (hd 2 (by kernel_rfl)).2
      rw [d2]
      clear d2
      have d3 : S 3 = .int .i64 (all : Nat) := (hd 3 (by kernel_rfl)).2
      rw [d3]
      clear d3
      have d4 : S 4 = .int .i64 (m : Nat) := (hd 4 (by kernel_rfl)).2
      rw [d4]
      clear d4
      have d5 : S 5 = .int .i64 (q : Nat) := (hd 5 (by kernel_rfl)).2
      rw [d5]
      clear d5
      have d6 : S 6 = .pointer (some ⟨g, 0, none⟩) := (hd 6 (by kernel_rfl)).2
      rw [d6]
      clear d6
      have d7 : S 7 = .pointer (some ⟨g, 0, none⟩) := (hd 7 (by kernel_rfl)).2
      rw [d7]
      clear d7
      have d8 : S 8 = .pointer (some ⟨g, 1, none⟩) := (hd 8 (by kernel_rfl)).2
      rw [d8]
      clear d8
      have d9 : S 9 = .int .i64 (each : Nat) := (hd 9 (by kernel_rfl)).2
      rw [d9]
      clear d9
      have d10 : S 10 = .int .i64 (f : Nat) := (hd 10 (by kernel_rfl)).2
      rw [d10]
      clear d10
      clear hd
      refine GH.st_eq (by rfl) ?_
      go_simp
      (try with_reducible rfl)
    | nx + 12, hjx, _ => omega
  intro S w' hb hG
  simp only [GH.mkL, List.drop_succ_cons, List.drop_zero]
  have d11 : S 11 = .int .i64 (f : Nat) := hG 11 (by omega)
  rw [d11]
  clear d11
  clear hG
  have HB := Lib.hid hb.below
  refine wpList_nil ?_
  go_wp2_with fail
  go_ret
  exact ⟨rfl, HB.out⟩
set_option maxRecDepth 20000 in
set_option maxHeartbeats 4000000 in
theorem qu_move (g mb all each : Nat) (L : Ql) (a b n : Int) (w : World) (h : PoolW w g mb all each L) (hq : QB all each L) (hl : L.length + 1 < 8000) (ha : I64 a) (hb : I64 b) (hn : I64 n) :
    Calls Try.prog 12 #[.pointer (some ⟨g, 0, none⟩), .int .i64 a, .int .i64 b, .int .i64 n] w fun e w' => e = .returned (.bool (mvOK each L a b n)) ∧ PoolW w' g mb all each (mvL each L a b n) ∧ Tw g mb w w' := by
  have CA := Lib.hid (fun w' (hb : Below w.heap.size w w') => qu_of g mb all each L a w' (h.into hb) ha)
  have CL := Lib.hid (fun w' (hbb : Below w.heap.size w w') => qu_left g mb all each L b w' (h.into hbb) hq hb)
  have CS := Lib.hid (fun t w' (hbb : Below w.heap.size w w') (ht : t ≤ 4294967296) => qu_set g mb all each L a t w' (h.into hbb) hq ha ht)
  have H := Lib.hid h
  have hv1 := hq.own a
  have hx1 := hq.own b
  have hme := hq.me
  have HQ := Lib.hid hq
  have HL := Lib.hid hl
  have HIA := Lib.hid ha
  have HIB := Lib.hid hb
  obtain ⟨v, hv⟩ : ∃ v, v = ofQ L a := ⟨_, rfl⟩
  obtain ⟨x, hx⟩ : ∃ x, x = ofQ L b := ⟨_, rfl⟩
  have HV := Lib.hid hv
  have HX := Lib.hid hx
  rw [← hv] at CA hv1
  rw [← hx] at CL hx1
  obtain ⟨d, hd⟩ : ∃ d, d = each - x := ⟨_, rfl⟩
  rw [← hd] at CL
  have HD := Lib.hid hd
  have hv1' := Lib.hid hv1
  have hx1' := Lib.hid hx1
  have hdb : d ≤ 1073741824 := by omega
  have hvb : v ≤ 1073741824 := by omega
  have hxb : x ≤ 1073741824 := by omega
  clear h hq ha hb hv hx hd hv1 hx1 hme hn hl
  by_cases h0 : n < 0
  · have HOK := Lib.hid (show mvOK each L a b n = false from decide_eq_false (by rw [← HV.out, ← HX.out]; have := HD.out; omega))
    have HTL := Lib.hid (show mvL each L a b n = L by unfold mvL; rw [HOK.out]; rfl)
    go_enter Try.func12, Try.ntmps12
    go_wp2_with fail
    go_ret
    rw [HOK.out, HTL.out]
    exact ⟨rfl, H.out, Tw.refl _ _ _⟩
  obtain ⟨m, rfl⟩ : ∃ m : Nat, n = (m : Int) := ⟨n.toNat, by omega⟩
  by_cases h1 : v < m
  · have h1' : (v : Int) < (m : Int) := by omega
    have HOK := Lib.hid (show mvOK each L a b (m : Int) = false from decide_eq_false (by rw [← HV.out, ← HX.out]; have := HD.out; omega))
    have HTL := Lib.hid (show mvL each L a b (m : Int) = L by unfold mvL; rw [HOK.out]; rfl)
    go_enter Try.func12, Try.ntmps12
    go_wp2_with fail
    refine (CA.out _ (Below.refl _ _)).mono ?_
    rintro e w1 ⟨rfl, rfl⟩
    go_wp2_with fail
    go_ret
    rw [HOK.out, HTL.out]
    exact ⟨rfl, H.out, Tw.refl _ _ _⟩
  have h1' : ¬ (v : Int) < (m : Int) := by omega
  by_cases hab : a = b
  · subst hab
    have hvx : v = x := by rw [HV.out, HX.out]
    have HOK := Lib.hid (show mvOK each L a a (m : Int) = true from decide_eq_true (by rw [← HV.out]; omega))
    have HTL := Lib.hid (show mvL each L a a (m : Int) = L by unfold mvL; rw [HOK.out, if_pos rfl, if_pos rfl])
    obtain ⟨t, ht⟩ : ∃ t, t = v - m := ⟨_, rfl⟩
    have hti : (v : Int) - (m : Int) = (t : Nat) := by omega
    have htb : t ≤ 4294967296 := by omega
    have htv : (t : Int) + (m : Int) = (v : Nat) := by omega
    have hmb : m ≤ 1073741824 := by omega
    have HT := Lib.hid ht
    clear ht hvx
    go_enter Try.func12, Try.ntmps12
    go_wp2_with fail
    refine (CA.out _ (Below.refl _ _)).mono ?_
    rintro e w1 ⟨rfl, rfl⟩
    go_wp2_with fail
    refine (CA.out _ (Below.refl _ _)).mono ?_
    rintro e w1 ⟨rfl, rfl⟩
    go_wp2_with fail
    refine (CS.out t _ (Below.refl _ _) htb).mono ?_
    rintro e w3 ⟨rfl, h3, t3⟩
    have hqd := H.out.qd
    have H3 := Lib.hid h3
    have T3 := Lib.hid t3
    have Q3 := Lib.hid (HQ.out.set_ hqd a t (by have := hv1'.out; have := HQ.out.me; have := HT.out; omega) (by have := HQ.out.used; rw [← HV.out]; have := HT.out; omega) (by have := HL.out; omega))
    have C3 := Lib.hid (qu_of g mb all each (setQ L a t) a w3 h3 HIA.out)
    rw [ofQ_setQ, if_pos rfl] at C3
    have S3 := Lib.hid (qu_set g mb all each (setQ L a t) a v w3 h3 Q3.out HIA.out (by omega))
    have BK := Lib.hid (back_set hqd a t)
    rw [← HV.out] at BK
    clear h3 t3 hqd
    go_wp2_with fail
    refine C3.out.mono ?_
    rintro e w4 ⟨rfl, rfl⟩
    go_wp2_with fail
    refine S3.out.mono ?_
    rintro e w5 ⟨rfl, h5, t5⟩
    have H5 := Lib.hid h5
    have T5 := Lib.hid t5
    clear h5 t5
    go_wp2_with fail
    go_ret
    rw [HOK.out, HTL.out]
    refine ⟨rfl, ⟨?_, H5.out.map.as BK.out.1 BK.out.2.1 H.out.qd⟩, T3.out.trans T5.out⟩
    rw [BK.out.2.2]
    exact H5.out.blk
  have hab' := hab
  by_cases h2 : d < m
  · have h2' : (d : Int) < (m : Int) := by omega
    have HOK := Lib.hid (show mvOK each L a b (m : Int) = false from decide_eq_false (by rw [← HV.out, ← HX.out]; have := HD.out; have := hx1'.out; rintro ⟨q1, q2, q3⟩; rcases q3 with q3 | q3; exact hab q3; omega))
    have HTL := Lib.hid (show mvL each L a b (m : Int) = L by unfold mvL; rw [HOK.out]; rfl)
    go_enter Try.func12, Try.ntmps12
    go_wp2_with fail
    refine (CA.out _ (Below.refl _ _)).mono ?_
    rintro e w1 ⟨rfl, rfl⟩
    go_wp2_with fail
    refine (CL.out _ (Below.refl _ _)).mono ?_
    rintro e w2 ⟨rfl, hb2⟩
    have B2 := Lib.hid hb2
    clear hb2
    go_wp2_with fail
    go_ret
    rw [HOK.out, HTL.out]
    exact ⟨rfl, H.out.into B2.out, Tw.of_below B2.out⟩
  · have h2' : ¬ (d : Int) < (m : Int) := by omega
    have HOK := Lib.hid (show mvOK each L a b (m : Int) = true from decide_eq_true (by rw [← HV.out, ← HX.out]; have := HD.out; have := hx1'.out; omega))
    obtain ⟨t, ht⟩ : ∃ t, t = v - m := ⟨_, rfl⟩
    obtain ⟨y, hy⟩ : ∃ y, y = x + m := ⟨_, rfl⟩
    have HTL := Lib.hid (show mvL each L a b (m : Int) = setQ (setQ L a t) b y by unfold mvL; rw [HOK.out, if_pos rfl, if_neg hab, ht, hy, HV.out, HX.out]; rfl)
    have hti : (v : Int) - (m : Int) = (t : Nat) := by omega
    have htb : t ≤ 4294967296 := by omega
    have hyi : (x : Int) + (m : Int) = (y : Nat) := by omega
    have hyb : y ≤ 4294967296 := by omega
    have HT := Lib.hid ht
    clear ht hy
    go_enter Try.func12, Try.ntmps12
    go_wp2_with fail
    refine (CA.out _ (Below.refl _ _)).mono ?_
    rintro e w1 ⟨rfl, rfl⟩
    go_wp2_with fail
    refine (CL.out _ (Below.refl _ _)).mono ?_
    rintro e w2 ⟨rfl, hb2⟩
    have B2 := Lib.hid hb2
    clear hb2
    go_wp2_with fail
    refine (CA.out _ B2.out).mono ?_
    rintro e w3 ⟨rfl, rfl⟩
    go_wp2_with fail
    refine (CS.out t _ B2.out htb).mono ?_
    rintro e w4 ⟨rfl, h4, t4⟩
    have hqd := H.out.qd
    have H4 := Lib.hid h4
    have T4 := Lib.hid t4
    have Q4 := Lib.hid (HQ.out.set_ hqd a t (by have := hv1'.out; have := HQ.out.me; have := HT.out; omega) (by have := HQ.out.used; rw [← HV.out]; have := HT.out; omega) (by have := HL.out; omega))
    have C4 := Lib.hid (qu_of g mb all each (setQ L a t) b w4 h4 HIB.out)
    rw [ofQ_setQ, if_neg (fun e => hab e.symm), ← HX.out] at C4
    have S4 := Lib.hid (qu_set g mb all each (setQ L a t) b y w4 h4 Q4.out HIB.out hyb)
    clear h4 t4 hqd
    go_wp2_with fail
    refine C4.out.mono ?_
    rintro e w5 ⟨rfl, rfl⟩
    go_wp2_with fail
    refine S4.out.mono ?_
    rintro e w6 ⟨rfl, h6, t6⟩
    have H6 := Lib.hid h6
    have T6 := Lib.hid t6
    clear h6 t6
    go_wp2_with fail
    go_ret
    rw [HOK.out, HTL.out]
    exact ⟨rfl, H6.out, ((Tw.of_below B2.out).trans T4.out).trans T6.out⟩
end Go.Proofs.Ytonindjpbegdgaa
