/- Layer 13: Acked. -/
import Derived.Test.YtpjfheojlcahgaaCw5
namespace Go.Proofs.Ytpjfheojlcahgaa
open Go.RowKit
set_option linter.unusedVariables false
set_option linter.unusedSimpArgs false
theorem ackA_le (m s k : Nat) (l : List (Int × Int)) (hs : m ≤ s) (hm : 1 ≤ m) : ackA m s k l ≤ 1024 * k := by
  unfold ackA
  refine Nat.le_trans (Nat.min_le_right _ _) ?_
  rw [Nat.div_le_iff_le_mul_add_pred (by omega)]
  have := Nat.mul_le_mul_left (1024 * k) hs
  rw [← Nat.mul_assoc]
  have h2 : 1024 * k * s = s * (1024 * k) := Nat.mul_comm _ _
  omega
theorem grS_ge {m s n : Nat} (h1 : m ≤ s) (h2 : s ≤ 64 * m) : m ≤ grS m s n ∧ grS m s n ≤ 64 * m := by unfold grS; omega
theorem grS_mono {m s n : Nat} (h2 : s ≤ 64 * m) : s ≤ grS m s n := by unfold grS; omega
theorem WOk.acked {m s sl p u k : Nat} {l : List (Int × Int)} (h : WOk m s sl p u) : WOk m (ackS m s sl p k l) sl (ackP m s sl p k l) (u - k) := by
  refine ⟨h.m1, h.m2, ?_, ?_, h.sl2, ?_, by have := h.u2; omega⟩
  · unfold ackS; split <;> exact (grS_ge h.s1 h.s2).1
  · unfold ackS; split <;> exact (grS_ge h.s1 h.s2).2
  · unfold ackP; split
    · exact h.p2
    · omega
theorem WOk.lost {m s sl p u k : Nat} (h : WOk m s sl p u) : WOk m m (max (s / 2) (2 * m)) 0 (u - k) :=
  ⟨h.m1, h.m2, Nat.le_refl _, by omega, by have := h.s3; have := h.m2; omega, by omega, by have := h.u2; omega⟩
theorem WOk.gone {m s sl p u k : Nat} (h : WOk m s sl p u) : WOk m s sl p (u - k) := ⟨h.m1, h.m2, h.s1, h.s2, h.sl2, h.p2, by have := h.u2; omega⟩
theorem WOk.grown {m s sl p u n : Nat} (h : WOk m s sl p u) : WOk m (grS m s n) sl p u := ⟨h.m1, h.m2, (grS_ge h.s1 h.s2).1, (grS_ge h.s1 h.s2).2, h.sl2, h.p2, h.u2⟩
theorem WOk.init {m : Nat} (h1 : 1 ≤ m) (h2 : m ≤ 1024) : WOk m (4 * m) (64 * m) 0 0 := ⟨h1, h2, by omega, by omega, by omega, by omega, by omega⟩
set_option maxRecDepth 20000 in
set_option maxHeartbeats 4000000 in
theorem cwacked_any (g m s sl p u : Nat) (n : Int) (A : Option Addr) (ln c : Nat) (l : List (Int × Int)) (w : World) (h : Wn w g m s sl p u) (ho : WOk m s sl p u) (hn : (Lit.int .i64 n).wf = true)
    (hr : ∀ w', Tou g w w' → Rd w' w'.heap.size 2 A ln (pz l)) (hnc : ln ≤ c) (hc : c ≤ maxLen) (hl : ∀ q ∈ l, (Lit.int .i64 q.1).wf = true ∧ (Lit.int .i64 q.2).wf = true) :
    Calls Try.prog 18 #[.pointer (some ⟨g, 0, none⟩), .int .i64 n, .slice A ln c] w fun e w' => e = .returned (.tuple #[]) ∧ Wn w' g m (ackS m s sl p (bdB n) l) sl (ackP m s sl p (bdB n) l) (u - bdB n) ∧ Tou g w w' := by
  have HF := Lib.hid (cwforget_any g m s sl p u n w h ho hn)
  have HK := cwbd n hn
  have hkb := bdB_le n
  obtain ⟨k, hk⟩ : ∃ k, k = bdB n := ⟨_, rfl⟩
  rw [← hk] at HF HK hkb ⊢
  have OK1 := Lib.hid (ho.gone (k := k))
  obtain ⟨u1, hu1⟩ : ∃ u1, u1 = u - k := ⟨_, rfl⟩
  rw [← hu1] at HF OK1 ⊢
  have HR := Lib.hid hr
  have CA := Lib.hid (fun w' (t : Tou g w w') => cwalpha_any A ln c l w' (hr w' t) hnc hc hl)
  have CT := Lib.hid (fun w' (t : Tou g w w') => cwtogether_any A ln c l w' (hr w' t) hnc hc hl)
  have hsb := ho.s3
  have hs1 := ho.s1
  have hm1 := ho.m1
  have hmb := ho.m2
  have hpb := ho.p2
  clear ho hn hr hnc hc hl h hu1 hk
  go_enter Try.func18, Try.ntmps18
  go_wp2_with fail
  refine HF.out.mono ?_
  rintro e w1 ⟨rfl, h1, t1⟩
  have K0 := Lib.hid (show Blk w1 g 55 #[.int .i64 (m : Nat), .int .i64 (s : Nat), .int .i64 (sl : Nat), .int .i64 (p : Nat), .int .i64 (u1 : Nat)] from h1)
  have T1 := Lib.hid t1
  clear h1 t1 HF
  go_wp2_with fail
  refine (HK.out _).mono ?_
  rintro e w9 ⟨rfl, hb9⟩
  have K1 := Lib.hid (K0.out.below hb9 K0.out.lt)
  have T2 := Lib.hid (T1.out.grow hb9 (Nat.le_of_lt K0.out.lt))
  clear hb9 K0 T1
  by_cases hlt : s < sl
  · have HE := Lib.hid (show ackS m s sl p k l = grS m s k ∧ ackP m s sl p k l = p from by unfold ackS ackP; rw [if_pos hlt, if_pos hlt]; exact ⟨rfl, rfl⟩)
    go_upto_region 2 with fail
    have hltd : decide (s < sl) = true := decide_eq_true hlt
    refine GH.wp_ghl (M := false) 9 ((GH.SP.eq (.pointer (some ⟨g, 0, none⟩))) :: (GH.SP.eq (.pointer (some ⟨g, 0, none⟩))) :: (GH.SP.eq (.pointer (some ⟨g, 1, none⟩))) :: (GH.SP.eq (.int .i64 (s : Nat))) :: (GH.SP.eq (.pointer (some ⟨g, 0, none⟩))) :: (GH.SP.eq (.pointer (some ⟨g, 0, none⟩))) :: (GH.SP.eq (.pointer (some ⟨g, 2, none⟩))) :: (GH.SP.eq (.int .i64 (sl : Nat))) :: (GH.SP.eq (.bool true)) :: []) (none :: none :: none :: none :: none :: none :: none :: none :: none :: none :: none :: none :: none :: (some 0) :: (some 1) :: (some 2) :: (some 3) :: (some 4) :: (some 5) :: (some 6) :: (some 7) :: (some 8) :: none :: none :: none :: none :: none :: none :: none :: none :: none :: none :: none :: none :: none :: none :: none :: none :: none :: none :: none :: none :: none :: none :: none :: none :: none :: none :: none :: none :: none :: none :: none :: none :: none :: none :: none :: none :: none :: none :: none :: none :: none :: none :: none :: none :: none :: none :: none :: none :: []) [13, 14, 15, 16, 17, 18, 19, 20, 21] (by rfl) (by kernel_rfl) (by kernel_rfl) ?_ ?_ ?_
    · intro S jx v hjx
      match jx, hjx with
      | 0, _ => rfl
      | 1, _ => rfl
      | 2, _ => rfl
      | 3, _ => rfl
      | 4, _ => rfl
      | 5, _ => rfl
      | 6, _ => rfl
      | 7, _ => rfl
      | 8, _ => rfl
      | nx + 9, hjx => omega
    · intro jx hjx S w' hb hd
      match jx, hjx, hd with
      | 0, _, hd =>
        simp only [GH.mkL, List.getD_cons_succ, List.getD_cons_zero]
        clear hd
        refine GH.st_eq (by rfl) ?_
        go_simp
        (try with_reducible rfl)
      | 1, _, hd =>
        simp only [GH.mkL, List.getD_cons_succ, List.getD_cons_zero]
        have d0 : S 0 = .pointer (some ⟨g, 0, none⟩) := (hd 0 (by kernel_rfl)).2
        rw [d0]
        clear d0
        clear hd
        refine GH.st_eq (by rfl) ?_
        go_simp
        (try with_reducible rfl)
      | 2, _, hd =>
        simp only [GH.mkL, List.getD_cons_succ, List.getD_cons_zero]
        have d1 : S 1 = .pointer (some ⟨g, 0, none⟩) := (hd 1 (by kernel_rfl)).2
        rw [d1]
        clear d1
        clear hd
        refine GH.st_eq (by rfl) ?_
        go_simp
        (try with_reducible rfl)
      | 3, _, hd =>
        simp only [GH.mkL, List.getD_cons_succ, List.getD_cons_zero]
        have d2 : S 2 = .pointer (some ⟨g, 1, none⟩) := (hd 2 (by kernel_rfl)).2
        rw [d2]
        clear d2
        clear hd
        exact GH.st_load _ (by rfl) rfl rfl (((K1.out.below hb.below K1.out.lt)).cell 1) (by kernel_rfl)
      | 4, _, hd =>
        simp only [GH.mkL, List.getD_cons_succ, List.getD_cons_zero]
        clear hd
        refine GH.st_eq (by rfl) ?_
        go_simp
        (try with_reducible rfl)
      | 5, _, hd =>
        simp only [GH.mkL, List.getD_cons_succ, List.getD_cons_zero]
        have d4 : S 4 = .pointer (some ⟨g, 0, none⟩) := (hd 4 (by kernel_rfl)).2
        rw [d4]
        clear d4
        clear hd
        refine GH.st_eq (by rfl) ?_
        go_simp
        (try with_reducible rfl)
      | 6, _, hd =>
        simp only [GH.mkL, List.getD_cons_succ, List.getD_cons_zero]
        have d5 : S 5 = .pointer (some ⟨g, 0, none⟩) := (hd 5 (by kernel_rfl)).2
        rw [d5]
        clear d5
        clear hd
        refine GH.st_eq (by rfl) ?_
        go_simp
        (try with_reducible rfl)
      | 7, _, hd =>
        simp only [GH.mkL, List.getD_cons_succ, List.getD_cons_zero]
        have d6 : S 6 = .pointer (some ⟨g, 2, none⟩) := (hd 6 (by kernel_rfl)).2
        rw [d6]
        clear d6
        clear hd
        exact GH.st_load _ (by rfl) rfl rfl (((K1.out.below hb.below K1.out.lt)).cell 2) (by kernel_rfl)
      | 8, _, hd =>
        simp only [GH.mkL, List.getD_cons_succ, List.getD_cons_zero]
        have d3 : S 3 = .int .i64 (s : Nat) := (hd 3 (by kernel_rfl)).2
        rw [d3]
        clear d3
        have d7 : S 7 = .int .i64 (sl : Nat) := (hd 7 (by kernel_rfl)).2
        rw [d7]
        clear d7
        clear hd
        refine GH.st_eq (by rfl) ?_
        go_simp
        (try simp only [hltd])
        (try with_reducible rfl)
      | nx + 9, hjx, _ => omega
    intro S w' hb hG
    simp only [GH.mkL, List.drop_succ_cons, List.drop_zero]
    have d8 : S 8 = .bool true := hG 8 (by omega)
    rw [d8]
    clear d8
    clear hG
    have K2 := Lib.hid (K1.out.below hb.below K1.out.lt)
    have T3 := Lib.hid (T2.out.grow hb.below (Nat.le_of_lt K1.out.lt))
    clear hb K1 T2
    refine wpList_nil ?_
    go_wp2_with fail
    refine (cwgrow_any g m s sl p u1 k w' K2.out hsb hmb (by omega)).mono ?_
    rintro e w4 ⟨rfl, h4, t4⟩
    have T4 := Lib.hid (show Tou g w w4 from ⟨T3.out.1.trans t4.1, fun i hi hne => (t4.2 i (Nat.lt_of_lt_of_le hi T3.out.1.size) hne).trans (T3.out.2 i hi hne)⟩)
    have H4 := Lib.hid h4
    clear h4 t4
    go_wp2_with fail
    refine bodyPost_ret (v := .tuple #[]) (by kernel_rfl) rfl ?_
    exact ⟨rfl, by rw [HE.out.1, HE.out.2]; exact H4.out, T4.out⟩
  · have hltd : decide (s < sl) = false := decide_eq_false hlt
    obtain ⟨km, hkm⟩ : ∃ km, km = k * m := ⟨_, rfl⟩
    obtain ⟨al, hal⟩ : ∃ al, al = alL l := ⟨_, rfl⟩
    obtain ⟨tt, htt⟩ : ∃ tt, tt = totL l := ⟨_, rfl⟩
    have halb := alL_le l
    have httb := totL_le l
    rw [← hal] at halb CA
    rw [← htt] at httb CT
    obtain ⟨x1, hx1⟩ : ∃ x1, x1 = al * km := ⟨_, rfl⟩
    obtain ⟨mx, hmx⟩ : ∃ mx, mx = max tt s := ⟨_, rfl⟩
    obtain ⟨q1, hq1⟩ : ∃ q1, q1 = x1 / mx := ⟨_, rfl⟩
    obtain ⟨x2, hx2⟩ : ∃ x2, x2 = 1024 * km := ⟨_, rfl⟩
    obtain ⟨q2, hq2⟩ : ∃ q2, q2 = x2 / s := ⟨_, rfl⟩
    obtain ⟨a, ha⟩ : ∃ a, a = min q1 q2 := ⟨_, rfl⟩
    have haA : a = ackA m s k l := by unfold ackA; rw [ha, hq1, hq2, hx1, hx2, hmx, hal, htt, hkm]
    have hab : a ≤ 1024 * k := by rw [haA]; exact ackA_le m s k l hs1 hm1
    obtain ⟨p1, hp1⟩ : ∃ p1, p1 = p + a := ⟨_, rfl⟩
    obtain ⟨d, hd⟩ : ∃ d, d = p1 / 1024 := ⟨_, rfl⟩
    obtain ⟨r, hr⟩ : ∃ r, r = p1 % 1024 := ⟨_, rfl⟩
    have HE := Lib.hid (show ackS m s sl p k l = grS m s d ∧ ackP m s sl p k l = r from by unfold ackS ackP; rw [if_neg hlt, if_neg hlt, ← haA, ← hp1, ← hd, ← hr]; exact ⟨rfl, rfl⟩)
    have hkmb : km ≤ 1048576 := by rw [hkm]; exact Nat.mul_le_mul hkb hmb
    have hx1b : x1 ≤ 68719476736 := by rw [hx1]; exact Nat.mul_le_mul halb hkmb
    have hq1b : q1 ≤ 68719476736 := Nat.le_trans (by rw [hq1]; exact Nat.div_le_self _ _) hx1b
    have hq2b : q2 ≤ 1073741824 := Nat.le_trans (by rw [hq2]; exact Nat.div_le_self _ _) (show x2 ≤ 1073741824 by omega)
    have hmx0 : mx ≠ 0 := by omega
    have hs0 : s ≠ 0 := by omega
    have e1 : (k : Int) * (m : Int) = (km : Nat) := by rw [hkm]; push_cast; rfl
    have e2 : (al : Int) * (km : Int) = (x1 : Nat) := by rw [hx1]; push_cast; rfl
    have e3 : (if tt < s then (s : Int) else (tt : Int)) = (mx : Nat) := by rw [hmx]; split <;> omega
    have e4 : (x1 : Int) / (mx : Int) = (q1 : Nat) := by rw [hq1]; push_cast; rfl
    have e5 : (1024 : Int) * (km : Int) = (x2 : Nat) := by omega
    have e6 : (x2 : Int) / (s : Int) = (q2 : Nat) := by rw [hq2]; push_cast; rfl
    have e7 : (if q2 < q1 then (q2 : Int) else (q1 : Int)) = (a : Nat) := by rw [ha]; split <;> omega
    have e8 : (p : Int) + (a : Int) = (p1 : Nat) := by omega
    have w1' : IntKind.i64.wrap (km : Int) = (km : Nat) := by rw [IntKind.wrap_i64]; omega
    have w2' : IntKind.i64.wrap (x1 : Int) = (x1 : Nat) := by rw [IntKind.wrap_i64]; omega
    have w4' : IntKind.i64.wrap (q1 : Int) = (q1 : Nat) := by rw [IntKind.wrap_i64]; omega
    have w5' : IntKind.i64.wrap (x2 : Int) = (x2 : Nat) := by rw [IntKind.wrap_i64]; omega
    have w6' : IntKind.i64.wrap (q2 : Int) = (q2 : Nat) := by rw [IntKind.wrap_i64]; omega
    have w8' : IntKind.i64.wrap (p1 : Int) = (p1 : Nat) := by rw [IntKind.wrap_i64]; omega
    have hp1b : p1 ≤ 2000000 := by omega
    have hdi : (p1 : Int) / 1024 = (d : Nat) := by omega
    have hri : (p1 : Int) % 1024 = (r : Nat) := by omega
    have hdb : d ≤ 2000 := by omega
    have hrb : r ≤ 1023 := by omega
    clear hkm hal htt hx1 hmx hq1 hx2 hq2 ha haA hab hp1 hd hr hkmb
    go_upto_region 2 with fail
    refine GH.wp_ghl (M := false) 9 ((GH.SP.eq (.pointer (some ⟨g, 0, none⟩))) :: (GH.SP.eq (.pointer (some ⟨g, 0, none⟩))) :: (GH.SP.eq (.pointer (some ⟨g, 1, none⟩))) :: (GH.SP.eq (.int .i64 (s : Nat))) :: (GH.SP.eq (.pointer (some ⟨g, 0, none⟩))) :: (GH.SP.eq (.pointer (some ⟨g, 0, none⟩))) :: (GH.SP.eq (.pointer (some ⟨g, 2, none⟩))) :: (GH.SP.eq (.int .i64 (sl : Nat))) :: (GH.SP.eq (.bool false)) :: []) (none :: none :: none :: none :: none :: none :: none :: none :: none :: none :: none :: none :: none :: (some 0) :: (some 1) :: (some 2) :: (some 3) :: (some 4) :: (some 5) :: (some 6) :: (some 7) :: (some 8) :: none :: none :: none :: none :: none :: none :: none :: none :: none :: none :: none :: none :: none :: none :: none :: none :: none :: none :: none :: none :: none :: none :: none :: none :: none :: none :: none :: none :: none :: none :: none :: none :: none :: none :: none :: none :: none :: none :: none :: none :: none :: none :: none :: none :: none :: none :: none :: none :: []) [13, 14, 15, 16, 17, 18, 19, 20, 21] (by rfl) (by kernel_rfl) (by kernel_rfl) ?_ ?_ ?_
    · intro S jx v hjx
      match jx, hjx with
      | 0, _ => rfl
      | 1, _ => rfl
      | 2, _ => rfl
      | 3, _ => rfl
      | 4, _ => rfl
      | 5, _ => rfl
      | 6, _ => rfl
      | 7, _ => rfl
      | 8, _ => rfl
      | nx + 9, hjx => omega
    · intro jx hjx S w' hb hd
      match jx, hjx, hd with
      | 0, _, hd =>
        simp only [GH.mkL, List.getD_cons_succ, List.getD_cons_zero]
        clear hd
        refine GH.st_eq (by rfl) ?_
        go_simp
        (try with_reducible rfl)
      | 1, _, hd =>
        simp only [GH.mkL, List.getD_cons_succ, List.getD_cons_zero]
        have d0 : S 0 = .pointer (some ⟨g, 0, none⟩) := (hd 0 (by kernel_rfl)).2
        rw [d0]
        clear d0
        clear hd
        refine GH.st_eq (by rfl) ?_
        go_simp
        (try with_reducible rfl)
      | 2, _, hd =>
        simp only [GH.mkL, List.getD_cons_succ, List.getD_cons_zero]
        have d1 : S 1 = .pointer (some ⟨g, 0, none⟩) := (hd 1 (by kernel_rfl)).2
        rw [d1]
        clear d1
        clear hd
        refine GH.st_eq (by rfl) ?_
        go_simp
        (try with_reducible rfl)
      | 3, _, hd =>
        simp only [GH.mkL, List.getD_cons_succ, List.getD_cons_zero]
        have d2 : S 2 = .pointer (some ⟨g, 1, none⟩) := (hd 2 (by kernel_rfl)).2
        rw [d2]
        clear d2
        clear hd
        exact GH.st_load _ (by rfl) rfl rfl (((K1.out.below hb.below K1.out.lt)).cell 1) (by kernel_rfl)
      | 4, _, hd =>
        simp only [GH.mkL, List.getD_cons_succ, List.getD_cons_zero]
        clear hd
        refine GH.st_eq (by rfl) ?_
        go_simp
        (try with_reducible rfl)
      | 5, _, hd =>
        simp only [GH.mkL, List.getD_cons_succ, List.getD_cons_zero]
        have d4 : S 4 = .pointer (some ⟨g, 0, none⟩) := (hd 4 (by kernel_rfl)).2
        rw [d4]
        clear d4
        clear hd
        refine GH.st_eq (by rfl) ?_
        go_simp
        (try with_reducible rfl)
      | 6, _, hd =>
        simp only [GH.mkL, List.getD_cons_succ, List.getD_cons_zero]
        have d5 : S 5 = .pointer (some ⟨g, 0, none⟩) := (hd 5 (by kernel_rfl)).2
        rw [d5]
        clear d5
        clear hd
        refine GH.st_eq (by rfl) ?_
        go_simp
        (try with_reducible rfl)
      | 7, _, hd =>
        simp only [GH.mkL, List.getD_cons_succ, List.getD_cons_zero]
        have d6 : S 6 = .pointer (some ⟨g, 2, none⟩) := (hd 6 (by kernel_rfl)).2
        rw [d6]
        clear d6
        clear hd
        exact GH.st_load _ (by rfl) rfl rfl (((K1.out.below hb.below K1.out.lt)).cell 2) (by kernel_rfl)
      | 8, _, hd =>
        simp only [GH.mkL, List.getD_cons_succ, List.getD_cons_zero]
        have d3 : S 3 = .int .i64 (s : Nat) := (hd 3 (by kernel_rfl)).2
        rw [d3]
        clear d3
        have d7 : S 7 = .int .i64 (sl : Nat) := (hd 7 (by kernel_rfl)).2
        rw [d7]
        clear d7
        clear hd
        refine GH.st_eq (by rfl) ?_
        go_simp
        (try simp only [hltd])
        (try with_reducible rfl)
      | nx + 9, hjx, _ => omega
    intro S w' hb hG
    simp only [GH.mkL, List.drop_succ_cons, List.drop_zero]
    have d8 : S 8 = .bool false := hG 8 (by omega)
    rw [d8]
    clear d8
    clear hG
    have K2 := Lib.hid (K1.out.below hb.below K1.out.lt)
    have T3 := Lib.hid (T2.out.grow hb.below (Nat.le_of_lt K1.out.lt))
    clear hb K1 T2
    refine wpList_nil ?_
    go_upto_region 4 with fail
    refine GH.wp_ghl (M := false) 12 ((GH.SP.eq (.int .i64 (k : Nat))) :: (GH.SP.eq (.pointer (some ⟨g, 0, none⟩))) :: (GH.SP.eq (.pointer (some ⟨g, 0, none⟩))) :: (GH.SP.eq (.pointer (some ⟨g, 0, none⟩))) :: (GH.SP.eq (.int .i64 (m : Nat))) :: (GH.SP.eq (.int .i64 (km : Nat))) :: (GH.SP.eq (.pointer (some ⟨g, 0, none⟩))) :: (GH.SP.eq (.pointer (some ⟨g, 0, none⟩))) :: (GH.SP.eq (.pointer (some ⟨g, 1, none⟩))) :: (GH.SP.eq (.int .i64 (s : Nat))) :: (GH.SP.eq (.int .i64 (km : Nat))) :: (GH.SP.eq (.int .i64 (s : Nat))) :: []) (none :: none :: none :: none :: none :: none :: (some 10) :: (some 11) :: none :: none :: none :: none :: none :: none :: none :: none :: none :: none :: none :: none :: none :: none :: none :: none :: none :: (some 0) :: (some 1) :: (some 2) :: (some 3) :: (some 4) :: (some 5) :: (some 6) :: (some 7) :: (some 8) :: (some 9) :: none :: none :: none :: none :: none :: none :: none :: none :: none :: none :: none :: none :: none :: none :: none :: none :: none :: none :: none :: none :: none :: none :: none :: none :: none :: none :: none :: none :: none :: none :: none :: none :: none :: none :: none :: []) [25, 26, 27, 28, 29, 30, 31, 32, 33, 34, 6, 7] (by rfl) (by kernel_rfl) (by kernel_rfl) ?_ ?_ ?_
    · intro S jx v hjx
      match jx, hjx with
      | 0, _ => rfl
      | 1, _ => rfl
      | 2, _ => rfl
      | 3, _ => rfl
      | 4, _ => rfl
      | 5, _ => rfl
      | 6, _ => rfl
      | 7, _ => rfl
      | 8, _ => rfl
      | 9, _ => rfl
      | 10, _ => rfl
      | 11, _ => rfl
      | nx + 12, hjx => omega
    · intro jx hjx S w' hb hd
      match jx, hjx, hd with
      | 0, _, hd =>
        simp only [GH.mkL, List.getD_cons_succ, List.getD_cons_zero]
        clear hd
        refine GH.st_eq (by rfl) ?_
        go_simp
        (try with_reducible rfl)
      | 1, _, hd =>
        simp only [GH.mkL, List.getD_cons_succ, List.getD_cons_zero]
        clear hd
        refine GH.st_eq (by rfl) ?_
        go_simp
        (try with_reducible rfl)
      | 2, _, hd =>
        simp only [GH.mkL, List.getD_cons_succ, List.getD_cons_zero]
        have d1 : S 1 = .pointer (some ⟨g, 0, none⟩) := (hd 1 (by kernel_rfl)).2
        rw [d1]
        clear d1
        clear hd
        refine GH.st_eq (by rfl) ?_
        go_simp
        (try with_reducible rfl)
      | 3, _, hd =>
        simp only [GH.mkL, List.getD_cons_succ, List.getD_cons_zero]
        have d2 : S 2 = .pointer (some ⟨g, 0, none⟩) := (hd 2 (by kernel_rfl)).2
        rw [d2]
        clear d2
        clear hd
        refine GH.st_eq (by rfl) ?_
        go_simp
        (try with_reducible rfl)
      | 4, _, hd =>
        simp only [GH.mkL, List.getD_cons_succ, List.getD_cons_zero]
        have d3 : S 3 = .pointer (some ⟨g, 0, none⟩) := (hd 3 (by kernel_rfl)).2
        rw [d3]
        clear d3
        clear hd
        exact GH.st_load _ (by rfl) rfl rfl (((K2.out.below hb.below K2.out.lt)).cell 0) (by kernel_rfl)
      | 5, _, hd =>
        simp only [GH.mkL, List.getD_cons_succ, List.getD_cons_zero]
        have d0 : S 0 = .int .i64 (k : Nat) := (hd 0 (by kernel_rfl)).2
        rw [d0]
        clear d0
        have d4 : S 4 = .int .i64 (m : Nat) := (hd 4 (by kernel_rfl)).2
        rw [d4]
        clear d4
        clear hd
        refine GH.st_eq (by rfl) ?_
        go_simp
        (try simp only [e1, w1'])
        (try with_reducible rfl)
      | 6, _, hd =>
        simp only [GH.mkL, List.getD_cons_succ, List.getD_cons_zero]
        clear hd
        refine GH.st_eq (by rfl) ?_
        go_simp
        (try with_reducible rfl)
      | 7, _, hd =>
        simp only [GH.mkL, List.getD_cons_succ, List.getD_cons_zero]
        have d6 : S 6 = .pointer (some ⟨g, 0, none⟩) := (hd 6 (by kernel_rfl)).2
        rw [d6]
        clear d6
        clear hd
        refine GH.st_eq (by rfl) ?_
        go_simp
        (try with_reducible rfl)
      | 8, _, hd =>
        simp only [GH.mkL, List.getD_cons_succ, List.getD_cons_zero]
        have d7 : S 7 = .pointer (some ⟨g, 0, none⟩) := (hd 7 (by kernel_rfl)).2
        rw [d7]
        clear d7
        clear hd
        refine GH.st_eq (by rfl) ?_
        go_simp
        (try with_reducible rfl)
      | 9, _, hd =>
        simp only [GH.mkL, List.getD_cons_succ, List.getD_cons_zero]
        have d8 : S 8 = .pointer (some ⟨g, 1, none⟩) := (hd 8 (by kernel_rfl)).2
        rw [d8]
        clear d8
        clear hd
        exact GH.st_load _ (by rfl) rfl rfl (((K2.out.below hb.below K2.out.lt)).cell 1) (by kernel_rfl)
      | 10, _, hd =>
        simp only [GH.mkL, List.getD_cons_succ, List.getD_cons_zero]
        have d0 : S 0 = .int .i64 (k : Nat) := (hd 0 (by kernel_rfl)).2
        rw [d0]
        clear d0
        have d1 : S 1 = .pointer (some ⟨g, 0, none⟩) := (hd 1 (by kernel_rfl)).2
        rw [d1]
        clear d1
        have d2 : S 2 = .pointer (some ⟨g, 0, none⟩) := (hd 2 (by kernel_rfl)).2
        rw [d2]
        clear d2
        have d3 : S 3 = .pointer (some ⟨g, 0, none⟩) := (hd 3 (by kernel_rfl)).2
        rw [d3]
        clear d3
        have d4 : S 4 = .int .i64 (m : Nat) := (hd 4 (by kernel_rfl)).2
        rw [d4]
        clear d4
        have d5 : S 5 = .int .i64 (km : Nat) := (hd 5 (by kernel_rfl)).2
        rw [d5]
        clear d5
        clear hd
        refine GH.st_eq (by rfl) ?_
        go_simp
        (try with_reducible rfl)
      | 11, _, hd =>
        simp only [GH.mkL, List.getD_cons_succ, List.getD_cons_zero]
        have d0 : S 0 = .int .i64 (k : Nat) := (hd 0 (by kernel_rfl)).2
        rw [d0]
        clear d0
        have d1 : S 1 = .pointer (some ⟨g, 0, none⟩) := (hd 1 (by kernel_rfl)).2
        rw [d1]
        clear d1
        have d2 : S 2 = .pointer (some ⟨g, 0, none⟩) := (hd 2 (by kernel_rfl)).2
        rw [d2]
        clear d2
        have d3 : S 3 = .pointer (some ⟨g, 0, none⟩) := (hd 3 (by kernel_rfl)).2
        rw [d3]
        clear d3
        have d4 : S 4 = .int .i64 (m : Nat) := (hd 4 (by kernel_rfl)).2
        rw [d4]
        clear d4
        have d5 : S 5 = .int .i64 (km : Nat) := (hd 5 (by kernel_rfl)).2
        rw [d5]
        clear d5
        have d6 : S 6 = .pointer (some ⟨g, 0, none⟩) := (hd 6 (by kernel_rfl)).2
        rw [d6]
        clear d6
        have d7 : S 7 = .pointer (some ⟨g, 0, none⟩) := (hd 7 (by kernel_rfl)).2
        rw [d7]
        clear d7
        have d8 : S 8 = .pointer (some ⟨g, 1, none⟩) := (hd 8 (by kernel_rfl)).2
        rw [d8]
        clear d8
        have d9 : S 9 = .int .i64 (s : Nat) := (hd 9 (by kernel_rfl)).2
        rw [d9]
        clear d9
        have d10 : S 10 = .int .i64 (km : Nat) := (hd 10 (by kernel_rfl)).2
        rw [d10]
        clear d10
        clear hd
        refine GH.st_eq (by rfl) ?_
        go_simp
        (try with_reducible rfl)
      | nx + 12, hjx, _ => omega
    intro S w' hb hG
    simp only [GH.mkL, List.drop_succ_cons, List.drop_zero]
    have d10 : S 10 = .int .i64 (km : Nat) := hG 10 (by omega)
    rw [d10]
    clear d10
    have d11 : S 11 = .int .i64 (s : Nat) := hG 11 (by omega)
    rw [d11]
    clear d11
    clear hG
    have K4 := Lib.hid (K2.out.below hb.below K2.out.lt)
    have T4 := Lib.hid (T3.out.grow hb.below (Nat.le_of_lt K2.out.lt))
    clear hb K2 T3
    refine wpList_nil ?_
    go_upto_region 5 with fail
    refine GH.wp_ghl2 (M := false) 21 ((GH.SP.eq (.pointer (some ⟨g, 0, none⟩))) :: (GH.SP.eq (.pointer (some ⟨g, 0, none⟩))) :: (GH.SP.eq (.pointer (some ⟨g, 3, none⟩))) :: (GH.SP.eq (.int .i64 (p : Nat))) :: (GH.SP.eq (.slice A ln c)) :: (GH.SP.eq (.int .i64 (al : Nat))) :: (GH.SP.eq (.int .i64 (km : Nat))) :: (GH.SP.eq (.int .i64 (x1 : Nat))) :: (GH.SP.eq (.slice A ln c)) :: (GH.SP.eq (.int .i64 (tt : Nat))) :: (GH.SP.eq (.int .i64 (s : Nat))) :: (GH.SP.eq (.int .i64 (mx : Nat))) :: (GH.SP.eq (.int .i64 (q1 : Nat))) :: (GH.SP.eq (.int .i64 (km : Nat))) :: (GH.SP.eq (.int .i64 (x2 : Nat))) :: (GH.SP.eq (.int .i64 (s : Nat))) :: (GH.SP.eq (.int .i64 (q2 : Nat))) :: (GH.SP.eq (.int .i64 (a : Nat))) :: (GH.SP.eq (.int .i64 (p1 : Nat))) :: (GH.SP.eq (.pointer (some ⟨g, 0, none⟩))) :: (GH.SP.eq (.pointer (some ⟨g, 3, none⟩))) :: []) (none :: none :: none :: none :: none :: none :: none :: none :: none :: none :: none :: none :: none :: none :: none :: none :: none :: none :: none :: none :: none :: none :: none :: none :: none :: none :: none :: none :: none :: none :: none :: none :: none :: none :: none :: (some 0) :: (some 1) :: (some 2) :: (some 3) :: (some 4) :: (some 5) :: (some 6) :: (some 7) :: (some 8) :: (some 9) :: (some 10) :: (some 11) :: (some 12) :: (some 13) :: (some 14) :: (some 15) :: (some 16) :: (some 17) :: (some 18) :: (some 19) :: (some 20) :: none :: none :: none :: none :: none :: none :: none :: none :: none :: none :: none :: none :: none :: none :: []) [35, 36, 37, 38, 39, 40, 41, 42, 43, 44, 45, 46, 47, 48, 49, 50, 51, 52, 53, 54, 55] (by rfl) (by kernel_rfl) (by kernel_rfl) ?_ ?_ ?_
    · intro S jx v hjx
      match jx, hjx with
      | 0, _ => rfl
      | 1, _ => rfl
      | 2, _ => rfl
      | 3, _ => rfl
      | 4, _ => rfl
      | 5, _ => rfl
      | 6, _ => rfl
      | 7, _ => rfl
      | 8, _ => rfl
      | 9, _ => rfl
      | 10, _ => rfl
      | 11, _ => rfl
      | 12, _ => rfl
      | 13, _ => rfl
      | 14, _ => rfl
      | 15, _ => rfl
      | 16, _ => rfl
      | 17, _ => rfl
      | 18, _ => rfl
      | 19, _ => rfl
      | 20, _ => rfl
      | nx + 21, hjx => omega
    · intro jx hjx S w' hb hd
      match jx, hjx, hd with
      | 0, _, hd =>
        simp only [GH.mkL, List.getD_cons_succ, List.getD_cons_zero]
        clear hd
        refine GH.st_eq (by rfl) ?_
        go_simp
        (try with_reducible rfl)
      | 1, _, hd =>
        simp only [GH.mkL, List.getD_cons_succ, List.getD_cons_zero]
        have d0 : S 0 = .pointer (some ⟨g, 0, none⟩) := (hd 0 (by kernel_rfl)).2
        rw [d0]
        clear d0
        clear hd
        refine GH.st_eq (by rfl) ?_
        go_simp
        (try with_reducible rfl)
      | 2, _, hd =>
        simp only [GH.mkL, List.getD_cons_succ, List.getD_cons_zero]
        have d1 : S 1 = .pointer (some ⟨g, 0, none⟩) := (hd 1 (by kernel_rfl)).2
        rw [d1]
        clear d1
        clear hd
        refine GH.st_eq (by rfl) ?_
        go_simp
        (try with_reducible rfl)
      | 3, _, hd =>
        simp only [GH.mkL, List.getD_cons_succ, List.getD_cons_zero]
        have d2 : S 2 = .pointer (some ⟨g, 3, none⟩) := (hd 2 (by kernel_rfl)).2
        rw [d2]
        clear d2
        clear hd
        exact GH.st_load _ (by rfl) rfl rfl (((K4.out.below hb.below K4.out.lt)).cell 3) (by kernel_rfl)
      | 4, _, hd =>
        simp only [GH.mkL, List.getD_cons_succ, List.getD_cons_zero]
        clear hd
        refine GH.st_eq (by rfl) ?_
        go_simp
        (try with_reducible rfl)
      | 5, _, hd =>
        simp only [GH.mkL, List.getD_cons_succ, List.getD_cons_zero]
        have d4 : S 4 = .slice A ln c := (hd 4 (by kernel_rfl)).2
        rw [d4]
        clear d4
        clear hd
        refine GH.st_call (by rfl) hb.below.size (by go_simp) ((CA.out w' (T4.out.grow hb.below (Nat.le_of_lt K4.out.lt))).mono ?_)
        rintro e w9 ⟨rfl, hb9⟩
        exact ⟨_, rfl, hb9, rfl⟩
      | 6, _, hd =>
        simp only [GH.mkL, List.getD_cons_succ, List.getD_cons_zero]
        clear hd
        refine GH.st_eq (by rfl) ?_
        go_simp
        (try with_reducible rfl)
      | 7, _, hd =>
        simp only [GH.mkL, List.getD_cons_succ, List.getD_cons_zero]
        have d5 : S 5 = .int .i64 (al : Nat) := (hd 5 (by kernel_rfl)).2
        rw [d5]
        clear d5
        have d6 : S 6 = .int .i64 (km : Nat) := (hd 6 (by kernel_rfl)).2
        rw [d6]
        clear d6
        clear hd
        refine GH.st_eq (by rfl) ?_
        go_simp
        (try simp only [e2, w2'])
        (try with_reducible rfl)
      | 8, _, hd =>
        simp only [GH.mkL, List.getD_cons_succ, List.getD_cons_zero]
        clear hd
        refine GH.st_eq (by rfl) ?_
        go_simp
        (try with_reducible rfl)
      | 9, _, hd =>
        simp only [GH.mkL, List.getD_cons_succ, List.getD_cons_zero]
        have d5 : S 5 = .int .i64 (al : Nat) := (hd 5 (by kernel_rfl)).2
        rw [d5]
        clear d5
        have d8 : S 8 = .slice A ln c := (hd 8 (by kernel_rfl)).2
        rw [d8]
        clear d8
        clear hd
        refine GH.st_call (by rfl) hb.below.size (by go_simp) ((CT.out w' (T4.out.grow hb.below (Nat.le_of_lt K4.out.lt))).mono ?_)
        rintro e w9 ⟨rfl, hb9⟩
        exact ⟨_, rfl, hb9, rfl⟩
      | 10, _, hd =>
        simp only [GH.mkL, List.getD_cons_succ, List.getD_cons_zero]
        clear hd
        refine GH.st_eq (by rfl) ?_
        go_simp
        (try with_reducible rfl)
      | 11, _, hd =>
        simp only [GH.mkL, List.getD_cons_succ, List.getD_cons_zero]
        have d9 : S 9 = .int .i64 (tt : Nat) := (hd 9 (by kernel_rfl)).2
        rw [d9]
        clear d9
        have d10 : S 10 = .int .i64 (s : Nat) := (hd 10 (by kernel_rfl)).2
        rw [d10]
        clear d10
        clear hd
        refine GH.st_eq (by rfl) ?_
        go_simp
        (try exact e3)
      | 12, _, hd =>
        simp only [GH.mkL, List.getD_cons_succ, List.getD_cons_zero]
        have d7 : S 7 = .int .i64 (x1 : Nat) := (hd 7 (by kernel_rfl)).2
        rw [d7]
        clear d7
        have d11 : S 11 = .int .i64 (mx : Nat) := (hd 11 (by kernel_rfl)).2
        rw [d11]
        clear d11
        clear hd
        refine GH.st_eq (by rfl) ?_
        go_simp
        (try simp only [hmx0, e4, w4', if_false])
        (try with_reducible rfl)
      | 13, _, hd =>
        simp only [GH.mkL, List.getD_cons_succ, List.getD_cons_zero]
        clear hd
        refine GH.st_eq (by rfl) ?_
        go_simp
        (try with_reducible rfl)
      | 14, _, hd =>
        simp only [GH.mkL, List.getD_cons_succ, List.getD_cons_zero]
        have d13 : S 13 = .int .i64 (km : Nat) := (hd 13 (by kernel_rfl)).2
        rw [d13]
        clear d13
        clear hd
        refine GH.st_eq (by rfl) ?_
        go_simp
        (try simp only [e5, w5'])
        (try with_reducible rfl)
      | 15, _, hd =>
        simp only [GH.mkL, List.getD_cons_succ, List.getD_cons_zero]
        clear hd
        refine GH.st_eq (by rfl) ?_
        go_simp
        (try with_reducible rfl)
      | 16, _, hd =>
        simp only [GH.mkL, List.getD_cons_succ, List.getD_cons_zero]
        have d14 : S 14 = .int .i64 (x2 : Nat) := (hd 14 (by kernel_rfl)).2
        rw [d14]
        clear d14
        have d15 : S 15 = .int .i64 (s : Nat) := (hd 15 (by kernel_rfl)).2
        rw [d15]
        clear d15
        clear hd
        refine GH.st_eq (by rfl) ?_
        go_simp
        (try simp only [hs0, e6, w6', if_false])
        (try with_reducible rfl)
      | 17, _, hd =>
        simp only [GH.mkL, List.getD_cons_succ, List.getD_cons_zero]
        have d12 : S 12 = .int .i64 (q1 : Nat) := (hd 12 (by kernel_rfl)).2
        rw [d12]
        clear d12
        have d16 : S 16 = .int .i64 (q2 : Nat) := (hd 16 (by kernel_rfl)).2
        rw [d16]
        clear d16
        clear hd
        refine GH.st_eq (by rfl) ?_
        go_simp
        (try exact e7)
      | 18, _, hd =>
        simp only [GH.mkL, List.getD_cons_succ, List.getD_cons_zero]
        have d3 : S 3 = .int .i64 (p : Nat) := (hd 3 (by kernel_rfl)).2
        rw [d3]
        clear d3
        have d17 : S 17 = .int .i64 (a : Nat) := (hd 17 (by kernel_rfl)).2
        rw [d17]
        clear d17
        clear hd
        refine GH.st_eq (by rfl) ?_
        go_simp
        (try simp only [e8, w8'])
        (try with_reducible rfl)
      | 19, _, hd =>
        simp only [GH.mkL, List.getD_cons_succ, List.getD_cons_zero]
        have d0 : S 0 = .pointer (some ⟨g, 0, none⟩) := (hd 0 (by kernel_rfl)).2
        rw [d0]
        clear d0
        have d1 : S 1 = .pointer (some ⟨g, 0, none⟩) := (hd 1 (by kernel_rfl)).2
        rw [d1]
        clear d1
        have d2 : S 2 = .pointer (some ⟨g, 3, none⟩) := (hd 2 (by kernel_rfl)).2
        rw [d2]
        clear d2
        have d3 : S 3 = .int .i64 (p : Nat) := (hd 3 (by kernel_rfl)).2
        rw [d3]
        clear d3
        have d4 : S 4 = .slice A ln c := (hd 4 (by kernel_rfl)).2
        rw [d4]
        clear d4
        have d5 : S 5 = .int .i64 (al : Nat) := (hd 5 (by kernel_rfl)).2
        rw [d5]
        clear d5
        have d6 : S 6 = .int .i64 (km : Nat) := (hd 6 (by kernel_rfl)).2
        rw [d6]
        clear d6
        have d7 : S 7 = .int .i64 (x1 : Nat) := (hd 7 (by kernel_rfl)).2
        rw [d7]
        clear d7
        have d8 : S 8 = .slice A ln c := (hd 8 (by kernel_rfl)).2
        rw [d8]
        clear d8
        have d9 : S 9 = .int .i64 (tt : Nat) := (hd 9 (by kernel_rfl)).2
        rw [d9]
        clear d9
        have d10 : S 10 = .int .i64 (s : Nat) := (hd 10 (by kernel_rfl)).2
        rw [d10]
        clear d10
        have d11 : S 11 = .int .i64 (mx : Nat) := (hd 11 (by kernel_rfl)).2
        rw [d11]
        clear d11
        have d12 : S 12 = .int .i64 (q1 : Nat) := (hd 12 (by kernel_rfl)).2
        rw [d12]
        clear d12
        have d13 : S 13 = .int .i64 (km : Nat) := (hd 13 (by kernel_rfl)).2
        rw [d13]
        clear d13
        have d14 : S 14 = .int .i64 (x2 : Nat) := (hd 14 (by kernel_rfl)).2
        rw [d14]
        clear d14
        have d15 : S 15 = .int .i64 (s : Nat) := (hd 15 (by kernel_rfl)).2
        rw [d15]
        clear d15
        have d16 : S 16 = .int .i64 (q2 : Nat) := (hd 16 (by kernel_rfl)).2
        rw [d16]
        clear d16
        have d17 : S 17 = .int .i64 (a : Nat) := (hd 17 (by kernel_rfl)).2
        rw [d17]
        clear d17
        have d18 : S 18 = .int .i64 (p1 : Nat) := (hd 18 (by kernel_rfl)).2
        rw [d18]
        clear d18
        clear hd
        refine GH.st_eq (by rfl) ?_
        go_simp
        (try with_reducible rfl)
      | 20, _, hd =>
        simp only [GH.mkL, List.getD_cons_succ, List.getD_cons_zero]
        have d0 : S 0 = .pointer (some ⟨g, 0, none⟩) := (hd 0 (by kernel_rfl)).2
        rw [d0]
        clear d0
        have d1 : S 1 = .pointer (some ⟨g, 0, none⟩) := (hd 1 (by kernel_rfl)).2
        rw [d1]
        clear d1
        have d2 : S 2 = .pointer (some ⟨g, 3, none⟩) := (hd 2 (by kernel_rfl)).2
        rw [d2]
        clear d2
        have d3 : S 3 = .int .i64 (p : Nat) := (hd 3 (by kernel_rfl)).2
        rw [d3]
        clear d3
        have d4 : S 4 = .slice A ln c := (hd 4 (by kernel_rfl)).2
        rw [d4]
        clear d4
        have d5 : S 5 = .int .i64 (al : Nat) := (hd 5 (by kernel_rfl)).2
        rw [d5]
        clear d5
        have d6 : S 6 = .int .i64 (km : Nat) := (hd 6 (by kernel_rfl)).2
        rw [d6]
        clear d6
        have d7 : S 7 = .int .i64 (x1 : Nat) := (hd 7 (by kernel_rfl)).2
        rw [d7]
        clear d7
        have d8 : S 8 = .slice A ln c := (hd 8 (by kernel_rfl)).2
        rw [d8]
        clear d8
        have d9 : S 9 = .int .i64 (tt : Nat) := (hd 9 (by kernel_rfl)).2
        rw [d9]
        clear d9
        have d10 : S 10 = .int .i64 (s : Nat) := (hd 10 (by kernel_rfl)).2
        rw [d10]
        clear d10
        have d11 : S 11 = .int .i64 (mx : Nat) := (hd 11 (by kernel_rfl)).2
        rw [d11]
        clear d11
        have d12 : S 12 = .int .i64 (q1 : Nat) := (hd 12 (by kernel_rfl)).2
        rw [d12]
        clear d12
        have d13 : S 13 = .int .i64 (km : Nat) := (hd 13 (by kernel_rfl)).2
        rw [d13]
        clear d13
        have d14 : S 14 = .int .i64 (x2 : Nat) := (hd 14 (by kernel_rfl)).2
        rw [d14]
        clear d14
        have d15 : S 15 = .int .i64 (s : Nat) := (hd 15 (by kernel_rfl)).2
        rw [d15]
        clear d15
        have d16 : S 16 = .int .i64 (q2 : Nat) := (hd 16 (by kernel_rfl)).2
        rw [d16]
        clear d16
        have d17 : S 17 = .int .i64 (a : Nat) := (hd 17 (by kernel_rfl)).2
        rw [d17]
        clear d17
        have d18 : S 18 = .int .i64 (p1 : Nat) := (hd 18 (by kernel_rfl)).2
        rw [d18]
        clear d18
        have d19 : S 19 = .pointer (some ⟨g, 0, none⟩) := (hd 19 (by kernel_rfl)).2
        rw [d19]
        clear d19
        clear hd
        refine GH.st_eq (by rfl) ?_
        go_simp
        (try with_reducible rfl)
      | nx + 21, hjx, _ => omega
    intro S w' hb hG
    simp only [GH.mkL, List.drop_succ_cons, List.drop_zero]
    have d18 : S 18 = .int .i64 (p1 : Nat) := hG 18 (by omega)
    rw [d18]
    clear d18
    have d20 : S 20 = .pointer (some ⟨g, 3, none⟩) := hG 20 (by omega)
    rw [d20]
    clear d20
    clear hG
    have K5 := K4.out.below hb.below K4.out.lt
    have f3 := K5.frozen 3
    obtain ⟨c0, c1, c2, c3, c4⟩ := ptc5 K5
    have T5 := Lib.hid (T4.out.grow hb.below (Nat.le_of_lt K4.out.lt))
    have HK5 := Lib.hid K5
    clear hb K4 T4 K5
    go_upto_region 6 with fail
    have K6 := Lib.hid (show Blk (w'.setCell ⟨g, 3, none⟩ (.int .i64 (p1 : Nat))) g 55 #[.int .i64 (m : Nat), .int .i64 (s : Nat), .int .i64 (sl : Nat), .int .i64 (p1 : Nat), .int .i64 (u1 : Nat)] from HK5.out.set 3 _)
    have T6 := Lib.hid (T5.out.solo (Solo.refl.setCell 3 (.int .i64 (p1 : Nat))))
    clear HK5 T5 f3 c0 c1 c2 c3 c4
    generalize w'.setCell ⟨g, 3, none⟩ (.int .i64 (p1 : Nat)) = w6 at K6 T6 ⊢
    obtain ⟨c0, c1, c2, c3, c4⟩ := ptc5 K6.out
    go_wp2_with fail
    refine (cwgrow_any g m s sl p1 u1 d w6 K6.out hsb hmb (by omega)).mono ?_
    rintro e w7 ⟨rfl, h7, t7⟩
    have T7 := Lib.hid (show Tou g w w7 from ⟨T6.out.1.trans t7.1, fun i hi hne => (t7.2 i (Nat.lt_of_lt_of_le hi T6.out.1.size) hne).trans (T6.out.2 i hi hne)⟩)
    have K7 := Lib.hid (show Blk w7 g 55 _ from h7)
    clear h7 t7 K6 T6 c0 c1 c2 c3 c4
    obtain ⟨c0, c1, c2, c3, c4⟩ := ptc5 K7.out
    have f3 := K7.out.frozen 3
    go_wp2_with fail
    go_end0
    exact ⟨rfl, by rw [HE.out.1, HE.out.2]; exact K7.out.set 3 (.int .i64 (r : Nat)), T7.out.solo (Solo.refl.setCell 3 _)⟩
end Go.Proofs.Ytpjfheojlcahgaa
