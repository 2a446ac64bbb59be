/- The document of layer 39: Give, Move. -/
import Derived.Test.YtonindjpbegdgaaQur2
namespace Go.Proofs.Ytonindjpbegdgaa
open Go.RowKit
set_option linter.unusedVariables false
set_option linter.unusedSimpArgs false
set_option maxRecDepth 20000 in
set_option maxHeartbeats 4000000 in
theorem rq_give (all each : Nat) (A : Option Addr) (n c : Nat) (L : Ql) (id k : Int) (w : World) (h : RQ w A n c L) (hL : L.length ≤ 8000) (hq : QB all each L) (hk : I64 k) :
    Calls Try.prog 7 #[RPv all each A n c, .int .i64 id, .int .i64 k] w fun e w' => ∃ A2 n2 c2, e = .returned (.tuple #[RPv all each A2 n2 c2, .int .i64 (gvN L id k : Nat)]) ∧ RQ w' A2 n2 c2 (gvL L id k) ∧ Below w.heap.size w w' := by
  have HR := Lib.hid h
  have CO := Lib.hid (fun w' (hb : Below w.heap.size w w') => rq_of all each A n c L id w' (h.into hb) hL)
  have CU := Lib.hid (fun w' (hb : Below w.heap.size w w') => rq_used all each A n c L w' (h.into hb) hL (by have := hq.used; have := hq.ma; omega))
  have CS := Lib.hid (fun t w' (hb : Below w.heap.size w w') => rq_set all each A n c L id t w' (h.into hb) hL)
  have hv1 := hq.own id
  have hme := hq.me
  have hma := hq.ma
  have hus := hq.used
  unfold RPv at CO CU CS ⊢
  obtain ⟨v, hv⟩ : ∃ v, v = ofQ L id := ⟨_, rfl⟩
  obtain ⟨u, hu⟩ : ∃ u, u = usedQ L := ⟨_, rfl⟩
  have HV := Lib.hid hv
  have HU := Lib.hid hu
  rw [← hv] at CO hv1
  rw [← hu] at CU hus
  have hvb : v ≤ 1073741824 := by omega
  clear h hq hv hu hv1 hus hme hma hk hL CU
  by_cases h0 : k < 0
  · have hg : gvN L id k = 0 := clN_lo (by simpa using h0)
    have HTL := Lib.hid (show gvL L id k = setQ L id v by unfold gvL; rw [hg, ← HV.out, Nat.sub_zero])
    have HG := Lib.hid (show ((gvN L id k : Nat) : Int) = 0 by rw [hg]; rfl)
    have hwt : IntKind.i64.wrap (v : Int) = (v : Nat) := by rw [IntKind.wrap_i64]; omega
    clear hg
    go_enter Try.func7, Try.ntmps7
    go_wp2_with fail
    have hb0 := (Below.refl w.heap.size w).alloc (Nat.le_refl _) (.cells #[.int .i64 (all : Nat), .int .i64 (each : Nat), .slice A n c] 27)
    have hk0 := Blk.new w 27 #[.int .i64 (all : Nat), .int .i64 (each : Nat), .slice A n c]
    have hz1 : (w.alloc (.cells #[.int .i64 (all : Nat), .int .i64 (each : Nat), .slice A n c] 27)).heap.size = w.heap.size + 1 := by simp
    have hk1 := Blk.new (w.alloc (.cells #[.int .i64 (all : Nat), .int .i64 (each : Nat), .slice A n c] 27)) 27 #[.int .i64 0, .int .i64 0, .slice none 0 0]
    rw [hz1] at hk1
    have hk0 := hk0.alloc (.cells #[.int .i64 0, .int .i64 0, .slice none 0 0] 27)
    have hb0 := hb0.alloc (show w.heap.size ≤ (w.alloc (.cells #[.int .i64 (all : Nat), .int .i64 (each : Nat), .slice A n c] 27)).heap.size by omega) (.cells #[.int .i64 0, .int .i64 0, .slice none 0 0] 27)
    have hz2 : ((w.alloc (.cells #[.int .i64 (all : Nat), .int .i64 (each : Nat), .slice A n c] 27)).alloc (.cells #[.int .i64 0, .int .i64 0, .slice none 0 0] 27)).heap.size = w.heap.size + 2 := by simp
    have K0 := Lib.hid hk0
    have K1 := Lib.hid hk1
    have B0 := Lib.hid hb0
    have HZ := Lib.hid hz2
    clear hk0 hb0 hk1 hz1 hz2
    generalize (w.alloc (.cells #[.int .i64 (all : Nat), .int .i64 (each : Nat), .slice A n c] 27)).alloc (.cells #[.int .i64 0, .int .i64 0, .slice none 0 0] 27) = w1 at K0 K1 B0 HZ ⊢
    obtain ⟨kA, kE, kL⟩ := ptc3 K0.out
    go_wp2_with fail
    refine (CO.out _ B0.out).mono ?_
    rintro e w2 ⟨rfl, hb3⟩
    have B2 := Lib.hid (B0.out.trans (hb3.mono B0.out.size))
    have K5 := Lib.hid (K0.out.below hb3 K0.out.lt)
    have K6 := Lib.hid (K1.out.below hb3 K1.out.lt)
    have H2Z := Lib.hid (show w.heap.size + 2 ≤ w2.heap.size by have := HZ.out; have := hb3.size; omega)
    clear hb3 kA kE kL
    have HB2 := Lib.hid (show Below w.heap.size w w2 from B2.out)
    have CO2 := Lib.hid (fun w' (hb : Below w2.heap.size w2 w') => CO.out w' (B2.out.trans (hb.mono B2.out.size)))
    have CS2 := Lib.hid (fun t w' (hb : Below w2.heap.size w2 w') => CS.out t w' (B2.out.trans (hb.mono B2.out.size)))
    go_upto_region 5 with fail
    refine GH.wp_ghlz (M := false) 9 8 ((GH.SP.eq (.agg #[.int .i64 (all : Nat), .int .i64 (each : Nat), .slice A n c])) :: (GH.SP.eq (.int .i64 id)) :: (GH.SP.eq (.agg #[.int .i64 (all : Nat), .int .i64 (each : Nat), .slice A n c])) :: (GH.SP.eq (.int .i64 id)) :: (GH.SP.eq (.int .i64 (v : Nat))) :: (GH.SP.eq (.int .i64 0)) :: (GH.SP.eq (.int .i64 (v : Nat))) :: (SPrq all each (setQ L id v) w2.heap.size) :: (GH.SP.eq (.int .i64 0)) :: []) (none :: none :: none :: none :: none :: none :: none :: none :: none :: none :: none :: none :: none :: none :: none :: none :: none :: none :: (some 0) :: (some 1) :: (some 2) :: (some 3) :: (some 4) :: (some 5) :: (some 6) :: (some 7) :: (some 8) :: []) [18, 19, 20, 21, 22, 23, 24, 25, 26] (by rfl) (by kernel_rfl) (by kernel_rfl) ?_ ?_ ?_ ?_
    · intro S jx v hjx
      match jx, hjx with
      | 0, _ => rfl
      | 1, _ => rfl
      | 2, _ => rfl
      | 3, _ => rfl
      | 4, _ => rfl
      | 5, _ => rfl
      | 6, _ => rfl
      | 7, _ => rfl
      | 8, _ => rfl
      | nx + 9, hjx => omega
    · intro jx hjx S w' hb hd
      match jx, hjx, hd with
      | 0, _, hd =>
        simp only [GH.mkL, List.getD_cons_succ, List.getD_cons_zero]
        clear hd
        exact GH.st_loads _ [.int .i64 (all : Nat), .int .i64 (each : Nat), .slice A n c] (by rfl) rfl rfl (((K5.out.below hb.below K5.out.lt)).loads 0 _ (by rfl)) (by kernel_rfl) (by kernel_rfl)
      | 1, _, hd =>
        simp only [GH.mkL, List.getD_cons_succ, List.getD_cons_zero]
        clear hd
        refine GH.st_eq (by rfl) ?_
        go_simp
        (try with_reducible rfl)
      | 2, _, hd =>
        simp only [GH.mkL, List.getD_cons_succ, List.getD_cons_zero]
        clear hd
        exact GH.st_loads _ [.int .i64 (all : Nat), .int .i64 (each : Nat), .slice A n c] (by rfl) rfl rfl (((K5.out.below hb.below K5.out.lt)).loads 0 _ (by rfl)) (by kernel_rfl) (by kernel_rfl)
      | 3, _, hd =>
        simp only [GH.mkL, List.getD_cons_succ, List.getD_cons_zero]
        clear hd
        refine GH.st_eq (by rfl) ?_
        go_simp
        (try with_reducible rfl)
      | 4, _, hd =>
        simp only [GH.mkL, List.getD_cons_succ, List.getD_cons_zero]
        have d2 : S 2 = .agg #[.int .i64 (all : Nat), .int .i64 (each : Nat), .slice A n c] := (hd 2 (by kernel_rfl)).2
        rw [d2]
        clear d2
        have d3 : S 3 = .int .i64 id := (hd 3 (by kernel_rfl)).2
        rw [d3]
        clear d3
        clear hd
        refine GH.st_call (by rfl) hb.below.size (by go_simp) ((CO2.out w' hb.below).mono ?_)
        rintro e w9 ⟨rfl, hb9⟩
        exact ⟨_, rfl, hb9, rfl⟩
      | 5, _, hd =>
        simp only [GH.mkL, List.getD_cons_succ, List.getD_cons_zero]
        clear hd
        refine GH.st_eq (by rfl) ?_
        go_simp
        (try with_reducible rfl)
      | 6, _, hd =>
        simp only [GH.mkL, List.getD_cons_succ, List.getD_cons_zero]
        have d4 : S 4 = .int .i64 (v : Nat) := (hd 4 (by kernel_rfl)).2
        rw [d4]
        clear d4
        have d5 : S 5 = .int .i64 0 := (hd 5 (by kernel_rfl)).2
        rw [d5]
        clear d5
        clear hd
        refine GH.st_eq (by rfl) ?_
        go_simp
        (try simp only [hwt])
        (try with_reducible rfl)
      | 7, _, hd =>
        simp only [GH.mkL, List.getD_cons_succ, List.getD_cons_zero]
        have d0 : S 0 = .agg #[.int .i64 (all : Nat), .int .i64 (each : Nat), .slice A n c] := (hd 0 (by kernel_rfl)).2
        rw [d0]
        clear d0
        have d1 : S 1 = .int .i64 id := (hd 1 (by kernel_rfl)).2
        rw [d1]
        clear d1
        have d4 : S 4 = .int .i64 (v : Nat) := (hd 4 (by kernel_rfl)).2
        rw [d4]
        clear d4
        have d6 : S 6 = .int .i64 (v : Nat) := (hd 6 (by kernel_rfl)).2
        rw [d6]
        clear d6
        clear hd
        refine GH.st_call (by rfl) hb.below.size (by go_simp) ((CS2.out v w' hb.below).mono ?_)
        rintro e w9 ⟨A9, n9, c9, rfl, hR9, hF9, hb9⟩
        exact ⟨_, rfl, hb9, ⟨A9, n9, c9, rfl, hR9, hF9.mono hb.below.size⟩⟩
      | 8, _, hd =>
        simp only [GH.mkL, List.getD_cons_succ, List.getD_cons_zero]
        clear hd
        refine GH.st_eq (by rfl) ?_
        go_simp
        (try with_reducible rfl)
      | nx + 9, hjx, _ => omega
    · intro S w' hb hd
      simp only [GH.mkL, List.getD_cons_succ, List.getD_cons_zero]
      refine ⟨.int .i64 0, rfl, fun w9 => ?_⟩
      go_simp
      (try with_reducible rfl)
    intro S w' hb hG
    obtain ⟨A2, n2, c2, dV, hR2, hF2⟩ := hG 7 (by omega) (by decide)
    unfold RPv at dV
    have KZ := K6.out.below hb.below K6.out.lt
    refine ⟨w'.setCells (w.heap.size + 1) 0 #[.int .i64 (all : Nat), .int .i64 (each : Nat), .slice A2 n2 c2].toList, fun vz K Q9 hK => ?_, fun vz gv => ?_⟩
    · refine wp_store_mid 27 _ _ rfl (w.heap.size + 1) 0 #[.int .i64 (all : Nat), .int .i64 (each : Nat), .slice A2 n2 c2] (by rfl) (show S 7 = _ from dV) (KZ.there (by simp)) (by kernel_rfl) (by simp [Value.oneCell']) ?_
      exact hK
    have uZ : GH.upd S 8 vz 8 = .int .i64 0 := gv
    have hs : Solo (w.heap.size + 1) w' (w'.setCells (w.heap.size + 1) 0 #[.int .i64 (all : Nat), .int .i64 (each : Nat), .slice A2 n2 c2].toList) := Solo.refl.setCells _ _
    replace KZ : Blk (w'.setCells (w.heap.size + 1) 0 #[.int .i64 (all : Nat), .int .i64 (each : Nat), .slice A2 n2 c2].toList) (w.heap.size + 1) 27 #[.int .i64 (all : Nat), .int .i64 (each : Nat), .slice A2 n2 c2] := KZ.setCells _ _
    generalize w'.setCells (w.heap.size + 1) 0 #[.int .i64 (all : Nat), .int .i64 (each : Nat), .slice A2 n2 c2].toList = w9 at hs KZ ⊢
    generalize GH.upd S 8 vz = S9 at *
    simp only [GH.mkL, List.drop_succ_cons, List.drop_zero]
    rw [uZ]
    clear uZ gv dV hG
    have K8 := KZ
    have hbw := hb.below
    clear hb
    go_wp2_with fail
    obtain ⟨q0, q1, q2⟩ := ptc3 K8
    refine bodyPost_ret (v := .tuple #[.agg #[.int .i64 (all : Nat), .int .i64 (each : Nat), .slice A2 n2 c2], .int .i64 0]) (by simp [results, Try.results7, go_sem, q0, q1, q2]) rfl ?_
    rw [HG.out, HTL.out]
    have BW := B2.out.trans (hbw.mono B2.out.size)
    exact ⟨A2, n2, c2, rfl, hR2.solo hs (fun a ha _ e => by have := hF2 a ha; have := H2Z.out; omega), BW.trans (hs.1.mono (by omega))⟩
  obtain ⟨m, rfl⟩ : ∃ m : Nat, k = (m : Int) := ⟨k.toNat, by omega⟩
  by_cases h1 : v < m
  · have h1' : (v : Int) < (m : Int) := by omega
    have hg : gvN L id (m : Int) = v := by rw [HV.out]; exact clN_hi (by omega) (by rw [← HV.out]; omega)
    have HTL := Lib.hid (show gvL L id (m : Int) = setQ L id 0 by unfold gvL; rw [hg, ← HV.out, Nat.sub_self])
    have HG := Lib.hid (show ((gvN L id (m : Int) : Nat) : Int) = (v : Nat) by rw [hg])
    have hw0 : IntKind.i64.wrap 0 = 0 := by decide
    clear hg
    go_enter Try.func7, Try.ntmps7
    go_wp2_with fail
    have hb0 := (Below.refl w.heap.size w).alloc (Nat.le_refl _) (.cells #[.int .i64 (all : Nat), .int .i64 (each : Nat), .slice A n c] 27)
    have hk0 := Blk.new w 27 #[.int .i64 (all : Nat), .int .i64 (each : Nat), .slice A n c]
    have hz1 : (w.alloc (.cells #[.int .i64 (all : Nat), .int .i64 (each : Nat), .slice A n c] 27)).heap.size = w.heap.size + 1 := by simp
    have hk1 := Blk.new (w.alloc (.cells #[.int .i64 (all : Nat), .int .i64 (each : Nat), .slice A n c] 27)) 27 #[.int .i64 0, .int .i64 0, .slice none 0 0]
    rw [hz1] at hk1
    have hk0 := hk0.alloc (.cells #[.int .i64 0, .int .i64 0, .slice none 0 0] 27)
    have hb0 := hb0.alloc (show w.heap.size ≤ (w.alloc (.cells #[.int .i64 (all : Nat), .int .i64 (each : Nat), .slice A n c] 27)).heap.size by omega) (.cells #[.int .i64 0, .int .i64 0, .slice none 0 0] 27)
    have hz2 : ((w.alloc (.cells #[.int .i64 (all : Nat), .int .i64 (each : Nat), .slice A n c] 27)).alloc (.cells #[.int .i64 0, .int .i64 0, .slice none 0 0] 27)).heap.size = w.heap.size + 2 := by simp
    have K0 := Lib.hid hk0
    have K1 := Lib.hid hk1
    have B0 := Lib.hid hb0
    have HZ := Lib.hid hz2
    clear hk0 hb0 hk1 hz1 hz2
    generalize (w.alloc (.cells #[.int .i64 (all : Nat), .int .i64 (each : Nat), .slice A n c] 27)).alloc (.cells #[.int .i64 0, .int .i64 0, .slice none 0 0] 27) = w1 at K0 K1 B0 HZ ⊢
    obtain ⟨kA, kE, kL⟩ := ptc3 K0.out
    go_wp2_with fail
    refine (CO.out _ B0.out).mono ?_
    rintro e w3 ⟨rfl, hb3⟩
    have B3 := Lib.hid (B0.out.trans (hb3.mono B0.out.size))
    have K5 := Lib.hid (K0.out.below hb3 K0.out.lt)
    have K6 := Lib.hid (K1.out.below hb3 K1.out.lt)
    have H3Z := Lib.hid (show w.heap.size + 2 ≤ w3.heap.size by have := HZ.out; have := hb3.size; omega)
    clear hb3 kA kE kL
    obtain ⟨kA, kE, kL⟩ := ptc3 K5.out
    go_wp2_with fail
    refine (CO.out _ B3.out).mono ?_
    rintro e w2 ⟨rfl, hb3⟩
    have B2 := Lib.hid (B3.out.trans (hb3.mono B3.out.size))
    have K7 := Lib.hid (K5.out.below hb3 K5.out.lt)
    have K8 := Lib.hid (K6.out.below hb3 K6.out.lt)
    have H2Z := Lib.hid (show w.heap.size + 2 ≤ w2.heap.size by have := H3Z.out; have := hb3.size; omega)
    clear hb3 kA kE kL K5 K6
    have K5 := K7
    have K6 := K8
    clear K7 K8
    have HB2 := Lib.hid (show Below w.heap.size w w2 from B2.out)
    have CO2 := Lib.hid (fun w' (hb : Below w2.heap.size w2 w') => CO.out w' (B2.out.trans (hb.mono B2.out.size)))
    have CS2 := Lib.hid (fun t w' (hb : Below w2.heap.size w2 w') => CS.out t w' (B2.out.trans (hb.mono B2.out.size)))
    go_upto_region 5 with fail
    refine GH.wp_ghlz (M := false) 9 8 ((GH.SP.eq (.agg #[.int .i64 (all : Nat), .int .i64 (each : Nat), .slice A n c])) :: (GH.SP.eq (.int .i64 id)) :: (GH.SP.eq (.agg #[.int .i64 (all : Nat), .int .i64 (each : Nat), .slice A n c])) :: (GH.SP.eq (.int .i64 id)) :: (GH.SP.eq (.int .i64 (v : Nat))) :: (GH.SP.eq (.int .i64 (v : Nat))) :: (GH.SP.eq (.int .i64 (0 : Nat))) :: (SPrq all each (setQ L id 0) w2.heap.size) :: (GH.SP.eq (.int .i64 (v : Nat))) :: []) (none :: none :: none :: none :: none :: none :: none :: none :: none :: none :: none :: none :: none :: none :: none :: none :: none :: none :: (some 0) :: (some 1) :: (some 2) :: (some 3) :: (some 4) :: (some 5) :: (some 6) :: (some 7) :: (some 8) :: []) [18, 19, 20, 21, 22, 23, 24, 25, 26] (by rfl) (by kernel_rfl) (by kernel_rfl) ?_ ?_ ?_ ?_
    · intro S jx v hjx
      match jx, hjx with
      | 0, _ => rfl
      | 1, _ => rfl
      | 2, _ => rfl
      | 3, _ => rfl
      | 4, _ => rfl
      | 5, _ => rfl
      | 6, _ => rfl
      | 7, _ => rfl
      | 8, _ => rfl
      | nx + 9, hjx => omega
    · intro jx hjx S w' hb hd
      match jx, hjx, hd with
      | 0, _, hd =>
        simp only [GH.mkL, List.getD_cons_succ, List.getD_cons_zero]
        clear hd
        exact GH.st_loads _ [.int .i64 (all : Nat), .int .i64 (each : Nat), .slice A n c] (by rfl) rfl rfl (((K5.out.below hb.below K5.out.lt)).loads 0 _ (by rfl)) (by kernel_rfl) (by kernel_rfl)
      | 1, _, hd =>
        simp only [GH.mkL, List.getD_cons_succ, List.getD_cons_zero]
        clear hd
        refine GH.st_eq (by rfl) ?_
        go_simp
        (try with_reducible rfl)
      | 2, _, hd =>
        simp only [GH.mkL, List.getD_cons_succ, List.getD_cons_zero]
        clear hd
        exact GH.st_loads _ [.int .i64 (all : Nat), .int .i64 (each : Nat), .slice A n c] (by rfl) rfl rfl (((K5.out.below hb.below K5.out.lt)).loads 0 _ (by rfl)) (by kernel_rfl) (by kernel_rfl)
      | 3, _, hd =>
        simp only [GH.mkL, List.getD_cons_succ, List.getD_cons_zero]
        clear hd
        refine GH.st_eq (by rfl) ?_
        go_simp
        (try with_reducible rfl)
      | 4, _, hd =>
        simp only [GH.mkL, List.getD_cons_succ, List.getD_cons_zero]
        have d2 : S 2 = .agg #[.int .i64 (all : Nat), .int .i64 (each : Nat), .slice A n c] := (hd 2 (by kernel_rfl)).2
        rw [d2]
        clear d2
        have d3 : S 3 = .int .i64 id := (hd 3 (by kernel_rfl)).2
        rw [d3]
        clear d3
        clear hd
        refine GH.st_call (by rfl) hb.below.size (by go_simp) ((CO2.out w' hb.below).mono ?_)
        rintro e w9 ⟨rfl, hb9⟩
        exact ⟨_, rfl, hb9, rfl⟩
      | 5, _, hd =>
        simp only [GH.mkL, List.getD_cons_succ, List.getD_cons_zero]
        clear hd
        refine GH.st_eq (by rfl) ?_
        go_simp
        (try with_reducible rfl)
      | 6, _, hd =>
        simp only [GH.mkL, List.getD_cons_succ, List.getD_cons_zero]
        have d4 : S 4 = .int .i64 (v : Nat) := (hd 4 (by kernel_rfl)).2
        rw [d4]
        clear d4
        have d5 : S 5 = .int .i64 (v : Nat) := (hd 5 (by kernel_rfl)).2
        rw [d5]
        clear d5
        clear hd
        refine GH.st_eq (by rfl) ?_
        go_simp
        (try simp only [hw0])
        (try with_reducible rfl)
      | 7, _, hd =>
        simp only [GH.mkL, List.getD_cons_succ, List.getD_cons_zero]
        have d0 : S 0 = .agg #[.int .i64 (all : Nat), .int .i64 (each : Nat), .slice A n c] := (hd 0 (by kernel_rfl)).2
        rw [d0]
        clear d0
        have d1 : S 1 = .int .i64 id := (hd 1 (by kernel_rfl)).2
        rw [d1]
        clear d1
        have d4 : S 4 = .int .i64 (v : Nat) := (hd 4 (by kernel_rfl)).2
        rw [d4]
        clear d4
        have d6 : S 6 = .int .i64 (0 : Nat) := (hd 6 (by kernel_rfl)).2
        rw [d6]
        clear d6
        clear hd
        refine GH.st_call (by rfl) hb.below.size (by go_simp) ((CS2.out 0 w' hb.below).mono ?_)
        rintro e w9 ⟨A9, n9, c9, rfl, hR9, hF9, hb9⟩
        exact ⟨_, rfl, hb9, ⟨A9, n9, c9, rfl, hR9, hF9.mono hb.below.size⟩⟩
      | 8, _, hd =>
        simp only [GH.mkL, List.getD_cons_succ, List.getD_cons_zero]
        clear hd
        refine GH.st_eq (by rfl) ?_
        go_simp
        (try with_reducible rfl)
      | nx + 9, hjx, _ => omega
    · intro S w' hb hd
      simp only [GH.mkL, List.getD_cons_succ, List.getD_cons_zero]
      refine ⟨.int .i64 (v : Nat), rfl, fun w9 => ?_⟩
      go_simp
      (try with_reducible rfl)
    intro S w' hb hG
    obtain ⟨A2, n2, c2, dV, hR2, hF2⟩ := hG 7 (by omega) (by decide)
    unfold RPv at dV
    have KZ := K6.out.below hb.below K6.out.lt
    refine ⟨w'.setCells (w.heap.size + 1) 0 #[.int .i64 (all : Nat), .int .i64 (each : Nat), .slice A2 n2 c2].toList, fun vz K Q9 hK => ?_, fun vz gv => ?_⟩
    · refine wp_store_mid 27 _ _ rfl (w.heap.size + 1) 0 #[.int .i64 (all : Nat), .int .i64 (each : Nat), .slice A2 n2 c2] (by rfl) (show S 7 = _ from dV) (KZ.there (by simp)) (by kernel_rfl) (by simp [Value.oneCell']) ?_
      exact hK
    have uZ : GH.upd S 8 vz 8 = .int .i64 (v : Nat) := gv
    have hs : Solo (w.heap.size + 1) w' (w'.setCells (w.heap.size + 1) 0 #[.int .i64 (all : Nat), .int .i64 (each : Nat), .slice A2 n2 c2].toList) := Solo.refl.setCells _ _
    replace KZ : Blk (w'.setCells (w.heap.size + 1) 0 #[.int .i64 (all : Nat), .int .i64 (each : Nat), .slice A2 n2 c2].toList) (w.heap.size + 1) 27 #[.int .i64 (all : Nat), .int .i64 (each : Nat), .slice A2 n2 c2] := KZ.setCells _ _
    generalize w'.setCells (w.heap.size + 1) 0 #[.int .i64 (all : Nat), .int .i64 (each : Nat), .slice A2 n2 c2].toList = w9 at hs KZ ⊢
    generalize GH.upd S 8 vz = S9 at *
    simp only [GH.mkL, List.drop_succ_cons, List.drop_zero]
    rw [uZ]
    clear uZ gv dV hG
    have K8 := KZ
    have hbw := hb.below
    clear hb
    go_wp2_with fail
    obtain ⟨q0, q1, q2⟩ := ptc3 K8
    refine bodyPost_ret (v := .tuple #[.agg #[.int .i64 (all : Nat), .int .i64 (each : Nat), .slice A2 n2 c2], .int .i64 (v : Nat)]) (by simp [results, Try.results7, go_sem, q0, q1, q2]) rfl ?_
    rw [HG.out, HTL.out]
    have BW := B2.out.trans (hbw.mono B2.out.size)
    exact ⟨A2, n2, c2, rfl, hR2.solo hs (fun a ha _ e => by have := hF2 a ha; have := H2Z.out; omega), BW.trans (hs.1.mono (by omega))⟩
  · have h1' : ¬ (v : Int) < (m : Int) := by omega
    obtain ⟨t, ht⟩ : ∃ t, t = v - m := ⟨_, rfl⟩
    have hg : gvN L id (m : Int) = m := clN_of (Nat.zero_le _) (by rw [← HV.out]; omega)
    have HTL := Lib.hid (show gvL L id (m : Int) = setQ L id t by unfold gvL; rw [hg, ← HV.out, ht])
    have HG := Lib.hid (show ((gvN L id (m : Int) : Nat) : Int) = (m : Nat) by rw [hg])
    have hti : (v : Int) - (m : Int) = (t : Nat) := by omega
    have hwt : IntKind.i64.wrap (t : Int) = (t : Nat) := by rw [IntKind.wrap_i64]; omega
    clear hg ht
    go_enter Try.func7, Try.ntmps7
    go_wp2_with fail
    have hb0 := (Below.refl w.heap.size w).alloc (Nat.le_refl _) (.cells #[.int .i64 (all : Nat), .int .i64 (each : Nat), .slice A n c] 27)
    have hk0 := Blk.new w 27 #[.int .i64 (all : Nat), .int .i64 (each : Nat), .slice A n c]
    have hz1 : (w.alloc (.cells #[.int .i64 (all : Nat), .int .i64 (each : Nat), .slice A n c] 27)).heap.size = w.heap.size + 1 := by simp
    have hk1 := Blk.new (w.alloc (.cells #[.int .i64 (all : Nat), .int .i64 (each : Nat), .slice A n c] 27)) 27 #[.int .i64 0, .int .i64 0, .slice none 0 0]
    rw [hz1] at hk1
    have hk0 := hk0.alloc (.cells #[.int .i64 0, .int .i64 0, .slice none 0 0] 27)
    have hb0 := hb0.alloc (show w.heap.size ≤ (w.alloc (.cells #[.int .i64 (all : Nat), .int .i64 (each : Nat), .slice A n c] 27)).heap.size by omega) (.cells #[.int .i64 0, .int .i64 0, .slice none 0 0] 27)
    have hz2 : ((w.alloc (.cells #[.int .i64 (all : Nat), .int .i64 (each : Nat), .slice A n c] 27)).alloc (.cells #[.int .i64 0, .int .i64 0, .slice none 0 0] 27)).heap.size = w.heap.size + 2 := by simp
    have K0 := Lib.hid hk0
    have K1 := Lib.hid hk1
    have B0 := Lib.hid hb0
    have HZ := Lib.hid hz2
    clear hk0 hb0 hk1 hz1 hz2
    generalize (w.alloc (.cells #[.int .i64 (all : Nat), .int .i64 (each : Nat), .slice A n c] 27)).alloc (.cells #[.int .i64 0, .int .i64 0, .slice none 0 0] 27) = w1 at K0 K1 B0 HZ ⊢
    obtain ⟨kA, kE, kL⟩ := ptc3 K0.out
    go_wp2_with fail
    refine (CO.out _ B0.out).mono ?_
    rintro e w2 ⟨rfl, hb3⟩
    have B2 := Lib.hid (B0.out.trans (hb3.mono B0.out.size))
    have K5 := Lib.hid (K0.out.below hb3 K0.out.lt)
    have K6 := Lib.hid (K1.out.below hb3 K1.out.lt)
    have H2Z := Lib.hid (show w.heap.size + 2 ≤ w2.heap.size by have := HZ.out; have := hb3.size; omega)
    clear hb3 kA kE kL
    have HB2 := Lib.hid (show Below w.heap.size w w2 from B2.out)
    have CO2 := Lib.hid (fun w' (hb : Below w2.heap.size w2 w') => CO.out w' (B2.out.trans (hb.mono B2.out.size)))
    have CS2 := Lib.hid (fun t w' (hb : Below w2.heap.size w2 w') => CS.out t w' (B2.out.trans (hb.mono B2.out.size)))
    go_upto_region 5 with fail
    refine GH.wp_ghlz (M := false) 9 8 ((GH.SP.eq (.agg #[.int .i64 (all : Nat), .int .i64 (each : Nat), .slice A n c])) :: (GH.SP.eq (.int .i64 id)) :: (GH.SP.eq (.agg #[.int .i64 (all : Nat), .int .i64 (each : Nat), .slice A n c])) :: (GH.SP.eq (.int .i64 id)) :: (GH.SP.eq (.int .i64 (v : Nat))) :: (GH.SP.eq (.int .i64 (m : Nat))) :: (GH.SP.eq (.int .i64 (t : Nat))) :: (SPrq all each (setQ L id t) w2.heap.size) :: (GH.SP.eq (.int .i64 (m : Nat))) :: []) (none :: none :: none :: none :: none :: none :: none :: none :: none :: none :: none :: none :: none :: none :: none :: none :: none :: none :: (some 0) :: (some 1) :: (some 2) :: (some 3) :: (some 4) :: (some 5) :: (some 6) :: (some 7) :: (some 8) :: []) [18, 19, 20, 21, 22, 23, 24, 25, 26] (by rfl) (by kernel_rfl) (by kernel_rfl) ?_ ?_ ?_ ?_
    · intro S jx v hjx
      match jx, hjx with
      | 0, _ => rfl
      | 1, _ => rfl
      | 2, _ => rfl
      | 3, _ => rfl
      | 4, _ => rfl
      | 5, _ => rfl
      | 6, _ => rfl
      | 7, _ => rfl
      | 8, _ => rfl
      | nx + 9, hjx => omega
    · intro jx hjx S w' hb hd
      match jx, hjx, hd with
      | 0, _, hd =>
        simp only [GH.mkL, List.getD_cons_succ, List.getD_cons_zero]
        clear hd
        exact GH.st_loads _ [.int .i64 (all : Nat), .int .i64 (each : Nat), .slice A n c] (by rfl) rfl rfl (((K5.out.below hb.below K5.out.lt)).loads 0 _ (by rfl)) (by kernel_rfl) (by kernel_rfl)
      | 1, _, hd =>
        simp only [GH.mkL, List.getD_cons_succ, List.getD_cons_zero]
        clear hd
        refine GH.st_eq (by rfl) ?_
        go_simp
        (try with_reducible rfl)
      | 2, _, hd =>
        simp only [GH.mkL, List.getD_cons_succ, List.getD_cons_zero]
        clear hd
        exact GH.st_loads _ [.int .i64 (all : Nat), .int .i64 (each : Nat), .slice A n c] (by rfl) rfl rfl (((K5.out.below hb.below K5.out.lt)).loads 0 _ (by rfl)) (by kernel_rfl) (by kernel_rfl)
      | 3, _, hd =>
        simp only [GH.mkL, List.getD_cons_succ, List.getD_cons_zero]
        clear hd
        refine GH.st_eq (by rfl) ?_
        go_simp
        (try with_reducible rfl)
      | 4, _, hd =>
        simp only [GH.mkL, List.getD_cons_succ, List.getD_cons_zero]
        have d2 : S 2 = .agg #[.int .i64 (all : Nat), .int .i64 (each : Nat), .slice A n c] := (hd 2 (by kernel_rfl)).2
        rw [d2]
        clear d2
        have d3 : S 3 = .int .i64 id := (hd 3 (by kernel_rfl)).2
        rw [d3]
        clear d3
        clear hd
        refine GH.st_call (by rfl) hb.below.size (by go_simp) ((CO2.out w' hb.below).mono ?_)
        rintro e w9 ⟨rfl, hb9⟩
        exact ⟨_, rfl, hb9, rfl⟩
      | 5, _, hd =>
        simp only [GH.mkL, List.getD_cons_succ, List.getD_cons_zero]
        clear hd
        refine GH.st_eq (by rfl) ?_
        go_simp
        (try with_reducible rfl)
      | 6, _, hd =>
        simp only [GH.mkL, List.getD_cons_succ, List.getD_cons_zero]
        have d4 : S 4 = .int .i64 (v : Nat) := (hd 4 (by kernel_rfl)).2
        rw [d4]
        clear d4
        have d5 : S 5 = .int .i64 (m : Nat) := (hd 5 (by kernel_rfl)).2
        rw [d5]
        clear d5
        clear hd
        refine GH.st_eq (by rfl) ?_
        go_simp
        (try simp only [hti, hwt])
        (try with_reducible rfl)
      | 7, _, hd =>
        simp only [GH.mkL, List.getD_cons_succ, List.getD_cons_zero]
        have d0 : S 0 = .agg #[.int .i64 (all : Nat), .int .i64 (each : Nat), .slice A n c] := (hd 0 (by kernel_rfl)).2
        rw [d0]
        clear d0
        have d1 : S 1 = .int .i64 id := (hd 1 (by kernel_rfl)).2
        rw [d1]
        clear d1
        have d4 : S 4 = .int .i64 (v : Nat) := (hd 4 (by kernel_rfl)).2
        rw [d4]
        clear d4
        have d6 : S 6 = .int .i64 (t : Nat) := (hd 6 (by kernel_rfl)).2
        rw [d6]
        clear d6
        clear hd
        refine GH.st_call (by rfl) hb.below.size (by go_simp) ((CS2.out t w' hb.below).mono ?_)
        rintro e w9 ⟨A9, n9, c9, rfl, hR9, hF9, hb9⟩
        exact ⟨_, rfl, hb9, ⟨A9, n9, c9, rfl, hR9, hF9.mono hb.below.size⟩⟩
      | 8, _, hd =>
        simp only [GH.mkL, List.getD_cons_succ, List.getD_cons_zero]
        clear hd
        refine GH.st_eq (by rfl) ?_
        go_simp
        (try with_reducible rfl)
      | nx + 9, hjx, _ => omega
    · intro S w' hb hd
      simp only [GH.mkL, List.getD_cons_succ, List.getD_cons_zero]
      refine ⟨.int .i64 (m : Nat), rfl, fun w9 => ?_⟩
      go_simp
      (try with_reducible rfl)
    intro S w' hb hG
    obtain ⟨A2, n2, c2, dV, hR2, hF2⟩ := hG 7 (by omega) (by decide)
    unfold RPv at dV
    have KZ := K6.out.below hb.below K6.out.lt
    refine ⟨w'.setCells (w.heap.size + 1) 0 #[.int .i64 (all : Nat), .int .i64 (each : Nat), .slice A2 n2 c2].toList, fun vz K Q9 hK => ?_, fun vz gv => ?_⟩
    · refine wp_store_mid 27 _ _ rfl (w.heap.size + 1) 0 #[.int .i64 (all : Nat), .int .i64 (each : Nat), .slice A2 n2 c2] (by rfl) (show S 7 = _ from dV) (KZ.there (by simp)) (by kernel_rfl) (by simp [Value.oneCell']) ?_
      exact hK
    have uZ : GH.upd S 8 vz 8 = .int .i64 (m : Nat) := gv
    have hs : Solo (w.heap.size + 1) w' (w'.setCells (w.heap.size + 1) 0 #[.int .i64 (all : Nat), .int .i64 (each : Nat), .slice A2 n2 c2].toList) := Solo.refl.setCells _ _
    replace KZ : Blk (w'.setCells (w.heap.size + 1) 0 #[.int .i64 (all : Nat), .int .i64 (each : Nat), .slice A2 n2 c2].toList) (w.heap.size + 1) 27 #[.int .i64 (all : Nat), .int .i64 (each : Nat), .slice A2 n2 c2] := KZ.setCells _ _
    generalize w'.setCells (w.heap.size + 1) 0 #[.int .i64 (all : Nat), .int .i64 (each : Nat), .slice A2 n2 c2].toList = w9 at hs KZ ⊢
    generalize GH.upd S 8 vz = S9 at *
    simp only [GH.mkL, List.drop_succ_cons, List.drop_zero]
    rw [uZ]
    clear uZ gv dV hG
    have K8 := KZ
    have hbw := hb.below
    clear hb
    go_wp2_with fail
    obtain ⟨q0, q1, q2⟩ := ptc3 K8
    refine bodyPost_ret (v := .tuple #[.agg #[.int .i64 (all : Nat), .int .i64 (each : Nat), .slice A2 n2 c2], .int .i64 (m : Nat)]) (by simp [results, Try.results7, go_sem, q0, q1, q2]) rfl ?_
    rw [HG.out, HTL.out]
    have BW := B2.out.trans (hbw.mono B2.out.size)
    exact ⟨A2, n2, c2, rfl, hR2.solo hs (fun a ha _ e => by have := hF2 a ha; have := H2Z.out; omega), BW.trans (hs.1.mono (by omega))⟩
end Go.Proofs.Ytonindjpbegdgaa
