/- Package hist: Join. -/
import Derived.Test.YtioebcjhmfndnaaHi4
namespace Go.Proofs.Ytioebcjhmfndnaa
open Go.RowKit
set_option linter.unusedVariables false
set_option linter.unusedSimpArgs false
set_option maxRecDepth 20000 in
set_option maxHeartbeats 4000000 in
theorem h_join_nil (p : Value) (w : World) : Calls Try.prog 12 #[p, .pointer none] w fun e w' => e = .returned (.tuple #[]) ∧ w' = w := by
  go_enter Try.func12, Try.ntmps12
  go_wp2_with fail
  refine bodyPost_ret (v := .tuple #[]) (by kernel_rfl) rfl ?_
  exact ⟨rfl, rfl⟩
set_option maxRecDepth 20000 in
set_option maxHeartbeats 4000000 in
theorem h_join (g k s s2 : Nat) (f f2 : Nat → Nat) (w : World) (h : HF w g f s) (h2 : HF w k f2 s2) (hgk : g ≠ k) (hf : ∀ r, r < 120 → f r ≤ 100000000) (hf2 : ∀ r, r < 120 → f2 r ≤ 100000000) (hs : s ≤ 200000000000000000) (hs2 : s2 ≤ 200000000000000000) :
    Calls Try.prog 12 #[.pointer (some ⟨g, 0, none⟩), .pointer (some ⟨k, 0, none⟩)] w fun e w' => e = .returned (.tuple #[]) ∧ HF w' g (fun r => f r + f2 r) (s + s2) ∧ Tou g w w' := by
  have HLD := Lib.hid (show w.rangeAt k 0 (HRow f2) from h2.loads)
  have HSZ := Lib.hid (hsize f2)
  have HI := Lib.hid (fun (i : Nat) (hi : i < 120) (w' : World) => hindex f2 hi w')
  obtain ⟨R, hR⟩ : ∃ R, R = HRow f2 := ⟨_, rfl⟩
  rw [← hR] at HLD HI HSZ
  obtain ⟨z, hz⟩ : ∃ z, z = s + s2 := ⟨_, rfl⟩
  have hzi : (s : Int) + (s2 : Int) = (z : Nat) := by omega
  have hwz : IntKind.i64.wrap (z : Int) = (z : Nat) := by rw [IntKind.wrap_i64]; omega
  have H := Lib.hid h
  have H2 := Lib.hid h2
  have HF1 := Lib.hid hf
  have HF2 := Lib.hid hf2
  have HGK := Lib.hid hgk
  rw [← hz]
  clear h h2 hR hf hf2 hs hs2 hgk hz
  go_enter Try.func12, Try.ntmps12
  go_wp2_with fail
  refine wp_load_mid 26 _ rfl k 0 rfl R _ HLD.out Try.underlying26 rfl HSZ.out ?_
  clear HLD
  go_wp2_with fail
  have HH0 := Lib.hid (show HF w g (fun r => if r < 0 then f r + f2 r else f r) s from H.out.same fun r _ => by rw [if_neg (by omega)])
  go_loopw [12] (fun iv wr => ∃ (i : Nat), i ≤ 120 ∧ iv = .int .i64 (i : Nat) ∧ Hid (HF wr g (fun r => if r < i then f r + f2 r else f r) s) ∧ Hid (Tou g w wr)) (fun iv _ => 120 - (intOf iv).toNat)
  case atStart => exact ⟨0, by omega, rfl, HH0, Lib.hid (Tou.refl _ _)⟩
  case round =>
    clear HH0
    obtain ⟨i, hi, rfl, HH, TT⟩ := hrel
    by_cases hlt : i < 120
    · have hlt' : (i : Int) < 120 := by omega
      have hi0 : ¬ (i : Int) < 0 := by omega
      have hix := HI.out i hlt wr
      have q1 := HF1.out i hlt
      have q2 := HF2.out i hlt
      obtain ⟨v, hv⟩ : ∃ v, v = f2 i := ⟨_, rfl⟩
      obtain ⟨u, hu⟩ : ∃ u, u = f i := ⟨_, rfl⟩
      obtain ⟨t, ht⟩ : ∃ t, t = u + v := ⟨_, rfl⟩
      rw [← hv] at hix q2
      rw [← hu] at q1
      have hti : (u : Int) + (v : Int) = (t : Nat) := by omega
      have hwt : IntKind.i64.wrap (t : Int) = (t : Nat) := by rw [IntKind.wrap_i64]; omega
      have HU := Lib.hid hu
      have HT := Lib.hid (show t = f i + f2 i by rw [ht, hu, hv])
      clear hv hu ht q1 q2
      go_upto_region 4 with fail
      refine GH.wp_ghl2 (M := false) 11 ((GH.SP.eq (.pointer (some ⟨g, 0, none⟩))) :: (GH.SP.eq (.int .i64 (i : Nat))) :: (GH.SP.eq (.pointer (some ⟨g, 0, none⟩))) :: (GH.SP.eq (.pointer (some ⟨g, 0, none⟩))) :: (GH.SP.eq (.pointer (some ⟨g, i, none⟩))) :: (GH.SP.eq (.int .i64 (u : Nat))) :: (GH.SP.eq (.int .i64 (v : Nat))) :: (GH.SP.eq (.int .i64 (t : Nat))) :: (GH.SP.eq (.pointer (some ⟨g, 0, none⟩))) :: (GH.SP.eq (.pointer (some ⟨g, 0, none⟩))) :: (GH.SP.eq (.pointer (some ⟨g, i, none⟩))) :: []) (none :: none :: none :: none :: none :: none :: none :: none :: none :: none :: none :: none :: none :: none :: none :: none :: (some 0) :: (some 1) :: (some 2) :: (some 3) :: (some 4) :: (some 5) :: (some 6) :: (some 7) :: (some 8) :: (some 9) :: (some 10) :: none :: none :: none :: none :: none :: none :: none :: none :: none :: none :: none :: none :: []) [16, 17, 18, 19, 20, 21, 22, 23, 24, 25, 26] (by rfl) (by kernel_rfl) (by kernel_rfl) ?_ ?_ ?_
      · intro S jx v hjx
        match jx, hjx with
        | 0, _ => rfl
        | 1, _ => rfl
        | 2, _ => rfl
        | 3, _ => rfl
        | 4, _ => rfl
        | 5, _ => rfl
        | 6, _ => rfl
        | 7, _ => rfl
        | 8, _ => rfl
        | 9, _ => rfl
        | 10, _ => rfl
        | nx + 11, hjx => omega
      · intro jx hjx S w' hb hd
        match jx, hjx, hd with
        | 0, _, hd =>
          simp only [GH.mkL, List.getD_cons_succ, List.getD_cons_zero]
          clear hd
          refine GH.st_eq (by rfl) ?_
          go_simp
          (try with_reducible rfl)
        | 1, _, hd =>
          simp only [GH.mkL, List.getD_cons_succ, List.getD_cons_zero]
          clear hd
          refine GH.st_eq (by rfl) ?_
          go_simp
          (try with_reducible rfl)
        | 2, _, hd =>
          simp only [GH.mkL, List.getD_cons_succ, List.getD_cons_zero]
          have d0 : S 0 = .pointer (some ⟨g, 0, none⟩) := (hd 0 (by kernel_rfl)).2
          rw [d0]
          clear d0
          clear hd
          refine GH.st_eq (by rfl) ?_
          go_simp
          (try with_reducible rfl)
        | 3, _, hd =>
          simp only [GH.mkL, List.getD_cons_succ, List.getD_cons_zero]
          have d2 : S 2 = .pointer (some ⟨g, 0, none⟩) := (hd 2 (by kernel_rfl)).2
          rw [d2]
          clear d2
          clear hd
          refine GH.st_eq (by rfl) ?_
          go_simp
          (try with_reducible rfl)
        | 4, _, hd =>
          simp only [GH.mkL, List.getD_cons_succ, List.getD_cons_zero]
          have d1 : S 1 = .int .i64 (i : Nat) := (hd 1 (by kernel_rfl)).2
          rw [d1]
          clear d1
          have d3 : S 3 = .pointer (some ⟨g, 0, none⟩) := (hd 3 (by kernel_rfl)).2
          rw [d3]
          clear d3
          clear hd
          refine GH.st_eq (by rfl) ?_
          go_simp
          (try with_reducible rfl)
        | 5, _, hd =>
          simp only [GH.mkL, List.getD_cons_succ, List.getD_cons_zero]
          have d4 : S 4 = .pointer (some ⟨g, i, none⟩) := (hd 4 (by kernel_rfl)).2
          rw [d4]
          clear d4
          clear hd
          exact GH.st_load _ (by rfl) rfl rfl (((HH.out.below hb.below HH.out.lt).cell hlt).trans (by rw [if_neg (Nat.lt_irrefl _), ← HU.out])) (by kernel_rfl)
        | 6, _, hd =>
          simp only [GH.mkL, List.getD_cons_succ, List.getD_cons_zero]
          clear hd
          refine GH.st_eq (by rfl) ?_
          go_simp
          (try with_reducible rfl)
        | 7, _, hd =>
          simp only [GH.mkL, List.getD_cons_succ, List.getD_cons_zero]
          have d5 : S 5 = .int .i64 (u : Nat) := (hd 5 (by kernel_rfl)).2
          rw [d5]
          clear d5
          have d6 : S 6 = .int .i64 (v : Nat) := (hd 6 (by kernel_rfl)).2
          rw [d6]
          clear d6
          clear hd
          refine GH.st_eq (by rfl) ?_
          go_simp
          (try simp only [hti, hwt])
          (try with_reducible rfl)
        | 8, _, hd =>
          simp only [GH.mkL, List.getD_cons_succ, List.getD_cons_zero]
          have d0 : S 0 = .pointer (some ⟨g, 0, none⟩) := (hd 0 (by kernel_rfl)).2
          rw [d0]
          clear d0
          clear hd
          refine GH.st_eq (by rfl) ?_
          go_simp
          (try with_reducible rfl)
        | 9, _, hd =>
          simp only [GH.mkL, List.getD_cons_succ, List.getD_cons_zero]
          have d8 : S 8 = .pointer (some ⟨g, 0, none⟩) := (hd 8 (by kernel_rfl)).2
          rw [d8]
          clear d8
          clear hd
          refine GH.st_eq (by rfl) ?_
          go_simp
          (try with_reducible rfl)
        | 10, _, hd =>
          simp only [GH.mkL, List.getD_cons_succ, List.getD_cons_zero]
          have d0 : S 0 = .pointer (some ⟨g, 0, none⟩) := (hd 0 (by kernel_rfl)).2
          rw [d0]
          clear d0
          have d1 : S 1 = .int .i64 (i : Nat) := (hd 1 (by kernel_rfl)).2
          rw [d1]
          clear d1
          have d2 : S 2 = .pointer (some ⟨g, 0, none⟩) := (hd 2 (by kernel_rfl)).2
          rw [d2]
          clear d2
          have d3 : S 3 = .pointer (some ⟨g, 0, none⟩) := (hd 3 (by kernel_rfl)).2
          rw [d3]
          clear d3
          have d4 : S 4 = .pointer (some ⟨g, i, none⟩) := (hd 4 (by kernel_rfl)).2
          rw [d4]
          clear d4
          have d5 : S 5 = .int .i64 (u : Nat) := (hd 5 (by kernel_rfl)).2
          rw [d5]
          clear d5
          have d6 : S 6 = .int .i64 (v : Nat) := (hd 6 (by kernel_rfl)).2
          rw [d6]
          clear d6
          have d7 : S 7 = .int .i64 (t : Nat) := (hd 7 (by kernel_rfl)).2
          rw [d7]
          clear d7
          have d9 : S 9 = .pointer (some ⟨g, 0, none⟩) := (hd 9 (by kernel_rfl)).2
          rw [d9]
          clear d9
          clear hd
          refine GH.st_eq (by rfl) ?_
          go_simp
          (try with_reducible rfl)
        | nx + 11, hjx, _ => omega
      intro S w' hb hG
      simp only [GH.mkL, List.drop_succ_cons, List.drop_zero]
      have d7 : S 7 = .int .i64 (t : Nat) := hG 7 (by omega)
      rw [d7]
      clear d7
      have d10 : S 10 = .pointer (some ⟨g, i, none⟩) := hG 10 (by omega)
      rw [d10]
      clear d10
      clear hG
      have KF := HH.out.below hb.below HH.out.lt
      have f1 := KF.frozen i
      have c1 := KF.cell hlt
      have H3 := Lib.hid ((KF.setc hlt t).same (f' := fun r => if r < i + 1 then f r + f2 r else f r) fun r hr => by
        by_cases e : r = i
        · subst e; rw [if_pos rfl, if_pos (by omega), HT.out]
        · rw [if_neg e]
          by_cases e2 : r < i
          · rw [if_pos e2, if_pos (by omega)]
          · rw [if_neg e2, if_neg (by omega)])
      have T3 := Lib.hid ((TT.out.grow hb.below (Nat.le_of_lt HH.out.lt)).solo (Solo.refl.setCell i (.int .i64 (t : Nat))))
      clear KF hb HH TT hix
      go_wp2_with fail
      go_roundw
      case rel => exact ⟨i + 1, by omega, by go_num, H3, T3⟩
      case measure => simp [intOf]; omega
    · obtain rfl : i = 120 := by omega
      have H3 := Lib.hid (HH.out.same (f' := fun r => f r + f2 r) fun r hr => by rw [if_pos hr])
      have hg := HH.out.lt
      have H4 := Lib.hid (show HF wr k f2 s2 from TT.out.blk H2.out fun e => HGK.out e.symm)
      clear HH H2 HSZ HI hlt
      go_upto_region 6 with fail
      refine GH.wp_ghl2 (M := false) 11 ((GH.SP.eq (.pointer (some ⟨g, 0, none⟩))) :: (GH.SP.eq (.pointer (some ⟨g, 0, none⟩))) :: (GH.SP.eq (.pointer (some ⟨g, 120, none⟩))) :: (GH.SP.eq (.int .i64 (s : Nat))) :: (GH.SP.eq (.pointer (some ⟨k, 0, none⟩))) :: (GH.SP.eq (.pointer (some ⟨k, 0, none⟩))) :: (GH.SP.eq (.pointer (some ⟨k, 120, none⟩))) :: (GH.SP.eq (.int .i64 (s2 : Nat))) :: (GH.SP.eq (.int .i64 (z : Nat))) :: (GH.SP.eq (.pointer (some ⟨g, 0, none⟩))) :: (GH.SP.eq (.pointer (some ⟨g, 120, none⟩))) :: []) (none :: none :: none :: none :: none :: none :: none :: none :: none :: none :: none :: none :: none :: none :: none :: none :: none :: none :: none :: none :: none :: none :: none :: none :: none :: none :: none :: none :: (some 0) :: (some 1) :: (some 2) :: (some 3) :: (some 4) :: (some 5) :: (some 6) :: (some 7) :: (some 8) :: (some 9) :: (some 10) :: []) [28, 29, 30, 31, 32, 33, 34, 35, 36, 37, 38] (by rfl) (by kernel_rfl) (by kernel_rfl) ?_ ?_ ?_
      · intro S jx v hjx
        match jx, hjx with
        | 0, _ => rfl
        | 1, _ => rfl
        | 2, _ => rfl
        | 3, _ => rfl
        | 4, _ => rfl
        | 5, _ => rfl
        | 6, _ => rfl
        | 7, _ => rfl
        | 8, _ => rfl
        | 9, _ => rfl
        | 10, _ => rfl
        | nx + 11, hjx => omega
      · intro jx hjx S w' hb hd
        match jx, hjx, hd with
        | 0, _, hd =>
          simp only [GH.mkL, List.getD_cons_succ, List.getD_cons_zero]
          clear hd
          refine GH.st_eq (by rfl) ?_
          go_simp
          (try with_reducible rfl)
        | 1, _, hd =>
          simp only [GH.mkL, List.getD_cons_succ, List.getD_cons_zero]
          have d0 : S 0 = .pointer (some ⟨g, 0, none⟩) := (hd 0 (by kernel_rfl)).2
          rw [d0]
          clear d0
          clear hd
          refine GH.st_eq (by rfl) ?_
          go_simp
          (try with_reducible rfl)
        | 2, _, hd =>
          simp only [GH.mkL, List.getD_cons_succ, List.getD_cons_zero]
          have d1 : S 1 = .pointer (some ⟨g, 0, none⟩) := (hd 1 (by kernel_rfl)).2
          rw [d1]
          clear d1
          clear hd
          refine GH.st_eq (by rfl) ?_
          go_simp
          (try with_reducible rfl)
        | 3, _, hd =>
          simp only [GH.mkL, List.getD_cons_succ, List.getD_cons_zero]
          have d2 : S 2 = .pointer (some ⟨g, 120, none⟩) := (hd 2 (by kernel_rfl)).2
          rw [d2]
          clear d2
          clear hd
          exact GH.st_load _ (by rfl) rfl rfl ((H3.out.below hb.below H3.out.lt).sum) (by kernel_rfl)
        | 4, _, hd =>
          simp only [GH.mkL, List.getD_cons_succ, List.getD_cons_zero]
          clear hd
          refine GH.st_eq (by rfl) ?_
          go_simp
          (try with_reducible rfl)
        | 5, _, hd =>
          simp only [GH.mkL, List.getD_cons_succ, List.getD_cons_zero]
          have d4 : S 4 = .pointer (some ⟨k, 0, none⟩) := (hd 4 (by kernel_rfl)).2
          rw [d4]
          clear d4
          clear hd
          refine GH.st_eq (by rfl) ?_
          go_simp
          (try with_reducible rfl)
        | 6, _, hd =>
          simp only [GH.mkL, List.getD_cons_succ, List.getD_cons_zero]
          have d5 : S 5 = .pointer (some ⟨k, 0, none⟩) := (hd 5 (by kernel_rfl)).2
          rw [d5]
          clear d5
          clear hd
          refine GH.st_eq (by rfl) ?_
          go_simp
          (try with_reducible rfl)
        | 7, _, hd =>
          simp only [GH.mkL, List.getD_cons_succ, List.getD_cons_zero]
          have d6 : S 6 = .pointer (some ⟨k, 120, none⟩) := (hd 6 (by kernel_rfl)).2
          rw [d6]
          clear d6
          clear hd
          exact GH.st_load _ (by rfl) rfl rfl ((H4.out.below hb.below H4.out.lt).sum) (by kernel_rfl)
        | 8, _, hd =>
          simp only [GH.mkL, List.getD_cons_succ, List.getD_cons_zero]
          have d3 : S 3 = .int .i64 (s : Nat) := (hd 3 (by kernel_rfl)).2
          rw [d3]
          clear d3
          have d7 : S 7 = .int .i64 (s2 : Nat) := (hd 7 (by kernel_rfl)).2
          rw [d7]
          clear d7
          clear hd
          refine GH.st_eq (by rfl) ?_
          go_simp
          (try simp only [hzi, hwz])
          (try with_reducible rfl)
        | 9, _, hd =>
          simp only [GH.mkL, List.getD_cons_succ, List.getD_cons_zero]
          have d0 : S 0 = .pointer (some ⟨g, 0, none⟩) := (hd 0 (by kernel_rfl)).2
          rw [d0]
          clear d0
          have d1 : S 1 = .pointer (some ⟨g, 0, none⟩) := (hd 1 (by kernel_rfl)).2
          rw [d1]
          clear d1
          have d2 : S 2 = .pointer (some ⟨g, 120, none⟩) := (hd 2 (by kernel_rfl)).2
          rw [d2]
          clear d2
          have d3 : S 3 = .int .i64 (s : Nat) := (hd 3 (by kernel_rfl)).2
          rw [d3]
          clear d3
          have d4 : S 4 = .pointer (some ⟨k, 0, none⟩) := (hd 4 (by kernel_rfl)).2
          rw [d4]
          clear d4
          have d5 : S 5 = .pointer (some ⟨k, 0, none⟩) := (hd 5 (by kernel_rfl)).2
          rw [d5]
          clear d5
          have d6 : S 6 = .pointer (some ⟨k, 120, none⟩) := (hd 6 (by kernel_rfl)).2
          rw [d6]
          clear d6
          have d7 : S 7 = .int .i64 (s2 : Nat) := (hd 7 (by kernel_rfl)).2
          rw [d7]
          clear d7
          have d8 : S 8 = .int .i64 (z : Nat) := (hd 8 (by kernel_rfl)).2
          rw [d8]
          clear d8
          clear hd
          refine GH.st_eq (by rfl) ?_
          go_simp
          (try with_reducible rfl)
        | 10, _, hd =>
          simp only [GH.mkL, List.getD_cons_succ, List.getD_cons_zero]
          have d0 : S 0 = .pointer (some ⟨g, 0, none⟩) := (hd 0 (by kernel_rfl)).2
          rw [d0]
          clear d0
          have d1 : S 1 = .pointer (some ⟨g, 0, none⟩) := (hd 1 (by kernel_rfl)).2
          rw [d1]
          clear d1
          have d2 : S 2 = .pointer (some ⟨g, 120, none⟩) := (hd 2 (by kernel_rfl)).2
          rw [d2]
          clear d2
          have d3 : S 3 = .int .i64 (s : Nat) := (hd 3 (by kernel_rfl)).2
          rw [d3]
          clear d3
          have d4 : S 4 = .pointer (some ⟨k, 0, none⟩) := (hd 4 (by kernel_rfl)).2
          rw [d4]
          clear d4
          have d5 : S 5 = .pointer (some ⟨k, 0, none⟩) := (hd 5 (by kernel_rfl)).2
          rw [d5]
          clear d5
          have d6 : S 6 = .pointer (some ⟨k, 120, none⟩) := (hd 6 (by kernel_rfl)).2
          rw [d6]
          clear d6
          have d7 : S 7 = .int .i64 (s2 : Nat) := (hd 7 (by kernel_rfl)).2
          rw [d7]
          clear d7
          have d8 : S 8 = .int .i64 (z : Nat) := (hd 8 (by kernel_rfl)).2
          rw [d8]
          clear d8
          have d9 : S 9 = .pointer (some ⟨g, 0, none⟩) := (hd 9 (by kernel_rfl)).2
          rw [d9]
          clear d9
          clear hd
          refine GH.st_eq (by rfl) ?_
          go_simp
          (try with_reducible rfl)
        | nx + 11, hjx, _ => omega
      intro S w' hb hG
      simp only [GH.mkL, List.drop_succ_cons, List.drop_zero]
      have d8 : S 8 = .int .i64 (z : Nat) := hG 8 (by omega)
      rw [d8]
      clear d8
      have d10 : S 10 = .pointer (some ⟨g, 120, none⟩) := hG 10 (by omega)
      rw [d10]
      clear d10
      clear hG
      have KF := H3.out.below hb.below H3.out.lt
      have f1 := KF.frozen 120
      have c1 := KF.sum
      have H5 := Lib.hid (KF.sets z)
      have T5 := Lib.hid ((TT.out.grow hb.below (Nat.le_of_lt hg)).solo (Solo.refl.setCell 120 (.int .i64 (z : Nat))))
      clear KF hb H3 H4 TT hg
      go_wp2_with fail
      go_end0
      exact ⟨rfl, H5.out, T5.out⟩
end Go.Proofs.Ytioebcjhmfndnaa
