/- Package flight: the simple calls. -/
import Derived.Test.YtbipcnboammpeaaFl0
import Derived.Test.YtbipcnboammpeaaFlSl
import Derived.Test.YtbipcnboammpeaaOrd
import Derived.Test.YtbipcnboammpeaaGhoP
import Derived.Test.YtbipcnboammpeaaGho2
import Derived.Test.YtbipcnboammpeaaGhoZ
import Derived.Test.YtbipcnboammpeaaGhoR
import Derived.Test.YtbipcnboammpeaaQx
import Derived.OwnWalk
import Derived.BigQuiet
import Derived.RegionTactic
import Derived.LoopTactic
import Derived.ChangeAlike
import Derived.Deep.Cut
namespace Go.Proofs.Ytbipcnboammpeaa
open Go.RowKit
set_option linter.unusedVariables false
set_option linter.unusedSimpArgs false
set_option maxRecDepth 20000 in
set_option maxHeartbeats 4000000 in
theorem flto_any (c : Chk) (w : World) (hc : c.ok) : Calls Try.prog 18 #[.agg #[.int .u64 (c.fr : Nat), .int .i64 c.len, .bool c.fin, .int .i64 c.flow, .int .u32 c.en, .int .i64 c.sent, .int .i64 c.tries, .bool c.came, .bool c.lost]] w fun e w' => e = .returned (.int .u64 (toN c : Nat)) ∧ Below w.heap.size w w' := by
  obtain ⟨m, hm⟩ : ∃ m : Nat, m = c.len.toNat := ⟨_, rfl⟩
  have hl := hc.len
  have hf := hc.fr
  have hmx : max c.len 0 = (m : Int) := by omega
  have hmi : (if c.len < 0 then 0 else c.len) = (m : Int) := by split <;> omega
  have hmi2 : (if 0 < c.len then c.len else 0) = (m : Int) := by split <;> omega
  have hmb : m < 9223372036854775808 := by omega
  obtain ⟨s, hs⟩ : ∃ s, s = (c.fr + m) % 18446744073709551616 := ⟨_, rfl⟩
  have hw1 : IntKind.u64.wrap (m : Int) = (m : Nat) := by rw [IntKind.wrap_u64]; omega
  have hw2 : IntKind.u64.wrap ((c.fr : Int) + (m : Int)) = (s : Nat) := by rw [IntKind.wrap_u64]; omega
  obtain ⟨t, ht⟩ : ∃ t, t = (s + 1) % 18446744073709551616 := ⟨_, rfl⟩
  have hw3 : IntKind.u64.wrap ((s : Int) + 1) = (t : Nat) := by rw [IntKind.wrap_u64]; omega
  have hT : Hid (toN c = if c.fin then t else s) := Lib.hid (by unfold toN; rw [← hm]; cases c.fin <;> simp <;> omega)
  cases hcf : c.fin
  · rw [hcf] at hT
    have hT : toN c = s := hT.out
    rw [hT]
    clear hT ht hs hm hl hf hc
    go_enter Try.func18, Try.ntmps18
    go_wp2_with fail
    go_ret
    exact ⟨rfl, (Below.refl _ _).alloc (Nat.le_refl _) _⟩
  · rw [hcf] at hT
    have hT : toN c = t := hT.out
    rw [hT]
    clear hT ht hs hm hl hf hc
    go_enter Try.func18, Try.ntmps18
    go_wp2_with fail
    go_ret
    exact ⟨rfl, (Below.refl _ _).alloc (Nat.le_refl _) _⟩
set_option maxRecDepth 20000 in
set_option maxHeartbeats 4000000 in
theorem fl_new (n : Int) (w : World) (hn : (Lit.int .i64 n).wf = true) : Calls Try.prog 5 #[.int .i64 n] w fun e w' => e = .returned (.pointer (some ⟨w.heap.size, 0, none⟩)) ∧ FL w' w.heap.size w.heap.size (clN 1 64 n) [] ∧ Below w.heap.size w w' := by
  obtain ⟨m, hm⟩ : ∃ m, m = clN 1 64 n := ⟨_, rfl⟩
  rw [← hm]
  have h1 : min (max n 1) 64 = (m : Int) := by unfold clN at hm; subst hm; split <;> (try split) <;> omega
  by_cases h0 : n < 1
  · have e1 : max n 1 = 1 := by omega
    obtain rfl : m = 1 := by omega
    clear hm h1
    go_enter Try.func5, Try.ntmps5
    go_wp2
    go_ret
    exact ⟨rfl, FL.shut (A := none) (n := 0) (c := 0) (Nat.le_refl _) (by simp) rfl (Blk.new _ _ _) (World.ownsRow_nil _ _ _ _), (Below.refl _ _).alloc (Nat.le_refl _) _⟩
  by_cases h4 : 64 < n
  · have e1 : max n 1 = n := by omega
    obtain rfl : m = 64 := by omega
    clear hm h1
    go_enter Try.func5, Try.ntmps5
    go_wp2
    go_ret
    exact ⟨rfl, FL.shut (A := none) (n := 0) (c := 0) (Nat.le_refl _) (by simp) rfl (Blk.new _ _ _) (World.ownsRow_nil _ _ _ _), (Below.refl _ _).alloc (Nat.le_refl _) _⟩
  · have e1 : max n 1 = n := by omega
    obtain rfl : n = (m : Int) := by omega
    clear hm h1
    go_enter Try.func5, Try.ntmps5
    go_wp2
    go_ret
    exact ⟨rfl, FL.shut (A := none) (n := 0) (c := 0) (Nat.le_refl _) (by simp) rfl (Blk.new _ _ _) (World.ownsRow_nil _ _ _ _), (Below.refl _ _).alloc (Nat.le_refl _) _⟩
set_option maxRecDepth 20000 in
set_option maxHeartbeats 4000000 in
theorem fl_leng (B g most : Nat) (l : List Chk) (w : World) (h : FL w B g most l) : Calls Try.prog 14 #[.pointer (some ⟨g, 0, none⟩)] w fun e w' => e = .returned (.int .i64 (l.length : Nat)) ∧ w' = w := by
  obtain ⟨A, n, c, hn, hnc, hcm, HK, HO, HR⟩ := h.open_
  have g0 : w.cell? ⟨g, 0, none⟩ = some (.int .i64 (most : Nat)) := by rw [HK.out.cell]; rfl
  have g1 : w.cell? ⟨g, 1, none⟩ = some (.slice A n c) := by rw [HK.out.cell]; rfl
  rw [hn]
  clear h hn hnc hcm g0
  go_enter Try.func14, Try.ntmps14
  go_wp2_with fail
  go_ret
  exact ⟨rfl, rfl⟩
set_option maxRecDepth 20000 in
set_option maxHeartbeats 4000000 in
theorem fl_free (B g most : Nat) (l : List Chk) (w : World) (h : FL w B g most l) (hl : l.length ≤ most) (hm : most ≤ 64) : Calls Try.prog 15 #[.pointer (some ⟨g, 0, none⟩)] w fun e w' => e = .returned (.int .i64 (most - l.length : Nat)) ∧ Below w.heap.size w w' := by
  obtain ⟨A, n, c, hn, hnc, hcm, HK, HO, HR⟩ := h.open_
  have g0 : w.cell? ⟨g, 0, none⟩ = some (.int .i64 (most : Nat)) := by rw [HK.out.cell]; rfl
  have g1 : w.cell? ⟨g, 1, none⟩ = some (.slice A n c) := by rw [HK.out.cell]; rfl
  obtain ⟨r, hr⟩ : ∃ r, r = most - l.length := ⟨_, rfl⟩
  rw [← hr]
  have hri : (most : Int) - (n : Int) = (r : Nat) := by omega
  have hwr : IntKind.i64.wrap (r : Int) = (r : Nat) := by rw [IntKind.wrap_i64]; omega
  have H := HK
  clear h hn hnc hcm hr hl hm g0 g1 HO HR
  go_enter Try.func15, Try.ntmps15
  go_upto_region 1 with fail
  refine GH.wp_ghl2 (M := false) 11 ((GH.SP.eq (.pointer (some ⟨g, 0, none⟩))) :: (GH.SP.eq (.pointer (some ⟨g, 0, none⟩))) :: (GH.SP.eq (.pointer (some ⟨g, 0, none⟩))) :: (GH.SP.eq (.int .i64 (most : Nat))) :: (GH.SP.eq (.pointer (some ⟨g, 0, none⟩))) :: (GH.SP.eq (.pointer (some ⟨g, 0, none⟩))) :: (GH.SP.eq (.pointer (some ⟨g, 1, none⟩))) :: (GH.SP.eq (.slice A n c)) :: (GH.SP.eq (.int .i64 (n : Nat))) :: (GH.SP.eq (.int .i64 (r : Nat))) :: (GH.SP.eq (.int .i64 (r : Nat))) :: []) (none :: none :: (some 10) :: (some 0) :: (some 1) :: (some 2) :: (some 3) :: (some 4) :: (some 5) :: (some 6) :: (some 7) :: (some 8) :: (some 9) :: []) [3, 4, 5, 6, 7, 8, 9, 10, 11, 12, 2] (by rfl) (by kernel_rfl) (by kernel_rfl) ?_ ?_ ?_
  · intro S jx v hjx
    match jx, hjx with
    | 0, _ => rfl
    | 1, _ => rfl
    | 2, _ => rfl
    | 3, _ => rfl
    | 4, _ => rfl
    | 5, _ => rfl
    | 6, _ => rfl
    | 7, _ => rfl
    | 8, _ => rfl
    | 9, _ => rfl
    | 10, _ => rfl
    | nx + 11, hjx => omega
  · intro jx hjx S w' hb hd
    match jx, hjx, hd with
    | 0, _, hd =>
      simp only [GH.mkL, List.getD_cons_succ, List.getD_cons_zero]
      clear hd
      refine GH.st_eq (by rfl) ?_
      go_simp
      (try with_reducible rfl)
    | 1, _, hd =>
      simp only [GH.mkL, List.getD_cons_succ, List.getD_cons_zero]
      have d0 : S 0 = .pointer (some ⟨g, 0, none⟩) := (hd 0 (by kernel_rfl)).2
      rw [d0]
      clear d0
      clear hd
      refine GH.st_eq (by rfl) ?_
      go_simp
      (try with_reducible rfl)
    | 2, _, hd =>
      simp only [GH.mkL, List.getD_cons_succ, List.getD_cons_zero]
      have d1 : S 1 = .pointer (some ⟨g, 0, none⟩) := (hd 1 (by kernel_rfl)).2
      rw [d1]
      clear d1
      clear hd
      refine GH.st_eq (by rfl) ?_
      go_simp
      (try with_reducible rfl)
    | 3, _, hd =>
      simp only [GH.mkL, List.getD_cons_succ, List.getD_cons_zero]
      have d2 : S 2 = .pointer (some ⟨g, 0, none⟩) := (hd 2 (by kernel_rfl)).2
      rw [d2]
      clear d2
      clear hd
      exact GH.st_load _ (by rfl) rfl rfl (((H.out.below hb.below H.out.lt)).cell 0) (by kernel_rfl)
    | 4, _, hd =>
      simp only [GH.mkL, List.getD_cons_succ, List.getD_cons_zero]
      clear hd
      refine GH.st_eq (by rfl) ?_
      go_simp
      (try with_reducible rfl)
    | 5, _, hd =>
      simp only [GH.mkL, List.getD_cons_succ, List.getD_cons_zero]
      have d4 : S 4 = .pointer (some ⟨g, 0, none⟩) := (hd 4 (by kernel_rfl)).2
      rw [d4]
      clear d4
      clear hd
      refine GH.st_eq (by rfl) ?_
      go_simp
      (try with_reducible rfl)
    | 6, _, hd =>
      simp only [GH.mkL, List.getD_cons_succ, List.getD_cons_zero]
      have d5 : S 5 = .pointer (some ⟨g, 0, none⟩) := (hd 5 (by kernel_rfl)).2
      rw [d5]
      clear d5
      clear hd
      refine GH.st_eq (by rfl) ?_
      go_simp
      (try with_reducible rfl)
    | 7, _, hd =>
      simp only [GH.mkL, List.getD_cons_succ, List.getD_cons_zero]
      have d6 : S 6 = .pointer (some ⟨g, 1, none⟩) := (hd 6 (by kernel_rfl)).2
      rw [d6]
      clear d6
      clear hd
      exact GH.st_load _ (by rfl) rfl rfl (((H.out.below hb.below H.out.lt)).cell 1) (by kernel_rfl)
    | 8, _, hd =>
      simp only [GH.mkL, List.getD_cons_succ, List.getD_cons_zero]
      have d7 : S 7 = .slice A n c := (hd 7 (by kernel_rfl)).2
      rw [d7]
      clear d7
      clear hd
      refine GH.st_eq (by rfl) ?_
      go_simp
      (try with_reducible rfl)
    | 9, _, hd =>
      simp only [GH.mkL, List.getD_cons_succ, List.getD_cons_zero]
      have d3 : S 3 = .int .i64 (most : Nat) := (hd 3 (by kernel_rfl)).2
      rw [d3]
      clear d3
      have d8 : S 8 = .int .i64 (n : Nat) := (hd 8 (by kernel_rfl)).2
      rw [d8]
      clear d8
      clear hd
      refine GH.st_eq (by rfl) ?_
      go_simp
      (try simp only [hri, hwr])
      (try with_reducible rfl)
    | 10, _, hd =>
      simp only [GH.mkL, List.getD_cons_succ, List.getD_cons_zero]
      have d0 : S 0 = .pointer (some ⟨g, 0, none⟩) := (hd 0 (by kernel_rfl)).2
      rw [d0]
      clear d0
      have d1 : S 1 = .pointer (some ⟨g, 0, none⟩) := (hd 1 (by kernel_rfl)).2
      rw [d1]
      clear d1
      have d2 : S 2 = .pointer (some ⟨g, 0, none⟩) := (hd 2 (by kernel_rfl)).2
      rw [d2]
      clear d2
      have d3 : S 3 = .int .i64 (most : Nat) := (hd 3 (by kernel_rfl)).2
      rw [d3]
      clear d3
      have d4 : S 4 = .pointer (some ⟨g, 0, none⟩) := (hd 4 (by kernel_rfl)).2
      rw [d4]
      clear d4
      have d5 : S 5 = .pointer (some ⟨g, 0, none⟩) := (hd 5 (by kernel_rfl)).2
      rw [d5]
      clear d5
      have d6 : S 6 = .pointer (some ⟨g, 1, none⟩) := (hd 6 (by kernel_rfl)).2
      rw [d6]
      clear d6
      have d7 : S 7 = .slice A n c := (hd 7 (by kernel_rfl)).2
      rw [d7]
      clear d7
      have d8 : S 8 = .int .i64 (n : Nat) := (hd 8 (by kernel_rfl)).2
      rw [d8]
      clear d8
      have d9 : S 9 = .int .i64 (r : Nat) := (hd 9 (by kernel_rfl)).2
      rw [d9]
      clear d9
      clear hd
      refine GH.st_eq (by rfl) ?_
      go_simp
      (try with_reducible rfl)
    | nx + 11, hjx, _ => omega
  intro S w' hb hG
  simp only [GH.mkL, List.drop_succ_cons, List.drop_zero]
  have d10 : S 10 = .int .i64 (r : Nat) := hG 10 (by omega)
  rw [d10]
  clear d10
  clear hG
  have HB := Lib.hid hb.below
  refine wpList_nil ?_
  go_wp2_with fail
  go_ret
  exact ⟨rfl, HB.out⟩
set_option maxRecDepth 20000 in
set_option maxHeartbeats 4000000 in
theorem fl_all (B g most : Nat) (l : List Chk) (w : World) (h : FL w B g most l) (hl : l.length ≤ 64) : Calls Try.prog 13 #[.pointer (some ⟨g, 0, none⟩)] w fun e w' => ∃ v, e = .returned v ∧ w'.ownsRow w.heap.size 30 9 v l.length (chs l) ∧ Below w.heap.size w w' := by
  obtain ⟨A, n, c, hn, hnc, hcm, HK, HO, HR⟩ := h.open_
  have g0 : w.cell? ⟨g, 0, none⟩ = some (.int .i64 (most : Nat)) := by rw [HK.out.cell]; rfl
  have g1 : w.cell? ⟨g, 1, none⟩ = some (.slice A n c) := by rw [HK.out.cell]; rfl
  have CL := Lib.hid (flkClone A n c w.heap.size (chs l) w HR.out (Nat.le_refl _) (chs_one l) (by omega))
  rw [hn]
  clear h hn hnc hcm g0 hl
  go_enter Try.func13, Try.ntmps13
  go_wp2_with fail
  refine CL.out.mono ?_
  rintro e w2 ⟨v, rfl, h2, b2⟩
  go_wp2_with fail
  go_ret
  exact ⟨v, rfl, h2, b2⟩
set_option maxRecDepth 20000 in
set_option maxHeartbeats 4000000 in
theorem flset7 (rb o : Nat) (b : Bool) (w : World) (hc : w.cell? ⟨rb, o + 7, none⟩ = some (.bool b)) (hf : w.frozen? ⟨rb, o + 7, none⟩ = false) : Calls Try.prog 40 #[.pointer (some ⟨rb, o, none⟩)] w fun e w' => e = .returned (.tuple #[]) ∧ w' = w.setCell ⟨rb, o + 7, none⟩ (.bool true) := by
  go_enter Try.func40, Try.ntmps40
  go_wp2_with fail
  go_end0
  exact ⟨rfl, rfl⟩
set_option maxRecDepth 20000 in
set_option maxHeartbeats 4000000 in
theorem flset8 (rb o : Nat) (b : Bool) (w : World) (hc : w.cell? ⟨rb, o + 8, none⟩ = some (.bool b)) (hf : w.frozen? ⟨rb, o + 8, none⟩ = false) : Calls Try.prog 36 #[.pointer (some ⟨rb, o, none⟩)] w fun e w' => e = .returned (.tuple #[]) ∧ w' = w.setCell ⟨rb, o + 8, none⟩ (.bool true) := by
  go_enter Try.func36, Try.ntmps36
  go_wp2_with fail
  go_end0
  exact ⟨rfl, rfl⟩
end Go.Proofs.Ytbipcnboammpeaa
