/- Package quar: what its calls do. -/
import Derived.Test.YtaoiihfppmconaaBlkS
import Derived.Test.YtaoiihfppmconaaTou
import Derived.Test.YtaoiihfppmconaaOrd
import Derived.Test.YtaoiihfppmconaaGhoP
import Derived.Test.YtaoiihfppmconaaGho2
import Derived.Test.YtaoiihfppmconaaPut
import Derived.Test.YtaoiihfppmconaaPairZ
import Derived.Test.YtaoiihfppmconaaRows
import Derived.OwnWalk
import Derived.BigQuiet
import Derived.RegionTactic
import Derived.LoopTactic
import Derived.ChangeAlike
import Derived.Deep.Cut
namespace Go.Proofs.Ytaoiihfppmconaa
open Go.RowKit
set_option linter.unusedVariables false
set_option linter.unusedSimpArgs false
def ScW (w : World) (g L p r : Nat) : Prop := Blk w g 31 #[.int .i64 (L : Nat), .int .i64 (p : Nat), .int .i64 (r : Nat)]
theorem ScW.into {w w' : World} {g L p r : Nat} (h : ScW w g L p r) (hb : Below w.heap.size w w') : ScW w' g L p r := Blk.below h hb (Blk.lt h)
def limN (n : Int) : Nat := if n < 1 then 1 else clN 0 4096 n
theorem limN_of {n : Nat} (h1 : 1 ≤ n) (h2 : n ≤ 4096) : limN (n : Int) = n := by unfold limN clN; split <;> (try split) <;> (try split) <;> omega
theorem qbound_any (n : Int) (w : World) (hn : (Lit.int .i64 n).wf = true) : Calls Try.prog 10 #[.int .i64 n] w fun e w' => e = .returned (.int .i64 (clN 0 4096 n : Nat)) ∧ w' = w := by
  by_cases h0 : n < 0
  · have e : clN 0 4096 n = 0 := by unfold clN; split <;> (try split) <;> omega
    rw [e]
    have h1 : max n 0 = 0 := by omega
    go_enter Try.func10, Try.ntmps10
    go_wp2
    go_ret
    refine ⟨?_, rfl⟩
    simp
  by_cases h4 : 4096 < n
  · have e : clN 0 4096 n = 4096 := by unfold clN; split <;> (try split) <;> omega
    rw [e]
    go_enter Try.func10, Try.ntmps10
    go_wp2
    go_ret
    exact ⟨ret_int (by omega), rfl⟩
  · have e : ((clN 0 4096 n : Nat) : Int) = n := by unfold clN; split <;> (try split) <;> omega
    rw [e]
    go_enter Try.func10, Try.ntmps10
    go_wp2
    go_ret
    exact ⟨ret_int (by omega), rfl⟩
theorem q_new (n : Int) (w : World) (hn : (Lit.int .i64 n).wf = true) :
    Calls Try.prog 4 #[.int .i64 n] w fun e w' => e = .returned (.pointer (some ⟨w.heap.size, 0, none⟩)) ∧ ScW w' w.heap.size (limN n) 0 0 ∧ Below w.heap.size w w' := by
  have C := Lib.hid (qbound_any n w hn)
  obtain ⟨k, hk⟩ : ∃ k, k = clN 0 4096 n := ⟨_, rfl⟩
  have hkb : k ≤ 4096 := by rw [hk]; exact clN_le (by omega) _
  obtain ⟨L, hL⟩ : ∃ L, L = limN n := ⟨_, rfl⟩
  have hm : (if (k : Int) < 1 then (1 : Int) else (k : Int)) = (L : Int) := by
    rw [hL, hk]; unfold limN clN; split <;> split <;> (try split) <;> (try split) <;> omega
  rw [← hk] at C
  rw [← hL]
  clear hk hL hn
  go_enter Try.func4, Try.ntmps4
  go_wp2_with fail
  refine C.out.mono ?_
  rintro e w1 ⟨rfl, rfl⟩
  go_wp2_with fail
  go_ret
  refine ⟨rfl, ?_, (Below.refl _ _).alloc (Nat.le_refl _) _⟩
  have := Blk.new w1 31 #[.int .i64 (L : Nat), .int .i64 0, .int .i64 0]
  exact this
theorem q_points (g L p r : Nat) (w : World) (h : ScW w g L p r) :
    Calls Try.prog 6 #[.pointer (some ⟨g, 0, none⟩)] w fun e w' => e = .returned (.int .i64 (p : Nat)) ∧ w' = w := by
  have c1 : w.cell? ⟨g, 1, none⟩ = some (.int .i64 (p : Nat)) := by rw [Blk.cell h]; rfl
  go_enter Try.func6, Try.ntmps6
  go_wp2
  go_ret
  exact ⟨rfl, rfl⟩
set_option maxRecDepth 20000 in
set_option maxHeartbeats 4000000 in
theorem q_bad (g L p r : Nat) (w : World) (h : ScW w g L p r) :
    Calls Try.prog 8 #[.pointer (some ⟨g, 0, none⟩)] w fun e w' => e = .returned (.bool (decide (L ≤ p))) ∧ Below w.heap.size w w' := by
  have H := Lib.hid (show Blk w g 31 #[.int .i64 (L : Nat), .int .i64 (p : Nat), .int .i64 (r : Nat)] from h)
  obtain ⟨b, hb1⟩ : ∃ b, b = decide (L ≤ p) := ⟨_, rfl⟩
  have hbi : decide ((L : Int) ≤ (p : Int)) = b := by rw [hb1]; simp
  have hbn : decide (L ≤ p) = b := hb1.symm
  rw [← hb1]
  clear h hb1
  go_enter Try.func8, Try.ntmps8
  go_upto_region 1 with fail
  refine GH.wp_ghl (M := false) 10 ((GH.SP.eq (.pointer (some ⟨g, 0, none⟩))) :: (GH.SP.eq (.pointer (some ⟨g, 0, none⟩))) :: (GH.SP.eq (.pointer (some ⟨g, 1, none⟩))) :: (GH.SP.eq (.int .i64 (p : Nat))) :: (GH.SP.eq (.pointer (some ⟨g, 0, none⟩))) :: (GH.SP.eq (.pointer (some ⟨g, 0, none⟩))) :: (GH.SP.eq (.pointer (some ⟨g, 0, none⟩))) :: (GH.SP.eq (.int .i64 (L : Nat))) :: (GH.SP.eq (.bool b)) :: (GH.SP.eq (.bool b)) :: []) (none :: none :: (some 9) :: (some 0) :: (some 1) :: (some 2) :: (some 3) :: (some 4) :: (some 5) :: (some 6) :: (some 7) :: (some 8) :: []) [3, 4, 5, 6, 7, 8, 9, 10, 11, 2] (by rfl) (by kernel_rfl) (by kernel_rfl) ?_ ?_ ?_
  · intro S jx v hjx
    match jx, hjx with
    | 0, _ => rfl
    | 1, _ => rfl
    | 2, _ => rfl
    | 3, _ => rfl
    | 4, _ => rfl
    | 5, _ => rfl
    | 6, _ => rfl
    | 7, _ => rfl
    | 8, _ => rfl
    | 9, _ => rfl
    | nx + 10, hjx => omega
  · intro jx hjx S w' hb hd
    match jx, hjx, hd with
    | 0, _, hd =>
      simp only [GH.mkL, List.getD_cons_succ, List.getD_cons_zero]
      clear hd
      refine GH.st_eq (by rfl) ?_
      go_simp
      (try with_reducible rfl)
    | 1, _, hd =>
      simp only [GH.mkL, List.getD_cons_succ, List.getD_cons_zero]
      have d0 : S 0 = .pointer (some ⟨g, 0, none⟩) := (hd 0 (by kernel_rfl)).2
      rw [d0]
      clear d0
      clear hd
      refine GH.st_eq (by rfl) ?_
      go_simp
      (try with_reducible rfl)
    | 2, _, hd =>
      simp only [GH.mkL, List.getD_cons_succ, List.getD_cons_zero]
      have d1 : S 1 = .pointer (some ⟨g, 0, none⟩) := (hd 1 (by kernel_rfl)).2
      rw [d1]
      clear d1
      clear hd
      refine GH.st_eq (by rfl) ?_
      go_simp
      (try with_reducible rfl)
    | 3, _, hd =>
      simp only [GH.mkL, List.getD_cons_succ, List.getD_cons_zero]
      have d2 : S 2 = .pointer (some ⟨g, 1, none⟩) := (hd 2 (by kernel_rfl)).2
      rw [d2]
      clear d2
      clear hd
      exact GH.st_load _ (by rfl) rfl rfl (((H.out.below hb.below H.out.lt)).cell 1) (by kernel_rfl)
    | 4, _, hd =>
      simp only [GH.mkL, List.getD_cons_succ, List.getD_cons_zero]
      clear hd
      refine GH.st_eq (by rfl) ?_
      go_simp
      (try with_reducible rfl)
    | 5, _, hd =>
      simp only [GH.mkL, List.getD_cons_succ, List.getD_cons_zero]
      have d4 : S 4 = .pointer (some ⟨g, 0, none⟩) := (hd 4 (by kernel_rfl)).2
      rw [d4]
      clear d4
      clear hd
      refine GH.st_eq (by rfl) ?_
      go_simp
      (try with_reducible rfl)
    | 6, _, hd =>
      simp only [GH.mkL, List.getD_cons_succ, List.getD_cons_zero]
      have d5 : S 5 = .pointer (some ⟨g, 0, none⟩) := (hd 5 (by kernel_rfl)).2
      rw [d5]
      clear d5
      clear hd
      refine GH.st_eq (by rfl) ?_
      go_simp
      (try with_reducible rfl)
    | 7, _, hd =>
      simp only [GH.mkL, List.getD_cons_succ, List.getD_cons_zero]
      have d6 : S 6 = .pointer (some ⟨g, 0, none⟩) := (hd 6 (by kernel_rfl)).2
      rw [d6]
      clear d6
      clear hd
      exact GH.st_load _ (by rfl) rfl rfl (((H.out.below hb.below H.out.lt)).cell 0) (by kernel_rfl)
    | 8, _, hd =>
      simp only [GH.mkL, List.getD_cons_succ, List.getD_cons_zero]
      have d3 : S 3 = .int .i64 (p : Nat) := (hd 3 (by kernel_rfl)).2
      rw [d3]
      clear d3
      have d7 : S 7 = .int .i64 (L : Nat) := (hd 7 (by kernel_rfl)).2
      rw [d7]
      clear d7
      clear hd
      refine GH.st_eq (by rfl) ?_
      go_simp
      (try simp only [hbi, hbn])
      (try with_reducible rfl)
    | 9, _, hd =>
      simp only [GH.mkL, List.getD_cons_succ, List.getD_cons_zero]
      have d0 : S 0 = .pointer (some ⟨g, 0, none⟩) := (hd 0 (by kernel_rfl)).2
      rw [d0]
      clear d0
      have d1 : S 1 = .pointer (some ⟨g, 0, none⟩) := (hd 1 (by kernel_rfl)).2
      rw [d1]
      clear d1
      have d2 : S 2 = .pointer (some ⟨g, 1, none⟩) := (hd 2 (by kernel_rfl)).2
      rw [d2]
      clear d2
      have d3 : S 3 = .int .i64 (p : Nat) := (hd 3 (by kernel_rfl)).2
      rw [d3]
      clear d3
      have d4 : S 4 = .pointer (some ⟨g, 0, none⟩) := (hd 4 (by kernel_rfl)).2
      rw [d4]
      clear d4
      have d5 : S 5 = .pointer (some ⟨g, 0, none⟩) := (hd 5 (by kernel_rfl)).2
      rw [d5]
      clear d5
      have d6 : S 6 = .pointer (some ⟨g, 0, none⟩) := (hd 6 (by kernel_rfl)).2
      rw [d6]
      clear d6
      have d7 : S 7 = .int .i64 (L : Nat) := (hd 7 (by kernel_rfl)).2
      rw [d7]
      clear d7
      have d8 : S 8 = .bool b := (hd 8 (by kernel_rfl)).2
      rw [d8]
      clear d8
      clear hd
      refine GH.st_eq (by rfl) ?_
      go_simp
      (try with_reducible rfl)
    | nx + 10, hjx, _ => omega
  intro S w' hb hG
  simp only [GH.mkL, List.drop_succ_cons, List.drop_zero]
  have d9 : S 9 = .bool b := hG 9 (by omega)
  rw [d9]
  clear d9
  clear hG
  have HB := Lib.hid hb.below
  refine wpList_nil ?_
  go_wp2_with fail
  go_ret
  exact ⟨rfl, HB.out⟩
set_option maxRecDepth 20000 in
set_option maxHeartbeats 4000000 in
theorem q_add (g L p r : Nat) (n : Int) (w : World) (h : ScW w g L p r) (hL : L ≤ 4096) (hp : p ≤ 4 * L) (hn : (Lit.int .i64 n).wf = true) :
    Calls Try.prog 5 #[.pointer (some ⟨g, 0, none⟩), .int .i64 n] w fun e w' => e = .returned (.tuple #[]) ∧ (∃ p', p' = min (p + clN 0 4096 n) (4 * L) ∧ ScW w' g L p' r) ∧ Tou g w w' := by
  have hkb : clN 0 4096 n ≤ 4096 := clN_le (by omega) _
  obtain ⟨k, hk⟩ : ∃ k, k = clN 0 4096 n := ⟨_, rfl⟩
  rw [← hk] at hkb ⊢
  have HK : Hid (∀ w', Calls Try.prog 10 #[.int .i64 n] w' fun e w'' => e = .returned (.int .i64 (k : Nat)) ∧ Below w'.heap.size w' w'') := Lib.hid fun w' => by
    rw [hk]
    exact (qbound_any n w' hn).mono (by rintro e w'' ⟨rfl, rfl⟩; exact ⟨rfl, Below.refl _ _⟩)
  clear hk
  obtain ⟨s, hs⟩ : ∃ s, s = p + k := ⟨_, rfl⟩
  obtain ⟨m, hm⟩ : ∃ m, m = 4 * L := ⟨_, rfl⟩
  rw [← hs, ← hm]
  obtain ⟨t, ht⟩ : ∃ t, t = min s m := ⟨_, rfl⟩
  have hsb : s ≤ 20480 := by omega
  have hmb : m ≤ 16384 := by omega
  have hsi : (p : Int) + (k : Int) = (s : Nat) := by omega
  have hmi : 4 * (L : Int) = (m : Nat) := by omega
  have hws : IntKind.i64.wrap (s : Int) = (s : Nat) := by rw [IntKind.wrap_i64]; omega
  have hwm : IntKind.i64.wrap (m : Int) = (m : Nat) := by rw [IntKind.wrap_i64]; omega
  have hmin : (if m < s then (m : Int) else (s : Int)) = (t : Nat) := by rw [ht]; split <;> omega
  rw [← ht]
  have H := Lib.hid (show Blk w g 31 #[.int .i64 (L : Nat), .int .i64 (p : Nat), .int .i64 (r : Nat)] from h)
  clear h hs hm ht hsb hmb hL hp hkb hn
  go_enter Try.func5, Try.ntmps5
  refine GH.wp_ghl2 (M := false) 16 ((GH.SP.eq (.pointer (some ⟨g, 0, none⟩))) :: (GH.SP.eq (.pointer (some ⟨g, 0, none⟩))) :: (GH.SP.eq (.pointer (some ⟨g, 0, none⟩))) :: (GH.SP.eq (.pointer (some ⟨g, 1, none⟩))) :: (GH.SP.eq (.int .i64 (p : Nat))) :: (GH.SP.eq (.int .i64 n)) :: (GH.SP.eq (.int .i64 (k : Nat))) :: (GH.SP.eq (.int .i64 (s : Nat))) :: (GH.SP.eq (.pointer (some ⟨g, 0, none⟩))) :: (GH.SP.eq (.pointer (some ⟨g, 0, none⟩))) :: (GH.SP.eq (.pointer (some ⟨g, 0, none⟩))) :: (GH.SP.eq (.int .i64 (L : Nat))) :: (GH.SP.eq (.int .i64 (m : Nat))) :: (GH.SP.eq (.int .i64 (t : Nat))) :: (GH.SP.eq (.pointer (some ⟨g, 0, none⟩))) :: (GH.SP.eq (.pointer (some ⟨g, 1, none⟩))) :: []) (none :: none :: none :: none :: (some 0) :: (some 1) :: (some 2) :: (some 3) :: (some 4) :: (some 5) :: (some 6) :: (some 7) :: (some 8) :: (some 9) :: (some 10) :: (some 11) :: (some 12) :: (some 13) :: (some 14) :: (some 15) :: []) [4, 5, 6, 7, 8, 9, 10, 11, 12, 13, 14, 15, 16, 17, 18, 19] (by rfl) (by kernel_rfl) (by kernel_rfl) ?_ ?_ ?_
  · intro S jx v hjx
    match jx, hjx with
    | 0, _ => rfl
    | 1, _ => rfl
    | 2, _ => rfl
    | 3, _ => rfl
    | 4, _ => rfl
    | 5, _ => rfl
    | 6, _ => rfl
    | 7, _ => rfl
    | 8, _ => rfl
    | 9, _ => rfl
    | 10, _ => rfl
    | 11, _ => rfl
    | 12, _ => rfl
    | 13, _ => rfl
    | 14, _ => rfl
    | 15, _ => rfl
    | nx + 16, hjx => omega
  · intro jx hjx S w' hb hd
    match jx, hjx, hd with
    | 0, _, hd =>
      simp only [GH.mkL, List.getD_cons_succ, List.getD_cons_zero]
      clear hd
      refine GH.st_eq (by rfl) ?_
      go_simp
      (try with_reducible rfl)
    | 1, _, hd =>
      simp only [GH.mkL, List.getD_cons_succ, List.getD_cons_zero]
      clear hd
      refine GH.st_eq (by rfl) ?_
      go_simp
      (try with_reducible rfl)
    | 2, _, hd =>
      simp only [GH.mkL, List.getD_cons_succ, List.getD_cons_zero]
      have d1 : S 1 = .pointer (some ⟨g, 0, none⟩) := (hd 1 (by kernel_rfl)).2
      rw [d1]
      clear d1
      clear hd
      refine GH.st_eq (by rfl) ?_
      go_simp
      (try with_reducible rfl)
    | 3, _, hd =>
      simp only [GH.mkL, List.getD_cons_succ, List.getD_cons_zero]
      have d2 : S 2 = .pointer (some ⟨g, 0, none⟩) := (hd 2 (by kernel_rfl)).2
      rw [d2]
      clear d2
      clear hd
      refine GH.st_eq (by rfl) ?_
      go_simp
      (try with_reducible rfl)
    | 4, _, hd =>
      simp only [GH.mkL, List.getD_cons_succ, List.getD_cons_zero]
      have d3 : S 3 = .pointer (some ⟨g, 1, none⟩) := (hd 3 (by kernel_rfl)).2
      rw [d3]
      clear d3
      clear hd
      exact GH.st_load _ (by rfl) rfl rfl (((H.out.below hb.below H.out.lt)).cell 1) (by kernel_rfl)
    | 5, _, hd =>
      simp only [GH.mkL, List.getD_cons_succ, List.getD_cons_zero]
      clear hd
      refine GH.st_eq (by rfl) ?_
      go_simp
      (try with_reducible rfl)
    | 6, _, hd =>
      simp only [GH.mkL, List.getD_cons_succ, List.getD_cons_zero]
      have d5 : S 5 = .int .i64 n := (hd 5 (by kernel_rfl)).2
      rw [d5]
      clear d5
      clear hd
      refine GH.st_call (by rfl) hb.below.size (by go_simp) ((HK.out w').mono ?_)
      rintro e w9 ⟨rfl, hb9⟩
      exact ⟨_, rfl, hb9, rfl⟩
    | 7, _, hd =>
      simp only [GH.mkL, List.getD_cons_succ, List.getD_cons_zero]
      have d4 : S 4 = .int .i64 (p : Nat) := (hd 4 (by kernel_rfl)).2
      rw [d4]
      clear d4
      have d6 : S 6 = .int .i64 (k : Nat) := (hd 6 (by kernel_rfl)).2
      rw [d6]
      clear d6
      clear hd
      refine GH.st_eq (by rfl) ?_
      go_simp
      (try simp only [hsi, hws])
      (try with_reducible rfl)
    | 8, _, hd =>
      simp only [GH.mkL, List.getD_cons_succ, List.getD_cons_zero]
      clear hd
      refine GH.st_eq (by rfl) ?_
      go_simp
      (try with_reducible rfl)
    | 9, _, hd =>
      simp only [GH.mkL, List.getD_cons_succ, List.getD_cons_zero]
      have d8 : S 8 = .pointer (some ⟨g, 0, none⟩) := (hd 8 (by kernel_rfl)).2
      rw [d8]
      clear d8
      clear hd
      refine GH.st_eq (by rfl) ?_
      go_simp
      (try with_reducible rfl)
    | 10, _, hd =>
      simp only [GH.mkL, List.getD_cons_succ, List.getD_cons_zero]
      have d9 : S 9 = .pointer (some ⟨g, 0, none⟩) := (hd 9 (by kernel_rfl)).2
      rw [d9]
      clear d9
      clear hd
      refine GH.st_eq (by rfl) ?_
      go_simp
      (try with_reducible rfl)
    | 11, _, hd =>
      simp only [GH.mkL, List.getD_cons_succ, List.getD_cons_zero]
      have d10 : S 10 = .pointer (some ⟨g, 0, none⟩) := (hd 10 (by kernel_rfl)).2
      rw [d10]
      clear d10
      clear hd
      exact GH.st_load _ (by rfl) rfl rfl (((H.out.below hb.below H.out.lt)).cell 0) (by kernel_rfl)
    | 12, _, hd =>
      simp only [GH.mkL, List.getD_cons_succ, List.getD_cons_zero]
      have d11 : S 11 = .int .i64 (L : Nat) := (hd 11 (by kernel_rfl)).2
      rw [d11]
      clear d11
      clear hd
      refine GH.st_eq (by rfl) ?_
      go_simp
      (try simp only [hmi, hwm])
      (try with_reducible rfl)
    | 13, _, hd =>
      simp only [GH.mkL, List.getD_cons_succ, List.getD_cons_zero]
      have d7 : S 7 = .int .i64 (s : Nat) := (hd 7 (by kernel_rfl)).2
      rw [d7]
      clear d7
      have d12 : S 12 = .int .i64 (m : Nat) := (hd 12 (by kernel_rfl)).2
      rw [d12]
      clear d12
      clear hd
      refine GH.st_eq (by rfl) ?_
      go_simp
      (try exact hmin)
    | 14, _, hd =>
      simp only [GH.mkL, List.getD_cons_succ, List.getD_cons_zero]
      have d0 : S 0 = .pointer (some ⟨g, 0, none⟩) := (hd 0 (by kernel_rfl)).2
      rw [d0]
      clear d0
      have d1 : S 1 = .pointer (some ⟨g, 0, none⟩) := (hd 1 (by kernel_rfl)).2
      rw [d1]
      clear d1
      have d2 : S 2 = .pointer (some ⟨g, 0, none⟩) := (hd 2 (by kernel_rfl)).2
      rw [d2]
      clear d2
      have d3 : S 3 = .pointer (some ⟨g, 1, none⟩) := (hd 3 (by kernel_rfl)).2
      rw [d3]
      clear d3
      have d4 : S 4 = .int .i64 (p : Nat) := (hd 4 (by kernel_rfl)).2
      rw [d4]
      clear d4
      have d5 : S 5 = .int .i64 n := (hd 5 (by kernel_rfl)).2
      rw [d5]
      clear d5
      have d6 : S 6 = .int .i64 (k : Nat) := (hd 6 (by kernel_rfl)).2
      rw [d6]
      clear d6
      have d7 : S 7 = .int .i64 (s : Nat) := (hd 7 (by kernel_rfl)).2
      rw [d7]
      clear d7
      have d8 : S 8 = .pointer (some ⟨g, 0, none⟩) := (hd 8 (by kernel_rfl)).2
      rw [d8]
      clear d8
      have d9 : S 9 = .pointer (some ⟨g, 0, none⟩) := (hd 9 (by kernel_rfl)).2
      rw [d9]
      clear d9
      have d10 : S 10 = .pointer (some ⟨g, 0, none⟩) := (hd 10 (by kernel_rfl)).2
      rw [d10]
      clear d10
      have d11 : S 11 = .int .i64 (L : Nat) := (hd 11 (by kernel_rfl)).2
      rw [d11]
      clear d11
      have d12 : S 12 = .int .i64 (m : Nat) := (hd 12 (by kernel_rfl)).2
      rw [d12]
      clear d12
      have d13 : S 13 = .int .i64 (t : Nat) := (hd 13 (by kernel_rfl)).2
      rw [d13]
      clear d13
      clear hd
      refine GH.st_eq (by rfl) ?_
      go_simp
      (try with_reducible rfl)
    | 15, _, hd =>
      simp only [GH.mkL, List.getD_cons_succ, List.getD_cons_zero]
      have d0 : S 0 = .pointer (some ⟨g, 0, none⟩) := (hd 0 (by kernel_rfl)).2
      rw [d0]
      clear d0
      have d1 : S 1 = .pointer (some ⟨g, 0, none⟩) := (hd 1 (by kernel_rfl)).2
      rw [d1]
      clear d1
      have d2 : S 2 = .pointer (some ⟨g, 0, none⟩) := (hd 2 (by kernel_rfl)).2
      rw [d2]
      clear d2
      have d3 : S 3 = .pointer (some ⟨g, 1, none⟩) := (hd 3 (by kernel_rfl)).2
      rw [d3]
      clear d3
      have d4 : S 4 = .int .i64 (p : Nat) := (hd 4 (by kernel_rfl)).2
      rw [d4]
      clear d4
      have d5 : S 5 = .int .i64 n := (hd 5 (by kernel_rfl)).2
      rw [d5]
      clear d5
      have d6 : S 6 = .int .i64 (k : Nat) := (hd 6 (by kernel_rfl)).2
      rw [d6]
      clear d6
      have d7 : S 7 = .int .i64 (s : Nat) := (hd 7 (by kernel_rfl)).2
      rw [d7]
      clear d7
      have d8 : S 8 = .pointer (some ⟨g, 0, none⟩) := (hd 8 (by kernel_rfl)).2
      rw [d8]
      clear d8
      have d9 : S 9 = .pointer (some ⟨g, 0, none⟩) := (hd 9 (by kernel_rfl)).2
      rw [d9]
      clear d9
      have d10 : S 10 = .pointer (some ⟨g, 0, none⟩) := (hd 10 (by kernel_rfl)).2
      rw [d10]
      clear d10
      have d11 : S 11 = .int .i64 (L : Nat) := (hd 11 (by kernel_rfl)).2
      rw [d11]
      clear d11
      have d12 : S 12 = .int .i64 (m : Nat) := (hd 12 (by kernel_rfl)).2
      rw [d12]
      clear d12
      have d13 : S 13 = .int .i64 (t : Nat) := (hd 13 (by kernel_rfl)).2
      rw [d13]
      clear d13
      have d14 : S 14 = .pointer (some ⟨g, 0, none⟩) := (hd 14 (by kernel_rfl)).2
      rw [d14]
      clear d14
      clear hd
      refine GH.st_eq (by rfl) ?_
      go_simp
      (try with_reducible rfl)
    | nx + 16, hjx, _ => omega
  intro S w' hb hG
  simp only [GH.mkL, List.drop_succ_cons, List.drop_zero]
  have d13 : S 13 = .int .i64 (t : Nat) := hG 13 (by omega)
  rw [d13]
  clear d13
  have d15 : S 15 = .pointer (some ⟨g, 1, none⟩) := hG 15 (by omega)
  rw [d15]
  clear d15
  clear hG
  have KF := H.out.below hb.below H.out.lt
  have f1 := KF.frozen 1
  have c1 : w'.cell? ⟨g, 1, none⟩ = some (.int .i64 (p : Nat)) := by rw [KF.cell]; rfl
  have HKF := Lib.hid KF
  have HB := Lib.hid hb
  clear KF hb
  go_wp2_with fail
  go_end0
  exact ⟨rfl, ⟨_, rfl, Blk.set HKF.out 1 _⟩, (Tou.of HB.out.below (Nat.le_of_lt H.out.lt)).solo (Solo.refl.setCell 1 _)⟩
set_option maxRecDepth 20000 in
set_option maxHeartbeats 4000000 in
theorem q_tick (g L p r : Nat) (n : Int) (w : World) (h : ScW w g L p r) (hp : p ≤ 16384) (hr : r < 8) (hn : (Lit.int .i64 n).wf = true) :
    Calls Try.prog 7 #[.pointer (some ⟨g, 0, none⟩), .int .i64 n] w fun e w' => e = .returned (.tuple #[]) ∧ (∃ p' r', p' = p - (r + clN 0 4096 n) / 8 ∧ r' = (r + clN 0 4096 n) % 8 ∧ ScW w' g L p' r') ∧ Tou g w w' := by
  have hkb : clN 0 4096 n ≤ 4096 := clN_le (by omega) _
  obtain ⟨k, hk⟩ : ∃ k, k = clN 0 4096 n := ⟨_, rfl⟩
  rw [← hk] at hkb ⊢
  have HK : Hid (∀ w', Calls Try.prog 10 #[.int .i64 n] w' fun e w'' => e = .returned (.int .i64 (k : Nat)) ∧ Below w'.heap.size w' w'') := Lib.hid fun w' => by
    rw [hk]
    exact (qbound_any n w' hn).mono (by rintro e w'' ⟨rfl, rfl⟩; exact ⟨rfl, Below.refl _ _⟩)
  clear hk
  obtain ⟨s, hs⟩ : ∃ s, s = r + k := ⟨_, rfl⟩
  rw [← hs]
  obtain ⟨q, hq⟩ : ∃ q, q = s / 8 := ⟨_, rfl⟩
  obtain ⟨z, hz⟩ : ∃ z, z = s % 8 := ⟨_, rfl⟩
  obtain ⟨d, hd⟩ : ∃ d : Int, d = (p : Int) - (q : Int) := ⟨_, rfl⟩
  obtain ⟨t, ht⟩ : ∃ t, t = p - q := ⟨_, rfl⟩
  rw [← hq, ← hz, ← ht]
  have hsb : s ≤ 4104 := by omega
  have hsi : (r : Int) + (k : Int) = (s : Nat) := by omega
  have hws : IntKind.i64.wrap (s : Int) = (s : Nat) := by rw [IntKind.wrap_i64]; omega
  have hqi : (s : Int) / 8 = (q : Nat) := by omega
  have hzi : (s : Int) % 8 = (z : Nat) := by omega
  have hqt : (s : Int).tdiv 8 = (q : Nat) := by rw [Int.tdiv_eq_ediv_of_nonneg (by omega)]; exact hqi
  have hzt : (s : Int).tmod 8 = (z : Nat) := by rw [Int.tmod_eq_emod_of_nonneg (by omega)]; exact hzi
  have hwq : IntKind.i64.wrap (q : Int) = (q : Nat) := by rw [IntKind.wrap_i64]; omega
  have hwz : IntKind.i64.wrap (z : Int) = (z : Nat) := by rw [IntKind.wrap_i64]; omega
  have hdi : (p : Int) - (q : Int) = d := hd.symm
  have hwd : IntKind.i64.wrap d = d := by rw [IntKind.wrap_i64]; omega
  have hmx : (if d < 0 then (0 : Int) else d) = (t : Nat) := by split <;> omega
  have H := Lib.hid (show Blk w g 31 #[.int .i64 (L : Nat), .int .i64 (p : Nat), .int .i64 (r : Nat)] from h)
  clear h hs hq hz hd ht hsb hp hkb hn hr
  go_enter Try.func7, Try.ntmps7
  go_upto_region 0 with fail
  refine GH.wp_ghl2 (M := false) 9 ((GH.SP.eq (.pointer (some ⟨g, 0, none⟩))) :: (GH.SP.eq (.pointer (some ⟨g, 0, none⟩))) :: (GH.SP.eq (.pointer (some ⟨g, 2, none⟩))) :: (GH.SP.eq (.int .i64 (r : Nat))) :: (GH.SP.eq (.int .i64 n)) :: (GH.SP.eq (.int .i64 (k : Nat))) :: (GH.SP.eq (.int .i64 (s : Nat))) :: (GH.SP.eq (.pointer (some ⟨g, 0, none⟩))) :: (GH.SP.eq (.pointer (some ⟨g, 2, none⟩))) :: []) (none :: none :: none :: none :: (some 0) :: (some 1) :: (some 2) :: (some 3) :: (some 4) :: (some 5) :: (some 6) :: (some 7) :: (some 8) :: none :: none :: none :: none :: none :: none :: none :: none :: none :: none :: none :: none :: none :: none :: none :: none :: none :: none :: none :: none :: none :: []) [4, 5, 6, 7, 8, 9, 10, 11, 12] (by rfl) (by kernel_rfl) (by kernel_rfl) ?_ ?_ ?_
  · intro S jx v hjx
    match jx, hjx with
    | 0, _ => rfl
    | 1, _ => rfl
    | 2, _ => rfl
    | 3, _ => rfl
    | 4, _ => rfl
    | 5, _ => rfl
    | 6, _ => rfl
    | 7, _ => rfl
    | 8, _ => rfl
    | nx + 9, hjx => omega
  · intro jx hjx S w' hb hd
    match jx, hjx, hd with
    | 0, _, hd =>
      simp only [GH.mkL, List.getD_cons_succ, List.getD_cons_zero]
      clear hd
      refine GH.st_eq (by rfl) ?_
      go_simp
      (try with_reducible rfl)
    | 1, _, hd =>
      simp only [GH.mkL, List.getD_cons_succ, List.getD_cons_zero]
      have d0 : S 0 = .pointer (some ⟨g, 0, none⟩) := (hd 0 (by kernel_rfl)).2
      rw [d0]
      clear d0
      clear hd
      refine GH.st_eq (by rfl) ?_
      go_simp
      (try with_reducible rfl)
    | 2, _, hd =>
      simp only [GH.mkL, List.getD_cons_succ, List.getD_cons_zero]
      have d1 : S 1 = .pointer (some ⟨g, 0, none⟩) := (hd 1 (by kernel_rfl)).2
      rw [d1]
      clear d1
      clear hd
      refine GH.st_eq (by rfl) ?_
      go_simp
      (try with_reducible rfl)
    | 3, _, hd =>
      simp only [GH.mkL, List.getD_cons_succ, List.getD_cons_zero]
      have d2 : S 2 = .pointer (some ⟨g, 2, none⟩) := (hd 2 (by kernel_rfl)).2
      rw [d2]
      clear d2
      clear hd
      exact GH.st_load _ (by rfl) rfl rfl (((H.out.below hb.below H.out.lt)).cell 2) (by kernel_rfl)
    | 4, _, hd =>
      simp only [GH.mkL, List.getD_cons_succ, List.getD_cons_zero]
      clear hd
      refine GH.st_eq (by rfl) ?_
      go_simp
      (try with_reducible rfl)
    | 5, _, hd =>
      simp only [GH.mkL, List.getD_cons_succ, List.getD_cons_zero]
      have d4 : S 4 = .int .i64 n := (hd 4 (by kernel_rfl)).2
      rw [d4]
      clear d4
      clear hd
      refine GH.st_call (by rfl) hb.below.size (by go_simp) ((HK.out w').mono ?_)
      rintro e w9 ⟨rfl, hb9⟩
      exact ⟨_, rfl, hb9, rfl⟩
    | 6, _, hd =>
      simp only [GH.mkL, List.getD_cons_succ, List.getD_cons_zero]
      have d3 : S 3 = .int .i64 (r : Nat) := (hd 3 (by kernel_rfl)).2
      rw [d3]
      clear d3
      have d5 : S 5 = .int .i64 (k : Nat) := (hd 5 (by kernel_rfl)).2
      rw [d5]
      clear d5
      clear hd
      refine GH.st_eq (by rfl) ?_
      go_simp
      (try simp only [hsi, hws])
      (try with_reducible rfl)
    | 7, _, hd =>
      simp only [GH.mkL, List.getD_cons_succ, List.getD_cons_zero]
      have d0 : S 0 = .pointer (some ⟨g, 0, none⟩) := (hd 0 (by kernel_rfl)).2
      rw [d0]
      clear d0
      have d1 : S 1 = .pointer (some ⟨g, 0, none⟩) := (hd 1 (by kernel_rfl)).2
      rw [d1]
      clear d1
      have d2 : S 2 = .pointer (some ⟨g, 2, none⟩) := (hd 2 (by kernel_rfl)).2
      rw [d2]
      clear d2
      have d3 : S 3 = .int .i64 (r : Nat) := (hd 3 (by kernel_rfl)).2
      rw [d3]
      clear d3
      have d4 : S 4 = .int .i64 n := (hd 4 (by kernel_rfl)).2
      rw [d4]
      clear d4
      have d5 : S 5 = .int .i64 (k : Nat) := (hd 5 (by kernel_rfl)).2
      rw [d5]
      clear d5
      have d6 : S 6 = .int .i64 (s : Nat) := (hd 6 (by kernel_rfl)).2
      rw [d6]
      clear d6
      clear hd
      refine GH.st_eq (by rfl) ?_
      go_simp
      (try with_reducible rfl)
    | 8, _, hd =>
      simp only [GH.mkL, List.getD_cons_succ, List.getD_cons_zero]
      have d0 : S 0 = .pointer (some ⟨g, 0, none⟩) := (hd 0 (by kernel_rfl)).2
      rw [d0]
      clear d0
      have d1 : S 1 = .pointer (some ⟨g, 0, none⟩) := (hd 1 (by kernel_rfl)).2
      rw [d1]
      clear d1
      have d2 : S 2 = .pointer (some ⟨g, 2, none⟩) := (hd 2 (by kernel_rfl)).2
      rw [d2]
      clear d2
      have d3 : S 3 = .int .i64 (r : Nat) := (hd 3 (by kernel_rfl)).2
      rw [d3]
      clear d3
      have d4 : S 4 = .int .i64 n := (hd 4 (by kernel_rfl)).2
      rw [d4]
      clear d4
      have d5 : S 5 = .int .i64 (k : Nat) := (hd 5 (by kernel_rfl)).2
      rw [d5]
      clear d5
      have d6 : S 6 = .int .i64 (s : Nat) := (hd 6 (by kernel_rfl)).2
      rw [d6]
      clear d6
      have d7 : S 7 = .pointer (some ⟨g, 0, none⟩) := (hd 7 (by kernel_rfl)).2
      rw [d7]
      clear d7
      clear hd
      refine GH.st_eq (by rfl) ?_
      go_simp
      (try with_reducible rfl)
    | nx + 9, hjx, _ => omega
  intro S w' hb hG
  simp only [GH.mkL, List.drop_succ_cons, List.drop_zero]
  have d6 : S 6 = .int .i64 (s : Nat) := hG 6 (by omega)
  rw [d6]
  clear d6
  have d8 : S 8 = .pointer (some ⟨g, 2, none⟩) := hG 8 (by omega)
  rw [d8]
  clear d8
  clear hG
  have KF := H.out.below hb.below H.out.lt
  have f2 := KF.frozen 2
  have c2 : w'.cell? ⟨g, 2, none⟩ = some (.int .i64 (r : Nat)) := by rw [KF.cell]; rfl
  have HKF := Lib.hid KF
  have HB := Lib.hid hb
  clear KF hb
  go_upto_region 1 with fail
  have H1 := Lib.hid (Blk.set HKF.out 2 (.int .i64 (s : Nat)))
  have T1 := Lib.hid ((Tou.of HB.out.below (Nat.le_of_lt H.out.lt)).solo (Solo.refl.setCell 2 (.int .i64 (s : Nat))))
  clear c2 f2 HKF HB
  generalize w'.setCell ⟨g, 2, none⟩ (.int .i64 (s : Nat)) = w1 at H1 T1 ⊢
  have H := Lib.hid (show Blk w1 g 31 #[.int .i64 (L : Nat), .int .i64 (p : Nat), .int .i64 (s : Nat)] from H1.out)
  clear H1
  refine GH.wp_ghl2 (M := false) 14 ((GH.SP.eq (.pointer (some ⟨g, 0, none⟩))) :: (GH.SP.eq (.pointer (some ⟨g, 0, none⟩))) :: (GH.SP.eq (.pointer (some ⟨g, 0, none⟩))) :: (GH.SP.eq (.pointer (some ⟨g, 1, none⟩))) :: (GH.SP.eq (.int .i64 (p : Nat))) :: (GH.SP.eq (.pointer (some ⟨g, 0, none⟩))) :: (GH.SP.eq (.pointer (some ⟨g, 0, none⟩))) :: (GH.SP.eq (.pointer (some ⟨g, 2, none⟩))) :: (GH.SP.eq (.int .i64 (s : Nat))) :: (GH.SP.eq (.int .i64 (q : Nat))) :: (GH.SP.eq (.int .i64 d)) :: (GH.SP.eq (.int .i64 (t : Nat))) :: (GH.SP.eq (.pointer (some ⟨g, 0, none⟩))) :: (GH.SP.eq (.pointer (some ⟨g, 1, none⟩))) :: []) (none :: none :: none :: none :: none :: none :: none :: none :: none :: none :: none :: none :: none :: (some 0) :: (some 1) :: (some 2) :: (some 3) :: (some 4) :: (some 5) :: (some 6) :: (some 7) :: (some 8) :: (some 9) :: (some 10) :: (some 11) :: (some 12) :: (some 13) :: none :: none :: none :: none :: none :: none :: none :: []) [13, 14, 15, 16, 17, 18, 19, 20, 21, 22, 23, 24, 25, 26] (by rfl) (by kernel_rfl) (by kernel_rfl) ?_ ?_ ?_
  · intro S jx v hjx
    match jx, hjx with
    | 0, _ => rfl
    | 1, _ => rfl
    | 2, _ => rfl
    | 3, _ => rfl
    | 4, _ => rfl
    | 5, _ => rfl
    | 6, _ => rfl
    | 7, _ => rfl
    | 8, _ => rfl
    | 9, _ => rfl
    | 10, _ => rfl
    | 11, _ => rfl
    | 12, _ => rfl
    | 13, _ => rfl
    | nx + 14, hjx => omega
  · intro jx hjx S w' hb hd
    match jx, hjx, hd with
    | 0, _, hd =>
      simp only [GH.mkL, List.getD_cons_succ, List.getD_cons_zero]
      clear hd
      refine GH.st_eq (by rfl) ?_
      go_simp
      (try with_reducible rfl)
    | 1, _, hd =>
      simp only [GH.mkL, List.getD_cons_succ, List.getD_cons_zero]
      clear hd
      refine GH.st_eq (by rfl) ?_
      go_simp
      (try with_reducible rfl)
    | 2, _, hd =>
      simp only [GH.mkL, List.getD_cons_succ, List.getD_cons_zero]
      have d1 : S 1 = .pointer (some ⟨g, 0, none⟩) := (hd 1 (by kernel_rfl)).2
      rw [d1]
      clear d1
      clear hd
      refine GH.st_eq (by rfl) ?_
      go_simp
      (try with_reducible rfl)
    | 3, _, hd =>
      simp only [GH.mkL, List.getD_cons_succ, List.getD_cons_zero]
      have d2 : S 2 = .pointer (some ⟨g, 0, none⟩) := (hd 2 (by kernel_rfl)).2
      rw [d2]
      clear d2
      clear hd
      refine GH.st_eq (by rfl) ?_
      go_simp
      (try with_reducible rfl)
    | 4, _, hd =>
      simp only [GH.mkL, List.getD_cons_succ, List.getD_cons_zero]
      have d3 : S 3 = .pointer (some ⟨g, 1, none⟩) := (hd 3 (by kernel_rfl)).2
      rw [d3]
      clear d3
      clear hd
      exact GH.st_load _ (by rfl) rfl rfl (((H.out.below hb.below H.out.lt)).cell 1) (by kernel_rfl)
    | 5, _, hd =>
      simp only [GH.mkL, List.getD_cons_succ, List.getD_cons_zero]
      clear hd
      refine GH.st_eq (by rfl) ?_
      go_simp
      (try with_reducible rfl)
    | 6, _, hd =>
      simp only [GH.mkL, List.getD_cons_succ, List.getD_cons_zero]
      have d5 : S 5 = .pointer (some ⟨g, 0, none⟩) := (hd 5 (by kernel_rfl)).2
      rw [d5]
      clear d5
      clear hd
      refine GH.st_eq (by rfl) ?_
      go_simp
      (try with_reducible rfl)
    | 7, _, hd =>
      simp only [GH.mkL, List.getD_cons_succ, List.getD_cons_zero]
      have d6 : S 6 = .pointer (some ⟨g, 0, none⟩) := (hd 6 (by kernel_rfl)).2
      rw [d6]
      clear d6
      clear hd
      refine GH.st_eq (by rfl) ?_
      go_simp
      (try with_reducible rfl)
    | 8, _, hd =>
      simp only [GH.mkL, List.getD_cons_succ, List.getD_cons_zero]
      have d7 : S 7 = .pointer (some ⟨g, 2, none⟩) := (hd 7 (by kernel_rfl)).2
      rw [d7]
      clear d7
      clear hd
      exact GH.st_load _ (by rfl) rfl rfl (((H.out.below hb.below H.out.lt)).cell 2) (by kernel_rfl)
    | 9, _, hd =>
      simp only [GH.mkL, List.getD_cons_succ, List.getD_cons_zero]
      have d8 : S 8 = .int .i64 (s : Nat) := (hd 8 (by kernel_rfl)).2
      rw [d8]
      clear d8
      clear hd
      refine GH.st_eq (by rfl) ?_
      go_simp
      (try simp only [hqi, hqt, hwq])
      (try with_reducible rfl)
    | 10, _, hd =>
      simp only [GH.mkL, List.getD_cons_succ, List.getD_cons_zero]
      have d4 : S 4 = .int .i64 (p : Nat) := (hd 4 (by kernel_rfl)).2
      rw [d4]
      clear d4
      have d9 : S 9 = .int .i64 (q : Nat) := (hd 9 (by kernel_rfl)).2
      rw [d9]
      clear d9
      clear hd
      refine GH.st_eq (by rfl) ?_
      go_simp
      (try simp only [hdi, hwd])
      (try with_reducible rfl)
    | 11, _, hd =>
      simp only [GH.mkL, List.getD_cons_succ, List.getD_cons_zero]
      have d10 : S 10 = .int .i64 d := (hd 10 (by kernel_rfl)).2
      rw [d10]
      clear d10
      clear hd
      refine GH.st_eq (by rfl) ?_
      go_simp
      (try exact hmx)
    | 12, _, hd =>
      simp only [GH.mkL, List.getD_cons_succ, List.getD_cons_zero]
      have d0 : S 0 = .pointer (some ⟨g, 0, none⟩) := (hd 0 (by kernel_rfl)).2
      rw [d0]
      clear d0
      have d1 : S 1 = .pointer (some ⟨g, 0, none⟩) := (hd 1 (by kernel_rfl)).2
      rw [d1]
      clear d1
      have d2 : S 2 = .pointer (some ⟨g, 0, none⟩) := (hd 2 (by kernel_rfl)).2
      rw [d2]
      clear d2
      have d3 : S 3 = .pointer (some ⟨g, 1, none⟩) := (hd 3 (by kernel_rfl)).2
      rw [d3]
      clear d3
      have d4 : S 4 = .int .i64 (p : Nat) := (hd 4 (by kernel_rfl)).2
      rw [d4]
      clear d4
      have d5 : S 5 = .pointer (some ⟨g, 0, none⟩) := (hd 5 (by kernel_rfl)).2
      rw [d5]
      clear d5
      have d6 : S 6 = .pointer (some ⟨g, 0, none⟩) := (hd 6 (by kernel_rfl)).2
      rw [d6]
      clear d6
      have d7 : S 7 = .pointer (some ⟨g, 2, none⟩) := (hd 7 (by kernel_rfl)).2
      rw [d7]
      clear d7
      have d8 : S 8 = .int .i64 (s : Nat) := (hd 8 (by kernel_rfl)).2
      rw [d8]
      clear d8
      have d9 : S 9 = .int .i64 (q : Nat) := (hd 9 (by kernel_rfl)).2
      rw [d9]
      clear d9
      have d10 : S 10 = .int .i64 d := (hd 10 (by kernel_rfl)).2
      rw [d10]
      clear d10
      have d11 : S 11 = .int .i64 (t : Nat) := (hd 11 (by kernel_rfl)).2
      rw [d11]
      clear d11
      clear hd
      refine GH.st_eq (by rfl) ?_
      go_simp
      (try with_reducible rfl)
    | 13, _, hd =>
      simp only [GH.mkL, List.getD_cons_succ, List.getD_cons_zero]
      have d0 : S 0 = .pointer (some ⟨g, 0, none⟩) := (hd 0 (by kernel_rfl)).2
      rw [d0]
      clear d0
      have d1 : S 1 = .pointer (some ⟨g, 0, none⟩) := (hd 1 (by kernel_rfl)).2
      rw [d1]
      clear d1
      have d2 : S 2 = .pointer (some ⟨g, 0, none⟩) := (hd 2 (by kernel_rfl)).2
      rw [d2]
      clear d2
      have d3 : S 3 = .pointer (some ⟨g, 1, none⟩) := (hd 3 (by kernel_rfl)).2
      rw [d3]
      clear d3
      have d4 : S 4 = .int .i64 (p : Nat) := (hd 4 (by kernel_rfl)).2
      rw [d4]
      clear d4
      have d5 : S 5 = .pointer (some ⟨g, 0, none⟩) := (hd 5 (by kernel_rfl)).2
      rw [d5]
      clear d5
      have d6 : S 6 = .pointer (some ⟨g, 0, none⟩) := (hd 6 (by kernel_rfl)).2
      rw [d6]
      clear d6
      have d7 : S 7 = .pointer (some ⟨g, 2, none⟩) := (hd 7 (by kernel_rfl)).2
      rw [d7]
      clear d7
      have d8 : S 8 = .int .i64 (s : Nat) := (hd 8 (by kernel_rfl)).2
      rw [d8]
      clear d8
      have d9 : S 9 = .int .i64 (q : Nat) := (hd 9 (by kernel_rfl)).2
      rw [d9]
      clear d9
      have d10 : S 10 = .int .i64 d := (hd 10 (by kernel_rfl)).2
      rw [d10]
      clear d10
      have d11 : S 11 = .int .i64 (t : Nat) := (hd 11 (by kernel_rfl)).2
      rw [d11]
      clear d11
      have d12 : S 12 = .pointer (some ⟨g, 0, none⟩) := (hd 12 (by kernel_rfl)).2
      rw [d12]
      clear d12
      clear hd
      refine GH.st_eq (by rfl) ?_
      go_simp
      (try with_reducible rfl)
    | nx + 14, hjx, _ => omega
  intro S w' hb hG
  simp only [GH.mkL, List.drop_succ_cons, List.drop_zero]
  have d11 : S 11 = .int .i64 (t : Nat) := hG 11 (by omega)
  rw [d11]
  clear d11
  have d13 : S 13 = .pointer (some ⟨g, 1, none⟩) := hG 13 (by omega)
  rw [d13]
  clear d13
  clear hG
  have KF := H.out.below hb.below H.out.lt
  have f1 := KF.frozen 1
  have c1 : w'.cell? ⟨g, 1, none⟩ = some (.int .i64 (p : Nat)) := by rw [KF.cell]; rfl
  have HKF := Lib.hid KF
  have T2 := Lib.hid (T1.out.grow hb.below (Nat.le_of_lt H.out.lt))
  clear KF hb
  go_upto_region 2 with fail
  have H2 := Lib.hid (Blk.set HKF.out 1 (.int .i64 (t : Nat)))
  have T3 := Lib.hid (T2.out.solo (Solo.refl.setCell 1 (.int .i64 (t : Nat))))
  clear c1 f1 HKF T1 T2 H
  generalize w'.setCell ⟨g, 1, none⟩ (.int .i64 (t : Nat)) = w2 at H2 T3 ⊢
  have H := Lib.hid (show Blk w2 g 31 #[.int .i64 (L : Nat), .int .i64 (t : Nat), .int .i64 (s : Nat)] from H2.out)
  have f2 := H.out.frozen 2
  have c2 : w2.cell? ⟨g, 2, none⟩ = some (.int .i64 (s : Nat)) := by rw [H.out.cell]; rfl
  clear H2
  go_wp2_with fail
  go_end0
  refine ⟨rfl, ⟨_, _, rfl, rfl, ?_⟩, T3.out.solo (Solo.refl.setCell 2 _)⟩
  first
    | exact Blk.set H.out 2 _
    | (trace_state; fail)
end Go.Proofs.Ytaoiihfppmconaa
