/- Package bucket: what its calls and the document's do. -/
import Derived.Test.YtdcpmfodkggpeaaBlkS
import Derived.Test.YtdcpmfodkggpeaaGhoP
import Derived.Test.YtdcpmfodkggpeaaTou
import Derived.Test.YtdcpmfodkggpeaaGho2
import Derived.Test.YtdcpmfodkggpeaaStm
import Derived.Test.YtdcpmfodkggpeaaRows
import Derived.OwnWalk
import Derived.BigQuiet
import Derived.RegionTactic
import Derived.ChangeAlike
namespace Go.Proofs.Ytdcpmfodkggpeaa
open Go.RowKit
set_option linter.unusedVariables false

/-- The number from 0 to 4096 that is nearest to one. -/
def bdN (n : Int) : Nat := if n < 0 then 0 else if 4096 < n then 4096 else n.toNat
theorem bdN_le (n : Int) : bdN n ≤ 4096 := by unfold bdN; split <;> (try split) <;> omega
theorem bdN_of {n : Nat} (h : n ≤ 4096) : bdN (n : Int) = n := by
  unfold bdN
  rw [if_neg (by omega), if_neg (by omega)]
  simp
def tickN (left n rate burst : Nat) : Nat := if burst < left + n * rate then burst else left + n * rate
theorem tickN_le (left n rate burst : Nat) : tickN left n rate burst ≤ burst := by unfold tickN; split <;> omega
theorem tickN_le' (left n rate burst : Nat) : tickN left n rate burst ≤ left + n * rate := by unfold tickN; split <;> omega
def Bkt (w : World) (g burst rate left : Nat) : Prop := Blk w g 65 #[.int .i64 (burst : Nat), .int .i64 (rate : Nat), .int .i64 (left : Nat)]

theorem bound_any (n : Int) (w : World) (hn : (Lit.int .i64 n).wf = true) : Calls Try.prog 27 #[.int .i64 n] w fun e w' => e = .returned (.int .i64 (bdN n : Nat)) ∧ w' = w := by
  by_cases h0 : n < 0
  · have e : bdN n = 0 := by unfold bdN; rw [if_pos h0]
    rw [e]
    have h1 : max n 0 = 0 := by omega
    go_enter Try.func27, Try.ntmps27
    go_wp2
    go_ret
    refine ⟨?_, rfl⟩
    simp
  by_cases h4 : 4096 < n
  · have e : bdN n = 4096 := by unfold bdN; rw [if_neg h0, if_pos h4]
    rw [e]
    go_enter Try.func27, Try.ntmps27
    go_wp2
    go_ret
    exact ⟨ret_int (by omega), rfl⟩
  · have e : ((bdN n : Nat) : Int) = n := by unfold bdN; rw [if_neg h0, if_neg h4]; omega
    rw [e]
    go_enter Try.func27, Try.ntmps27
    go_wp2
    go_ret
    exact ⟨ret_int (by omega), rfl⟩
theorem within_any (n : Int) (w : World) (hn : (Lit.int .i64 n).wf = true) : Calls Try.prog 28 #[.int .i64 n] w fun e w' => e = .returned (.int .i64 (bdN n : Nat)) ∧ w' = w := by
  by_cases h0 : n < 0
  · have e : bdN n = 0 := by unfold bdN; rw [if_pos h0]
    rw [e]
    go_enter Try.func28, Try.ntmps28
    go_wp2
    go_ret
    exact ⟨rfl, rfl⟩
  by_cases h4 : 4096 < n
  · have e : bdN n = 4096 := by unfold bdN; rw [if_neg h0, if_pos h4]
    rw [e]
    go_enter Try.func28, Try.ntmps28
    go_wp2
    go_ret
    exact ⟨rfl, rfl⟩
  · have e : ((bdN n : Nat) : Int) = n := by unfold bdN; rw [if_neg h0, if_neg h4]; omega
    rw [e]
    go_enter Try.func28, Try.ntmps28
    go_wp2
    go_ret
    exact ⟨rfl, rfl⟩
theorem bkt_new (b r : Int) (w : World) (hb : (Lit.int .i64 b).wf = true) (hr : (Lit.int .i64 r).wf = true) :
    Calls Try.prog 21 #[.int .i64 b, .int .i64 r] w fun e w' => e = .returned (.pointer (some ⟨w.heap.size, 0, none⟩)) ∧ Bkt w' w.heap.size (bdN b) (bdN r) (bdN b) ∧ Below w.heap.size w w' := by
  go_enter Try.func21, Try.ntmps21
  go_wp2_with fail
  refine (bound_any b w hb).mono ?_
  rintro e w1 ⟨rfl, rfl⟩
  go_wp2_with fail
  refine (bound_any r w1 hr).mono ?_
  rintro e w2 ⟨rfl, rfl⟩
  go_wp2_with fail
  go_ret
  exact ⟨rfl, Blk.new _ _ _, (Below.refl _ _).alloc (Nat.le_refl _) _⟩
theorem bkt_take (g bu r left : Nat) (w : World) (h : Bkt w g bu r left) (hl : left ≤ 4096) :
    Calls Try.prog 38 #[.pointer (some ⟨g, 0, none⟩)] w fun e w' => e = .returned (.bool (decide (0 < left))) ∧ Bkt w' g bu r (left - 1) ∧ Solo g w w' := by
  have c2 : w.cell? ⟨g, 2, none⟩ = some (.int .i64 (left : Nat)) := by rw [Blk.cell h]; rfl
  have f2 := Blk.frozen h 2
  have H := Lib.hid h
  clear h
  by_cases h0 : left = 0
  · subst h0
    go_enter Try.func38, Try.ntmps38
    go_wp2
    go_ret
    exact ⟨rfl, H.out, Solo.refl⟩
  · have h1 : ((left : Nat) : Int) ≠ 0 := by omega
    go_enter Try.func38, Try.ntmps38
    go_wp2
    go_ret
    refine ⟨?_, ?_, Solo.refl.setCell 2 _⟩
    · rw [decide_eq_true (show 0 < left by omega)]
      rfl
    · have e : ((left : Nat) : Int) - 1 = ((left - 1 : Nat) : Int) := by omega
      rw [e]
      exact Blk.set H.out 2 _
set_option linter.unusedSimpArgs false in
set_option maxRecDepth 20000 in
set_option maxHeartbeats 4000000 in
set_option linter.unusedSimpArgs false in
set_option maxRecDepth 20000 in
set_option maxHeartbeats 4000000 in
set_option linter.unusedSimpArgs false in
set_option maxRecDepth 20000 in
set_option maxHeartbeats 4000000 in
set_option linter.unusedSimpArgs false in
set_option maxRecDepth 20000 in
set_option maxHeartbeats 4000000 in
theorem bkt_tick (g bu r left : Nat) (n : Int) (w : World) (h : Bkt w g bu r left) (hl : left ≤ 4096) (hr : r ≤ 4096) (hn : (Lit.int .i64 n).wf = true) :
    Calls Try.prog 10 #[.pointer (some ⟨g, 0, none⟩), .int .i64 n] w fun e w' => e = .returned (.tuple #[]) ∧ Bkt w' g bu r (tickN left (bdN n) r bu) ∧ Tou g w w' := by
  have hkb := bdN_le n
  obtain ⟨k, hk⟩ : ∃ k, k = bdN n := ⟨_, rfl⟩
  rw [← hk] at hkb ⊢
  have HK : Hid (∀ w', Calls Try.prog 27 #[.int .i64 n] w' fun e w'' => e = .returned (.int .i64 (k : Nat)) ∧ Below w'.heap.size w' w'') := Lib.hid fun w' => by
    rw [hk]
    exact (bound_any n w' hn).mono (by rintro e w'' ⟨rfl, rfl⟩; exact ⟨rfl, Below.refl _ _⟩)
  clear hk
  obtain ⟨p, hp⟩ : ∃ p, p = k * r := ⟨_, rfl⟩
  have hpb : p ≤ 16777216 := by rw [hp]; exact Nat.mul_le_mul hkb hr
  have hpi : (k : Int) * (r : Int) = (p : Nat) := by rw [hp]; push_cast; rfl
  obtain ⟨t, ht⟩ : ∃ t, t = tickN left k r bu := ⟨_, rfl⟩
  obtain ⟨s, hs⟩ : ∃ s, s = left + p := ⟨_, rfl⟩
  have hsb : s ≤ 20000000 := by omega
  have hmin : (if bu < s then (bu : Int) else (s : Int)) = (t : Nat) := by
    rw [ht]
    unfold tickN
    rw [← hp, ← hs]
    split <;> rfl
  have hsum : (left : Int) + (p : Int) = (s : Nat) := by rw [hs]; push_cast; rfl
  have hwp : IntKind.i64.wrap (p : Int) = (p : Nat) := by rw [IntKind.wrap_i64]; omega
  have hws : IntKind.i64.wrap (s : Int) = (s : Nat) := by rw [IntKind.wrap_i64]; omega
  rw [← ht]
  have K0 := Lib.hid (show Blk w g 65 #[.int .i64 (bu : Nat), .int .i64 (r : Nat), .int .i64 (left : Nat)] from h)
  clear h hp ht hkb hpb hsb hs hl hr hn
  go_enter Try.func10, Try.ntmps10
  refine GH.wp_ghl2 (M := false) 18 ((GH.SP.eq (.pointer (some ⟨g, 0, none⟩))) :: (GH.SP.eq (.pointer (some ⟨g, 0, none⟩))) :: (GH.SP.eq (.pointer (some ⟨g, 0, none⟩))) :: (GH.SP.eq (.pointer (some ⟨g, 2, none⟩))) :: (GH.SP.eq (.int .i64 (left : Nat))) :: (GH.SP.eq (.int .i64 n)) :: (GH.SP.eq (.int .i64 (k : Nat))) :: (GH.SP.eq (.pointer (some ⟨g, 0, none⟩))) :: (GH.SP.eq (.pointer (some ⟨g, 0, none⟩))) :: (GH.SP.eq (.pointer (some ⟨g, 1, none⟩))) :: (GH.SP.eq (.int .i64 (r : Nat))) :: (GH.SP.eq (.int .i64 (p : Nat))) :: (GH.SP.eq (.int .i64 (s : Nat))) :: (GH.SP.eq (.pointer (some ⟨g, 0, none⟩))) :: (GH.SP.eq (.pointer (some ⟨g, 0, none⟩))) :: (GH.SP.eq (.pointer (some ⟨g, 0, none⟩))) :: (GH.SP.eq (.int .i64 (bu : Nat))) :: (GH.SP.eq (.int .i64 (t : Nat))) :: []) (none :: none :: none :: none :: (some 0) :: (some 1) :: (some 2) :: (some 3) :: (some 4) :: (some 5) :: (some 6) :: (some 7) :: (some 8) :: (some 9) :: (some 10) :: (some 11) :: (some 12) :: (some 13) :: (some 14) :: (some 15) :: (some 16) :: (some 17) :: none :: none :: []) [4, 5, 6, 7, 8, 9, 10, 11, 12, 13, 14, 15, 16, 17, 18, 19, 20, 21] (by rfl) (by kernel_rfl) (by kernel_rfl) ?_ ?_ ?_
  · intro S jx v hjx
    match jx, hjx with
    | 0, _ => rfl
    | 1, _ => rfl
    | 2, _ => rfl
    | 3, _ => rfl
    | 4, _ => rfl
    | 5, _ => rfl
    | 6, _ => rfl
    | 7, _ => rfl
    | 8, _ => rfl
    | 9, _ => rfl
    | 10, _ => rfl
    | 11, _ => rfl
    | 12, _ => rfl
    | 13, _ => rfl
    | 14, _ => rfl
    | 15, _ => rfl
    | 16, _ => rfl
    | 17, _ => rfl
    | nx + 18, hjx => omega
  · intro jx hjx S w' hb hd
    match jx, hjx, hd with
    | 0, _, hd =>
      simp only [GH.mkL, List.getD_cons_succ, List.getD_cons_zero]
      clear hd
      refine GH.st_eq (by rfl) ?_
      go_simp
      (try with_reducible rfl)
    | 1, _, hd =>
      simp only [GH.mkL, List.getD_cons_succ, List.getD_cons_zero]
      clear hd
      refine GH.st_eq (by rfl) ?_
      go_simp
      (try with_reducible rfl)
    | 2, _, hd =>
      simp only [GH.mkL, List.getD_cons_succ, List.getD_cons_zero]
      have d1 : S 1 = .pointer (some ⟨g, 0, none⟩) := (hd 1 (by kernel_rfl)).2
      rw [d1]
      clear d1
      clear hd
      refine GH.st_eq (by rfl) ?_
      go_simp
      (try with_reducible rfl)
    | 3, _, hd =>
      simp only [GH.mkL, List.getD_cons_succ, List.getD_cons_zero]
      have d2 : S 2 = .pointer (some ⟨g, 0, none⟩) := (hd 2 (by kernel_rfl)).2
      rw [d2]
      clear d2
      clear hd
      refine GH.st_eq (by rfl) ?_
      go_simp
      (try with_reducible rfl)
    | 4, _, hd =>
      simp only [GH.mkL, List.getD_cons_succ, List.getD_cons_zero]
      have d3 : S 3 = .pointer (some ⟨g, 2, none⟩) := (hd 3 (by kernel_rfl)).2
      rw [d3]
      clear d3
      clear hd
      exact GH.st_load _ (by rfl) rfl rfl (((K0.out.below hb.below K0.out.lt)).cell 2) (by kernel_rfl)
    | 5, _, hd =>
      simp only [GH.mkL, List.getD_cons_succ, List.getD_cons_zero]
      clear hd
      refine GH.st_eq (by rfl) ?_
      go_simp
      (try with_reducible rfl)
    | 6, _, hd =>
      simp only [GH.mkL, List.getD_cons_succ, List.getD_cons_zero]
      have d5 : S 5 = .int .i64 n := (hd 5 (by kernel_rfl)).2
      rw [d5]
      clear d5
      clear hd
      refine GH.st_call (by rfl) hb.below.size (by go_simp) ((HK.out w').mono ?_)
      rintro e w9 ⟨rfl, hb9⟩
      exact ⟨_, rfl, hb9, rfl⟩
    | 7, _, hd =>
      simp only [GH.mkL, List.getD_cons_succ, List.getD_cons_zero]
      clear hd
      refine GH.st_eq (by rfl) ?_
      go_simp
      (try with_reducible rfl)
    | 8, _, hd =>
      simp only [GH.mkL, List.getD_cons_succ, List.getD_cons_zero]
      have d7 : S 7 = .pointer (some ⟨g, 0, none⟩) := (hd 7 (by kernel_rfl)).2
      rw [d7]
      clear d7
      clear hd
      refine GH.st_eq (by rfl) ?_
      go_simp
      (try with_reducible rfl)
    | 9, _, hd =>
      simp only [GH.mkL, List.getD_cons_succ, List.getD_cons_zero]
      have d8 : S 8 = .pointer (some ⟨g, 0, none⟩) := (hd 8 (by kernel_rfl)).2
      rw [d8]
      clear d8
      clear hd
      refine GH.st_eq (by rfl) ?_
      go_simp
      (try with_reducible rfl)
    | 10, _, hd =>
      simp only [GH.mkL, List.getD_cons_succ, List.getD_cons_zero]
      have d9 : S 9 = .pointer (some ⟨g, 1, none⟩) := (hd 9 (by kernel_rfl)).2
      rw [d9]
      clear d9
      clear hd
      exact GH.st_load _ (by rfl) rfl rfl (((K0.out.below hb.below K0.out.lt)).cell 1) (by kernel_rfl)
    | 11, _, hd =>
      simp only [GH.mkL, List.getD_cons_succ, List.getD_cons_zero]
      have d6 : S 6 = .int .i64 (k : Nat) := (hd 6 (by kernel_rfl)).2
      rw [d6]
      clear d6
      have d10 : S 10 = .int .i64 (r : Nat) := (hd 10 (by kernel_rfl)).2
      rw [d10]
      clear d10
      clear hd
      refine GH.st_eq (by rfl) ?_
      go_simp
      (try with_reducible rfl)
    | 12, _, hd =>
      simp only [GH.mkL, List.getD_cons_succ, List.getD_cons_zero]
      have d4 : S 4 = .int .i64 (left : Nat) := (hd 4 (by kernel_rfl)).2
      rw [d4]
      clear d4
      have d11 : S 11 = .int .i64 (p : Nat) := (hd 11 (by kernel_rfl)).2
      rw [d11]
      clear d11
      clear hd
      refine GH.st_eq (by rfl) ?_
      go_simp
      (try with_reducible rfl)
    | 13, _, hd =>
      simp only [GH.mkL, List.getD_cons_succ, List.getD_cons_zero]
      clear hd
      refine GH.st_eq (by rfl) ?_
      go_simp
      (try with_reducible rfl)
    | 14, _, hd =>
      simp only [GH.mkL, List.getD_cons_succ, List.getD_cons_zero]
      have d13 : S 13 = .pointer (some ⟨g, 0, none⟩) := (hd 13 (by kernel_rfl)).2
      rw [d13]
      clear d13
      clear hd
      refine GH.st_eq (by rfl) ?_
      go_simp
      (try with_reducible rfl)
    | 15, _, hd =>
      simp only [GH.mkL, List.getD_cons_succ, List.getD_cons_zero]
      have d14 : S 14 = .pointer (some ⟨g, 0, none⟩) := (hd 14 (by kernel_rfl)).2
      rw [d14]
      clear d14
      clear hd
      refine GH.st_eq (by rfl) ?_
      go_simp
      (try with_reducible rfl)
    | 16, _, hd =>
      simp only [GH.mkL, List.getD_cons_succ, List.getD_cons_zero]
      have d15 : S 15 = .pointer (some ⟨g, 0, none⟩) := (hd 15 (by kernel_rfl)).2
      rw [d15]
      clear d15
      clear hd
      exact GH.st_load _ (by rfl) rfl rfl (((K0.out.below hb.below K0.out.lt)).cell 0) (by kernel_rfl)
    | 17, _, hd =>
      simp only [GH.mkL, List.getD_cons_succ, List.getD_cons_zero]
      have d12 : S 12 = .int .i64 (s : Nat) := (hd 12 (by kernel_rfl)).2
      rw [d12]
      clear d12
      have d16 : S 16 = .int .i64 (bu : Nat) := (hd 16 (by kernel_rfl)).2
      rw [d16]
      clear d16
      clear hd
      refine GH.st_eq (by rfl) ?_
      go_simp
      (try exact hmin)
    | nx + 18, hjx, _ => omega
  intro S w' hb hG
  simp only [GH.mkL, List.drop_succ_cons, List.drop_zero]
  have d0 : S 0 = .pointer (some ⟨g, 0, none⟩) := hG 0 (by omega)
  rw [d0]
  clear d0
  have d17 : S 17 = .int .i64 (t : Nat) := hG 17 (by omega)
  rw [d17]
  clear d17
  clear hG
  have KF := K0.out.below hb.below K0.out.lt
  have f2 := KF.frozen 2
  have c2 : w'.cell? ⟨g, 2, none⟩ = some (.int .i64 (left : Nat)) := by rw [KF.cell]; rfl
  have HKF := Lib.hid KF
  have HB := Lib.hid hb
  clear KF hb
  go_wp2_with fail
  go_end0
  exact ⟨rfl, Blk.set HKF.out 2 _, (Tou.of HB.out.below (Nat.le_of_lt K0.out.lt)).solo (Solo.refl.setCell 2 _)⟩
theorem bkt_left (g bu r left : Nat) (w : World) (h : Bkt w g bu r left) :
    Calls Try.prog 16 #[.pointer (some ⟨g, 0, none⟩)] w fun e w' => e = .returned (.int .i64 (left : Nat)) ∧ w' = w := by
  have c2 : w.cell? ⟨g, 2, none⟩ = some (.int .i64 (left : Nat)) := by rw [Blk.cell h]; rfl
  go_enter Try.func16, Try.ntmps16
  go_wp2
  go_ret
  exact ⟨rfl, rfl⟩
end Go.Proofs.Ytdcpmfodkggpeaa
