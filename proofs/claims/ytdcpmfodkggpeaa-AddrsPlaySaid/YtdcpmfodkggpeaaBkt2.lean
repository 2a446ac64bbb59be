/- Layer 11 by the document: what its calls do. -/
import Derived.Test.YtdcpmfodkggpeaaBkt1
import Derived.Test.YtdcpmfodkggpeaaPut
import Derived.Deep.Cut
namespace Go.Proofs.Ytdcpmfodkggpeaa
open Go.RowKit
set_option linter.unusedVariables false
set_option linter.unusedSimpArgs false
def bkv (b r l : Nat) : Value := .agg #[.int .i64 (b : Nat), .int .i64 (r : Nat), .int .i64 (l : Nat)]
set_option maxRecDepth 20000 in
theorem rbkt_new (b r : Int) (w : World) (hb : (Lit.int .i64 b).wf = true) (hr : (Lit.int .i64 r).wf = true) :
    Calls Try.prog 23 #[.int .i64 b, .int .i64 r] w fun e w' => e = .returned (bkv (bdN b) (bdN r) (bdN b)) ∧ Below w.heap.size w w' := by
  go_enter Try.func23, Try.ntmps23
  go_wp2_with fail
  refine (within_any b _ hb).mono ?_
  rintro e w1 ⟨rfl, rfl⟩
  go_wp2_with fail
  refine (within_any r _ hr).mono ?_
  rintro e w1 ⟨rfl, rfl⟩
  go_wp2_with fail
  refine (within_any b _ hb).mono ?_
  rintro e w1 ⟨rfl, rfl⟩
  go_wp2_with fail
  exact bodyPost_ret (results_agg Try.results23 (Blk.new w _ _) (by rfl) (by kernel_rfl) (by kernel_rfl)) rfl ⟨rfl, (Below.refl _ _).alloc (Nat.le_refl _) _⟩
set_option linter.unusedSimpArgs false in
set_option maxRecDepth 20000 in
set_option maxHeartbeats 4000000 in
theorem rbkt_tick (b r l : Nat) (n : Int) (w : World) (hl : l ≤ 4096) (hr : r ≤ 4096) (hn : (Lit.int .i64 n).wf = true) :
    Calls Try.prog 11 #[bkv b r l, .int .i64 n] w fun e w' => e = .returned (bkv b r (tickN l (bdN n) r b)) ∧ Below w.heap.size w w' := by
  unfold bkv
  have hkb := bdN_le n
  obtain ⟨k, hk⟩ : ∃ k, k = bdN n := ⟨_, rfl⟩
  rw [← hk] at hkb ⊢
  have HK : Hid (∀ w', Calls Try.prog 28 #[.int .i64 n] w' fun e w'' => e = .returned (.int .i64 (k : Nat)) ∧ Below w'.heap.size w' w'') := Lib.hid fun w' => by
    rw [hk]
    exact (within_any n w' hn).mono (by rintro e w'' ⟨rfl, rfl⟩; exact ⟨rfl, Below.refl _ _⟩)
  clear hk
  obtain ⟨p, hp⟩ : ∃ p, p = k * r := ⟨_, rfl⟩
  have hpb : p ≤ 16777216 := by rw [hp]; exact Nat.mul_le_mul hkb hr
  have hpi : (k : Int) * (r : Int) = (p : Nat) := by rw [hp]; push_cast; rfl
  obtain ⟨s, hs⟩ : ∃ s, s = l + p := ⟨_, rfl⟩
  have hsb : s ≤ 20000000 := by omega
  have hsum : (l : Int) + (p : Int) = (s : Nat) := by rw [hs]; push_cast; rfl
  have hwp : IntKind.i64.wrap (p : Int) = (p : Nat) := by rw [IntKind.wrap_i64]; omega
  have hws : IntKind.i64.wrap (s : Int) = (s : Nat) := by rw [IntKind.wrap_i64]; omega
  obtain ⟨t, ht⟩ : ∃ t, t = tickN l k r b := ⟨_, rfl⟩
  have HT := Lib.hid (show t = if b < s then b else s from by rw [ht]; unfold tickN; rw [← hp, ← hs])
  rw [← ht]
  clear hp ht hkb hpb hsb hs hl hr hn
  go_enter Try.func11, Try.ntmps11
  go_upto_region 1 with fail
  have hk0 : Hid (Blk (w.alloc (.cells #[.int .i64 (b : Nat), .int .i64 (r : Nat), .int .i64 (l : Nat)] 31)) (w.heap.size) 31 #[.int .i64 (b : Nat), .int .i64 (r : Nat), .int .i64 (l : Nat)]) := Lib.hid ((Blk.new w 31 #[.int .i64 (b : Nat), .int .i64 (r : Nat), .int .i64 (l : Nat)]))
  replace hk0 : Hid (Blk ((w.alloc (.cells #[.int .i64 (b : Nat), .int .i64 (r : Nat), .int .i64 (l : Nat)] 31)).alloc (.cells #[.int .i64 0, .int .i64 0, .int .i64 0] 31)) (w.heap.size) 31 #[.int .i64 (b : Nat), .int .i64 (r : Nat), .int .i64 (l : Nat)]) := Lib.hid (hk0.out.alloc _)
  have hk1 : Hid (Blk ((w.alloc (.cells #[.int .i64 (b : Nat), .int .i64 (r : Nat), .int .i64 (l : Nat)] 31)).alloc (.cells #[.int .i64 0, .int .i64 0, .int .i64 0] 31)) (w.heap.size + 1) 31 #[.int .i64 0, .int .i64 0, .int .i64 0]) := Lib.hid ((Blk.new (w.alloc (.cells #[.int .i64 (b : Nat), .int .i64 (r : Nat), .int .i64 (l : Nat)] 31)) 31 #[.int .i64 0, .int .i64 0, .int .i64 0]) |> fun h => by simpa using h)
  have b1 : Hid (Below w.heap.size w ((w.alloc (.cells #[.int .i64 (b : Nat), .int .i64 (r : Nat), .int .i64 (l : Nat)] 31)).alloc (.cells #[.int .i64 0, .int .i64 0, .int .i64 0] 31))) := Lib.hid (((Below.refl w.heap.size w).alloc (Nat.le_refl _) (.cells #[.int .i64 (b : Nat), .int .i64 (r : Nat), .int .i64 (l : Nat)] 31)).alloc (by simp <;> omega) (.cells #[.int .i64 0, .int .i64 0, .int .i64 0] 31))
  have hz : ((w.alloc (.cells #[.int .i64 (b : Nat), .int .i64 (r : Nat), .int .i64 (l : Nat)] 31)).alloc (.cells #[.int .i64 0, .int .i64 0, .int .i64 0] 31)).heap.size = w.heap.size + 2 := by simp
  generalize ((w.alloc (.cells #[.int .i64 (b : Nat), .int .i64 (r : Nat), .int .i64 (l : Nat)] 31)).alloc (.cells #[.int .i64 0, .int .i64 0, .int .i64 0] 31)) = w2 at hk0 hk1 b1 hz ⊢
  have HZ := Lib.hid hz
  clear hz
  refine GH.wp_ghl (M := false) 8 ((GH.SP.eq (.pointer (some ⟨w.heap.size, 2, none⟩))) :: (GH.SP.eq (.int .i64 (l : Nat))) :: (GH.SP.eq (.int .i64 n)) :: (GH.SP.eq (.int .i64 (k : Nat))) :: (GH.SP.eq (.pointer (some ⟨w.heap.size, 1, none⟩))) :: (GH.SP.eq (.int .i64 (r : Nat))) :: (GH.SP.eq (.int .i64 (p : Nat))) :: (GH.SP.eq (.int .i64 (s : Nat))) :: []) (none :: none :: none :: none :: none :: (some 0) :: (some 1) :: (some 2) :: (some 3) :: (some 4) :: (some 5) :: (some 6) :: (some 7) :: none :: none :: none :: none :: none :: none :: none :: none :: none :: none :: []) [5, 6, 7, 8, 9, 10, 11, 12] (by rfl) (by kernel_rfl) (by kernel_rfl) ?_ ?_ ?_
  · intro S jx v hjx
    match jx, hjx with
    | 0, _ => rfl
    | 1, _ => rfl
    | 2, _ => rfl
    | 3, _ => rfl
    | 4, _ => rfl
    | 5, _ => rfl
    | 6, _ => rfl
    | 7, _ => rfl
    | nx + 8, hjx => omega
  · intro jx hjx S w' hb hd
    match jx, hjx, hd with
    | 0, _, hd =>
      simp only [GH.mkL, List.getD_cons_succ, List.getD_cons_zero]
      clear hd
      refine GH.st_eq (by rfl) ?_
      go_simp
      (try with_reducible rfl)
    | 1, _, hd =>
      simp only [GH.mkL, List.getD_cons_succ, List.getD_cons_zero]
      have d0 : S 0 = .pointer (some ⟨w.heap.size, 2, none⟩) := (hd 0 (by kernel_rfl)).2
      rw [d0]
      clear d0
      clear hd
      exact GH.st_load _ (by rfl) rfl rfl (((hk0.out.below hb.below hk0.out.lt)).cell 2) (by kernel_rfl)
    | 2, _, hd =>
      simp only [GH.mkL, List.getD_cons_succ, List.getD_cons_zero]
      clear hd
      refine GH.st_eq (by rfl) ?_
      go_simp
      (try with_reducible rfl)
    | 3, _, hd =>
      simp only [GH.mkL, List.getD_cons_succ, List.getD_cons_zero]
      have d2 : S 2 = .int .i64 n := (hd 2 (by kernel_rfl)).2
      rw [d2]
      clear d2
      clear hd
      refine GH.st_call (by rfl) hb.below.size (by go_simp) ((HK.out w').mono ?_)
      rintro e w9 ⟨rfl, hb9⟩
      exact ⟨_, rfl, hb9, rfl⟩
    | 4, _, hd =>
      simp only [GH.mkL, List.getD_cons_succ, List.getD_cons_zero]
      clear hd
      refine GH.st_eq (by rfl) ?_
      go_simp
      (try with_reducible rfl)
    | 5, _, hd =>
      simp only [GH.mkL, List.getD_cons_succ, List.getD_cons_zero]
      have d4 : S 4 = .pointer (some ⟨w.heap.size, 1, none⟩) := (hd 4 (by kernel_rfl)).2
      rw [d4]
      clear d4
      clear hd
      exact GH.st_load _ (by rfl) rfl rfl (((hk0.out.below hb.below hk0.out.lt)).cell 1) (by kernel_rfl)
    | 6, _, hd =>
      simp only [GH.mkL, List.getD_cons_succ, List.getD_cons_zero]
      have d3 : S 3 = .int .i64 (k : Nat) := (hd 3 (by kernel_rfl)).2
      rw [d3]
      clear d3
      have d5 : S 5 = .int .i64 (r : Nat) := (hd 5 (by kernel_rfl)).2
      rw [d5]
      clear d5
      clear hd
      refine GH.st_eq (by rfl) ?_
      go_simp
      (try with_reducible rfl)
    | 7, _, hd =>
      simp only [GH.mkL, List.getD_cons_succ, List.getD_cons_zero]
      have d1 : S 1 = .int .i64 (l : Nat) := (hd 1 (by kernel_rfl)).2
      rw [d1]
      clear d1
      have d6 : S 6 = .int .i64 (p : Nat) := (hd 6 (by kernel_rfl)).2
      rw [d6]
      clear d6
      clear hd
      refine GH.st_eq (by rfl) ?_
      go_simp
      (try with_reducible rfl)
    | nx + 8, hjx, _ => omega
  intro S w' hb hG
  simp only [GH.mkL, List.drop_succ_cons, List.drop_zero]
  have d7 : S 7 = .int .i64 (s : Nat) := hG 7 (by omega)
  rw [d7]
  clear d7
  clear hG
  have KF := hk0.out.below hb.below hk0.out.lt
  have KR := hk1.out.below hb.below hk1.out.lt
  have B9 := Lib.hid (b1.out.trans (hb.below.mono b1.out.size))
  have f2 := KF.frozen 2
  have c2 : w'.cell? ⟨w.heap.size, 2, none⟩ = some (.int .i64 (l : Nat)) := by rw [KF.cell]; rfl
  have HKF := Lib.hid KF
  have HKR := Lib.hid KR
  clear KF KR hb b1 hk0 hk1 HK HZ
  go_upto_region 2 with fail
  have K3 : Hid (Blk (w'.setCell ⟨w.heap.size, 2, none⟩ (.int .i64 (s : Nat))) w.heap.size 31 #[.int .i64 (b : Nat), .int .i64 (r : Nat), .int .i64 (s : Nat)]) := Lib.hid (HKF.out.set 2 _)
  have R3 := Lib.hid (Solo.blk (Solo.refl.setCell 2 (.int .i64 (s : Nat))) HKR.out (by omega) : Blk (w'.setCell ⟨w.heap.size, 2, none⟩ (.int .i64 (s : Nat))) _ _ _)
  have B3 := Lib.hid (B9.out.trans (Solo.refl.setCell 2 (.int .i64 (s : Nat)) : Solo w.heap.size w' (w'.setCell ⟨w.heap.size, 2, none⟩ (.int .i64 (s : Nat)))).1)
  generalize w'.setCell ⟨w.heap.size, 2, none⟩ (.int .i64 (s : Nat)) = w3 at K3 R3 B3 ⊢
  clear HKF HKR B9 f2 c2
  obtain ⟨c0, c1, c2⟩ := ptc3 K3.out
  have f2 := K3.out.frozen 2
  have r0 := R3.out.frozen 0
  have r1 := R3.out.frozen 1
  have r2 := R3.out.frozen 2
  obtain ⟨q0, q1, q2⟩ := ptc3 R3.out
  by_cases hbs : b < s
  · have e := Lib.hid (show t = b from by rw [HT.out, if_pos hbs])
    have hbs' : (b : Int) < (s : Int) := by omega
    go_upto_region 4 with fail
    have hs3 : Solo w.heap.size w3 (w3.setCell ⟨w.heap.size, 2, none⟩ (.int .i64 (b : Nat))) := Solo.refl.setCell 2 _
    have K4 : Hid (Blk (w3.setCell ⟨w.heap.size, 2, none⟩ (.int .i64 (b : Nat))) w.heap.size 31 #[.int .i64 (b : Nat), .int .i64 (r : Nat), .int .i64 (b : Nat)]) := Lib.hid (K3.out.set 2 _)
    have R4 := Lib.hid (hs3.blk R3.out (by omega))
    have B4 := Lib.hid (B3.out.trans hs3.1)
    clear hs3 c0 c1 c2 q0 q1 q2 f2 r0 r1 r2
    generalize w3.setCell ⟨w.heap.size, 2, none⟩ (.int .i64 (b : Nat)) = w4 at K4 R4 B4 ⊢
    obtain ⟨c0, c1, c2⟩ := ptc3 K4.out
    have r0 := R4.out.frozen 0
    have r1 := R4.out.frozen 1
    have r2 := R4.out.frozen 2
    obtain ⟨q0, q1, q2⟩ := ptc3 R4.out
    go_wp2_with fail
    exact bodyPost_ret (results_agg Try.results11 (g := w.heap.size + 1) (pt3 _ _ _ R4.out) (by rfl) (by kernel_rfl) (by kernel_rfl)) rfl ⟨by rw [e.out], B4.out.trans ((pts3 _ _ _).1.mono (by omega))⟩
  · have e := Lib.hid (show t = s from by rw [HT.out, if_neg hbs])
    have hbs' : ¬ (b : Int) < (s : Int) := by omega
    go_wp2_with fail
    exact bodyPost_ret (results_agg Try.results11 (g := w.heap.size + 1) (pt3 _ _ _ R3.out) (by rfl) (by kernel_rfl) (by kernel_rfl)) rfl ⟨by rw [e.out], B3.out.trans ((pts3 _ _ _).1.mono (by omega))⟩
end Go.Proofs.Ytdcpmfodkggpeaa
