/- Layer 42: HeapPlays, bounds above the greatest. -/
import Derived.Test.YtkekmcolekomjaaHep9
namespace Go.Proofs.Ytkekmcolekomjaa
open Go.RowKit
set_option linter.unusedVariables false
set_option linter.unusedSimpArgs false
set_option maxRecDepth 20000 in
set_option maxHeartbeats 8000000 in
theorem heapPlays_b (most : Int) (M : Nat) (A : Option Addr) (n c : Nat) (l : List Tr) (w : World) (hm : (Lit.int .i64 most).wf = true) (hc : 65536 < most) (hM : M = hmost most) (hr : Rd w w.heap.size 3 A n (trs l)) (hnc : n ≤ c) (hmax : c ≤ maxLen) (hn2 : n ≤ 150) :
    Calls Try.prog 5 #[.int .i64 most, .slice A n c] w fun e w' => e = .returned (.bool true) ∧ Below w.heap.size w w' := by
  have HR := Lib.hid hr
  unfold maxLen at hmax
  clear hr
  have hn' : ¬ (150 : Int) < (n : Int) := by omega
  have HNEW := Lib.hid (hnew_any most w hm)
  rw [← hM] at HNEW
  have hM0 : 200 ≤ M := by rw [hM]; unfold hmost; rw [if_neg (by omega), if_pos hc]; omega
  have E65 := Lib.hid (show (65536 : Int) = ((M : Nat) : Int) by rw [hM]; unfold hmost; rw [if_neg (by omega), if_pos hc]; rfl)
  have hk1 : ¬ most < 0 := by omega
  clear hM hm
  go_enter Try.func5, Try.ntmps5
  go_wp2_with fail
  refine HNEW.out.mono ?_
  rintro e w1 ⟨rfl, h1, hb1⟩
  have H1 := Lib.hid h1
  have B1 := Lib.hid hb1
  clear h1 hb1 hn' HNEW
  go_upto_region 11 with fail
  rw [E65.out]
  clear hc hk1 E65
  go_wp2_with fail
  obtain ⟨g, hg⟩ : ∃ g, g = w.heap.size := ⟨_, rfl⟩
  have HG := Lib.hid hg
  rw [← hg] at H1 ⊢
  clear hg
  go_loopw [7, 8] (fun rv iv wr => ∃ (i puts : Nat) (v : Value) (R : List Nd) (rA : Option Addr) (rn rc : Nat), i ≤ n ∧ iv = .int .i64 (i : Nat) ∧ rv = .slice rA rn rc ∧ rn ≤ rc ∧ rn ≤ i ∧ puts ≤ i ∧ Hid (R.length = rn) ∧ Hid (HpI wr g g M puts v R) ∧ Hid (Rd wr wr.heap.size 2 rA rn (prs (R.map prN))) ∧ Hid (FarH g v rA rn wr) ∧ Hid (Below w.heap.size w wr)) (fun _ iv _ => n - (intOf iv).toNat)
  case atStart => exact ⟨0, 0, .slice none 0 0, [], none, 0, 0, Nat.zero_le _, rfl, rfl, Nat.le_refl _, Nat.le_refl _, Nat.le_refl _, Lib.hid rfl, H1, Lib.hid (Rd.nil _ _ _ _), Lib.hid (FarH.nil _ _ _ _), B1⟩
  case round =>
    clear H1 B1
    obtain ⟨i, puts, v, R, rA, rn, rc, hi, rfl, rfl, hrc, hri, hpi, HRL, HH, HRR, HF, BB⟩ := hrel
    by_cases hlt : i < n
    · have hlt' : (i : Int) < (n : Int) := by omega
      obtain ⟨ab, ao, kd, ta, wh, hA, hab, HX, _⟩ := (HR.out.below BB.out).tr hlt
      subst hA
      have xl0 := HX.out 0 _ rfl
      have xl1 := HX.out 1 _ rfl
      have xl2 := HX.out 2 _ rfl
      simp only [Nat.add_zero] at xl0
      go_upto_region 16 with fail
      clear xl0 xl1 xl2 HX
      have hA := (Below.refl wr.heap.size wr).alloc (Nat.le_refl _) (.cells #[.int .i64 kd, .int .i64 ta, .int .i64 wh] 40)
      have O2 := Lib.hid (Blk.new wr 40 #[.int .i64 kd, .int .i64 ta, .int .i64 wh])
      have H2 := Lib.hid (HH.out.into hA)
      have R2 := Lib.hid (HRR.out.into hA)
      have F2 := Lib.hid (HF.out.below hA.size)
      have B2 := Lib.hid (BB.out.trans (hA.mono BB.out.size))
      obtain ⟨ob, hob⟩ : ∃ x, x = wr.heap.size := ⟨_, rfl⟩
      rw [← hob] at O2 ⊢
      generalize wr.alloc (.cells #[.int .i64 kd, .int .i64 ta, .int .i64 wh] 40) = w2 at O2 H2 R2 F2 B2 ⊢
      clear hA hob HH HRR HF BB
      obtain ⟨y0, y1, y2⟩ := ptc3 O2.out
      go_upto_region 23 with fail
      generalize (wrap64 (kd.tmod 7 + 7)).tmod 7 = q
      clear y0
      by_cases hq4 : q = 4
      · subst hq4
        cases R with
        | nil =>
          obtain rfl : rn = 0 := HRL.out.symm
          go_wp2_with fail
          refine (htake_nil g g M puts v w2 H2.out).mono ?_
          rintro e w3 ⟨rfl, hb3⟩
          unfold itv
          have H3 := Lib.hid (H2.out.into hb3)
          have R3 := Lib.hid (R2.out.into hb3)
          have F3 := Lib.hid (F2.out.below hb3.size)
          have B3 := Lib.hid (B2.out.trans (hb3.mono B2.out.size))
          clear hb3 H2 R2 F2 B2 y1 y2
          go_upto_region 26 with fail
          have hA := (Below.refl w3.heap.size w3).alloc (Nat.le_refl _) (.cells #[.int .i64 0, .int .i64 0] 42)
          have k4 := Lib.hid (Blk.new w3 42 #[.int .i64 0, .int .i64 0])
          have H4 := Lib.hid (H3.out.into hA)
          have R4 := Lib.hid (R3.out.into hA)
          have F4 := Lib.hid (F3.out.below hA.size)
          have B4 := Lib.hid (B3.out.trans (hA.mono B3.out.size))
          obtain ⟨tb, htb⟩ : ∃ x, x = w3.heap.size := ⟨_, rfl⟩
          rw [← htb] at k4 ⊢
          generalize w3.alloc (.cells #[.int .i64 0, .int .i64 0] 42) = w4 at k4 H4 R4 F4 B4 ⊢
          clear hA htb H3 R3 F3 B3
          obtain ⟨z0, z1⟩ := ptc2 k4.out
          go_quiet (fail)
          have H5 := Lib.hid (H4.out.into (below_drewN (Below.refl _ _) nq))
          have R5 : Hid (Rd (w4.drewN nq) (w4.drewN nq).heap.size _ _ _ _) := Lib.hid (R4.out.into (below_drewN (Below.refl _ _) nq))
          have F5 := Lib.hid (F4.out.below (w' := w4.drewN nq) (Nat.le_refl _))
          have B5 := Lib.hid (below_drewN B4.out nq)
          generalize w4.drewN nq = w5 at H5 R5 F5 B5 ⊢
          clear H4 R4 F4 B4
          clear z0 z1
          have L5 := HRL
          have hc5 := hrc
          go_wp2_with fail
          refine (hfirst_nil g g M puts v w5 H5.out).mono ?_
          rintro e w6 ⟨rfl, hb6⟩
          unfold itv
          have H6 := Lib.hid (H5.out.into hb6)
          have R6 := Lib.hid (R5.out.into hb6)
          have F6 := Lib.hid (F5.out.below hb6.size)
          have B6 := Lib.hid (B5.out.trans (hb6.mono B5.out.size))
          clear hb6 H5 R5 F5 B5
          go_upto_region 35 with fail
          have hA := (Below.refl w6.heap.size w6).alloc (Nat.le_refl _) (.cells #[.int .i64 0, .int .i64 0] 42)
          have k7 := Lib.hid (Blk.new w6 42 #[.int .i64 0, .int .i64 0])
          have H7 := Lib.hid (H6.out.into hA)
          have R7 := Lib.hid (R6.out.into hA)
          have F7 := Lib.hid (F6.out.below hA.size)
          have B7 := Lib.hid (B6.out.trans (hA.mono B6.out.size))
          obtain ⟨jb, hjb⟩ : ∃ x, x = w6.heap.size := ⟨_, rfl⟩
          rw [← hjb] at k7 ⊢
          generalize w6.alloc (.cells #[.int .i64 0, .int .i64 0] 42) = w7 at k7 H7 R7 F7 B7 ⊢
          clear hA hjb H6 R6 F6 B6
          go_quiet ((go_at_call 23; refine Calls.quiet_of_same (hlen_any g g M puts v _ _ (H7.out.into (below_drewN (Below.refl _ _) _)))))
          have H8 := Lib.hid (H7.out.into (below_drewN (Below.refl _ _) nq))
          have R8 : Hid (Rd (w7.drewN nq) (w7.drewN nq).heap.size _ _ _ _) := Lib.hid (R7.out.into (below_drewN (Below.refl _ _) nq))
          have F8 := Lib.hid (F7.out.below (w' := w7.drewN nq) (Nat.le_refl _))
          have B8 := Lib.hid (below_drewN B7.out nq)
          generalize w7.drewN nq = w8 at H8 R8 F8 B8 ⊢
          clear H7 R7 F7 B7
          go_wp2_with fail
          go_roundw
          case rel => exact ⟨i + 1, puts, v, _, rA, 0, rc, by omega, by go_num, rfl, hc5, by omega, by omega, L5, H8, R8, F8, B8⟩
          case measure => simp [intOf]; omega
        | cons y S =>
          obtain ⟨xa, xw, xo⟩ := y
          obtain ⟨m, rfl⟩ : ∃ m, rn = m + 1 := ⟨S.length, HRL.out.symm⟩
          go_wp2_with fail
          refine (htake_cons g g M puts v (xa, xw, xo) S w2 H2.out).mono ?_
          rintro e w3 ⟨rfl, ⟨v3, h3, hk3⟩, hb3⟩
          unfold itv
          have H3 := Lib.hid h3
          have R3 := Lib.hid (F2.out.rd hk3 R2.out)
          have F3 := Lib.hid (F2.out.kept hk3)
          have B3 := Lib.hid (B2.out.trans (hb3.mono (by rw [HG.out]; exact Nat.le_refl _)))
          clear h3 hk3 hb3 H2 R2 F2 B2 y1 y2
          go_upto_region 26 with fail
          have hA := (Below.refl w3.heap.size w3).alloc (Nat.le_refl _) (.cells #[.int .i64 xa, .int .i64 xw] 42)
          have k4 := Lib.hid (Blk.new w3 42 #[.int .i64 xa, .int .i64 xw])
          have H4 := Lib.hid (H3.out.into hA)
          have R4 := Lib.hid (R3.out.into hA)
          have F4 := Lib.hid (F3.out.below hA.size)
          have B4 := Lib.hid (B3.out.trans (hA.mono B3.out.size))
          obtain ⟨tb, htb⟩ : ∃ x, x = w3.heap.size := ⟨_, rfl⟩
          rw [← htb] at k4 ⊢
          generalize w3.alloc (.cells #[.int .i64 xa, .int .i64 xw] 42) = w4 at k4 H4 R4 F4 B4 ⊢
          clear hA htb H3 R3 F3 B3
          obtain ⟨rb9, ro9, xx, yy, rfl, _, p0, p1, hxy⟩ := R4.out.pr (i := 0) (by omega)
          have hxy2 : (xa, xw) = (xx, yy) := Option.some.inj hxy.out
          injection hxy2 with e1 e2
          subst e1 e2
          simp only [Nat.zero_mul, Nat.add_zero] at p0 p1
          obtain ⟨z0, z1⟩ := ptc2 k4.out
          have gm : (0 : Int) < (m : Int) + 1 := by omega
          clear hxy
          go_quiet (fail)
          have H5 := Lib.hid (H4.out.into (below_drewN (Below.refl _ _) nq))
          have R5 : Hid (Rd (w4.drewN nq) (w4.drewN nq).heap.size _ _ _ _) := Lib.hid (R4.out.into (below_drewN (Below.refl _ _) nq))
          have F5 := Lib.hid (F4.out.below (w' := w4.drewN nq) (Nat.le_refl _))
          have B5 := Lib.hid (below_drewN B4.out nq)
          generalize w4.drewN nq = w5 at H5 R5 F5 B5 ⊢
          clear H4 R4 F4 B4
          clear z0 z1 p0 p1 gm
          have r5 : Rd w5 w5.heap.size 2 (cutA (some ⟨rb9, ro9, none⟩) rc 1 2) m (prs (S.map prN)) := R5.out.drop (k := 1) (cap := rc) (by omega) hrc
          have f5 : FarH g v3 (cutA (some ⟨rb9, ro9, none⟩) rc 1 2) m w5 := fun hm a ha => by
            rw [cutA_pos (by omega)] at ha
            injection ha with ha
            subst ha
            exact F5.out (by omega) ⟨rb9, ro9, none⟩ rfl
          have hu : Try.prog.underlying 38 = some (.slice (Try.prog.elem 38)) := by unfold Program.elem; rw [Try.underlying38]
          have hc1 : ∀ w, (Instr.slice 38 (.slice (some ⟨rb9, ro9, none⟩) (m + 1) rc) (some (.int .i64 1)) none none).run Try.prog w = .ok (.slice (cutA (some ⟨rb9, ro9, none⟩) rc 1 2) m (rc - 1)) w := run_cut_l prEl _ _ _ 1 (by omega)
          have hc2 : ∀ w, (Instr.sliceAt 38 (.slice (some ⟨rb9, ro9, none⟩) (m + 1) rc) (some (.int .i64 1)) none none).run Try.prog w = .ok (.slice (cutA (some ⟨rb9, ro9, none⟩) rc 1 2) m (rc - 1)) w := fun w => (run_sliceAt_slice w _ _ _ _ _ hu).trans (hc1 w)
          clear hu R5 F5
          generalize cutA (some ⟨rb9, ro9, none⟩) rc 1 2 = X at r5 f5 hc1 hc2
          have R5 := Lib.hid r5
          have F5 := Lib.hid f5
          clear r5 f5
          have L5 : Hid (S.length = m) := Lib.hid (by have := HRL.out; simp at this; omega)
          have hc5 : m ≤ rc - 1 := by omega
          cases S with
          | nil =>
            obtain rfl : m = 0 := L5.out.symm
            go_wp2_with fail
            refine (hfirst_nil g g M puts v3 w5 H5.out).mono ?_
            rintro e w6 ⟨rfl, hb6⟩
            unfold itv
            have H6 := Lib.hid (H5.out.into hb6)
            have R6 := Lib.hid (R5.out.into hb6)
            have F6 := Lib.hid (F5.out.below hb6.size)
            have B6 := Lib.hid (B5.out.trans (hb6.mono B5.out.size))
            clear hb6 H5 R5 F5 B5
            go_upto_region 35 with fail
            have hA := (Below.refl w6.heap.size w6).alloc (Nat.le_refl _) (.cells #[.int .i64 0, .int .i64 0] 42)
            have k7 := Lib.hid (Blk.new w6 42 #[.int .i64 0, .int .i64 0])
            have H7 := Lib.hid (H6.out.into hA)
            have R7 := Lib.hid (R6.out.into hA)
            have F7 := Lib.hid (F6.out.below hA.size)
            have B7 := Lib.hid (B6.out.trans (hA.mono B6.out.size))
            obtain ⟨jb, hjb⟩ : ∃ x, x = w6.heap.size := ⟨_, rfl⟩
            rw [← hjb] at k7 ⊢
            generalize w6.alloc (.cells #[.int .i64 0, .int .i64 0] 42) = w7 at k7 H7 R7 F7 B7 ⊢
            clear hA hjb H6 R6 F6 B6
            go_quiet ((go_at_call 23; refine Calls.quiet_of_same (hlen_any g g M puts v3 _ _ (H7.out.into (below_drewN (Below.refl _ _) _)))))
            have H8 := Lib.hid (H7.out.into (below_drewN (Below.refl _ _) nq))
            have R8 : Hid (Rd (w7.drewN nq) (w7.drewN nq).heap.size _ _ _ _) := Lib.hid (R7.out.into (below_drewN (Below.refl _ _) nq))
            have F8 := Lib.hid (F7.out.below (w' := w7.drewN nq) (Nat.le_refl _))
            have B8 := Lib.hid (below_drewN B7.out nq)
            generalize w7.drewN nq = w8 at H8 R8 F8 B8 ⊢
            clear H7 R7 F7 B7
            go_wp2_with fail
            go_roundw
            case rel => exact ⟨i + 1, puts, v3, _, X, 0, (rc - 1), by omega, by go_num, rfl, hc5, by omega, by omega, L5, H8, R8, F8, B8⟩
            case measure => simp [intOf]; omega
          | cons y S9 =>
            obtain ⟨ya, yw, yo⟩ := y
            obtain ⟨m5, rfl⟩ : ∃ m5, m = m5 + 1 := ⟨S9.length, L5.out.symm⟩
            go_wp2_with fail
            refine (hfirst_cons g g M puts v3 (ya, yw, yo) S9 w5 H5.out).mono ?_
            rintro e w6 ⟨rfl, hb6⟩
            unfold itv
            have H6 := Lib.hid (H5.out.into hb6)
            have R6 := Lib.hid (R5.out.into hb6)
            have F6 := Lib.hid (F5.out.below hb6.size)
            have B6 := Lib.hid (B5.out.trans (hb6.mono B5.out.size))
            clear hb6 H5 R5 F5 B5
            go_upto_region 35 with fail
            have hA := (Below.refl w6.heap.size w6).alloc (Nat.le_refl _) (.cells #[.int .i64 ya, .int .i64 yw] 42)
            have k7 := Lib.hid (Blk.new w6 42 #[.int .i64 ya, .int .i64 yw])
            have H7 := Lib.hid (H6.out.into hA)
            have R7 := Lib.hid (R6.out.into hA)
            have F7 := Lib.hid (F6.out.below hA.size)
            have B7 := Lib.hid (B6.out.trans (hA.mono B6.out.size))
            obtain ⟨jb, hjb⟩ : ∃ x, x = w6.heap.size := ⟨_, rfl⟩
            rw [← hjb] at k7 ⊢
            generalize w6.alloc (.cells #[.int .i64 ya, .int .i64 yw] 42) = w7 at k7 H7 R7 F7 B7 ⊢
            clear hA hjb H6 R6 F6 B6
            obtain ⟨rb9, ro9, xx, yy, e9, _, p0, p1, hxy⟩ := R7.out.pr (i := 0) (by omega)
            subst e9
            have hxy2 : (ya, yw) = (xx, yy) := Option.some.inj hxy.out
            injection hxy2 with e1 e2
            subst e1 e2
            simp only [Nat.zero_mul, Nat.add_zero] at p0 p1
            obtain ⟨z0, z1⟩ := ptc2 k7.out
            have gm : (0 : Int) < (m5 : Int) + 1 := by omega
            have hS9 : S9.length = m5 := by have := L5.out; simp at this; omega
            clear hxy
            go_quiet ((go_at_call 23; refine Calls.quiet_of_same (hlen_any g g M puts v3 _ _ (H7.out.into (below_drewN (Below.refl _ _) _)))))
            have H8 := Lib.hid (H7.out.into (below_drewN (Below.refl _ _) nq))
            have R8 : Hid (Rd (w7.drewN nq) (w7.drewN nq).heap.size _ _ _ _) := Lib.hid (R7.out.into (below_drewN (Below.refl _ _) nq))
            have F8 := Lib.hid (F7.out.below (w' := w7.drewN nq) (Nat.le_refl _))
            have B8 := Lib.hid (below_drewN B7.out nq)
            generalize w7.drewN nq = w8 at H8 R8 F8 B8 ⊢
            clear H7 R7 F7 B7
            go_wp2_with fail
            go_roundw
            case rel => exact ⟨i + 1, puts, v3, _, _, m5 + 1, (rc - 1), by omega, by go_num, rfl, hc5, by omega, by omega, L5, H8, R8, F8, B8⟩
            case measure => simp [intOf]; omega
      by_cases hq5 : q = 5
      · subst hq5
        cases R with
        | nil =>
          obtain rfl : rn = 0 := HRL.out.symm
          go_wp2_with fail
          refine (htake_nil g g M puts v w2 H2.out).mono ?_
          rintro e w3 ⟨rfl, hb3⟩
          unfold itv
          have H3 := Lib.hid (H2.out.into hb3)
          have R3 := Lib.hid (R2.out.into hb3)
          have F3 := Lib.hid (F2.out.below hb3.size)
          have B3 := Lib.hid (B2.out.trans (hb3.mono B2.out.size))
          clear hb3 H2 R2 F2 B2 y1 y2
          go_upto_region 26 with fail
          have hA := (Below.refl w3.heap.size w3).alloc (Nat.le_refl _) (.cells #[.int .i64 0, .int .i64 0] 42)
          have k4 := Lib.hid (Blk.new w3 42 #[.int .i64 0, .int .i64 0])
          have H4 := Lib.hid (H3.out.into hA)
          have R4 := Lib.hid (R3.out.into hA)
          have F4 := Lib.hid (F3.out.below hA.size)
          have B4 := Lib.hid (B3.out.trans (hA.mono B3.out.size))
          obtain ⟨tb, htb⟩ : ∃ x, x = w3.heap.size := ⟨_, rfl⟩
          rw [← htb] at k4 ⊢
          generalize w3.alloc (.cells #[.int .i64 0, .int .i64 0] 42) = w4 at k4 H4 R4 F4 B4 ⊢
          clear hA htb H3 R3 F3 B3
          obtain ⟨z0, z1⟩ := ptc2 k4.out
          go_quiet (fail)
          have H5 := Lib.hid (H4.out.into (below_drewN (Below.refl _ _) nq))
          have R5 : Hid (Rd (w4.drewN nq) (w4.drewN nq).heap.size _ _ _ _) := Lib.hid (R4.out.into (below_drewN (Below.refl _ _) nq))
          have F5 := Lib.hid (F4.out.below (w' := w4.drewN nq) (Nat.le_refl _))
          have B5 := Lib.hid (below_drewN B4.out nq)
          generalize w4.drewN nq = w5 at H5 R5 F5 B5 ⊢
          clear H4 R4 F4 B4
          clear z0 z1
          have L5 := HRL
          have hc5 := hrc
          go_wp2_with fail
          refine (hfirst_nil g g M puts v w5 H5.out).mono ?_
          rintro e w6 ⟨rfl, hb6⟩
          unfold itv
          have H6 := Lib.hid (H5.out.into hb6)
          have R6 := Lib.hid (R5.out.into hb6)
          have F6 := Lib.hid (F5.out.below hb6.size)
          have B6 := Lib.hid (B5.out.trans (hb6.mono B5.out.size))
          clear hb6 H5 R5 F5 B5
          go_upto_region 35 with fail
          have hA := (Below.refl w6.heap.size w6).alloc (Nat.le_refl _) (.cells #[.int .i64 0, .int .i64 0] 42)
          have k7 := Lib.hid (Blk.new w6 42 #[.int .i64 0, .int .i64 0])
          have H7 := Lib.hid (H6.out.into hA)
          have R7 := Lib.hid (R6.out.into hA)
          have F7 := Lib.hid (F6.out.below hA.size)
          have B7 := Lib.hid (B6.out.trans (hA.mono B6.out.size))
          obtain ⟨jb, hjb⟩ : ∃ x, x = w6.heap.size := ⟨_, rfl⟩
          rw [← hjb] at k7 ⊢
          generalize w6.alloc (.cells #[.int .i64 0, .int .i64 0] 42) = w7 at k7 H7 R7 F7 B7 ⊢
          clear hA hjb H6 R6 F6 B6
          go_quiet ((go_at_call 23; refine Calls.quiet_of_same (hlen_any g g M puts v _ _ (H7.out.into (below_drewN (Below.refl _ _) _)))))
          have H8 := Lib.hid (H7.out.into (below_drewN (Below.refl _ _) nq))
          have R8 : Hid (Rd (w7.drewN nq) (w7.drewN nq).heap.size _ _ _ _) := Lib.hid (R7.out.into (below_drewN (Below.refl _ _) nq))
          have F8 := Lib.hid (F7.out.below (w' := w7.drewN nq) (Nat.le_refl _))
          have B8 := Lib.hid (below_drewN B7.out nq)
          generalize w7.drewN nq = w8 at H8 R8 F8 B8 ⊢
          clear H7 R7 F7 B7
          go_wp2_with fail
          go_roundw
          case rel => exact ⟨i + 1, puts, v, _, rA, 0, rc, by omega, by go_num, rfl, hc5, by omega, by omega, L5, H8, R8, F8, B8⟩
          case measure => simp [intOf]; omega
        | cons y S =>
          obtain ⟨xa, xw, xo⟩ := y
          obtain ⟨m, rfl⟩ : ∃ m, rn = m + 1 := ⟨S.length, HRL.out.symm⟩
          go_wp2_with fail
          refine (htake_cons g g M puts v (xa, xw, xo) S w2 H2.out).mono ?_
          rintro e w3 ⟨rfl, ⟨v3, h3, hk3⟩, hb3⟩
          unfold itv
          have H3 := Lib.hid h3
          have R3 := Lib.hid (F2.out.rd hk3 R2.out)
          have F3 := Lib.hid (F2.out.kept hk3)
          have B3 := Lib.hid (B2.out.trans (hb3.mono (by rw [HG.out]; exact Nat.le_refl _)))
          clear h3 hk3 hb3 H2 R2 F2 B2 y1 y2
          go_upto_region 26 with fail
          have hA := (Below.refl w3.heap.size w3).alloc (Nat.le_refl _) (.cells #[.int .i64 xa, .int .i64 xw] 42)
          have k4 := Lib.hid (Blk.new w3 42 #[.int .i64 xa, .int .i64 xw])
          have H4 := Lib.hid (H3.out.into hA)
          have R4 := Lib.hid (R3.out.into hA)
          have F4 := Lib.hid (F3.out.below hA.size)
          have B4 := Lib.hid (B3.out.trans (hA.mono B3.out.size))
          obtain ⟨tb, htb⟩ : ∃ x, x = w3.heap.size := ⟨_, rfl⟩
          rw [← htb] at k4 ⊢
          generalize w3.alloc (.cells #[.int .i64 xa, .int .i64 xw] 42) = w4 at k4 H4 R4 F4 B4 ⊢
          clear hA htb H3 R3 F3 B3
          obtain ⟨rb9, ro9, xx, yy, rfl, _, p0, p1, hxy⟩ := R4.out.pr (i := 0) (by omega)
          have hxy2 : (xa, xw) = (xx, yy) := Option.some.inj hxy.out
          injection hxy2 with e1 e2
          subst e1 e2
          simp only [Nat.zero_mul, Nat.add_zero] at p0 p1
          obtain ⟨z0, z1⟩ := ptc2 k4.out
          have gm : (0 : Int) < (m : Int) + 1 := by omega
          clear hxy
          go_quiet (fail)
          have H5 := Lib.hid (H4.out.into (below_drewN (Below.refl _ _) nq))
          have R5 : Hid (Rd (w4.drewN nq) (w4.drewN nq).heap.size _ _ _ _) := Lib.hid (R4.out.into (below_drewN (Below.refl _ _) nq))
          have F5 := Lib.hid (F4.out.below (w' := w4.drewN nq) (Nat.le_refl _))
          have B5 := Lib.hid (below_drewN B4.out nq)
          generalize w4.drewN nq = w5 at H5 R5 F5 B5 ⊢
          clear H4 R4 F4 B4
          clear z0 z1 p0 p1 gm
          have r5 : Rd w5 w5.heap.size 2 (cutA (some ⟨rb9, ro9, none⟩) rc 1 2) m (prs (S.map prN)) := R5.out.drop (k := 1) (cap := rc) (by omega) hrc
          have f5 : FarH g v3 (cutA (some ⟨rb9, ro9, none⟩) rc 1 2) m w5 := fun hm a ha => by
            rw [cutA_pos (by omega)] at ha
            injection ha with ha
            subst ha
            exact F5.out (by omega) ⟨rb9, ro9, none⟩ rfl
          have hu : Try.prog.underlying 38 = some (.slice (Try.prog.elem 38)) := by unfold Program.elem; rw [Try.underlying38]
          have hc1 : ∀ w, (Instr.slice 38 (.slice (some ⟨rb9, ro9, none⟩) (m + 1) rc) (some (.int .i64 1)) none none).run Try.prog w = .ok (.slice (cutA (some ⟨rb9, ro9, none⟩) rc 1 2) m (rc - 1)) w := run_cut_l prEl _ _ _ 1 (by omega)
          have hc2 : ∀ w, (Instr.sliceAt 38 (.slice (some ⟨rb9, ro9, none⟩) (m + 1) rc) (some (.int .i64 1)) none none).run Try.prog w = .ok (.slice (cutA (some ⟨rb9, ro9, none⟩) rc 1 2) m (rc - 1)) w := fun w => (run_sliceAt_slice w _ _ _ _ _ hu).trans (hc1 w)
          clear hu R5 F5
          generalize cutA (some ⟨rb9, ro9, none⟩) rc 1 2 = X at r5 f5 hc1 hc2
          have R5 := Lib.hid r5
          have F5 := Lib.hid f5
          clear r5 f5
          have L5 : Hid (S.length = m) := Lib.hid (by have := HRL.out; simp at this; omega)
          have hc5 : m ≤ rc - 1 := by omega
          cases S with
          | nil =>
            obtain rfl : m = 0 := L5.out.symm
            go_wp2_with fail
            refine (hfirst_nil g g M puts v3 w5 H5.out).mono ?_
            rintro e w6 ⟨rfl, hb6⟩
            unfold itv
            have H6 := Lib.hid (H5.out.into hb6)
            have R6 := Lib.hid (R5.out.into hb6)
            have F6 := Lib.hid (F5.out.below hb6.size)
            have B6 := Lib.hid (B5.out.trans (hb6.mono B5.out.size))
            clear hb6 H5 R5 F5 B5
            go_upto_region 35 with fail
            have hA := (Below.refl w6.heap.size w6).alloc (Nat.le_refl _) (.cells #[.int .i64 0, .int .i64 0] 42)
            have k7 := Lib.hid (Blk.new w6 42 #[.int .i64 0, .int .i64 0])
            have H7 := Lib.hid (H6.out.into hA)
            have R7 := Lib.hid (R6.out.into hA)
            have F7 := Lib.hid (F6.out.below hA.size)
            have B7 := Lib.hid (B6.out.trans (hA.mono B6.out.size))
            obtain ⟨jb, hjb⟩ : ∃ x, x = w6.heap.size := ⟨_, rfl⟩
            rw [← hjb] at k7 ⊢
            generalize w6.alloc (.cells #[.int .i64 0, .int .i64 0] 42) = w7 at k7 H7 R7 F7 B7 ⊢
            clear hA hjb H6 R6 F6 B6
            go_quiet ((go_at_call 23; refine Calls.quiet_of_same (hlen_any g g M puts v3 _ _ (H7.out.into (below_drewN (Below.refl _ _) _)))))
            have H8 := Lib.hid (H7.out.into (below_drewN (Below.refl _ _) nq))
            have R8 : Hid (Rd (w7.drewN nq) (w7.drewN nq).heap.size _ _ _ _) := Lib.hid (R7.out.into (below_drewN (Below.refl _ _) nq))
            have F8 := Lib.hid (F7.out.below (w' := w7.drewN nq) (Nat.le_refl _))
            have B8 := Lib.hid (below_drewN B7.out nq)
            generalize w7.drewN nq = w8 at H8 R8 F8 B8 ⊢
            clear H7 R7 F7 B7
            go_wp2_with fail
            go_roundw
            case rel => exact ⟨i + 1, puts, v3, _, X, 0, (rc - 1), by omega, by go_num, rfl, hc5, by omega, by omega, L5, H8, R8, F8, B8⟩
            case measure => simp [intOf]; omega
          | cons y S9 =>
            obtain ⟨ya, yw, yo⟩ := y
            obtain ⟨m5, rfl⟩ : ∃ m5, m = m5 + 1 := ⟨S9.length, L5.out.symm⟩
            go_wp2_with fail
            refine (hfirst_cons g g M puts v3 (ya, yw, yo) S9 w5 H5.out).mono ?_
            rintro e w6 ⟨rfl, hb6⟩
            unfold itv
            have H6 := Lib.hid (H5.out.into hb6)
            have R6 := Lib.hid (R5.out.into hb6)
            have F6 := Lib.hid (F5.out.below hb6.size)
            have B6 := Lib.hid (B5.out.trans (hb6.mono B5.out.size))
            clear hb6 H5 R5 F5 B5
            go_upto_region 35 with fail
            have hA := (Below.refl w6.heap.size w6).alloc (Nat.le_refl _) (.cells #[.int .i64 ya, .int .i64 yw] 42)
            have k7 := Lib.hid (Blk.new w6 42 #[.int .i64 ya, .int .i64 yw])
            have H7 := Lib.hid (H6.out.into hA)
            have R7 := Lib.hid (R6.out.into hA)
            have F7 := Lib.hid (F6.out.below hA.size)
            have B7 := Lib.hid (B6.out.trans (hA.mono B6.out.size))
            obtain ⟨jb, hjb⟩ : ∃ x, x = w6.heap.size := ⟨_, rfl⟩
            rw [← hjb] at k7 ⊢
            generalize w6.alloc (.cells #[.int .i64 ya, .int .i64 yw] 42) = w7 at k7 H7 R7 F7 B7 ⊢
            clear hA hjb H6 R6 F6 B6
            obtain ⟨rb9, ro9, xx, yy, e9, _, p0, p1, hxy⟩ := R7.out.pr (i := 0) (by omega)
            subst e9
            have hxy2 : (ya, yw) = (xx, yy) := Option.some.inj hxy.out
            injection hxy2 with e1 e2
            subst e1 e2
            simp only [Nat.zero_mul, Nat.add_zero] at p0 p1
            obtain ⟨z0, z1⟩ := ptc2 k7.out
            have gm : (0 : Int) < (m5 : Int) + 1 := by omega
            have hS9 : S9.length = m5 := by have := L5.out; simp at this; omega
            clear hxy
            go_quiet ((go_at_call 23; refine Calls.quiet_of_same (hlen_any g g M puts v3 _ _ (H7.out.into (below_drewN (Below.refl _ _) _)))))
            have H8 := Lib.hid (H7.out.into (below_drewN (Below.refl _ _) nq))
            have R8 : Hid (Rd (w7.drewN nq) (w7.drewN nq).heap.size _ _ _ _) := Lib.hid (R7.out.into (below_drewN (Below.refl _ _) nq))
            have F8 := Lib.hid (F7.out.below (w' := w7.drewN nq) (Nat.le_refl _))
            have B8 := Lib.hid (below_drewN B7.out nq)
            generalize w7.drewN nq = w8 at H8 R8 F8 B8 ⊢
            clear H7 R7 F7 B7
            go_wp2_with fail
            go_roundw
            case rel => exact ⟨i + 1, puts, v3, _, _, m5 + 1, (rc - 1), by omega, by go_num, rfl, hc5, by omega, by omega, L5, H8, R8, F8, B8⟩
            case measure => simp [intOf]; omega
      by_cases hq6 : q = 6
      · subst hq6
        go_wp2_with fail
        refine (rdue_any rA rn rc w2.heap.size (R.map prN) ta w2 R2.out (by omega) (Nat.le_refl _)).mono ?_
        rintro e w3 ⟨⟨v1, v2, rfl, ho, hz⟩, hb3⟩
        rw [due_left, List.length_map] at ho
        rw [due_out] at hz
        obtain ⟨S, hS⟩ : ∃ S, S = R.filter fun y => !decide (y.1 ≤ ta) := ⟨_, rfl⟩
        have hDU := hdue_any g g M puts v R ta w3 (H2.out.into hb3)
        obtain ⟨D, hD⟩ : ∃ D, D = (R.filter fun y => decide (y.1 ≤ ta)).map fun y => y.2.1 := ⟨_, rfl⟩
        have hDl : D.length ≤ 150 := by rw [hD, List.length_map]; exact Nat.le_trans (List.length_filter_le _ _) (by rw [HRL.out]; omega)
        have hSl : S.length ≤ i := by rw [hS]; exact Nat.le_trans (List.length_filter_le _ _) (by rw [HRL.out]; omega)
        rw [← hS] at ho hDU
        rw [← hD] at hz hDU
        have HDU := Lib.hid hDU
        obtain ⟨A1, c1, rfl, hc5, _, hr1⟩ := own_form ho
        obtain ⟨A2, n2, c2, rfl, _, hl2, _⟩ := Zats.out' hz
        have Z3 := Lib.hid hz
        have F3 := Lib.hid (FarH.new H2.out ho)
        obtain ⟨n1, hn1⟩ : ∃ k, k = S.length := ⟨_, rfl⟩
        rw [← hn1] at hr1 F3 hc5 ⊢
        have hn5 : n1 ≤ i + 1 := by rw [hn1]; omega
        have R3 := Lib.hid hr1
        have L5 := Lib.hid hn1.symm
        have H3 := Lib.hid (H2.out.into hb3)
        have B3 := Lib.hid (B2.out.trans (hb3.mono B2.out.size))
        have O3 := Lib.hid (O2.out.below hb3 O2.out.lt)
        clear hn1 hS hD hDU ho hz hr1 hb3 H2 R2 F2 B2 O2 y1 y2
        obtain ⟨y0, y1, y2⟩ := ptc3 O3.out
        go_wp2_with fail
        refine HDU.out.mono ?_
        rintro e w4 ⟨zv, rfl, hz4, ⟨v4, h4, hk4⟩, hb4⟩
        have Z4 := Lib.hid hz4
        have Y4 := Lib.hid (Z3.out.keptH H3.out hk4)
        have H4 := Lib.hid h4
        have R4 := Lib.hid (F3.out.rd hk4 R3.out)
        have F4 := Lib.hid (F3.out.kept hk4)
        have B4 := Lib.hid (B3.out.trans (hb4.mono (by rw [HG.out]; exact Nat.le_refl _)))
        clear hz4 h4 hk4 hb4 H3 R3 F3 B3 Z3 O3 HDU y0 y1 y2
        obtain ⟨A3, n3, c3, rfl, _, hl3, hr3⟩ := Z4.out.out'
        have hY : Rd w4 w4.heap.size 1 A2 n2 (zs .i64 D) := by
          obtain ⟨A9, n9, c9, e9, _, hl9, hr9⟩ := Y4.out.out'
          injection e9 with e1 e2 e3
          subst e1 e2 e3
          exact hr9.out
        have HY := Lib.hid hY
        have hn3 : n3 ≤ 1000000 := by rw [← hl3.out]; omega
        clear hY
        go_wp2_with fail
        refine (row42_any A3 A2 n3 c3 n2 c2 _ _ D w4 hr3.out HY.out hn3).mono ?_
        rintro e w5 ⟨rfl, hb5⟩
        have H5 := Lib.hid (H4.out.into hb5)
        have R5 := Lib.hid (R4.out.into hb5)
        have F5 := Lib.hid (F4.out.below hb5.size)
        have B5 := Lib.hid (B4.out.trans (hb5.mono B4.out.size))
        clear hb5 H4 R4 F4 B4 Z4 Y4 HY
        cases S with
        | nil =>
          obtain rfl : n1 = 0 := L5.out.symm
          go_wp2_with fail
          refine (hfirst_nil g g M puts v4 w5 H5.out).mono ?_
          rintro e w6 ⟨rfl, hb6⟩
          unfold itv
          have H6 := Lib.hid (H5.out.into hb6)
          have R6 := Lib.hid (R5.out.into hb6)
          have F6 := Lib.hid (F5.out.below hb6.size)
          have B6 := Lib.hid (B5.out.trans (hb6.mono B5.out.size))
          clear hb6 H5 R5 F5 B5
          go_upto_region 35 with fail
          have hA := (Below.refl w6.heap.size w6).alloc (Nat.le_refl _) (.cells #[.int .i64 0, .int .i64 0] 42)
          have k7 := Lib.hid (Blk.new w6 42 #[.int .i64 0, .int .i64 0])
          have H7 := Lib.hid (H6.out.into hA)
          have R7 := Lib.hid (R6.out.into hA)
          have F7 := Lib.hid (F6.out.below hA.size)
          have B7 := Lib.hid (B6.out.trans (hA.mono B6.out.size))
          obtain ⟨jb, hjb⟩ : ∃ x, x = w6.heap.size := ⟨_, rfl⟩
          rw [← hjb] at k7 ⊢
          generalize w6.alloc (.cells #[.int .i64 0, .int .i64 0] 42) = w7 at k7 H7 R7 F7 B7 ⊢
          clear hA hjb H6 R6 F6 B6
          go_quiet ((go_at_call 23; refine Calls.quiet_of_same (hlen_any g g M puts v4 _ _ (H7.out.into (below_drewN (Below.refl _ _) _)))))
          have H8 := Lib.hid (H7.out.into (below_drewN (Below.refl _ _) nq))
          have R8 : Hid (Rd (w7.drewN nq) (w7.drewN nq).heap.size _ _ _ _) := Lib.hid (R7.out.into (below_drewN (Below.refl _ _) nq))
          have F8 := Lib.hid (F7.out.below (w' := w7.drewN nq) (Nat.le_refl _))
          have B8 := Lib.hid (below_drewN B7.out nq)
          generalize w7.drewN nq = w8 at H8 R8 F8 B8 ⊢
          clear H7 R7 F7 B7
          go_wp2_with fail
          go_roundw
          case rel => exact ⟨i + 1, puts, v4, _, A1, 0, c1, by omega, by go_num, rfl, hc5, by omega, by omega, L5, H8, R8, F8, B8⟩
          case measure => simp [intOf]; omega
        | cons y S9 =>
          obtain ⟨ya, yw, yo⟩ := y
          obtain ⟨m5, rfl⟩ : ∃ m5, n1 = m5 + 1 := ⟨S9.length, L5.out.symm⟩
          go_wp2_with fail
          refine (hfirst_cons g g M puts v4 (ya, yw, yo) S9 w5 H5.out).mono ?_
          rintro e w6 ⟨rfl, hb6⟩
          unfold itv
          have H6 := Lib.hid (H5.out.into hb6)
          have R6 := Lib.hid (R5.out.into hb6)
          have F6 := Lib.hid (F5.out.below hb6.size)
          have B6 := Lib.hid (B5.out.trans (hb6.mono B5.out.size))
          clear hb6 H5 R5 F5 B5
          go_upto_region 35 with fail
          have hA := (Below.refl w6.heap.size w6).alloc (Nat.le_refl _) (.cells #[.int .i64 ya, .int .i64 yw] 42)
          have k7 := Lib.hid (Blk.new w6 42 #[.int .i64 ya, .int .i64 yw])
          have H7 := Lib.hid (H6.out.into hA)
          have R7 := Lib.hid (R6.out.into hA)
          have F7 := Lib.hid (F6.out.below hA.size)
          have B7 := Lib.hid (B6.out.trans (hA.mono B6.out.size))
          obtain ⟨jb, hjb⟩ : ∃ x, x = w6.heap.size := ⟨_, rfl⟩
          rw [← hjb] at k7 ⊢
          generalize w6.alloc (.cells #[.int .i64 ya, .int .i64 yw] 42) = w7 at k7 H7 R7 F7 B7 ⊢
          clear hA hjb H6 R6 F6 B6
          obtain ⟨rb9, ro9, xx, yy, e9, _, p0, p1, hxy⟩ := R7.out.pr (i := 0) (by omega)
          subst e9
          have hxy2 : (ya, yw) = (xx, yy) := Option.some.inj hxy.out
          injection hxy2 with e1 e2
          subst e1 e2
          simp only [Nat.zero_mul, Nat.add_zero] at p0 p1
          obtain ⟨z0, z1⟩ := ptc2 k7.out
          have gm : (0 : Int) < (m5 : Int) + 1 := by omega
          have hS9 : S9.length = m5 := by have := L5.out; simp at this; omega
          clear hxy
          go_quiet ((go_at_call 23; refine Calls.quiet_of_same (hlen_any g g M puts v4 _ _ (H7.out.into (below_drewN (Below.refl _ _) _)))))
          have H8 := Lib.hid (H7.out.into (below_drewN (Below.refl _ _) nq))
          have R8 : Hid (Rd (w7.drewN nq) (w7.drewN nq).heap.size _ _ _ _) := Lib.hid (R7.out.into (below_drewN (Below.refl _ _) nq))
          have F8 := Lib.hid (F7.out.below (w' := w7.drewN nq) (Nat.le_refl _))
          have B8 := Lib.hid (below_drewN B7.out nq)
          generalize w7.drewN nq = w8 at H8 R8 F8 B8 ⊢
          clear H7 R7 F7 B7
          go_wp2_with fail
          go_roundw
          case rel => exact ⟨i + 1, puts, v4, _, _, m5 + 1, c1, by omega, by go_num, rfl, hc5, by omega, by omega, L5, H8, R8, F8, B8⟩
          case measure => simp [intOf]; omega
      · by_cases hroom : rn < M
        · have hr1 : (rn : Int) < (M : Int) := by omega
          have hr2 : rn < M := hroom
          go_wp2_with fail
          refine (rput_any rA rn rc w2.heap.size (R.map prN) ta wh w2 R2.out (by omega) (Nat.le_refl _)).mono ?_
          rintro e w3 ⟨⟨v1, r1, rfl, ho, hpa⟩, hb3⟩
          have hre : r1 = (insN (ta, wh, puts) R).map prN := put_eq H2.out.srt hpa
          subst hre
          rw [List.length_map] at ho
          have hSl : (insN (ta, wh, puts) R).length = rn + 1 := by rw [← (insN_perm _ R).length_eq, List.length_append, HRL.out]; rfl
          rw [hSl] at ho
          have hPU := hput_any g g M puts v R ta wh w3 (H2.out.into hb3) (by rw [HRL.out]; exact hroom) (by omega)
          obtain ⟨S, hS⟩ : ∃ S, S = insN (ta, wh, puts) R := ⟨_, rfl⟩
          rw [← hS] at ho hPU hSl
          have HPU := Lib.hid hPU
          obtain ⟨A1, c1, rfl, hc5, _, hr3⟩ := own_form ho
          have F3 := Lib.hid (FarH.new H2.out ho)
          obtain ⟨n1, hn1⟩ : ∃ k, k = rn + 1 := ⟨_, rfl⟩
          rw [← hn1] at hr3 F3 hc5 hSl ⊢
          have R3 := Lib.hid hr3
          have L5 := Lib.hid hSl
          have H3 := Lib.hid (H2.out.into hb3)
          have B3 := Lib.hid (B2.out.trans (hb3.mono B2.out.size))
          have O3 := Lib.hid (O2.out.below hb3 O2.out.lt)
          have hn5 : n1 ≤ i + 1 := by omega
          clear hS hPU ho hr3 hb3 H2 R2 F2 B2 O2 y1 y2 hSl hpa hn1 hr1 hr2 hroom
          obtain ⟨y0, y1, y2⟩ := ptc3 O3.out
          go_wp2_with fail
          refine HPU.out.mono ?_
          rintro e w5 ⟨rfl, ⟨v4, h4, hk4⟩, hb4⟩
          have H5 := Lib.hid h4
          have R5 := Lib.hid (F3.out.rd hk4 R3.out)
          have F5 := Lib.hid (F3.out.kept hk4)
          have B5 := Lib.hid (B3.out.trans (hb4.mono (by rw [HG.out]; exact Nat.le_refl _)))
          clear h4 hk4 hb4 H3 R3 F3 B3 O3 HPU y0 y1 y2
          cases S with
          | nil =>
            obtain rfl : n1 = 0 := L5.out.symm
            go_wp2_with fail
            refine (hfirst_nil g g M (puts + 1) v4 w5 H5.out).mono ?_
            rintro e w6 ⟨rfl, hb6⟩
            unfold itv
            have H6 := Lib.hid (H5.out.into hb6)
            have R6 := Lib.hid (R5.out.into hb6)
            have F6 := Lib.hid (F5.out.below hb6.size)
            have B6 := Lib.hid (B5.out.trans (hb6.mono B5.out.size))
            clear hb6 H5 R5 F5 B5
            go_upto_region 35 with fail
            have hA := (Below.refl w6.heap.size w6).alloc (Nat.le_refl _) (.cells #[.int .i64 0, .int .i64 0] 42)
            have k7 := Lib.hid (Blk.new w6 42 #[.int .i64 0, .int .i64 0])
            have H7 := Lib.hid (H6.out.into hA)
            have R7 := Lib.hid (R6.out.into hA)
            have F7 := Lib.hid (F6.out.below hA.size)
            have B7 := Lib.hid (B6.out.trans (hA.mono B6.out.size))
            obtain ⟨jb, hjb⟩ : ∃ x, x = w6.heap.size := ⟨_, rfl⟩
            rw [← hjb] at k7 ⊢
            generalize w6.alloc (.cells #[.int .i64 0, .int .i64 0] 42) = w7 at k7 H7 R7 F7 B7 ⊢
            clear hA hjb H6 R6 F6 B6
            go_quiet ((go_at_call 23; refine Calls.quiet_of_same (hlen_any g g M (puts + 1) v4 _ _ (H7.out.into (below_drewN (Below.refl _ _) _)))))
            have H8 := Lib.hid (H7.out.into (below_drewN (Below.refl _ _) nq))
            have R8 : Hid (Rd (w7.drewN nq) (w7.drewN nq).heap.size _ _ _ _) := Lib.hid (R7.out.into (below_drewN (Below.refl _ _) nq))
            have F8 := Lib.hid (F7.out.below (w' := w7.drewN nq) (Nat.le_refl _))
            have B8 := Lib.hid (below_drewN B7.out nq)
            generalize w7.drewN nq = w8 at H8 R8 F8 B8 ⊢
            clear H7 R7 F7 B7
            go_wp2_with fail
            go_roundw
            case rel => exact ⟨i + 1, (puts + 1), v4, _, A1, 0, c1, by omega, by go_num, rfl, hc5, by omega, by omega, L5, H8, R8, F8, B8⟩
            case measure => simp [intOf]; omega
          | cons y S9 =>
            obtain ⟨ya, yw, yo⟩ := y
            obtain ⟨m5, rfl⟩ : ∃ m5, n1 = m5 + 1 := ⟨S9.length, L5.out.symm⟩
            go_wp2_with fail
            refine (hfirst_cons g g M (puts + 1) v4 (ya, yw, yo) S9 w5 H5.out).mono ?_
            rintro e w6 ⟨rfl, hb6⟩
            unfold itv
            have H6 := Lib.hid (H5.out.into hb6)
            have R6 := Lib.hid (R5.out.into hb6)
            have F6 := Lib.hid (F5.out.below hb6.size)
            have B6 := Lib.hid (B5.out.trans (hb6.mono B5.out.size))
            clear hb6 H5 R5 F5 B5
            go_upto_region 35 with fail
            have hA := (Below.refl w6.heap.size w6).alloc (Nat.le_refl _) (.cells #[.int .i64 ya, .int .i64 yw] 42)
            have k7 := Lib.hid (Blk.new w6 42 #[.int .i64 ya, .int .i64 yw])
            have H7 := Lib.hid (H6.out.into hA)
            have R7 := Lib.hid (R6.out.into hA)
            have F7 := Lib.hid (F6.out.below hA.size)
            have B7 := Lib.hid (B6.out.trans (hA.mono B6.out.size))
            obtain ⟨jb, hjb⟩ : ∃ x, x = w6.heap.size := ⟨_, rfl⟩
            rw [← hjb] at k7 ⊢
            generalize w6.alloc (.cells #[.int .i64 ya, .int .i64 yw] 42) = w7 at k7 H7 R7 F7 B7 ⊢
            clear hA hjb H6 R6 F6 B6
            obtain ⟨rb9, ro9, xx, yy, e9, _, p0, p1, hxy⟩ := R7.out.pr (i := 0) (by omega)
            subst e9
            have hxy2 : (ya, yw) = (xx, yy) := Option.some.inj hxy.out
            injection hxy2 with e1 e2
            subst e1 e2
            simp only [Nat.zero_mul, Nat.add_zero] at p0 p1
            obtain ⟨z0, z1⟩ := ptc2 k7.out
            have gm : (0 : Int) < (m5 : Int) + 1 := by omega
            have hS9 : S9.length = m5 := by have := L5.out; simp at this; omega
            clear hxy
            go_quiet ((go_at_call 23; refine Calls.quiet_of_same (hlen_any g g M (puts + 1) v4 _ _ (H7.out.into (below_drewN (Below.refl _ _) _)))))
            have H8 := Lib.hid (H7.out.into (below_drewN (Below.refl _ _) nq))
            have R8 : Hid (Rd (w7.drewN nq) (w7.drewN nq).heap.size _ _ _ _) := Lib.hid (R7.out.into (below_drewN (Below.refl _ _) nq))
            have F8 := Lib.hid (F7.out.below (w' := w7.drewN nq) (Nat.le_refl _))
            have B8 := Lib.hid (below_drewN B7.out nq)
            generalize w7.drewN nq = w8 at H8 R8 F8 B8 ⊢
            clear H7 R7 F7 B7
            go_wp2_with fail
            go_roundw
            case rel => exact ⟨i + 1, (puts + 1), v4, _, _, m5 + 1, c1, by omega, by go_num, rfl, hc5, by omega, by omega, L5, H8, R8, F8, B8⟩
            case measure => simp [intOf]; omega
        · exact absurd (show rn < M by omega) hroom
    · have hin : i = n := by omega
      subst hin
      go_wp2_with fail
      refine (alive42_any wr).mono ?_
      rintro e w9 ⟨rfl, hb9⟩
      have B9 := Lib.hid (BB.out.trans (hb9.mono BB.out.size))
      go_wp2_with fail
      go_ret
      exact ⟨rfl, B9.out⟩
end Go.Proofs.Ytkekmcolekomjaa
