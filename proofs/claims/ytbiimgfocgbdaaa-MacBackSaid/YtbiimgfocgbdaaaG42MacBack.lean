/- Layer 7: the same segment with other options. -/
import Derived.Test.YtbiimgfocgbdaaaG41MacBack

namespace Go.Proofs.Ytbiimgfocgbdaaa
open Go.RowKit
set_option linter.unusedVariables false
theorem run_cut_hm {P : Program} {t e : TypeId} {z : Value} {sz bytes : Nat} (el : El P t e z sz bytes) (A : Option Addr) (n c k m : Nat) (h1 : k ≤ m) (h2 : m ≤ c) (w : World) :
    (Instr.slice t (.slice A n c) none (some (.int .i64 (k : Int))) (some (.int .i64 (m : Int)))).run P w = .ok (.slice A k m) w := by
  obtain ⟨ht, hinf, hzs, hsz, hb1⟩ := el
  obtain ⟨i, hi, hz, hsize, hby⟩ := info_parts hinf
  have he : P.elem t = e := by unfold Program.elem; rw [ht]
  have ht' : P.underlying t = some (.slice (P.elem t)) := by rw [he]; exact ht
  rw [run_slice_hm (P := P) w t A n c ht' .i64 .i64 (k : Int) (m : Int) (by omega) (by omega) (by omega)]
  rw [he]
  simp [sizeOf, typeInfo, hi, hsize, sliced, Result.andThen]
  intro hc
  cases A with
  | none => rfl
  | some a => simp [Addr.add]
def OfPost (g : Sg) (lo : List Ob) (w' : World) (e : Ending) : Prop := ∃ v', e = .returned v' ∧ SegV w' v' { g with opts := osay lo }
set_option maxRecDepth 20000 in
set_option maxHeartbeats 4000000 in
theorem of_any (v : Value) (g : Sg) (A1 : Option Addr) (n1 c1 : Nat) (lo : List Ob) (w : World) (h : SegV w v g) (h1 : Os w A1 n1 c1 lo) (hn : n1 ≤ 10000) :
    Calls Try.prog 33 #[v, .slice A1 n1 c1] w fun e w' => OfPost g lo w' e ∧ Below w.heap.size w w' := by
  obtain ⟨A, n, c, D, m, d, l, rfl, hO, ho, hD, hmd, hdm⟩ := h
  have hb0 : Below w.heap.size w ((w.alloc (.cells (segCs g A n c D m d) 30)).alloc (.cells #[.int .u16 0, .int .u16 0, .int .u32 0, .int .u32 0, .int .u8 0, .slice none 0 0, .slice none 0 0] 30)) := ((Below.refl _ _).alloc (Nat.le_refl _) _).alloc (by simp) _
  have hk1 := (Blk.new w 30 (segCs g A n c D m d)).alloc (.cells #[.int .u16 0, .int .u16 0, .int .u32 0, .int .u32 0, .int .u8 0, .slice none 0 0, .slice none 0 0] 30)
  have hk2 := Blk.new (w.alloc (.cells (segCs g A n c D m d) 30)) 30 #[.int .u16 0, .int .u16 0, .int .u32 0, .int .u32 0, .int .u8 0, .slice none 0 0, .slice none 0 0]
  rw [show (w.alloc (.cells (segCs g A n c D m d) 30)).heap.size = w.heap.size + 1 by simp] at hk2
  have hz : ((w.alloc (.cells (segCs g A n c D m d) 30)).alloc (.cells #[.int .u16 0, .int .u16 0, .int .u32 0, .int .u32 0, .int .u8 0, .slice none 0 0, .slice none 0 0] 30)).heap.size = w.heap.size + 2 := by simp
  have hu : Try.prog.underlying 28 = some (.slice (Try.prog.elem 28)) := by unfold Program.elem; rw [Try.underlying28]
  have hcut1 : ∀ (A : Option Addr) (n c : Nat), n ≤ c → ∀ w, (Instr.slice 28 (.slice A n c) none (some (.int .i64 (n : Int))) (some (.int .i64 (n : Int)))).run Try.prog w = .ok (.slice A n n) w := fun A n c h w => run_cut_hm pel8 A n c n n (Nat.le_refl _) h w
  have hcut2 : ∀ (A : Option Addr) (n c : Nat), n ≤ c → ∀ w, (Instr.sliceAt 28 (.slice A n c) none (some (.int .i64 (n : Int))) (some (.int .i64 (n : Int)))).run Try.prog w = .ok (.slice A n n) w := fun A n c h w => (run_sliceAt_slice w _ _ _ _ _ hu).trans (hcut1 A n c h w)
  have HC1 := Lib.hid hcut1
  have HC2 := Lib.hid hcut2
  have HMD := Lib.hid (And.intro hmd hdm)
  have HO1 := Lib.hid h1
  have HL := Lib.hid h1.len
  have HD := Lib.hid hD
  have HB0 := Lib.hid hb0
  have K1 := Lib.hid hk1
  have K2 := Lib.hid hk2
  have HZ := Lib.hid hz
  clear hu hcut1 hcut2 hO ho hD hmd hdm h1 hb0 hk1 hk2 hz
  unfold segCs at *
  go_enter Try.func33, Try.ntmps33
  go_wp2_with fail
  generalize (w.alloc (.cells #[.int .u16 (g.src : Int), .int .u16 (g.dst : Int), .int .u32 (g.seq : Int), .int .u32 (g.ack : Int), .int .u8 (g.flags : Int), .slice A n c, .slice D m d] 30)).alloc (.cells #[.int .u16 0, .int .u16 0, .int .u32 0, .int .u32 0, .int .u8 0, .slice none 0 0, .slice none 0 0] 30) = W at *
  obtain ⟨T, hT⟩ : ∃ T, T = w.heap.size := ⟨_, rfl⟩
  rw [← hT] at K1 K2 HZ ⊢
  have HT := Lib.hid hT
  clear hT
  refine (sgsClone A1 n1 c1 W.heap.size (ocs lo) W (HO1.out.into HB0.out).row (Nat.le_refl _) (ocs_one lo) (by omega)).mono ?_
  rintro e w2 ⟨v2, rfl, hown, hb2⟩
  have hlt := own_lt hown
  obtain ⟨A2, c2, rfl, hnc2, hcm2, _⟩ := own_form hown
  obtain ⟨r, hr, hTr⟩ : ∃ r, (∀ g, (Value.slice A2 n1 c2).ownBlock = some g → g = r) ∧ T + 2 ≤ r := by
    cases hbk : (Value.slice A2 n1 c2).ownBlock with
    | none => exact ⟨T + 2, (fun g hg => by cases hg), Nat.le_refl _⟩
    | some r => exact ⟨r, (fun g hg => by injection hg with hg; exact hg.symm), by have := (hlt r hbk).1; rw [HZ.out] at this; exact this⟩
  have HR := Lib.hid hr
  have HTR := Lib.hid hTr
  have K1 := Lib.hid (K1.out.below hb2 K1.out.lt)
  have K2 := Lib.hid (K2.out.below hb2 K2.out.lt)
  have B2 := Lib.hid (HB0.out.trans (hb2.mono HB0.out.size))
  have I2 := Lib.hid (OInv.new (T := T) (r := r) (own_mono hown (by rw [HZ.out]; exact Nat.le_refl _)) HO1.out B2.out (Nat.le_of_eq HT.out.symm))
  obtain ⟨_, _, _, _, _, s5, _⟩ := seg_cells (show Blk w2 T 30 (segCs g A n c D m d) from K1.out)
  have f5 := K1.out.frozen 5
  clear hown hlt hr hTr hb2 HB0
  go_wp2_with fail
  have K1 := Lib.hid (show Blk (w2.setCell ⟨T, 5, none⟩ (.slice A2 n1 c2)) T 30 (segCs g A2 n1 c2 D m d) from K1.out.set 5 (.slice A2 n1 c2))
  have hsol : Solo T w2 (w2.setCell ⟨T, 5, none⟩ (.slice A2 n1 c2)) := Solo.refl.setCell _ _
  have K2 := Lib.hid (hsol.blk K2.out (by omega))
  have I2 := Lib.hid (I2.out.solo hsol (Nat.le_refl _) (by omega) (by have := HTR.out; omega))
  have B2 := Lib.hid (show Below w.heap.size w (w2.setCell ⟨T, 5, none⟩ (.slice A2 n1 c2)) from B2.out.setCell (p := ⟨T, 5, none⟩) (Nat.le_of_eq HT.out.symm) _)
  clear hsol s5 f5
  generalize w2.setCell ⟨T, 5, none⟩ (.slice A2 n1 c2) = w3 at *
  go_loopw [13] (fun iv wr => ∃ k : Nat, k ≤ n1 ∧ iv = .int .i64 k ∧ Hid (Blk wr T 30 (segCs g A2 n1 c2 D m d)) ∧ Hid (Blk wr (T + 1) 30 #[.int .u16 0, .int .u16 0, .int .u32 0, .int .u32 0, .int .u8 0, .slice none 0 0, .slice none 0 0]) ∧ Hid (OInv wr T r (.slice A2 n1 c2) n1 k lo) ∧ Hid (Below w.heap.size w wr)) (fun iv _ => n1 - (intOf iv).toNat)
  case atStart => exact ⟨0, Nat.zero_le _, rfl, K1, K2, I2, B2⟩
  case round =>
    clear K1 K2 I2 B2
    obtain ⟨k, hk, rfl, K1, K2, I, hbw⟩ := hrel
    by_cases hlt : k < n1
    · have hlt' : (k : Int) < (n1 : Int) := by omega
      have hkl : k < lo.length := by rw [HL.out]; exact hlt
      have hg : lo[k]? = some (lo[k]'hkl) := List.getElem?_eq_getElem hkl
      obtain ⟨⟨kd, q⟩, hqq⟩ : ∃ p, p = lo[k]'hkl := ⟨_, rfl⟩
      rw [← hqq] at hg
      have HG := Lib.hid hg
      clear hg hqq hkl
      obtain ⟨rfl, hrl, p0, p1, pf, hq, hqc, hqm⟩ := I.out.at_ hlt HR.out HG.out
      obtain ⟨qA, qn, qc, ql⟩ := q
      dsimp only at *
      have HQC := Lib.hid (And.intro hqc hqm)
      clear pf hqm
      go_wp2_with fail
      have hba : Below wr.heap.size wr (wr.alloc (.cells #[.int .u8 (kd : Int), .slice qA qn qc] 45)) := (Below.refl _ _).alloc (Nat.le_refl _) _
      have KO := Lib.hid (Blk.new wr 45 #[.int .u8 (kd : Int), .slice qA qn qc])
      have K1 := Lib.hid (K1.out.alloc (.cells #[.int .u8 (kd : Int), .slice qA qn qc] 45))
      have K2 := Lib.hid (K2.out.alloc (.cells #[.int .u8 (kd : Int), .slice qA qn qc] 45))
      have I := Lib.hid (I.out.into hba)
      have hbw := Lib.hid (hbw.out.trans (hba.mono hbw.out.size))
      clear hba hq p0 p1
      generalize wr.alloc (.cells #[.int .u8 (kd : Int), .slice qA qn qc] 45) = wa at *
      obtain ⟨M, hM⟩ : ∃ M, M = wr.heap.size := ⟨_, rfl⟩
      rw [← hM] at KO ⊢
      clear hM hrl
      refine wp_ord [(0, .pure), (1, .read), (2, .pure), (3, .pure), (4, .read), (5, .pure), (6, .read), (7, .pure), (8, .pure), (9, .read), (10, .pure), (11, .pure), (12, .pure), (13, .pure), (14, .sole)] [14] (by kernel_rfl) (by kernel_rfl) (fun QQ hQ wd hwd => ?_); simp only [List.map_cons, List.map_nil, List.getD_cons_zero, List.getD_cons_succ]
      have KO := Lib.hid (show Blk wd M 45 #[.int .u8 (kd : Int), .slice qA qn qc] by rw [hwd.out]; exact KO.out)
      have K1 := Lib.hid (show Blk wd T 30 (segCs g (some ⟨r, 0, none⟩) n1 c2 D m d) by rw [hwd.out]; exact K1.out)
      have K2 := Lib.hid (show Blk wd (T + 1) 30 #[.int .u16 0, .int .u16 0, .int .u32 0, .int .u32 0, .int .u8 0, .slice none 0 0, .slice none 0 0] by rw [hwd.out]; exact K2.out)
      have I := Lib.hid (show OInv wd T r (.slice (some ⟨r, 0, none⟩) n1 c2) n1 k lo by rw [hwd.out]; exact I.out.into (Below.refl _ _).drew)
      have hbw := Lib.hid (show Below w.heap.size w wd by rw [hwd.out]; exact hbw.out.drew)
      clear hwd
      obtain ⟨_, hrl, p0, p1, pf, hq, _, _⟩ := I.out.at_ hlt HR.out HG.out
      dsimp only at p0 p1 hq
      obtain ⟨_, _, _, _, _, s5, _⟩ := seg_cells K1.out
      obtain ⟨_, y1⟩ := blk2 _ _ KO.out
      have hcq1 := HC1.out qA qn qc hqc
      have hcq2 := HC2.out qA qn qc hqc
      have wk : IntKind.i64.wrap (k : Int) = (k : Int) := by rw [IntKind.wrap_i64]; omega
      (refine o_pure (v := ?_) (by rfl) (fun w' => ?_) ?_; rotate_left; (focus (go_simp; (try with_reducible rfl))); (try simp only [Act.put, List.setIfInBounds_toArray, List.set_cons_zero, List.set_cons_succ]))
      (refine o_load _ (by rfl) rfl rfl (by assumption) (by kernel_rfl) ?_; simp only [Act.put, List.setIfInBounds_toArray, List.set_cons_zero, List.set_cons_succ])
      (refine o_pure (v := ?_) (by rfl) (fun w' => ?_) ?_; rotate_left; (focus (go_simp; (try with_reducible rfl))); (try simp only [Act.put, List.setIfInBounds_toArray, List.set_cons_zero, List.set_cons_succ]))
      (refine o_pure (v := ?_) (by rfl) (fun w' => ?_) ?_; rotate_left; (focus (go_simp; (try with_reducible rfl))); (try simp only [Act.put, List.setIfInBounds_toArray, List.set_cons_zero, List.set_cons_succ]))
      (refine o_load _ (by rfl) rfl rfl (by assumption) (by kernel_rfl) ?_; simp only [Act.put, List.setIfInBounds_toArray, List.set_cons_zero, List.set_cons_succ])
      (refine o_pure (v := ?_) (by rfl) (fun w' => ?_) ?_; rotate_left; (focus (go_simp; (try with_reducible rfl))); (try simp only [Act.put, List.setIfInBounds_toArray, List.set_cons_zero, List.set_cons_succ]))
      (refine o_load _ (by rfl) rfl rfl (by assumption) (by kernel_rfl) ?_; simp only [Act.put, List.setIfInBounds_toArray, List.set_cons_zero, List.set_cons_succ])
      (refine o_pure (v := ?_) (by rfl) (fun w' => ?_) ?_; rotate_left; (focus (go_simp; (try with_reducible rfl))); (try simp only [Act.put, List.setIfInBounds_toArray, List.set_cons_zero, List.set_cons_succ]))
      (refine o_pure (v := ?_) (by rfl) (fun w' => ?_) ?_; rotate_left; (focus (go_simp; (try with_reducible rfl))); (try simp only [Act.put, List.setIfInBounds_toArray, List.set_cons_zero, List.set_cons_succ]))
      (refine o_load _ (by rfl) rfl rfl (by assumption) (by kernel_rfl) ?_; simp only [Act.put, List.setIfInBounds_toArray, List.set_cons_zero, List.set_cons_succ])
      (refine o_pure (v := ?_) (by rfl) (fun w' => ?_) ?_; rotate_left; (focus (go_simp; (try with_reducible rfl))); (try simp only [Act.put, List.setIfInBounds_toArray, List.set_cons_zero, List.set_cons_succ]))
      (refine o_pure (v := ?_) (by rfl) (fun w' => ?_) ?_; rotate_left; (focus (go_simp; (try with_reducible rfl))); (try simp only [Act.put, List.setIfInBounds_toArray, List.set_cons_zero, List.set_cons_succ]))
      (refine o_pure (v := ?_) (by rfl) (fun w' => ?_) ?_; rotate_left; (focus (go_simp; (try with_reducible rfl))); (try simp only [Act.put, List.setIfInBounds_toArray, List.set_cons_zero, List.set_cons_succ]))
      (refine o_pure (v := ?_) (by rfl) (fun w' => ?_) ?_; rotate_left; (focus (go_simp; (try with_reducible rfl))); (try simp only [Act.put, List.setIfInBounds_toArray, List.set_cons_zero, List.set_cons_succ]))
      refine o_sole (fun K hK => ?_)
      go_wp2_with fail
      refine hK _ _ (fun h => by cases h) ?_; clear hK K
      refine o_nil (hQ.out _ _ ?_); clear hQ QQ
      have hsol : Solo r wd (wd.setCell ⟨r, k * 2 + 1, none⟩ (.slice qA qn qn)) := Solo.refl.setCell _ _
      have K1 := Lib.hid (hsol.blk K1.out (by have := HTR.out; omega))
      have K2 := Lib.hid (hsol.blk K2.out (by have := HTR.out; omega))
      have I := Lib.hid (I.out.set hlt HR.out HTR.out HG.out ⟨qA, qn, qn, ql⟩ rfl hq.out ⟨Nat.le_refl _, Nat.le_trans HQC.out.1 HQC.out.2⟩)
      have hbw := Lib.hid (show Below w.heap.size w (wd.setCell ⟨r, k * 2 + 1, none⟩ (.slice qA qn qn)) from hbw.out.setCell (p := ⟨r, k * 2 + 1, none⟩) (show w.heap.size ≤ r by have := HTR.out; have := HT.out; omega) _)
      clear hsol p0 p1 pf hq s5 y1 hcq1 hcq2 KO
      dsimp only at I
      generalize wd.setCell ⟨r, k * 2 + 1, none⟩ (.slice qA qn qn) = wf at *
      go_wp2_with fail
      go_roundw
      case rel => exact ⟨k + 1, by omega, by go_num, K1, K2, I, hbw⟩
      case measure => simp [intOf]; omega
    · have hge : ¬ (k : Int) < (n1 : Int) := by omega
      have hkn : k = n1 := by omega
      subst hkn
      obtain ⟨_, _, _, _, _, _, s6⟩ := seg_cells K1.out
      have f6 := K1.out.frozen 6
      have hcq1 := HC1.out D m d HMD.out.1
      have hcq2 := HC2.out D m d HMD.out.1
      have K1b := Lib.hid (show Blk (wr.setCell ⟨T, 6, none⟩ (.slice D m m)) T 30 (segCs g A2 k c2 D m m) from K1.out.set 6 (.slice D m m))
      have hsol : Solo T wr (wr.setCell ⟨T, 6, none⟩ (.slice D m m)) := Solo.refl.setCell _ _
      have K2b := Lib.hid (hsol.blk K2.out (by omega))
      have Ib := Lib.hid (I.out.solo hsol (Nat.le_refl _) (by omega) (by have := HTR.out; omega))
      have Bb := Lib.hid (show Below w.heap.size w (wr.setCell ⟨T, 6, none⟩ (.slice D m m)) from hbw.out.setCell (p := ⟨T, 6, none⟩) (Nat.le_of_eq HT.out.symm) _)
      clear hsol K1 K2 I hbw
      obtain ⟨s0, s1, s2, s3, s4, s5, s6'⟩ := seg_cells K1b.out
      obtain ⟨t0, t1, t2, t3, t4, t5, t6⟩ := seg_cells (show Blk _ (T + 1) 30 (segCs zeroS none 0 0 none 0 0) from K2b.out)
      have g0 := K2b.out.frozen 0
      have g1 := K2b.out.frozen 1
      have g2 := K2b.out.frozen 2
      have g3 := K2b.out.frozen 3
      have g4 := K2b.out.frozen 4
      have g5 := K2b.out.frozen 5
      have g6 := K2b.out.frozen 6
      have hkz := seg7 (.int .u16 (g.src : Int)) (.int .u16 (g.dst : Int)) (.int .u32 (g.seq : Int)) (.int .u32 (g.ack : Int)) (.int .u8 (g.flags : Int)) (.slice A2 k c2) (.slice D m m) K2b.out
      have hbz := bel7 (.int .u16 (g.src : Int)) (.int .u16 (g.dst : Int)) (.int .u32 (g.seq : Int)) (.int .u32 (g.ack : Int)) (.int .u8 (g.flags : Int)) (.slice A2 k c2) (.slice D m m) Bb.out (show w.heap.size ≤ T + 1 by have := HT.out; omega)
      have hsz : Solo (T + 1) _ (put7 (wr.setCell ⟨T, 6, none⟩ (.slice D m m)) (T + 1) (.int .u16 (g.src : Int)) (.int .u16 (g.dst : Int)) (.int .u32 (g.seq : Int)) (.int .u32 (g.ack : Int)) (.int .u8 (g.flags : Int)) (.slice A2 k c2) (.slice D m m)) := solo7 (.int .u16 (g.src : Int)) (.int .u16 (g.dst : Int)) (.int .u32 (g.seq : Int)) (.int .u32 (g.ack : Int)) (.int .u8 (g.flags : Int)) (.slice A2 k c2) (.slice D m m)
      have Iz := Lib.hid (Ib.out.solo hsz (by omega) (by omega) (by have := HTR.out; omega))
      have HBZ := Lib.hid hbz
      have KZ := Lib.hid hkz
      clear hkz hbz hsz Ib
      unfold put7 at *
      go_wp2_with fail
      generalize ((((((((wr.setCell ⟨T, 6, none⟩ (.slice D m m)).setCell ⟨T + 1, 0, none⟩ (.int .u16 (g.src : Int))).setCell ⟨T + 1, 1, none⟩ (.int .u16 (g.dst : Int))).setCell ⟨T + 1, 2, none⟩ (.int .u32 (g.seq : Int))).setCell ⟨T + 1, 3, none⟩ (.int .u32 (g.ack : Int))).setCell ⟨T + 1, 4, none⟩ (.int .u8 (g.flags : Int))).setCell ⟨T + 1, 5, none⟩ (.slice A2 k c2)).setCell ⟨T + 1, 6, none⟩ (.slice D m m)) = wz at *
      clear s0 s1 s2 s3 s4 s5 s6' t0 t1 t2 t3 t4 t5 t6 g0 g1 g2 g3 g4 g5 g6 s6 f6
      obtain ⟨z0, z1, z2, z3, z4, z5, z6⟩ := seg_cells (show Blk wz (T + 1) 30 (segCs g A2 k c2 D m m) from KZ.out)
      obtain ⟨lo', hos, hsay⟩ := Iz.out.os
      refine bodyPost_ret (v := .agg (segCs g A2 k c2 D m m)) (by simp [results, Try.results33, go_sem, z0, z1, z2, z3, z4, z5, z6, segCs]) rfl ⟨⟨_, rfl, A2, k, c2, D, m, m, lo', rfl, hos, hsay.symm, ?_, Nat.le_refl _, Nat.le_trans HMD.out.1 HMD.out.2⟩, HBZ.out⟩
      exact HD.out.into HBZ.out
end Go.Proofs.Ytbiimgfocgbdaaa
