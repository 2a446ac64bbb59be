/- Layer 7: a segment in new memory. -/
import Derived.Test.YtiabafnfiedlcaaSgP3
namespace Go.Proofs.Ytiabafnfiedlcaa
open Go.RowKit
set_option linter.unusedVariables false
/-- What Copy answers: its data in a block of its own. -/
def CopPost (g : Sg) (B : Nat) (w' : World) (e : Ending) : Prop := ∃ (A : Option Addr) (n c : Nat) (D : Option Addr) (m d : Nat) (lo : List Ob), e = .returned (.agg (segCs g A n c D m d)) ∧ Os w' A n c lo ∧ osay lo = g.opts ∧ w'.ownsRow B 5 1 (.slice D m d) m (ns .u8 g.data)
set_option maxRecDepth 20000 in
set_option maxHeartbeats 4000000 in
theorem copy_any (v : Value) (g : Sg) (w : World) (h : SegV w v g) (hs : g.small) :
    Calls Try.prog 43 #[v] w fun e w' => CopPost g w.heap.size w' e ∧ Below w.heap.size w w' := by
  obtain ⟨A, n, c, D, m, d, lo, rfl, hO, ho, hD, hmd, hdm⟩ := h
  have hb0 : Below w.heap.size w ((w.alloc (.cells (segCs g A n c D m d) 56)).alloc (.cells #[.int .u16 0, .int .u16 0, .int .u32 0, .int .u32 0, .int .u8 0, .slice none 0 0, .slice none 0 0] 56)) := ((Below.refl _ _).alloc (Nat.le_refl _) _).alloc (by simp) _
  have hk1 := (Blk.new w 56 (segCs g A n c D m d)).alloc (.cells #[.int .u16 0, .int .u16 0, .int .u32 0, .int .u32 0, .int .u8 0, .slice none 0 0, .slice none 0 0] 56)
  have hk2 := Blk.new (w.alloc (.cells (segCs g A n c D m d) 56)) 56 #[.int .u16 0, .int .u16 0, .int .u32 0, .int .u32 0, .int .u8 0, .slice none 0 0, .slice none 0 0]
  rw [show (w.alloc (.cells (segCs g A n c D m d) 56)).heap.size = w.heap.size + 1 by simp] at hk2
  have hz : ((w.alloc (.cells (segCs g A n c D m d) 56)).alloc (.cells #[.int .u16 0, .int .u16 0, .int .u32 0, .int .u32 0, .int .u8 0, .slice none 0 0, .slice none 0 0] 56)).heap.size = w.heap.size + 2 := by simp
  have hn : n ≤ 10000 := by have h1 := hs.opts; rw [ho] at h1; unfold osay at h1; rw [List.length_map, hO.len] at h1; exact h1
  have HBN := Lib.hid (show ∀ p ∈ osay lo, p.2.length ≤ 10000 from by rw [← ho]; exact hs.bodies)
  have hm : m ≤ 10000 := by have := hs.data; have := hD.natLen; omega
  have HSAY := Lib.hid ho
  have HO1 := Lib.hid hO
  have HL := Lib.hid hO.len
  have HD := Lib.hid hD
  have HB0 := Lib.hid hb0
  have K1 := Lib.hid hk1
  have K2 := Lib.hid hk2
  have HZ := Lib.hid hz
  obtain ⟨_, _, _, _, _, s5, _⟩ := seg_cells hk1
  clear hO ho hD hmd hdm hs hb0 hk1 hk2 hz
  unfold segCs at *
  go_enter Try.func43, Try.ntmps43
  go_wp2_with fail
  generalize (w.alloc (.cells #[.int .u16 (g.src : Int), .int .u16 (g.dst : Int), .int .u32 (g.seq : Int), .int .u32 (g.ack : Int), .int .u8 (g.flags : Int), .slice A n c, .slice D m d] 56)).alloc (.cells #[.int .u16 0, .int .u16 0, .int .u32 0, .int .u32 0, .int .u8 0, .slice none 0 0, .slice none 0 0] 56) = W at *
  obtain ⟨T, hT⟩ : ∃ T, T = w.heap.size := ⟨_, rfl⟩
  rw [← hT] at K1 K2 HZ s5 ⊢
  have HT := Lib.hid hT
  clear hT
  refine (sgsClone A n c W.heap.size (ocs lo) W (HO1.out.into HB0.out).row (Nat.le_refl _) (ocs_one lo) (by omega)).mono ?_
  rintro e w2 ⟨v2, rfl, hown, hb2⟩
  have hlt := own_lt hown
  obtain ⟨A2, c2, rfl, hnc2, hcm2, _⟩ := own_form hown
  obtain ⟨r, hr, hTr⟩ : ∃ r, (∀ g, (Value.slice A2 n c2).ownBlock = some g → g = r) ∧ T + 2 ≤ r := by
    cases hbk : (Value.slice A2 n c2).ownBlock with
    | none => exact ⟨T + 2, (fun g hg => by cases hg), Nat.le_refl _⟩
    | some r => exact ⟨r, (fun g hg => by injection hg with hg; exact hg.symm), by have := (hlt r hbk).1; rw [HZ.out] at this; exact this⟩
  have HR := Lib.hid hr
  have HTR := Lib.hid hTr
  have K1 := Lib.hid (K1.out.below hb2 K1.out.lt)
  have K2 := Lib.hid (K2.out.below hb2 K2.out.lt)
  have B2 := Lib.hid (HB0.out.trans (hb2.mono HB0.out.size))
  have I2 := Lib.hid (OInv.new (T := T) (r := r) (own_mono hown (by rw [HZ.out]; exact Nat.le_refl _)) HO1.out B2.out (Nat.le_of_eq HT.out.symm))
  obtain ⟨_, _, _, _, _, s5, _⟩ := seg_cells (show Blk w2 T 56 (segCs g A n c D m d) from K1.out)
  have f5 := K1.out.frozen 5
  clear hown hlt hr hTr hb2 HB0
  go_wp2_with fail
  have K1 := Lib.hid (show Blk (w2.setCell ⟨T, 5, none⟩ (.slice A2 n c2)) T 56 (segCs g A2 n c2 D m d) from K1.out.set 5 (.slice A2 n c2))
  have hsol : Solo T w2 (w2.setCell ⟨T, 5, none⟩ (.slice A2 n c2)) := Solo.refl.setCell _ _
  have K2 := Lib.hid (hsol.blk K2.out (by omega))
  have I2 := Lib.hid (I2.out.solo hsol (Nat.le_refl _) (by omega) (by have := HTR.out; omega))
  have B2 := Lib.hid (show Below w.heap.size w (w2.setCell ⟨T, 5, none⟩ (.slice A2 n c2)) from B2.out.setCell (p := ⟨T, 5, none⟩) (Nat.le_of_eq HT.out.symm) _)
  clear hsol s5 f5
  generalize w2.setCell ⟨T, 5, none⟩ (.slice A2 n c2) = w3 at *
  go_loopw [12] (fun iv wr => ∃ k : Nat, k ≤ n ∧ iv = .int .i64 k ∧ Hid (Blk wr T 56 (segCs g A2 n c2 D m d)) ∧ Hid (Blk wr (T + 1) 56 #[.int .u16 0, .int .u16 0, .int .u32 0, .int .u32 0, .int .u8 0, .slice none 0 0, .slice none 0 0]) ∧ Hid (OInv wr T r (.slice A2 n c2) n k lo) ∧ Hid (Below w.heap.size w wr)) (fun iv _ => n - (intOf iv).toNat)
  case atStart => exact ⟨0, Nat.zero_le _, rfl, K1, K2, I2, B2⟩
  case round =>
    clear K1 K2 I2 B2
    obtain ⟨k, hk, rfl, K1, K2, I, hbw⟩ := hrel
    by_cases hlt : k < n
    · have hlt' : (k : Int) < (n : Int) := by omega
      have hkl : k < lo.length := by rw [HL.out]; exact hlt
      have hg : lo[k]? = some (lo[k]'hkl) := List.getElem?_eq_getElem hkl
      obtain ⟨⟨kd, q⟩, hqq⟩ : ∃ p, p = lo[k]'hkl := ⟨_, rfl⟩
      rw [← hqq] at hg
      have HG := Lib.hid hg
      have hql := HBN.out (kd, q.l) (List.mem_map.2 ⟨(kd, q), List.mem_of_getElem? hg, rfl⟩)
      clear hg hqq hkl
      obtain ⟨rfl, hrl, p0, p1, pf, hq, hqc, hqm⟩ := I.out.at_ hlt HR.out HG.out
      obtain ⟨qA, qn, qc, ql⟩ := q
      dsimp only at *
      have hqn : qn ≤ 10000 := by have := hq.out.1.natLen; omega
      clear pf hqm hql
      go_wp2_with fail
      have hba : Below wr.heap.size wr (wr.alloc (.cells #[.int .u8 (kd : Int), .slice qA qn qc] 74)) := (Below.refl _ _).alloc (Nat.le_refl _) _
      have KO := Lib.hid (Blk.new wr 74 #[.int .u8 (kd : Int), .slice qA qn qc])
      have K1 := Lib.hid (K1.out.alloc (.cells #[.int .u8 (kd : Int), .slice qA qn qc] 74))
      have K2 := Lib.hid (K2.out.alloc (.cells #[.int .u8 (kd : Int), .slice qA qn qc] 74))
      have I := Lib.hid (I.out.into hba)
      have hbw := Lib.hid (hbw.out.trans (hba.mono hbw.out.size))
      clear hba hq p0 p1
      generalize wr.alloc (.cells #[.int .u8 (kd : Int), .slice qA qn qc] 74) = wa at *
      obtain ⟨M, hM⟩ : ∃ M, M = wr.heap.size := ⟨_, rfl⟩
      rw [← hM] at KO ⊢
      clear hM hrl
      refine wp_ord [(0, .pure), (1, .read), (2, .pure), (3, .pure), (4, .read), (5, .sole), (6, .pure), (7, .pure), (8, .sole)] [8] (by kernel_rfl) (by kernel_rfl) (fun QQ hQ wd hwd => ?_); simp only [List.map_cons, List.map_nil, List.getD_cons_zero, List.getD_cons_succ]
      have KO := Lib.hid (show Blk wd M 74 #[.int .u8 (kd : Int), .slice qA qn qc] by rw [hwd.out]; exact KO.out)
      have K1 := Lib.hid (show Blk wd T 56 (segCs g (some ⟨r, 0, none⟩) n c2 D m d) by rw [hwd.out]; exact K1.out)
      have K2 := Lib.hid (show Blk wd (T + 1) 56 #[.int .u16 0, .int .u16 0, .int .u32 0, .int .u32 0, .int .u8 0, .slice none 0 0, .slice none 0 0] by rw [hwd.out]; exact K2.out)
      have I := Lib.hid (show OInv wd T r (.slice (some ⟨r, 0, none⟩) n c2) n k lo by rw [hwd.out]; exact I.out.into (Below.refl _ _).drew)
      have hbw := Lib.hid (show Below w.heap.size w wd by rw [hwd.out]; exact hbw.out.drew)
      clear hwd
      obtain ⟨_, hrl, _, _, _, hq, _, _⟩ := I.out.at_ hlt HR.out HG.out
      dsimp only at hq
      obtain ⟨_, _, _, _, _, s5, _⟩ := seg_cells K1.out
      obtain ⟨_, y1⟩ := blk2 _ _ KO.out
      have wk : IntKind.i64.wrap (k : Int) = (k : Int) := by rw [IntKind.wrap_i64]; omega
      (refine o_pure (v := ?_) (by rfl) (fun w' => ?_) ?_; rotate_left; (focus (go_simp; (try with_reducible rfl))); (try simp only [Act.put, List.setIfInBounds_toArray, List.set_cons_zero, List.set_cons_succ]))
      (refine o_load _ (by rfl) rfl rfl (by assumption) (by kernel_rfl) ?_; simp only [Act.put, List.setIfInBounds_toArray, List.set_cons_zero, List.set_cons_succ])
      (refine o_pure (v := ?_) (by rfl) (fun w' => ?_) ?_; rotate_left; (focus (go_simp; (try with_reducible rfl))); (try simp only [Act.put, List.setIfInBounds_toArray, List.set_cons_zero, List.set_cons_succ]))
      (refine o_pure (v := ?_) (by rfl) (fun w' => ?_) ?_; rotate_left; (focus (go_simp; (try with_reducible rfl))); (try simp only [Act.put, List.setIfInBounds_toArray, List.set_cons_zero, List.set_cons_succ]))
      (refine o_load _ (by rfl) rfl rfl (by assumption) (by kernel_rfl) ?_; simp only [Act.put, List.setIfInBounds_toArray, List.set_cons_zero, List.set_cons_succ])
      refine o_sole (fun K hK => ?_)
      go_wp2_with fail
      refine (clone_any qA qn qc ql wd hq.out.1 (by omega)).mono ?_
      rintro e w5 ⟨v5, rfl, hN, hb5⟩
      have hlt5 := own_lt (show w5.ownsRow wd.heap.size 5 1 v5 _ _ from hN)
      obtain ⟨A5, c5, rfl, hnc5, hcm5, hr5⟩ := own_form (show w5.ownsRow wd.heap.size 5 1 v5 _ _ from hN)
      have K1 := Lib.hid (K1.out.below hb5 K1.out.lt)
      have K2 := Lib.hid (K2.out.below hb5 K2.out.lt)
      have I := Lib.hid (I.out.into hb5)
      have hbw := Lib.hid (hbw.out.trans (hb5.mono hbw.out.size))
      have HE := Lib.hid (show Ext wd w5 from Ext.of hb5)
      have HX := Lib.hid (show RdX w5 T r A5 ql.length (ns .u8 ql) from ⟨hr5, fun hn0 b o e => .inr (by
        rcases own_open (show w5.ownsRow wd.heap.size 5 1 (.slice A5 ql.length c5) _ _ from hN) with ⟨_, h0, _⟩ | ⟨g3, _, _, hv, hg3, _⟩
        · omega
        · rw [e] at hv
          injection hv with hv
          injection hv with hv
          injection hv with hv
          omega)⟩)
      have HC5 := Lib.hid (And.intro hnc5 hcm5)
      generalize ql.length = n5 at *
      clear hN hb5 hlt5 hr5 hnc5 hcm5 s5 y1 hq hqn hqc hrl KO
      go_wp2_with fail
      refine hK _ _ (fun _ => HE.out) ?_; clear hK K
      obtain ⟨_, hrl, p0, p1, pf, _, _, _⟩ := I.out.at_ hlt HR.out HG.out
      dsimp only at p0 p1
      clear HE
      (refine o_pure (v := ?_) (by rfl) (fun w' => ?_) ?_; rotate_left; (focus (go_simp; (try with_reducible rfl))); (try simp only [Act.put, List.setIfInBounds_toArray, List.set_cons_zero, List.set_cons_succ]))
      (refine o_pure (v := ?_) (by rfl) (fun w' => ?_) ?_; rotate_left; (focus (go_simp; (try with_reducible rfl))); (try simp only [Act.put, List.setIfInBounds_toArray, List.set_cons_zero, List.set_cons_succ]))
      refine o_sole (fun K hK => ?_)
      go_wp2_with fail
      refine hK _ _ (fun h => by cases h) ?_; clear hK K
      refine o_nil (hQ.out _ _ ?_); clear hQ QQ
      have hsol : Solo r w5 (w5.setCell ⟨r, k * 2 + 1, none⟩ (.slice A5 n5 c5)) := Solo.refl.setCell _ _
      have K1 := Lib.hid (hsol.blk K1.out (by have := HTR.out; omega))
      have K2 := Lib.hid (hsol.blk K2.out (by have := HTR.out; omega))
      have I := Lib.hid (I.out.set hlt HR.out HTR.out HG.out ⟨A5, n5, c5, ql⟩ rfl HX.out HC5.out)
      have hbw := Lib.hid (show Below w.heap.size w (w5.setCell ⟨r, k * 2 + 1, none⟩ (.slice A5 n5 c5)) from hbw.out.setCell (p := ⟨r, k * 2 + 1, none⟩) (show w.heap.size ≤ r by have := HTR.out; have := HT.out; omega) _)
      clear hsol p0 p1 pf HX HC5
      dsimp only at I
      generalize w5.setCell ⟨r, k * 2 + 1, none⟩ (.slice A5 n5 c5) = wf at *
      go_wp2_with fail
      go_roundw
      case rel => exact ⟨k + 1, by omega, by go_num, K1, K2, I, hbw⟩
      case measure => simp [intOf]; omega
    · have hge : ¬ (k : Int) < (n : Int) := by omega
      have hkn : k = n := by omega
      subst hkn
      obtain ⟨_, _, _, _, _, _, s6⟩ := seg_cells K1.out
      go_wp2_with fail
      refine (clone_any D m d g.data wr (HD.out.into hbw.out) (by omega)).mono ?_
      rintro e w5 ⟨v5, rfl, hN, hb5⟩
      have hN : w5.ownsRow wr.heap.size 5 1 v5 g.data.length (ns .u8 g.data) := hN
      have hlen : g.data.length = m := HD.out.natLen
      rw [hlen] at hN
      obtain ⟨D5, d5, rfl, _, _, _⟩ := own_form hN
      have HN := Lib.hid hN
      have K1 := Lib.hid (K1.out.below hb5 K1.out.lt)
      have hTS : T + 1 < wr.heap.size := K2.out.lt
      have K2 := Lib.hid (K2.out.below hb5 K2.out.lt)
      have I := Lib.hid (I.out.into hb5)
      have hbw := Lib.hid (hbw.out.trans (hb5.mono hbw.out.size))
      clear hN hb5 s6 hlen
      obtain ⟨_, _, _, _, _, _, s6⟩ := seg_cells K1.out
      have f6 := K1.out.frozen 6
      have K1b := Lib.hid (show Blk (w5.setCell ⟨T, 6, none⟩ (.slice D5 m d5)) T 56 (segCs g A2 k c2 D5 m d5) from K1.out.set 6 (.slice D5 m d5))
      have hsol : Solo T w5 (w5.setCell ⟨T, 6, none⟩ (.slice D5 m d5)) := Solo.refl.setCell _ _
      have K2b := Lib.hid (hsol.blk K2.out (by omega))
      have Ib := Lib.hid (I.out.solo hsol (Nat.le_refl _) (by omega) (by have := HTR.out; omega))
      have Bb := Lib.hid (show Below w.heap.size w (w5.setCell ⟨T, 6, none⟩ (.slice D5 m d5)) from hbw.out.setCell (p := ⟨T, 6, none⟩) (Nat.le_of_eq HT.out.symm) _)
      have Nb := Lib.hid (own_kept HN.out fun g hg => hsol.2.2 g (by have := (own_lt HN.out g hg).1; omega))
      clear hsol K1 K2 I hbw HN
      obtain ⟨s0, s1, s2, s3, s4, s5, s6'⟩ := seg_cells K1b.out
      obtain ⟨t0, t1, t2, t3, t4, t5, t6⟩ := seg_cells (show Blk _ (T + 1) 56 (segCs zeroS none 0 0 none 0 0) from K2b.out)
      have g0 := K2b.out.frozen 0
      have g1 := K2b.out.frozen 1
      have g2 := K2b.out.frozen 2
      have g3 := K2b.out.frozen 3
      have g4 := K2b.out.frozen 4
      have g5 := K2b.out.frozen 5
      have g6 := K2b.out.frozen 6
      have hkz := seg7 (.int .u16 (g.src : Int)) (.int .u16 (g.dst : Int)) (.int .u32 (g.seq : Int)) (.int .u32 (g.ack : Int)) (.int .u8 (g.flags : Int)) (.slice A2 k c2) (.slice D5 m d5) K2b.out
      have hbz := bel7 (.int .u16 (g.src : Int)) (.int .u16 (g.dst : Int)) (.int .u32 (g.seq : Int)) (.int .u32 (g.ack : Int)) (.int .u8 (g.flags : Int)) (.slice A2 k c2) (.slice D5 m d5) Bb.out (show w.heap.size ≤ T + 1 by have := HT.out; omega)
      have hsz : Solo (T + 1) _ (put7 (w5.setCell ⟨T, 6, none⟩ (.slice D5 m d5)) (T + 1) (.int .u16 (g.src : Int)) (.int .u16 (g.dst : Int)) (.int .u32 (g.seq : Int)) (.int .u32 (g.ack : Int)) (.int .u8 (g.flags : Int)) (.slice A2 k c2) (.slice D5 m d5)) := solo7 (.int .u16 (g.src : Int)) (.int .u16 (g.dst : Int)) (.int .u32 (g.seq : Int)) (.int .u32 (g.ack : Int)) (.int .u8 (g.flags : Int)) (.slice A2 k c2) (.slice D5 m d5)
      have Iz := Lib.hid (Ib.out.solo hsz (by omega) (by omega) (by have := HTR.out; omega))
      have Nz := Lib.hid (own_kept Nb.out fun g hg => hsz.2.2 g (by have := (own_lt Nb.out g hg).1; omega))
      have HBZ := Lib.hid hbz
      have KZ := Lib.hid hkz
      clear hkz hbz hsz Ib Nb
      unfold put7 at *
      go_wp2_with fail
      generalize ((((((((w5.setCell ⟨T, 6, none⟩ (.slice D5 m d5)).setCell ⟨T + 1, 0, none⟩ (.int .u16 (g.src : Int))).setCell ⟨T + 1, 1, none⟩ (.int .u16 (g.dst : Int))).setCell ⟨T + 1, 2, none⟩ (.int .u32 (g.seq : Int))).setCell ⟨T + 1, 3, none⟩ (.int .u32 (g.ack : Int))).setCell ⟨T + 1, 4, none⟩ (.int .u8 (g.flags : Int))).setCell ⟨T + 1, 5, none⟩ (.slice A2 k c2)).setCell ⟨T + 1, 6, none⟩ (.slice D5 m d5)) = wz at *
      clear s0 s1 s2 s3 s4 s5 s6' t0 t1 t2 t3 t4 t5 t6 g0 g1 g2 g3 g4 g5 g6 s6 f6
      obtain ⟨z0, z1, z2, z3, z4, z5, z6⟩ := seg_cells (show Blk wz (T + 1) 56 (segCs g A2 k c2 D5 m d5) from KZ.out)
      obtain ⟨lo', hos, hsay⟩ := Iz.out.os
      exact bodyPost_ret (v := .agg (segCs g A2 k c2 D5 m d5)) (by simp [results, Try.results43, go_sem, z0, z1, z2, z3, z4, z5, z6, segCs]) rfl ⟨⟨A2, k, c2, D5, m, d5, lo', rfl, hos, hsay.trans HSAY.out.symm, own_mono Nz.out (by have := HT.out; omega)⟩, HBZ.out⟩
end Go.Proofs.Ytiabafnfiedlcaa
