/- Layer 31: SackPlays, where the bound is m. -/
import Derived.Test.YtohehnlbknaflaaG45SackPlays

namespace Go.Proofs.Ytohehnlbknaflaa
open Go.RowKit
set_option linter.unusedVariables false
set_option linter.unusedSimpArgs false
set_option maxRecDepth 20000 in
set_option maxHeartbeats 16000000 in
theorem sackPlays_c (W0 m : Int) (A1 : Option Addr) (n1 c1 : Nat) (lc : List (Nat × Int)) (w : World) (hW : U32 W0) (hm : -9223372036854775808 ≤ m ∧ m < 9223372036854775808) (hm1 : ¬ m < 1) (hm2 : ¬ 64 < m) (h : Rd w w.heap.size 2 A1 n1 (cms lc)) (hb : ∀ p ∈ lc, p.1 < 4294967296 ∧ -9223372036854775808 ≤ p.2 ∧ p.2 < 9223372036854775808) :
    Calls Try.prog 5 #[.int .u32 W0, .int .i64 m, .slice A1 n1 c1] w fun e w' => e = .returned (.bool true) ∧ Below w.heap.size w w' := by
  have HC1 := Lib.hid h
  have HPB := Lib.hid hb
  have HW := Lib.hid hW
  clear h hb
  have HQ := Lib.hid (show ((mostN m : Nat) : Int) = m from by unfold mostN; rw [if_neg hm1, if_neg hm2]; omega)
  go_enter Try.func5, Try.ntmps5
  by_cases hbig : (100 : Int) < (n1 : Int)
  · go_wp2_with fail
    go_ret
    exact ⟨rfl, Below.refl _ _⟩
  have hn1 : n1 ≤ 100 := by omega
  go_wp2_with fail
  refine (bnew_any W0 m w HW.out).mono ?_
  rintro e w1 ⟨rfl, hI, hb1⟩
  have I1 := Lib.hid hI
  have B1 := Lib.hid hb1
  have HGX := Lib.hid hI.lt
  clear hI hb1 hW
  have KX : Hid (Blk (w1.alloc (.cells #[.int .u32 W0, .int .i64 m, .slice none 0 0] 48)) w1.heap.size 48 #[.int .u32 W0, .int .i64 ((mostN m : Nat) : Int), .slice none 0 0]) := Lib.hid (by rw [HQ.out]; exact Blk.new _ _ _)
  go_upto_region 12 with fail
  have hbA := (Below.refl w1.heap.size w1).alloc (Nat.le_refl _) (.cells #[.int .u32 W0, .int .i64 m, .slice none 0 0] 48)
  have I2 := Lib.hid (I1.out.into hbA)
  have B2 := Lib.hid (B1.out.trans (hbA.mono B1.out.size))
  clear hbA I1 B1
  generalize w1.alloc (.cells #[.int .u32 W0, .int .i64 m, .slice none 0 0] 48) = w2 at *
  obtain ⟨xb, hxb⟩ : ∃ x, x = w1.heap.size := ⟨_, rfl⟩
  rw [← hxb] at KX HGX ⊢
  clear hxb
  go_wp2_with fail
  go_loopw [10] (fun iv wr => ∃ (i : Nat) (W : Int) (l : List Sp) (v : Value) (A : Option Addr) (n c : Nat), i ≤ n1 ∧ iv = .int .i64 (i : Nat) ∧ Hid (BdI wr w.heap.size w.heap.size W (mostN m) v l) ∧ Hid (Blk wr xb 48 #[.int .u32 W, .int .i64 ((mostN m : Nat) : Int), .slice A n c]) ∧ Hid (Rd wr wr.heap.size 2 A n (cels l)) ∧ Hid (0 < n → ∀ a, A = some a → a.block ≠ w.heap.size ∧ a.block ≠ xb ∧ v.ownBlock ≠ some a.block) ∧ Hid (v.ownBlock ≠ some xb) ∧ Hid (Below w.heap.size w wr)) (fun iv _ => n1 - (intOf iv).toNat)
  case atStart => exact ⟨0, W0, [], .slice none 0 0, none, 0, 0, Nat.zero_le _, rfl, I2, KX, Lib.hid (Rd.nil _ _ _ _), Lib.hid (fun hn => absurd hn (by omega)), Lib.hid (fun h => by cases h), B2⟩
  case round =>
    clear I2 KX B2
    obtain ⟨i, W, l, v, A, n, c, hi, rfl, II, KX, RA, HA, HV, BB⟩ := hrel
    by_cases hlt : i < n1
    · have HLT := Lib.hid hlt
      have hlt' : (i : Int) < (n1 : Int) := by omega
      obtain ⟨ab, ao, o, y, eA, hab, q0, q1, hp⟩ := (HC1.out.into BB.out).cm hlt
      have hpb := HPB.out _ (List.mem_of_getElem? hp.out)
      dsimp only at hpb
      obtain ⟨x, hx⟩ : ∃ x, x = (W0 + (o : Int)) % 4294967296 := ⟨_, rfl⟩
      have HXU := Lib.hid (show U32 x from by rw [hx]; unfold U32; omega)
      have HYB := Lib.hid hpb.2
      have hxv : (W0 + (o : Int)) % 4294967296 = x := hx.symm
      have HXV := Lib.hid hxv
      have EA := Lib.hid eA
      have HXB := Lib.hid KX.out.lt
      have HPI := Lib.hid hp.out
      clear hpb hp hx eA hlt
      go_wp2_with fail
      refine wp_ord [(0, .read), (1, .pure), (2, .pure), (3, .pure), (4, .pure), (5, .pure), (6, .read), (7, .pure), (8, .pure), (9, .pure), (10, .pure), (11, .pure), (12, .read), (13, .sole), (14, .pure), (15, .pure), (16, .pure), (17, .sole), (18, .pure)] [17] (by kernel_rfl) (by kernel_rfl) (fun QQ hQ wd hwd => ?_); simp only [List.map_cons, List.map_nil, List.getD_cons_zero, List.getD_cons_succ]
      have hD : Below wr.heap.size wr wd := by rw [hwd.out]; exact (Below.refl _ _).drew
      have KXD := Lib.hid (KX.out.below hD KX.out.lt)
      have IID := Lib.hid (II.out.into hD)
      have RAD := Lib.hid (RA.out.into hD)
      have BBD := Lib.hid (BB.out.trans (hD.mono BB.out.size))
      have HWD := Lib.hid hD.size
      have d0 : wd.cell? ⟨ab, ao + i * 2, none⟩ = some (.int .u32 (o : Int)) := (hD.cell (p := ⟨ab, ao + i * 2, none⟩) hab).trans q0
      have d1 : wd.cell? ⟨ab, ao + i * 2 + 1, none⟩ = some (.int .i64 y) := (hD.cell (p := ⟨ab, ao + i * 2 + 1, none⟩) hab).trans q1
      have eA := EA.out
      subst eA
      clear hD hwd KX II RA BB q0 q1
      (refine o_loads _ [.int .u32 W, .int .i64 ((mostN m : Nat) : Int), .slice A n c] (by rfl) rfl rfl (KXD.out.loads 0 [.int .u32 W, .int .i64 ((mostN m : Nat) : Int), .slice A n c] rfl) (Nat.succ_pos _) (by kernel_rfl) (by kernel_rfl) ?_; simp only [Act.put, List.setIfInBounds_toArray, List.set_cons_zero, List.set_cons_succ])
      (refine o_pure (v := ?_) (by rfl) (fun w' => ?_) ?_; rotate_left; (focus (go_simp; (try with_reducible rfl); (try (rw [if_pos (by omega)]; (try with_reducible rfl))))); (try simp only [Act.put, List.setIfInBounds_toArray, List.set_cons_zero, List.set_cons_succ]))
      (refine o_pure (v := ?_) (by rfl) (fun w' => ?_) ?_; rotate_left; (focus (go_simp; (try with_reducible rfl); (try (rw [if_pos (by omega)]; (try with_reducible rfl))))); (try simp only [Act.put, List.setIfInBounds_toArray, List.set_cons_zero, List.set_cons_succ]))
      (refine o_pure (v := ?_) (by rfl) (fun w' => ?_) ?_; rotate_left; (focus (go_simp; (try with_reducible rfl); (try (rw [if_pos (by omega)]; (try with_reducible rfl))))); (try simp only [Act.put, List.setIfInBounds_toArray, List.set_cons_zero, List.set_cons_succ]))
      (refine o_pure (v := ?_) (by rfl) (fun w' => ?_) ?_; rotate_left; (focus (go_simp; (try with_reducible rfl); (try (rw [if_pos (by omega)]; (try with_reducible rfl))))); (try simp only [Act.put, List.setIfInBounds_toArray, List.set_cons_zero, List.set_cons_succ]))
      (refine o_pure (v := ?_) (by rfl) (fun w' => ?_) ?_; rotate_left; (focus (go_simp; (try with_reducible rfl); (try (rw [if_pos (by omega)]; (try with_reducible rfl))))); (try simp only [Act.put, List.setIfInBounds_toArray, List.set_cons_zero, List.set_cons_succ]))
      (refine o_load _ (by rfl) rfl rfl (by assumption) (by kernel_rfl) ?_; simp only [Act.put, List.setIfInBounds_toArray, List.set_cons_zero, List.set_cons_succ])
      (refine o_pure (v := ?_) (by rfl) (fun w' => ?_) ?_; rotate_left; (focus (go_simp; (try with_reducible rfl); (try (rw [if_pos (by omega)]; (try with_reducible rfl))))); (try simp only [Act.put, List.setIfInBounds_toArray, List.set_cons_zero, List.set_cons_succ]))
      (refine o_pure (v := ?_) (by rfl) (fun w' => ?_) ?_; rotate_left; (focus (go_simp; (try with_reducible rfl); (try (rw [if_pos (by omega)]; (try with_reducible rfl))))); (try simp only [Act.put, List.setIfInBounds_toArray, List.set_cons_zero, List.set_cons_succ]))
      (refine o_pure (v := ?_) (by rfl) (fun w' => ?_) ?_; rotate_left; (focus (go_simp; (try with_reducible rfl); (try (rw [if_pos (by omega)]; (try with_reducible rfl))))); (try simp only [Act.put, List.setIfInBounds_toArray, List.set_cons_zero, List.set_cons_succ]))
      (refine o_pure (v := ?_) (by rfl) (fun w' => ?_) ?_; rotate_left; (focus (go_simp; (try with_reducible rfl); (try (rw [if_pos (by omega)]; (try with_reducible rfl))))); (try simp only [Act.put, List.setIfInBounds_toArray, List.set_cons_zero, List.set_cons_succ]))
      (refine o_pure (v := ?_) (by rfl) (fun w' => ?_) ?_; rotate_left; (focus (go_simp; (try with_reducible rfl); (try (rw [if_pos (by omega)]; (try with_reducible rfl))))); (try simp only [Act.put, List.setIfInBounds_toArray, List.set_cons_zero, List.set_cons_succ]))
      (refine o_load _ (by rfl) rfl rfl (by assumption) (by kernel_rfl) ?_; simp only [Act.put, List.setIfInBounds_toArray, List.set_cons_zero, List.set_cons_succ])
      refine o_sole (fun K hK => ?_)
      go_wp2_with fail
      refine (rcame_any W (mostN m) A n c l x y wd RAD.out IID.out.ok IID.out.len IID.out.ms IID.out.u HXU.out HYB.out.1 HYB.out.2).mono ?_
      rintro e w5 ⟨⟨A2, n2, c2, rfl, hR2, hN2⟩, hb5⟩
      obtain ⟨d, l2, bb, hcb⟩ : ∃ d l2 bb, cameB W l (mostN m) x y = (d, l2, bb) := ⟨_, _, _, rfl⟩
      have hok2 := cameB_ok (W := W) (x := x) (many := y) IID.out.ok IID.out.len
      rw [hcb] at hR2 hok2 ⊢
      dsimp only at hR2 hok2 ⊢
      have HCB := Lib.hid hcb
      have HOK2 := Lib.hid hok2
      have K5 := Lib.hid (KXD.out.below hb5 KXD.out.lt)
      have I5 := Lib.hid (IID.out.into hb5)
      have B5 := Lib.hid (BBD.out.trans (hb5.mono BBD.out.size))
      have R5 := Lib.hid hR2
      have HA5 : Hid (0 < n2 → ∀ a, A2 = some a → a.block ≠ w.heap.size ∧ a.block ≠ xb ∧ v.ownBlock ≠ some a.block) := Lib.hid fun hn a ha => by
        rcases hN2 a ha with ⟨h, hnn⟩ | h
        · exact HA.out (by omega) a h
        · have h1 := HXB.out
          have h2 := HWD.out
          have h3 := IID.out.lt
          refine ⟨by omega, by omega, fun e => ?_⟩
          have := (IID.out.own.lt a.block e).2
          omega
      have HB5 := Lib.hid hb5
      have hab5 := Lib.hid (Nat.lt_of_lt_of_le hab (Nat.le_trans HWD.out hb5.size))
      have e0 := Lib.hid ((hb5.cell (p := ⟨ab, ao + i * 2, none⟩) (Nat.lt_of_lt_of_le hab HWD.out)).trans d0)
      have e1 := Lib.hid ((hb5.cell (p := ⟨ab, ao + i * 2 + 1, none⟩) (Nat.lt_of_lt_of_le hab HWD.out)).trans d1)
      clear hR2 hN2 hok2 hcb hb5 KXD IID RAD BBD HA d0 d1 hab
      go_wp2_with fail
      refine hK _ _ (fun _ => Ext.of HB5.out) ?_; clear hK K
      (refine o_pure (v := ?_) (by rfl) (fun w' => ?_) ?_; rotate_left; (focus (go_simp; (try with_reducible rfl); (try (rw [if_pos (by omega)]; (try with_reducible rfl))))); (try simp only [Act.put, List.setIfInBounds_toArray, List.set_cons_zero, List.set_cons_succ]))
      (refine o_pure (v := ?_) (by rfl) (fun w' => ?_) ?_; rotate_left; (focus (go_simp; (try with_reducible rfl); (try (rw [if_pos (by omega)]; (try with_reducible rfl))))); (try simp only [Act.put, List.setIfInBounds_toArray, List.set_cons_zero, List.set_cons_succ]))
      (refine o_pure (v := ?_) (by rfl) (fun w' => ?_) ?_; rotate_left; (focus (go_simp; (try with_reducible rfl); (try (rw [if_pos (by omega)]; (try with_reducible rfl))))); (try simp only [Act.put, List.setIfInBounds_toArray, List.set_cons_zero, List.set_cons_succ]))
      obtain ⟨z0, z1, z2⟩ := ptc3 K5.out
      have fz0 := K5.out.frozen 0
      have fz1 := K5.out.frozen 1
      have fz2 := K5.out.frozen 2
      refine o_sole (fun K hK => ?_)
      go_wp2_with fail
      refine hK _ _ (fun h => by cases h) ?_; clear hK K
      (refine o_pure (v := ?_) (by rfl) (fun w' => ?_) ?_; rotate_left; (focus (go_simp; (try with_reducible rfl); (try (rw [if_pos (by omega)]; (try with_reducible rfl))))); (try simp only [Act.put, List.setIfInBounds_toArray, List.set_cons_zero, List.set_cons_succ]))
      refine o_nil (hQ.out _ _ ?_); clear hQ QQ
      clear z0 z1 z2 fz0 fz1 fz2 HB5
      have hs : Solo xb w5 (((w5.setCell ⟨xb, 0, none⟩ (.int .u32 (pl W d))).setCell ⟨xb, 1, none⟩ (.int .i64 ((mostN m : Nat) : Int))).setCell ⟨xb, 2, none⟩ (.slice A2 n2 c2)) := ((Solo.refl.setCell 0 _).setCell 1 _).setCell 2 _
      have K6 : Hid (Blk (((w5.setCell ⟨xb, 0, none⟩ (.int .u32 (pl W d))).setCell ⟨xb, 1, none⟩ (.int .i64 ((mostN m : Nat) : Int))).setCell ⟨xb, 2, none⟩ (.slice A2 n2 c2)) xb 48 #[.int .u32 (pl W d), .int .i64 ((mostN m : Nat) : Int), .slice A2 n2 c2]) := Lib.hid (((K5.out.set 0 _).set 1 _).set 2 _)
      have I6 := Lib.hid (I5.out.solo hs (by have := HGX.out; omega) (fun k hk e => HV.out (by rw [hk, e])))
      have R6 := Lib.hid (R5.out.keepA (Nat.le_of_eq hs.2.1.symm) (fun hn a ha _ => hs.keep' (HA5.out hn a ha).2.1))
      have B6 := Lib.hid (B5.out.trans (hs.1.mono (Nat.le_of_lt HGX.out)))
      have hne1 : ab ≠ xb ∨ True := .inr trivial
      have HS6 := Lib.hid (show w5.heap.size = _ from hs.2.1.symm)
      clear hs K5 I5 R5 B5 e0 e1 hab5 hne1
      generalize ((w5.setCell ⟨xb, 0, none⟩ (.int .u32 (pl W d))).setCell ⟨xb, 1, none⟩ (.int .i64 ((mostN m : Nat) : Int))).setCell ⟨xb, 2, none⟩ (.slice A2 n2 c2) = w6 at *
      clear HS6 HWD HXB
      obtain ⟨ab2, ao2, o2, y2, eA2, hab, q0, q1, hp2⟩ := (HC1.out.into B6.out).cm HLT.out
      injection eA2 with eA2
      injection eA2 with i1 i2
      subst i1 i2
      have hpe : (o2, y2) = (o, y) := Option.some.inj (hp2.out.symm.trans HPI.out)
      injection hpe with j1 j2
      subst j1 j2
      have HCM : Hid (∀ wd, BdI wd w.heap.size w.heap.size W (mostN m) v l → Calls Try.prog 18 #[.pointer (some ⟨w.heap.size, 0, none⟩), .int .u32 x, .int .i64 y2] wd fun e w' => e = .returned (.bool bb) ∧ (∃ v', BdI w' w.heap.size w.heap.size (pl W d) (mostN m) v' l2 ∧ KeptS w.heap.size v v' wd w') ∧ Below w.heap.size wd w') := Lib.hid fun wd hI => by
        have := bcame_any w.heap.size w.heap.size W (mostN m) v l x y2 wd hI HXU.out HYB.out.1 HYB.out.2
        rw [HCB.out] at this
        exact this
      have hxv := HXV.out
      have HL2 := Lib.hid (show l2.length ≤ 64 from Nat.le_trans HOK2.out.2 (mostN_le m).2)
      have HN2 := Lib.hid R6.out.pcLen
      clear hp2
      go_wp2_with fail
      refine wp_ord [(0, .pure), (1, .pure), (2, .pure), (3, .pure), (4, .pure), (5, .pure), (6, .read), (7, .pure), (8, .pure), (9, .pure), (10, .pure), (11, .pure), (12, .read), (14, .pure), (13, .sole), (15, .pure), (16, .pure), (17, .pure), (19, .pure), (20, .read), (18, .sole), (21, .pure), (22, .pure), (23, .pure), (24, .pure), (27, .read), (25, .sole), (26, .sole), (28, .sole), (29, .sole), (30, .pure), (31, .pure)] [13] (by kernel_rfl) (by kernel_rfl) (fun QQ hQ wd hwd => ?_); simp only [List.map_cons, List.map_nil, List.getD_cons_zero, List.getD_cons_succ]
      have hD : Below w6.heap.size w6 wd := by rw [hwd.out]; exact (Below.refl _ _).drew
      have K7 := Lib.hid (K6.out.below hD K6.out.lt)
      have I7 := Lib.hid (I6.out.into hD)
      have R7 := Lib.hid (R6.out.into hD)
      have B7 := Lib.hid (B6.out.trans (hD.mono B6.out.size))
      have d0 : wd.cell? ⟨ab, ao + i * 2, none⟩ = some (.int .u32 (o2 : Int)) := (hD.cell (p := ⟨ab, ao + i * 2, none⟩) hab).trans q0
      have d1 : wd.cell? ⟨ab, ao + i * 2 + 1, none⟩ = some (.int .i64 y2) := (hD.cell (p := ⟨ab, ao + i * 2 + 1, none⟩) hab).trans q1
      clear hD hwd K6 I6 R6 B6 q0 q1 hab
      (refine o_pure (v := ?_) (by rfl) (fun w' => ?_) ?_; rotate_left; (focus (go_simp; (try with_reducible rfl); (try (rw [if_pos (by omega)]; (try with_reducible rfl))))); (try simp only [Act.put, List.setIfInBounds_toArray, List.set_cons_zero, List.set_cons_succ]))
      (refine o_pure (v := ?_) (by rfl) (fun w' => ?_) ?_; rotate_left; (focus (go_simp; (try with_reducible rfl); (try (rw [if_pos (by omega)]; (try with_reducible rfl))))); (try simp only [Act.put, List.setIfInBounds_toArray, List.set_cons_zero, List.set_cons_succ]))
      (refine o_pure (v := ?_) (by rfl) (fun w' => ?_) ?_; rotate_left; (focus (go_simp; (try with_reducible rfl); (try (rw [if_pos (by omega)]; (try with_reducible rfl))))); (try simp only [Act.put, List.setIfInBounds_toArray, List.set_cons_zero, List.set_cons_succ]))
      (refine o_pure (v := ?_) (by rfl) (fun w' => ?_) ?_; rotate_left; (focus (go_simp; (try with_reducible rfl); (try (rw [if_pos (by omega)]; (try with_reducible rfl))))); (try simp only [Act.put, List.setIfInBounds_toArray, List.set_cons_zero, List.set_cons_succ]))
      (refine o_pure (v := ?_) (by rfl) (fun w' => ?_) ?_; rotate_left; (focus (go_simp; (try with_reducible rfl); (try (rw [if_pos (by omega)]; (try with_reducible rfl))))); (try simp only [Act.put, List.setIfInBounds_toArray, List.set_cons_zero, List.set_cons_succ]))
      (refine o_pure (v := ?_) (by rfl) (fun w' => ?_) ?_; rotate_left; (focus (go_simp; (try with_reducible rfl); (try (rw [if_pos (by omega)]; (try with_reducible rfl))))); (try simp only [Act.put, List.setIfInBounds_toArray, List.set_cons_zero, List.set_cons_succ]))
      (refine o_load _ (by rfl) rfl rfl (by assumption) (by kernel_rfl) ?_; simp only [Act.put, List.setIfInBounds_toArray, List.set_cons_zero, List.set_cons_succ])
      (refine o_pure (v := ?_) (by rfl) (fun w' => ?_) ?_; rotate_left; (focus (go_simp; (try with_reducible rfl); (try (rw [if_pos (by omega)]; (try with_reducible rfl))))); (try simp only [Act.put, List.setIfInBounds_toArray, List.set_cons_zero, List.set_cons_succ]))
      (refine o_pure (v := ?_) (by rfl) (fun w' => ?_) ?_; rotate_left; (focus (go_simp; (try with_reducible rfl); (try (rw [if_pos (by omega)]; (try with_reducible rfl))))); (try simp only [Act.put, List.setIfInBounds_toArray, List.set_cons_zero, List.set_cons_succ]))
      (refine o_pure (v := ?_) (by rfl) (fun w' => ?_) ?_; rotate_left; (focus (go_simp; (try with_reducible rfl); (try (rw [if_pos (by omega)]; (try with_reducible rfl))))); (try simp only [Act.put, List.setIfInBounds_toArray, List.set_cons_zero, List.set_cons_succ]))
      (refine o_pure (v := ?_) (by rfl) (fun w' => ?_) ?_; rotate_left; (focus (go_simp; (try with_reducible rfl); (try (rw [if_pos (by omega)]; (try with_reducible rfl))))); (try simp only [Act.put, List.setIfInBounds_toArray, List.set_cons_zero, List.set_cons_succ]))
      (refine o_pure (v := ?_) (by rfl) (fun w' => ?_) ?_; rotate_left; (focus (go_simp; (try with_reducible rfl); (try (rw [if_pos (by omega)]; (try with_reducible rfl))))); (try simp only [Act.put, List.setIfInBounds_toArray, List.set_cons_zero, List.set_cons_succ]))
      (refine o_load _ (by rfl) rfl rfl (by assumption) (by kernel_rfl) ?_; simp only [Act.put, List.setIfInBounds_toArray, List.set_cons_zero, List.set_cons_succ])
      (refine o_pure (v := ?_) (by rfl) (fun w' => ?_) ?_; rotate_left; (focus (go_simp; (try with_reducible rfl); (try (rw [if_pos (by omega)]; (try with_reducible rfl))))); (try simp only [Act.put, List.setIfInBounds_toArray, List.set_cons_zero, List.set_cons_succ]))
      refine o_sole (fun K hK => ?_)
      go_wp2_with fail
      (try rw [HXV.out])
      refine (HCM.out wd I7.out).mono ?_
      rintro e w8 ⟨rfl, ⟨v8, hI8, hK8⟩, hb8⟩
      have I8 := Lib.hid hI8
      have K8 := Lib.hid (show Blk w8 xb 48 #[.int .u32 (pl W d), .int .i64 ((mostN m : Nat) : Int), .slice A2 n2 c2] from (hK8.1 xb K7.out.lt (by have := HGX.out; omega) HV.out).trans K7.out)
      have R8 := Lib.hid (R7.out.keepA hK8.2.2 (fun hn a ha hlt => hK8.1 a.block hlt (HA5.out hn a ha).1 (HA5.out hn a ha).2.2))
      have HA8 : Hid (0 < n2 → ∀ a, A2 = some a → a.block ≠ w.heap.size ∧ a.block ≠ xb ∧ v8.ownBlock ≠ some a.block) := Lib.hid fun hn a ha => by
        refine ⟨(HA5.out hn a ha).1, (HA5.out hn a ha).2.1, fun e => ?_⟩
        rcases hK8.2.1 a.block e with h | h
        · exact (HA5.out hn a ha).2.2 h
        · have := R7.out.blk_lt hn ha
          omega
      have HV8 : Hid (v8.ownBlock ≠ some xb) := Lib.hid fun e => by
        rcases hK8.2.1 xb e with h | h
        · exact HV.out h
        · have := K7.out.lt
          omega
      have B8 := Lib.hid (B7.out.trans hb8)
      clear hI8 hK8 hb8 K7 I7 R7 B7 d0 d1 HA5 HV
      go_wp2_with fail
      refine hK _ _ (fun h => by cases h) ?_; clear hK K
      (refine o_pure (v := ?_) (by rfl) (fun w' => ?_) ?_; rotate_left; (focus (go_simp; (try with_reducible rfl); (try (rw [if_pos (by omega)]; (try with_reducible rfl))))); (try simp only [Act.put, List.setIfInBounds_toArray, List.set_cons_zero, List.set_cons_succ]))
      (refine o_pure (v := ?_) (by rfl) (fun w' => ?_) ?_; rotate_left; (focus (go_simp; (try with_reducible rfl); (try (rw [if_pos (by omega)]; (try with_reducible rfl))))); (try simp only [Act.put, List.setIfInBounds_toArray, List.set_cons_zero, List.set_cons_succ]))
      (refine o_pure (v := ?_) (by rfl) (fun w' => ?_) ?_; rotate_left; (focus (go_simp; (try with_reducible rfl); (try (rw [if_pos (by omega)]; (try with_reducible rfl))))); (try simp only [Act.put, List.setIfInBounds_toArray, List.set_cons_zero, List.set_cons_succ]))
      (refine o_pure (v := ?_) (by rfl) (fun w' => ?_) ?_; rotate_left; (focus (go_simp; (try with_reducible rfl); (try (rw [if_pos (by omega)]; (try with_reducible rfl))))); (try simp only [Act.put, List.setIfInBounds_toArray, List.set_cons_zero, List.set_cons_succ]))
      obtain ⟨z0, z1, z2⟩ := ptc3 K8.out
      (refine o_load _ (by rfl) rfl rfl (by assumption) (by kernel_rfl) ?_; simp only [Act.put, List.setIfInBounds_toArray, List.set_cons_zero, List.set_cons_succ])
      refine o_sole (fun K hK => ?_)
      go_wp2_with fail
      refine (bwait_any w.heap.size w.heap.size (pl W d) (mostN m) v8 l2 w8 I8.out).mono ?_
      rintro e w9 ⟨rfl, rfl⟩
      go_wp2_with fail
      refine hK _ _ (fun _ => Ext.of (Below.refl _ _)) ?_; clear hK K
      (refine o_pure (v := ?_) (by rfl) (fun w' => ?_) ?_; rotate_left; (focus (go_simp; (try with_reducible rfl); (try (rw [if_pos (by omega)]; (try with_reducible rfl))))); (try simp only [Act.put, List.setIfInBounds_toArray, List.set_cons_zero, List.set_cons_succ]))
      (refine o_pure (v := ?_) (by rfl) (fun w' => ?_) ?_; rotate_left; (focus (go_simp; (try with_reducible rfl); (try (rw [if_pos (by omega)]; (try with_reducible rfl))))); (try simp only [Act.put, List.setIfInBounds_toArray, List.set_cons_zero, List.set_cons_succ]))
      (refine o_pure (v := ?_) (by rfl) (fun w' => ?_) ?_; rotate_left; (focus (go_simp; (try with_reducible rfl); (try (rw [if_pos (by omega)]; (try with_reducible rfl))))); (try simp only [Act.put, List.setIfInBounds_toArray, List.set_cons_zero, List.set_cons_succ]))
      (refine o_pure (v := ?_) (by rfl) (fun w' => ?_) ?_; rotate_left; (focus (go_simp; (try with_reducible rfl); (try (rw [if_pos (by omega)]; (try with_reducible rfl))))); (try simp only [Act.put, List.setIfInBounds_toArray, List.set_cons_zero, List.set_cons_succ]))
      (refine o_loads _ [.int .u32 (pl W d), .int .i64 ((mostN m : Nat) : Int), .slice A2 n2 c2] (by rfl) rfl rfl (K8.out.loads 0 [.int .u32 (pl W d), .int .i64 ((mostN m : Nat) : Int), .slice A2 n2 c2] rfl) (Nat.succ_pos _) (by kernel_rfl) (by kernel_rfl) ?_; simp only [Act.put, List.setIfInBounds_toArray, List.set_cons_zero, List.set_cons_succ])
      clear z0 z1 z2
      refine o_sole (fun K hK => ?_)
      go_wp2_with fail
      refine (bblocks_any w.heap.size w.heap.size (pl W d) (mostN m) v8 l2 w9 I8.out).mono ?_
      rintro e w10 ⟨⟨v10, rfl, ho10⟩, hb10⟩
      have I10 := Lib.hid (I8.out.into hb10)
      have K10 := Lib.hid (K8.out.below hb10 K8.out.lt)
      have R10 := Lib.hid (R8.out.into hb10)
      have B10 := Lib.hid (B8.out.trans (hb10.mono B8.out.size))
      have HB10 := Lib.hid hb10
      obtain ⟨A10, c10, rfl, _, _, hr10⟩ := own_form ho10
      have H10 := Lib.hid hr10
      clear I8 K8 R8 B8 hb10 ho10 hr10
      go_wp2_with fail
      refine hK _ _ (fun _ => Ext.of HB10.out) ?_; clear hK K
      refine o_sole (fun K hK => ?_)
      go_wp2_with fail
      refine (splain_any A10 l2.length c10 (bdL (pl W d) l2) w10 H10.out (by have := HL2.out; omega)).mono ?_
      rintro e w11 ⟨v11, rfl, ho11, hb11⟩
      have I11 := Lib.hid (I10.out.into hb11)
      have K11 := Lib.hid (K10.out.below hb11 K10.out.lt)
      have R11 := Lib.hid (R10.out.into hb11)
      have B11 := Lib.hid (B10.out.trans (hb11.mono B10.out.size))
      have HB11 := Lib.hid hb11
      obtain ⟨A11, n11, c11, rfl, _, hl11, hr11⟩ := ho11.out
      obtain rfl : n11 = l2.length := by have := hl11.out; rw [bdL_len] at this; exact this.symm
      clear I10 K10 R10 B10 hb11 ho11 hl11 H10 HB10
      go_wp2_with fail
      refine hK _ _ (fun _ => Ext.of HB11.out) ?_; clear hK K
      refine o_sole (fun K hK => ?_)
      go_wp2_with fail
      refine (rblocks_any (pl W d) (mostN m) A2 n2 c2 l2 w11 R11.out (by have := HN2.out; have := HL2.out; omega) (fun p hp => by obtain ⟨j, hj⟩ := List.getElem?_of_mem hp; have := HOK2.out.1.at_ hj; omega) (pl_u32 _ _)).mono ?_
      rintro e w12 ⟨⟨v12, rfl, ho12⟩, hb12⟩
      have I12 := Lib.hid (I11.out.into hb12)
      have K12 := Lib.hid (K11.out.below hb12 K11.out.lt)
      have R12 := Lib.hid (R11.out.into hb12)
      have B12 := Lib.hid (B11.out.trans (hb12.mono B11.out.size))
      have HB12 := Lib.hid hb12
      have H11 := Lib.hid (hr11.out.into hb12)
      obtain ⟨A12, n12, c12, rfl, _, hl12, hr12⟩ := ho12.out
      obtain rfl : n12 = l2.length := by have := hl12.out; rw [bdL_len] at this; exact this.symm
      clear I11 K11 R11 B11 hb12 ho12 hl12 hr11 HB11
      go_wp2_with fail
      refine hK _ _ (fun _ => Ext.of HB12.out) ?_; clear hK K
      refine o_sole (fun K hK => ?_)
      go_wp2_with fail
      refine (ssame_true A11 A12 l2.length c11 c12 (bdL (pl W d) l2) w12 H11.out hr12.out (by have := HL2.out; omega)).mono ?_
      rintro e w13 ⟨rfl, hb13⟩
      have I13 := Lib.hid (I12.out.into hb13)
      have K13 := Lib.hid (K12.out.below hb13 K12.out.lt)
      have R13 := Lib.hid (R12.out.into hb13)
      have B13 := Lib.hid (B12.out.trans (hb13.mono B12.out.size))
      have HB13 := Lib.hid hb13
      clear I12 K12 R12 B12 hb13 H11 hr12 HB12
      go_wp2_with fail
      refine hK _ _ (fun _ => Ext.of HB13.out) ?_; clear hK K
      (refine o_pure (v := ?_) (by rfl) (fun w' => ?_) ?_; rotate_left; (focus (go_simp; (try with_reducible rfl); (try (rw [if_pos (by omega)]; (try with_reducible rfl))))); (try simp only [Act.put, List.setIfInBounds_toArray, List.set_cons_zero, List.set_cons_succ]))
      (refine o_pure (v := ?_) (by rfl) (fun w' => ?_) ?_; rotate_left; (focus (go_simp; (try with_reducible rfl); (try (rw [if_pos (by omega)]; (try with_reducible rfl))))); (try simp only [Act.put, List.setIfInBounds_toArray, List.set_cons_zero, List.set_cons_succ]))
      refine o_nil (hQ.out _ _ ?_); clear hQ QQ
      go_wp2_with fail
      go_roundw
      case rel => exact ⟨i + 1, pl W d, l2, v8, A2, n2, c2, by have := HLT.out; omega, by go_num, I13, K13, R13, HA8, HV8, B13⟩
      case measure => have := HLT.out; simp [intOf]; omega
    · obtain rfl : n1 = i := by omega
      have HLN := Lib.hid (show l.length ≤ 64 from Nat.le_trans II.out.len II.out.ms)
      have HNN := Lib.hid RA.out.pcLen
      obtain ⟨z0, z1, z2⟩ := ptc3 KX.out
      clear hlt hi HA HV
      go_wp2_with fail
      refine (rblocks_any W (mostN m) A n c l wr RA.out (by have := HNN.out; have := HLN.out; omega) (fun p hp => by obtain ⟨j, hj⟩ := List.getElem?_of_mem hp; have := II.out.ok.at_ hj; omega) II.out.u).mono ?_
      rintro e w3 ⟨⟨v3, rfl, ho3⟩, hb3⟩
      have I3 := Lib.hid (II.out.into hb3)
      have K3 := Lib.hid (KX.out.below hb3 KX.out.lt)
      have B3 := Lib.hid (BB.out.trans (hb3.mono BB.out.size))
      obtain ⟨A3, n3, c3, rfl, hnc3, hl3, hr3⟩ := ho3.out
      have hn3 : l.length = n3 := by have := hl3.out; rw [bdL_len] at this; exact this
      have HN3 := Lib.hid hn3
      clear hb3 ho3 hl3 KX II RA BB z0 z1 z2 hn3
      by_cases h4 : (4 : Int) < (n3 : Int)
      · have HUT := Lib.hid (show Try.prog.underlying 31 = some (.slice (Try.prog.elem 31)) by unfold Program.elem; rw [Try.underlying31])
        have hs3 : ∀ w, (Instr.slice 31 (.slice A3 n3 c3) none (some (.int .i64 4)) none).run Try.prog w = .ok (.slice A3 4 c3) w := fun w => run_cut_h relB A3 n3 c3 4 (by omega) w
        have hs4 : ∀ w, (Instr.sliceAt 31 (.slice A3 n3 c3) none (some (.int .i64 4)) none).run Try.prog w = .ok (.slice A3 4 c3) w := fun w => (run_sliceAt_slice w _ _ _ _ _ HUT.out).trans (hs3 w)
        have HT := Lib.hid (show Rd w3 w3.heap.size 2 A3 4 (bks ((bdL W l).take 4)) from by
          have := hr3.out.take (k := 4) (by omega)
          rwa [bks_take] at this)
        clear hr3
        go_wp2_with fail
        refine (bsay_any w.heap.size w.heap.size W (mostN m) v l w3 I3.out).mono ?_
        rintro e w4 ⟨hsay, hb4⟩
        have I4 := Lib.hid (I3.out.into hb4)
        have K4 := Lib.hid (K3.out.below hb4 K3.out.lt)
        have B4 := Lib.hid (B3.out.trans (hb4.mono B3.out.size))
        have H4 := Lib.hid (HT.out.into hb4)
        clear hb4 I3 K3 B3 HT  hs3 hs4
        rcases hsay with ⟨v4, rfl, hne, hri, hN4⟩ | ⟨rfl, hno⟩
        · obtain ⟨A5, n5, c5, rfl, _, _, hr5⟩ := hN4.out
          go_upto_region 23 with fail
          have hbA := (Below.refl w4.heap.size w4).alloc (Nat.le_refl _) (.cells #[.int .u8 9, .slice A5 n5 c5] 26)
          have KO := Lib.hid (Blk.new w4 26 #[.int .u8 9, .slice A5 n5 c5])
          have HP5 := Lib.hid (hr5.out.into hbA)
          have K5 := Lib.hid (K4.out.below hbA K4.out.lt)
          have B5 := Lib.hid (B4.out.trans (hbA.mono B4.out.size))
          have H5 := Lib.hid (H4.out.into hbA)
          clear hbA K4 B4 H4 hr5
          obtain ⟨ob, hX⟩ : ∃ x, x = w4.heap.size := ⟨_, rfl⟩
          rw [← hX] at KO ⊢
          clear hX
          generalize w4.alloc (.cells #[.int .u8 9, .slice A5 n5 c5] 26) = w5 at *
          obtain ⟨z0, z1, z2⟩ := ptc3 K5.out
          go_wp2_with fail
          clear z0 z1 z2
          refine (rsoption_any W A3 4 c3 ((bdL W l).take 4) w5 H5.out (by omega) (fun p hp => bdL_u32 W l p (List.mem_of_mem_take hp)) I4.out.u).mono ?_
          rintro e w6 ⟨hopt, hb6⟩
          rcases hopt with ⟨v6, rfl, _, _, hN6⟩ | ⟨rfl, hno⟩
          · obtain ⟨A6, n6, c6, rfl, _, _, hr6⟩ := hN6.out
            have HO1 := Lib.hid (HP5.out.into hb6)
            have KO6 := Lib.hid (KO.out.below hb6 KO.out.lt)
            have B6 := Lib.hid (B5.out.trans (hb6.mono B5.out.size))
            obtain ⟨o0, o1⟩ := ptc2 KO6.out
            clear hb6 hN6
            go_wp2_with (first | refine wpList_conv Try.underlying24 Try.underlying5 Try.underlying9 rfl _ rfl rfl HO1.out ?_ | refine wpList_conv Try.underlying24 Try.underlying5 Try.underlying9 rfl _ rfl rfl hr6.out ?_)
            refine (alive31_any w6).mono ?_
            rintro e w7 ⟨rfl, hb7⟩
            have BF := Lib.hid (B6.out.trans (hb7.mono B6.out.size))
            clear hb7 o0 o1
            go_wp2_with fail
            go_ret
            exact ⟨rfl, BF.out⟩
          · exact absurd ⟨hne, hri⟩ hno
        · have hr5 := Lib.hid (Rd.nil w4 w4.heap.size 1 none : Rd w4 w4.heap.size 1 none 0 (ns .u8 []))
          go_upto_region 23 with fail
          have hbA := (Below.refl w4.heap.size w4).alloc (Nat.le_refl _) (.cells #[.int .u8 0, .slice none 0 0] 26)
          have KO := Lib.hid (Blk.new w4 26 #[.int .u8 0, .slice none 0 0])
          have HP5 := Lib.hid (hr5.out.into hbA)
          have K5 := Lib.hid (K4.out.below hbA K4.out.lt)
          have B5 := Lib.hid (B4.out.trans (hbA.mono B4.out.size))
          have H5 := Lib.hid (H4.out.into hbA)
          clear hbA K4 B4 H4 hr5
          obtain ⟨ob, hX⟩ : ∃ x, x = w4.heap.size := ⟨_, rfl⟩
          rw [← hX] at KO ⊢
          clear hX
          generalize w4.alloc (.cells #[.int .u8 0, .slice none 0 0] 26) = w5 at *
          obtain ⟨z0, z1, z2⟩ := ptc3 K5.out
          go_wp2_with fail
          clear z0 z1 z2
          refine (rsoption_any W A3 4 c3 ((bdL W l).take 4) w5 H5.out (by omega) (fun p hp => bdL_u32 W l p (List.mem_of_mem_take hp)) I4.out.u).mono ?_
          rintro e w6 ⟨hopt, hb6⟩
          rcases hopt with ⟨v6, rfl, hne, hri, _⟩ | ⟨rfl, _⟩
          · exact absurd ⟨hne, hri⟩ hno
          · have HO1 := Lib.hid (HP5.out.into hb6)
            have KO6 := Lib.hid (KO.out.below hb6 KO.out.lt)
            have B6 := Lib.hid (B5.out.trans (hb6.mono B5.out.size))
            obtain ⟨o0, o1⟩ := ptc2 KO6.out
            clear hb6
            have hcv : (convert 24 9 (.slice none 0 0)).run Try.prog w6 = .ok (.string (strN [])) w6 := run_conv Try.underlying24 Try.underlying5 Try.underlying9 (Rd.nil w6 w6.heap.size 1 none : Rd w6 w6.heap.size 1 none 0 (ns .u8 []))
            go_wp2_with fail
            refine (alive31_any w6).mono ?_
            rintro e w7 ⟨rfl, hb7⟩
            have BF := Lib.hid (B6.out.trans (hb7.mono B6.out.size))
            clear hb7 o0 o1
            go_wp2_with fail
            go_ret
            exact ⟨rfl, BF.out⟩

      · have HT := Lib.hid (show Rd w3 w3.heap.size 2 A3 n3 (bks ((bdL W l).take 4)) from by
          have := hr3.out
          rwa [List.take_of_length_le (by rw [bdL_len, HN3.out]; omega)])
        have hn34 : n3 ≤ 4 := by omega
        clear hr3
        go_wp2_with fail
        refine (bsay_any w.heap.size w.heap.size W (mostN m) v l w3 I3.out).mono ?_
        rintro e w4 ⟨hsay, hb4⟩
        have I4 := Lib.hid (I3.out.into hb4)
        have K4 := Lib.hid (K3.out.below hb4 K3.out.lt)
        have B4 := Lib.hid (B3.out.trans (hb4.mono B3.out.size))
        have H4 := Lib.hid (HT.out.into hb4)
        clear hb4 I3 K3 B3 HT 
        rcases hsay with ⟨v4, rfl, hne, hri, hN4⟩ | ⟨rfl, hno⟩
        · obtain ⟨A5, n5, c5, rfl, _, _, hr5⟩ := hN4.out
          go_upto_region 23 with fail
          have hbA := (Below.refl w4.heap.size w4).alloc (Nat.le_refl _) (.cells #[.int .u8 9, .slice A5 n5 c5] 26)
          have KO := Lib.hid (Blk.new w4 26 #[.int .u8 9, .slice A5 n5 c5])
          have HP5 := Lib.hid (hr5.out.into hbA)
          have K5 := Lib.hid (K4.out.below hbA K4.out.lt)
          have B5 := Lib.hid (B4.out.trans (hbA.mono B4.out.size))
          have H5 := Lib.hid (H4.out.into hbA)
          clear hbA K4 B4 H4 hr5
          obtain ⟨ob, hX⟩ : ∃ x, x = w4.heap.size := ⟨_, rfl⟩
          rw [← hX] at KO ⊢
          clear hX
          generalize w4.alloc (.cells #[.int .u8 9, .slice A5 n5 c5] 26) = w5 at *
          obtain ⟨z0, z1, z2⟩ := ptc3 K5.out
          go_wp2_with fail
          clear z0 z1 z2
          refine (rsoption_any W A3 n3 c3 ((bdL W l).take 4) w5 H5.out (by omega) (fun p hp => bdL_u32 W l p (List.mem_of_mem_take hp)) I4.out.u).mono ?_
          rintro e w6 ⟨hopt, hb6⟩
          rcases hopt with ⟨v6, rfl, _, _, hN6⟩ | ⟨rfl, hno⟩
          · obtain ⟨A6, n6, c6, rfl, _, _, hr6⟩ := hN6.out
            have HO1 := Lib.hid (HP5.out.into hb6)
            have KO6 := Lib.hid (KO.out.below hb6 KO.out.lt)
            have B6 := Lib.hid (B5.out.trans (hb6.mono B5.out.size))
            obtain ⟨o0, o1⟩ := ptc2 KO6.out
            clear hb6 hN6
            go_wp2_with (first | refine wpList_conv Try.underlying24 Try.underlying5 Try.underlying9 rfl _ rfl rfl HO1.out ?_ | refine wpList_conv Try.underlying24 Try.underlying5 Try.underlying9 rfl _ rfl rfl hr6.out ?_)
            refine (alive31_any w6).mono ?_
            rintro e w7 ⟨rfl, hb7⟩
            have BF := Lib.hid (B6.out.trans (hb7.mono B6.out.size))
            clear hb7 o0 o1
            go_wp2_with fail
            go_ret
            exact ⟨rfl, BF.out⟩
          · exact absurd ⟨hne, hri⟩ hno
        · have hr5 := Lib.hid (Rd.nil w4 w4.heap.size 1 none : Rd w4 w4.heap.size 1 none 0 (ns .u8 []))
          go_upto_region 23 with fail
          have hbA := (Below.refl w4.heap.size w4).alloc (Nat.le_refl _) (.cells #[.int .u8 0, .slice none 0 0] 26)
          have KO := Lib.hid (Blk.new w4 26 #[.int .u8 0, .slice none 0 0])
          have HP5 := Lib.hid (hr5.out.into hbA)
          have K5 := Lib.hid (K4.out.below hbA K4.out.lt)
          have B5 := Lib.hid (B4.out.trans (hbA.mono B4.out.size))
          have H5 := Lib.hid (H4.out.into hbA)
          clear hbA K4 B4 H4 hr5
          obtain ⟨ob, hX⟩ : ∃ x, x = w4.heap.size := ⟨_, rfl⟩
          rw [← hX] at KO ⊢
          clear hX
          generalize w4.alloc (.cells #[.int .u8 0, .slice none 0 0] 26) = w5 at *
          obtain ⟨z0, z1, z2⟩ := ptc3 K5.out
          go_wp2_with fail
          clear z0 z1 z2
          refine (rsoption_any W A3 n3 c3 ((bdL W l).take 4) w5 H5.out (by omega) (fun p hp => bdL_u32 W l p (List.mem_of_mem_take hp)) I4.out.u).mono ?_
          rintro e w6 ⟨hopt, hb6⟩
          rcases hopt with ⟨v6, rfl, hne, hri, _⟩ | ⟨rfl, _⟩
          · exact absurd ⟨hne, hri⟩ hno
          · have HO1 := Lib.hid (HP5.out.into hb6)
            have KO6 := Lib.hid (KO.out.below hb6 KO.out.lt)
            have B6 := Lib.hid (B5.out.trans (hb6.mono B5.out.size))
            obtain ⟨o0, o1⟩ := ptc2 KO6.out
            clear hb6
            have hcv : (convert 24 9 (.slice none 0 0)).run Try.prog w6 = .ok (.string (strN [])) w6 := run_conv Try.underlying24 Try.underlying5 Try.underlying9 (Rd.nil w6 w6.heap.size 1 none : Rd w6 w6.heap.size 1 none 0 (ns .u8 []))
            go_wp2_with fail
            refine (alive31_any w6).mono ?_
            rintro e w7 ⟨rfl, hb7⟩
            have BF := Lib.hid (B6.out.trans (hb7.mono B6.out.size))
            clear hb7 o0 o1
            go_wp2_with fail
            go_ret
            exact ⟨rfl, BF.out⟩

end Go.Proofs.Ytohehnlbknaflaa
