/- Layer 31: the option that says pieces. -/
import Derived.Test.YtpnnadnmkiobcaaG7SackBack
import Derived.Test.YtpnnadnmkiobcaaG9SackBack
import Derived.Test.YtpnnadnmkiobcaaG10SackBack
import Derived.Test.YtpnnadnmkiobcaaG12SackBack

namespace Go.Proofs.Ytpnnadnmkiobcaa
open Go.RowKit
set_option linter.unusedVariables false
set_option linter.unusedSimpArgs false
/-- How far one number is behind another one, going round, as a number. -/
def gp (a b : Int) : Nat := ((b - a) % 4294967296).toNat
theorem gp_lt (a b : Int) : gp a b < 4294967296 := by unfold gp; omega
theorem gp_wrap (a b : Int) : IntKind.u32.wrap (b - a) = (gp a b : Int) := by unfold gp; rw [IntKind.wrap_u32]; omega
def bkB (a : Int) (p : Bk) : List Nat := be (gp a p.1) 4 ++ be (gp p.1 p.2) 4
def bksB : Int → List Bk → List Nat
  | _, [] => []
  | a, p :: l => bkB a p ++ bksB p.2 l
def bkLast : Int → List Bk → Int
  | a, [] => a
  | _, p :: l => bkLast p.2 l
theorem bksB_snoc (l : List Bk) (a : Int) (p : Bk) : bksB a (l ++ [p]) = bksB a l ++ bkB (bkLast a l) p := by
  induction l generalizing a with
  | nil => simp [bksB, bkLast]
  | cons q l ih => simp [bksB, bkLast, ih]
theorem bkLast_snoc (l : List Bk) (a : Int) (p : Bk) : bkLast a (l ++ [p]) = p.2 := by
  induction l generalizing a with
  | nil => rfl
  | cons q l ih => simp [bkLast, ih]
theorem bksB_len (l : List Bk) (a : Int) : (bksB a l).length = 8 * l.length := by
  induction l generalizing a with
  | nil => rfl
  | cons q l ih => simp [bksB, bkB, ih, be_len]; omega
theorem fbs_two {d h : Nat} : fbs [((4 : Int), d), ((4 : Int), h)] = be d 4 ++ be h 4 := by
  unfold fbs
  simp only [List.flatMap_cons, List.flatMap_nil]
  rw [if_pos (by decide), if_pos (by decide), List.append_nil]
  rfl
/-- What Option answers. -/
def SOPost (wait : Int) (l : List Bk) (B : Nat) (w' : World) (e : Ending) : Prop :=
  (∃ v, e = .returned (.tuple #[.agg #[.int .u8 9, v], .bool true]) ∧ l ≠ [] ∧ bkR wait l ∧ Nats w' 5 .u8 B v (bksB wait l)) ∨
  (e = .returned (.tuple #[.agg #[.int .u8 0, .slice none 0 0], .bool false]) ∧ ¬ (l ≠ [] ∧ bkR wait l))
set_option maxRecDepth 20000 in
set_option maxHeartbeats 8000000 in
theorem soption_any (wait : Int) (A : Option Addr) (n c : Nat) (l : List Bk) (w : World) (h : Rd w w.heap.size 2 A n (bks l)) (hu : U32s l) (hw : U32 wait) :
    Calls Try.prog 5 #[.int .u32 wait, .slice A n c] w fun e w' => SOPost wait l w.heap.size w' e ∧ Below w.heap.size w w' := by
  have hA : Below w.heap.size w (w.alloc (.cells #[.int .u8 0, .slice none 0 0] 26)) := (Below.refl _ _).alloc (Nat.le_refl _) _
  have K0 := Lib.hid (Blk.new w 26 #[.int .u8 0, .slice none 0 0])
  have BA := Lib.hid hA
  have HO := Lib.hid h
  have HL := Lib.hid h.bkLen
  have HU := Lib.hid hu
  have HW := Lib.hid hw
  have RA := Lib.hid (h.into hA)
  clear h hu hw hA
  go_enter Try.func5, Try.ntmps5
  by_cases h0 : n = 0
  · subst h0
    have HN := Lib.hid (show ¬ (l ≠ [] ∧ bkR wait l) from fun h => h.1 (List.eq_nil_of_length_eq_zero HL.out))
    go_wp2_with fail
    obtain ⟨z0, z1⟩ := ptc2 K0.out
    have f0 := K0.out.frozen 0
    have f1 := K0.out.frozen 1
    go_wp2_with fail
    exact bodyPost_ret (v := .tuple #[.agg #[.int .u8 0, .slice none 0 0], .bool false]) (by simp [results, Try.results5, go_sem, z0, z1]) rfl ⟨.inr ⟨rfl, HN.out⟩, BA.out⟩
  have h0' : ((n : Int) == 0) = false := by simp; omega
  have HN0 := Lib.hid (show l ≠ [] from fun h => by have := HL.out; rw [h] at this; simp at this; omega)
  clear h0
  go_wp2_with fail
  generalize w.alloc (.cells #[.int .u8 0, .slice none 0 0] 26) = wA at *
  obtain ⟨T, hT⟩ : ∃ T, T = w.heap.size := ⟨_, rfl⟩
  have HT := Lib.hid hT
  rw [← hT] at K0 ⊢
  clear hT
  refine (sright_any wait A n c l wA RA.out).mono ?_
  rintro e w1 ⟨⟨b, rfl, hb⟩, hb1⟩
  have K1 := Lib.hid (K0.out.below hb1 K0.out.lt)
  have B1 := Lib.hid (BA.out.trans (hb1.mono BA.out.size))
  have R1 := Lib.hid (RA.out.into hb1)
  have HBB := Lib.hid hb
  clear hb hb1 K0 BA RA
  cases b with
  | false =>
    have HN := Lib.hid (show ¬ (l ≠ [] ∧ bkR wait l) from fun h => by have := HBB.out.2 h.2; cases this)
    obtain ⟨z0, z1⟩ := ptc2 K1.out
    have f0 := K1.out.frozen 0
    have f1 := K1.out.frozen 1
    go_wp2_with fail
    have hkz := pt2 (.int .u8 0) (.slice none 0 0) K1.out
    have hbz := ptb2 (.int .u8 0) (.slice none 0 0) B1.out (show w.heap.size ≤ T from by rw [HT.out]; exact Nat.le_refl _)
    unfold ptw2 at hkz hbz
    generalize ((w1.setCell ⟨T, 0, none⟩ (.int .u8 0)).setCell ⟨T, 1, none⟩ (.slice none 0 0)) = wz at *
    clear z0 z1 f0 f1
    obtain ⟨z0, z1⟩ := ptc2 hkz
    exact bodyPost_ret (v := .tuple #[.agg #[.int .u8 0, .slice none 0 0], .bool false]) (by simp [results, Try.results5, go_sem, z0, z1]) rfl ⟨.inr ⟨rfl, HN.out⟩, hbz⟩
  | true =>
    have HRR := Lib.hid (HBB.out.1 rfl)
    have hn4 : n ≤ 4 := by have := HRR.out.1; rw [HL.out] at this; exact this
    have HTS := Lib.hid (show T < w1.heap.size from K1.out.lt)
    go_wp2_with fail
    go_loopw [6, 7, 23] (fun bv ev iv wr => ∃ (k : Nat) (a : Int), k ≤ n ∧ iv = .int .i64 (k : Int) ∧ ev = .int .u32 a ∧ Hid (a = bkLast wait (l.take k)) ∧ Hid (Nats wr 5 .u8 w1.heap.size bv (bksB wait (l.take k))) ∧ Below w1.heap.size w1 wr) (fun _ _ iv _ => n - (intOf iv).toNat)
    case atStart => exact ⟨0, wait, Nat.zero_le _, rfl, rfl, Lib.hid (by simp [bkLast]), Lib.hid (by simpa [bksB] using Nats.nil w1 5 .u8 w1.heap.size), Below.refl _ _⟩
    case round =>
      obtain ⟨k, a, hk, rfl, rfl, hla, hN, hbw⟩ := hrel
      by_cases hlt : k < n
      · have hlt' : (k : Int) < (n : Int) := by omega
        obtain ⟨b, off, x, y, rfl, hbb, p0, p1, hp⟩ := (R1.out.into hbw).bk hlt
        have hp2 := hp.out
        obtain ⟨d1, hd1⟩ : ∃ d, d = gp a x := ⟨_, rfl⟩
        obtain ⟨d2, hd2⟩ : ∃ d, d = gp x y := ⟨_, rfl⟩
        have wd1 : IntKind.u32.wrap (x - a) = (d1 : Int) := by rw [hd1]; exact gp_wrap a x
        have wd2 : IntKind.u32.wrap (y - x) = (d2 : Int) := by rw [hd2]; exact gp_wrap x y
        have hl1 : d1 < 4294967296 := by rw [hd1]; exact gp_lt _ _
        have hl2 : d2 < 4294967296 := by rw [hd2]; exact gp_lt _ _
        have wd3 : IntKind.u32.wrap (d1 : Int) = (d1 : Int) := by rw [IntKind.wrap_u32]; omega
        have wd4 : IntKind.u32.wrap (d2 : Int) = (d2 : Int) := by rw [IntKind.wrap_u32]; omega
        have HL1 := Lib.hid hl1
        have HL2 := Lib.hid hl2
        have HREC := Lib.hid (show bksB wait (l.take (k + 1)) = bksB wait (l.take k) ++ (be d1 4 ++ be d2 4) from by rw [nth_take (Lib.hid hp2), bksB_snoc, ← hla.out, hd1, hd2]; rfl)
        have HLA := Lib.hid (show y = bkLast wait (l.take (k + 1)) from by rw [nth_take (Lib.hid hp2), bkLast_snoc])
        have hbl : (bksB wait (l.take k)).length ≤ 1000 := by rw [bksB_len, List.length_take]; omega
        obtain ⟨A7, n7, c7, rfl, hnc7, hl7, hr7⟩ := hN.out.out
        have hn7 : n7 ≤ 1000 := by rw [← hl7.out]; exact hbl
        have hA : Below wr.heap.size wr (wr.alloc (.cells #[.int .u32 x, .int .u32 y] 44)) := (Below.refl _ _).alloc (Nat.le_refl _) _
        have KN := Lib.hid (Blk.new wr 44 #[.int .u32 x, .int .u32 y])
        have NA := Lib.hid (hr7.out.into hA)
        have BA := Lib.hid (hbw.trans (hA.mono hbw.size))
        clear hd1 hd2 hl1 hl2 hla hp hp2 hA hN hr7 hl7 hbl
        go_wp2_with fail
        clear p0 p1
        generalize wr.alloc (.cells #[.int .u32 x, .int .u32 y] 44) = W at *
        obtain ⟨S, hS⟩ : ∃ S, S = wr.heap.size := ⟨_, rfl⟩
        rw [← hS] at KN ⊢
        clear hS hbw
        refine wp_ord [(0, .pure), (1, .pure), (2, .read), (3, .pure), (4, .pure), (6, .pure), (7, .read), (8, .pure), (9, .read), (10, .pure), (5, .sole), (11, .sole), (12, .sole), (13, .sole), (14, .pure)] [] (by kernel_rfl) (by kernel_rfl) (fun QQ hQ wd hwd => ?_); simp only [List.map_cons, List.map_nil, List.getD_cons_zero, List.getD_cons_succ]
        have hD : Below W.heap.size W wd := by rw [hwd.out]; exact (Below.refl _ _).drew
        have KD := Lib.hid (KN.out.below hD KN.out.lt)
        have ND := Lib.hid (NA.out.into hD)
        have BD := Lib.hid (BA.out.trans (hD.mono BA.out.size))
        obtain ⟨t0, t1⟩ := ptc2 KD.out
        clear hD hwd KN NA BA
        (refine o_pure (v := ?_) (by rfl) (fun w' => ?_) ?_; rotate_left; (focus (go_simp; (try with_reducible rfl); (try (rw [if_pos (by omega)]; (try with_reducible rfl))))); (try simp only [Act.put, List.setIfInBounds_toArray, List.set_cons_zero, List.set_cons_succ]))
        (refine o_pure (v := ?_) (by rfl) (fun w' => ?_) ?_; rotate_left; (focus (go_simp; (try with_reducible rfl); (try (rw [if_pos (by omega)]; (try with_reducible rfl))))); (try simp only [Act.put, List.setIfInBounds_toArray, List.set_cons_zero, List.set_cons_succ]))
        (refine o_load _ (by rfl) rfl rfl (by assumption) (by kernel_rfl) ?_; simp only [Act.put, List.setIfInBounds_toArray, List.set_cons_zero, List.set_cons_succ])
        (refine o_pure (v := ?_) (by rfl) (fun w' => ?_) ?_; rotate_left; (focus (go_simp; (try with_reducible rfl); (try (rw [if_pos (by omega)]; (try with_reducible rfl))))); (try simp only [Act.put, List.setIfInBounds_toArray, List.set_cons_zero, List.set_cons_succ]))
        (refine o_pure (v := ?_) (by rfl) (fun w' => ?_) ?_; rotate_left; (focus (go_simp; (try with_reducible rfl); (try (rw [if_pos (by omega)]; (try with_reducible rfl))))); (try simp only [Act.put, List.setIfInBounds_toArray, List.set_cons_zero, List.set_cons_succ]))
        (refine o_pure (v := ?_) (by rfl) (fun w' => ?_) ?_; rotate_left; (focus (go_simp; (try with_reducible rfl); (try (rw [if_pos (by omega)]; (try with_reducible rfl))))); (try simp only [Act.put, List.setIfInBounds_toArray, List.set_cons_zero, List.set_cons_succ]))
        (refine o_load _ (by rfl) rfl rfl (by assumption) (by kernel_rfl) ?_; simp only [Act.put, List.setIfInBounds_toArray, List.set_cons_zero, List.set_cons_succ])
        (refine o_pure (v := ?_) (by rfl) (fun w' => ?_) ?_; rotate_left; (focus (go_simp; (try with_reducible rfl); (try (rw [if_pos (by omega)]; (try with_reducible rfl))))); (try simp only [Act.put, List.setIfInBounds_toArray, List.set_cons_zero, List.set_cons_succ]))
        (refine o_load _ (by rfl) rfl rfl (by assumption) (by kernel_rfl) ?_; simp only [Act.put, List.setIfInBounds_toArray, List.set_cons_zero, List.set_cons_succ])
        (refine o_pure (v := ?_) (by rfl) (fun w' => ?_) ?_; rotate_left; (focus (go_simp; (try with_reducible rfl); (try (rw [if_pos (by omega)]; (try with_reducible rfl))))); (try simp only [Act.put, List.setIfInBounds_toArray, List.set_cons_zero, List.set_cons_succ]))
        clear t0 t1
        refine o_sole (fun K hK => ?_)
        go_wp2_with fail
        refine (pW_any (d1 : Int) wd (by omega) (by have := HL1.out; omega)).mono ?_
        rintro e v1 ⟨rfl, hb⟩
        have K2 := Lib.hid (KD.out.below hb KD.out.lt)
        have N2 := Lib.hid (ND.out.into hb)
        have X2 := Lib.hid (BD.out.trans (hb.mono BD.out.size))
        go_wp2_with fail
        refine hK _ _ (fun _ => Ext.of hb) ?_; clear hK K
        clear hb KD ND BD
        refine o_sole (fun K hK => ?_)
        go_wp2_with fail
        refine (pW_any (d2 : Int) v1 (by omega) (by have := HL2.out; omega)).mono ?_
        rintro e v2 ⟨rfl, hb⟩
        have K3 := Lib.hid (K2.out.below hb K2.out.lt)
        have N3 := Lib.hid (N2.out.into hb)
        have X3 := Lib.hid (X2.out.trans (hb.mono X2.out.size))
        go_wp2_with fail
        refine hK _ _ (fun _ => Ext.of hb) ?_; clear hK K
        clear hb K2 N2 X2
        refine o_sole (fun K hK => ?_)
        go_wp2_with fail
        refine hK _ _ (fun _ => Ext.of ((Below.refl _ _).alloc (Nat.le_refl _) _)) ?_; clear hK K
        have hrd : Rd (v2.alloc (.cells #[.int .i64 4, .int .u64 (d1 : Int), .int .i64 4, .int .u64 (d2 : Int)] 48)) (v2.heap.size + 1) 2 (some ⟨v2.heap.size, 0, none⟩) 2 (fs [((4 : Int), d1), ((4 : Int), d2)]) := Rd.made v2 48 #[.int .i64 4, .int .u64 (d1 : Int), .int .i64 4, .int .u64 (d2 : Int)] (by simp)
        have hz : (v2.alloc (.cells #[.int .i64 4, .int .u64 (d1 : Int), .int .i64 4, .int .u64 (d2 : Int)] 48)).heap.size = v2.heap.size + 1 := by simp
        rw [← hz] at hrd
        have hb : Below v2.heap.size v2 (v2.alloc (.cells #[.int .i64 4, .int .u64 (d1 : Int), .int .i64 4, .int .u64 (d2 : Int)] 48)) := (Below.refl _ _).alloc (Nat.le_refl _) _
        have K4 := Lib.hid (K3.out.below hb K3.out.lt)
        have N4 := Lib.hid (N3.out.into hb)
        have X4 := Lib.hid (X3.out.trans (hb.mono X3.out.size))
        have HRD := Lib.hid hrd
        clear hrd hz hb K3 N3 X3
        refine o_sole (fun K hK => ?_)
        go_wp2_with fail
        generalize v2.alloc (.cells #[.int .i64 4, .int .u64 (d1 : Int), .int .i64 4, .int .u64 (d2 : Int)] 48) = v4 at *
        refine (pput_any A7 _ n7 2 c7 2 _ _ v4 N4.out HRD.out (by omega) (by
          intro p hp
          simp only [List.mem_cons, List.not_mem_nil, or_false] at hp
          have := HL1.out
          have := HL2.out
          rcases hp with rfl | rfl <;> dsimp only <;> omega)).mono ?_
        rintro e v5 ⟨u5, rfl, hN5, hb⟩
        rw [fbs_two] at hN5
        have N5 := Lib.hid (show Nats v5 5 .u8 w1.heap.size u5 (bksB wait (l.take (k + 1))) from by rw [HREC.out]; exact own_mono hN5 X4.out.size)
        obtain ⟨A5, n5, c5, rfl, _, _, _⟩ := hN5.out
        have K5 := Lib.hid (K4.out.below hb K4.out.lt)
        have X5 := Lib.hid (X4.out.trans (hb.mono X4.out.size))
        go_wp2_with fail
        refine hK _ _ (fun _ => Ext.of hb) ?_; clear hK K
        clear hb hN5 HRD K4 N4 X4
        (refine o_pure (v := ?_) (by rfl) (fun w' => ?_) ?_; rotate_left; (focus (go_simp; (try with_reducible rfl); (try (rw [if_pos (by omega)]; (try with_reducible rfl))))); (try simp only [Act.put, List.setIfInBounds_toArray, List.set_cons_zero, List.set_cons_succ]))
        refine o_nil (hQ.out _ _ ?_); clear hQ QQ
        obtain ⟨t0, t1⟩ := ptc2 K5.out
        go_wp2_with fail
        go_roundw
        case rel => exact ⟨k + 1, y, by omega, by go_num, rfl, HLA, N5, X5.out⟩
        case measure => simp [intOf]; omega
      · have hge : ¬ (k : Int) < (n : Int) := by omega
        have h1 := hN.out
        rw [List.take_of_length_le (by rw [HL.out]; omega)] at h1
        have NF := Lib.hid h1
        obtain ⟨A7, n7, c7, rfl, _, _, _⟩ := h1.out
        have KF := Lib.hid (K1.out.below hbw K1.out.lt)
        have BF := Lib.hid (B1.out.trans (hbw.mono B1.out.size))
        obtain ⟨z0, z1⟩ := ptc2 KF.out
        have f0 := KF.out.frozen 0
        have f1 := KF.out.frozen 1
        clear h1 hN hla hbw
        go_wp2_with fail
        have hkz := pt2 (.int .u8 9) (.slice A7 n7 c7) KF.out
        have hbz := ptb2 (.int .u8 9) (.slice A7 n7 c7) BF.out (show w.heap.size ≤ T from by rw [HT.out]; exact Nat.le_refl _)
        have hnz := nats_past NF.out HTS.out (pts2 (.int .u8 9) (.slice A7 n7 c7) (w := wr) (T := T))
        unfold ptw2 at hkz hbz hnz
        generalize ((wr.setCell ⟨T, 0, none⟩ (.int .u8 9)).setCell ⟨T, 1, none⟩ (.slice A7 n7 c7)) = wz at *
        clear z0 z1 f0 f1
        obtain ⟨z0, z1⟩ := ptc2 hkz
        exact bodyPost_ret (v := .tuple #[.agg #[.int .u8 9, .slice A7 n7 c7], .bool true]) (by simp [results, Try.results5, go_sem, z0, z1]) rfl ⟨.inl ⟨_, rfl, HN0.out, HRR.out, own_mono hnz (by have := HT.out; have := HTS.out; omega)⟩, hbz⟩
end Go.Proofs.Ytpnnadnmkiobcaa
