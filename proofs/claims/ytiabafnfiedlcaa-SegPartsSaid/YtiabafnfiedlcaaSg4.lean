/- The document's bytes of a segment. -/
import Derived.Test.YtiabafnfiedlcaaSg3
import Derived.Test.YtiabafnfiedlcaaOrdB
namespace Go.Proofs.Ytiabafnfiedlcaa
open Go.RowKit
set_option linter.unusedVariables false
set_option maxRecDepth 20000 in
set_option maxHeartbeats 4000000 in
theorem rencode_any (v : Value) (g : Sg) (w : World) (h : SegV w v g) (hs : g.small) (hg : g.bd) :
    Calls Try.prog 32 #[v] w fun e w' => ∃ v', e = .returned (.tuple #[v', .int .i64 (rightS g : Int)]) ∧ Nats w' 5 .u8 w.heap.size v' (ansS g) ∧ Below w.heap.size w w' := by
  obtain ⟨A, n, c, D, m, d, l, rfl, hO, ho, hD, hmd, hdm⟩ := h
  have hB := SBox.mk' (d := d) hO ho hD
  have HSB := Lib.hid hB
  have HO := Lib.hid hO
  have HD := Lib.hid hD
  have HSAY := Lib.hid ho
  have hn : n ≤ 10000 := by have h1 := hs.opts; rw [hB.olen] at h1; exact h1
  have HMD := Lib.hid (And.intro hmd hdm)
  have HGB := Lib.hid hg
  have HRI := Lib.hid (rright_any _ g _ (hB.val hmd hdm) hs)
  clear hO hD ho hmd hdm hg hB hs
  unfold segCs at HRI
  obtain ⟨r, hr⟩ : ∃ r, r = rightS g := ⟨_, rfl⟩
  rw [← hr] at HRI ⊢
  have HRR := Lib.hid hr
  clear hr
  have hcs := HSB.out.blk
  obtain ⟨t0, t1, t2, t3, t4, t5, t6⟩ := seg_cells hcs
  clear hcs
  unfold segCs at *
  go_enter Try.func32, Try.ntmps32
  go_wp2_with fail
  refine HRI.out.mono ?_
  rintro e w1 ⟨rfl, hb1⟩
  generalize w.alloc (.cells #[.int .u16 (g.src : Int), .int .u16 (g.dst : Int), .int .u32 (g.seq : Int), .int .u32 (g.ack : Int), .int .u8 (g.flags : Int), .slice A n c, .slice D m d] 56) = W at *
  obtain ⟨T, hT⟩ : ∃ T, T = w.heap.size := ⟨_, rfl⟩
  rw [← hT] at HSB ⊢
  have HT := Lib.hid hT
  clear hT t0 t1 t2 t3 t4 t5 t6
  have S1 := Lib.hid (SBox.into (show SBox w W T g A n c D m d l from HSB.out) hb1)
  clear hb1 HSB HRI
  by_cases h0 : r = 0
  · subst h0
    obtain ⟨ok1, ok2, ok3⟩ := rightS_zero HRR.out.symm
    have HA := Lib.hid (ansS_ok HRR.out.symm)
    have hT1 : T + 1 ≤ w1.heap.size := S1.out.blk.lt
    have HBL := Lib.hid (fun (i k : Nat) (b : List Nat) (h : g.opts[i]? = some (k, b)) => body_le h)
    clear ok1
    obtain ⟨z, hz⟩ : ∃ z, z = oSize g.opts := ⟨_, rfl⟩
    rw [← hz] at ok2 HBL
    have HZ := Lib.hid hz
    clear hz
    have wz : IntKind.u8.wrap (z : Int) = (z : Int) := by rw [IntKind.wrap_u8]; omega
    go_wp2_with fail
    go_loopw [5, 6] (fun bv iv wr => ∃ k : Nat, k ≤ n ∧ iv = .int .i64 k ∧ Hid (Nats wr 5 .u8 (T + 1) bv (oBytes (g.opts.take k))) ∧ Hid (Blk wr T 56 (segCs g A n c D m d)) ∧ Below w.heap.size w wr) (fun _ iv _ => n - (intOf iv).toNat)
    case atStart => exact ⟨0, Nat.zero_le _, rfl, Lib.hid (Nats.nil _ _ _ _), Lib.hid S1.out.blk, S1.out.bel⟩
    case round =>
      obtain ⟨k, hk, rfl, hN, hblk, hbw⟩ := hrel
      clear S1
      obtain ⟨A7, n7, c7, rfl, _, hl7, hr7⟩ := hN.out.out
      have hTw : T + 1 ≤ wr.heap.size := hblk.out.lt
      have hszk : (oBytes (g.opts.take k)).length ≤ z := by rw [oBytes_len, HZ.out]; exact oSize_take _ _
      obtain ⟨_, _, _, _, _, t5, t6⟩ := seg_cells hblk.out
      by_cases hlt : k < n
      · have hlt' : (k : Int) < (n : Int) := by omega
        obtain ⟨b, off, kd, q, rfl, hbb, p0, p1, hp, hq, hql⟩ := HO.out.at_ hlt
        have q0 := (hbw.cell (p := ⟨b, off + k * 2, none⟩) hbb).trans p0
        have q1 := (hbw.cell (p := ⟨b, off + k * 2 + 1, none⟩) hbb).trans p1
        have hp2 := osay_at hp
        rw [← HSAY.out] at hp2
        have hqz := HBL.out _ _ _ hp2
        have hst := oBytes_step hp2 []
        rw [List.nil_append, List.nil_append] at hst
        obtain ⟨qA, qn, qc, ql⟩ := q
        dsimp only at *
        rw [hql.out] at hqz hst
        have HQ := Lib.hid (hq.out.below hbw)
        have HST := Lib.hid hst
        have wq : IntKind.u8.wrap (qn : Int) = (qn : Int) := by rw [IntKind.wrap_u8]; omega
        clear p0 p1 hp hp2 hst hq t6
        go_wp2_with fail
        refine wp_ord [(0, .pure), (1, .pure), (2, .read), (3, .pure), (4, .pure), (5, .pure), (6, .read), (7, .pure), (8, .read), (9, .pure), (10, .pure), (11, .pure), (12, .read), (13, .pure), (14, .pure), (15, .sole), (16, .sole), (17, .pure)] [16] (by kernel_rfl) (by kernel_rfl) (fun QQ hQ wd hwd => ?_); simp only [List.map_cons, List.map_nil, List.getD_cons_zero, List.getD_cons_succ]
        have x5 : wd.cell? ⟨T, 5, none⟩ = some (.slice (some ⟨b, off, none⟩) n c) := by rw [hwd.out]; exact t5
        have y0 : wd.cell? ⟨b, off + k * 2, none⟩ = some (.int .u8 (kd : Int)) := by rw [hwd.out]; exact q0
        have y1 : wd.cell? ⟨b, off + k * 2 + 1, none⟩ = some (.slice qA qn qc) := by rw [hwd.out]; exact q1
        have ND := Lib.hid (show Nats wd 5 .u8 (T + 1) (.slice A7 n7 c7) (oBytes (g.opts.take k)) by rw [hwd.out]; exact hN.out)
        have BKD := Lib.hid (show Blk wd T 56 (segCs g (some ⟨b, off, none⟩) n c D m d) by rw [hwd.out]; exact hblk.out)
        have BD := Lib.hid (show Below w.heap.size w wd by rw [hwd.out]; exact hbw.drew)
        have QD := Lib.hid (show Rd wd w.heap.size 1 qA qn (ns .u8 ql) by rw [hwd.out]; exact HQ.out)
        have hTd : T + 1 ≤ wd.heap.size := BKD.out.lt
        clear hwd hN hblk hbw HQ q0 q1 t5 hr7 hl7 hTw
        (refine o_pure (v := ?_) (by rfl) (fun w' => ?_) ?_; rotate_left; (focus (go_simp; (try with_reducible rfl))); (try simp only [Act.put, List.setIfInBounds_toArray, List.set_cons_zero, List.set_cons_succ]))
        (refine o_pure (v := ?_) (by rfl) (fun w' => ?_) ?_; rotate_left; (focus (go_simp; (try with_reducible rfl))); (try simp only [Act.put, List.setIfInBounds_toArray, List.set_cons_zero, List.set_cons_succ]))
        (refine o_load _ (by rfl) rfl rfl (by assumption) (by kernel_rfl) ?_; simp only [Act.put, List.setIfInBounds_toArray, List.set_cons_zero, List.set_cons_succ])
        (refine o_pure (v := ?_) (by rfl) (fun w' => ?_) ?_; rotate_left; (focus (go_simp; (try with_reducible rfl))); (try simp only [Act.put, List.setIfInBounds_toArray, List.set_cons_zero, List.set_cons_succ]))
        (refine o_pure (v := ?_) (by rfl) (fun w' => ?_) ?_; rotate_left; (focus (go_simp; (try with_reducible rfl))); (try simp only [Act.put, List.setIfInBounds_toArray, List.set_cons_zero, List.set_cons_succ]))
        (refine o_pure (v := ?_) (by rfl) (fun w' => ?_) ?_; rotate_left; (focus (go_simp; (try with_reducible rfl))); (try simp only [Act.put, List.setIfInBounds_toArray, List.set_cons_zero, List.set_cons_succ]))
        (refine o_load _ (by rfl) rfl rfl (by assumption) (by kernel_rfl) ?_; simp only [Act.put, List.setIfInBounds_toArray, List.set_cons_zero, List.set_cons_succ])
        (refine o_pure (v := ?_) (by rfl) (fun w' => ?_) ?_; rotate_left; (focus (go_simp; (try with_reducible rfl))); (try simp only [Act.put, List.setIfInBounds_toArray, List.set_cons_zero, List.set_cons_succ]))
        (refine o_load _ (by rfl) rfl rfl (by assumption) (by kernel_rfl) ?_; simp only [Act.put, List.setIfInBounds_toArray, List.set_cons_zero, List.set_cons_succ])
        (refine o_pure (v := ?_) (by rfl) (fun w' => ?_) ?_; rotate_left; (focus (go_simp; (try with_reducible rfl))); (try simp only [Act.put, List.setIfInBounds_toArray, List.set_cons_zero, List.set_cons_succ]))
        (refine o_pure (v := ?_) (by rfl) (fun w' => ?_) ?_; rotate_left; (focus (go_simp; (try with_reducible rfl))); (try simp only [Act.put, List.setIfInBounds_toArray, List.set_cons_zero, List.set_cons_succ]))
        (refine o_pure (v := ?_) (by rfl) (fun w' => ?_) ?_; rotate_left; (focus (go_simp; (try with_reducible rfl))); (try simp only [Act.put, List.setIfInBounds_toArray, List.set_cons_zero, List.set_cons_succ]))
        (refine o_load _ (by rfl) rfl rfl (by assumption) (by kernel_rfl) ?_; simp only [Act.put, List.setIfInBounds_toArray, List.set_cons_zero, List.set_cons_succ])
        (refine o_pure (v := ?_) (by rfl) (fun w' => ?_) ?_; rotate_left; (focus (go_simp; (try with_reducible rfl))); (try simp only [Act.put, List.setIfInBounds_toArray, List.set_cons_zero, List.set_cons_succ]))
        (refine o_pure (v := ?_) (by rfl) (fun w' => ?_) ?_; rotate_left; (focus (go_simp; (try with_reducible rfl))); (try simp only [Act.put, List.setIfInBounds_toArray, List.set_cons_zero, List.set_cons_succ]))
        refine o_sole (fun K hK => ?_)
        go_wp2_with fail
        refine hK _ _ (fun _ => Ext.of ((Below.refl _ _).alloc (Nat.le_refl _) _)) ?_; clear hK K
        refine o_sole (fun K hK => ?_)
        refine appn pel8 rfl (.tmp 20) (.tmp 35) rfl rfl (ND.out.alloc _) rfl (Rd.lit (B := wd.heap.size + 1) [kd, qn] (by simp) (by simp) rfl rfl) (by simp only [List.length_cons, List.length_nil]; exact room_ge (by omega)) (by simp; omega) ?_
        intro v8 w8 hN8 _ hb8
        have hbA : Below (T + 1) wd w8 := ((Below.refl _ _).alloc hTd _).trans hb8
        have N8 := Lib.hid hN8
        have B8 := Lib.hid (BD.out.trans (hbA.mono (by rw [← HT.out]; exact Nat.le_succ T)))
        have BK8 := Lib.hid (BKD.out.below hbA (Nat.lt_succ_self T))
        have Q8 := Lib.hid (QD.out.below (hbA.mono (by rw [← HT.out]; exact Nat.le_succ T)))
        have y8 := (hbA.cell (p := ⟨b, off + k * 2 + 1, none⟩) (by have := HT.out; show b < T + 1; omega)).trans y1
        have x8 := (hbA.cell (p := ⟨T, 5, none⟩) (Nat.lt_succ_self T)).trans x5
        have hT8 : T + 1 ≤ w8.heap.size := BK8.out.lt
        clear hN8 hb8 hbA ND BKD BD QD x5 y0 y1
        refine wpList_nil ?_
        refine hK _ _ (fun h => by cases h) ?_; clear hK K
        (refine o_pure (v := ?_) (by rfl) (fun w' => ?_) ?_; rotate_left; (focus (go_simp; (try with_reducible rfl))); (try simp only [Act.put, List.setIfInBounds_toArray, List.set_cons_zero, List.set_cons_succ]))
        refine o_nil (hQ.out _ _ ?_); clear hQ QQ
        obtain ⟨A8, n8, c8, rfl, _, _, _⟩ := N8.out.out
        go_wp2_with (at_builtin; go_must (refine appn pel8 rfl _ _ rfl rfl N8.out rfl Q8.out (by simp only [List.length_append, List.length_cons, List.length_nil, hql.out]; exact room_ge (by omega)) hT8 ?_))
        intro v9 w9 hN9 _ hb9
        have hN9' : Nats w9 5 .u8 (T + 1) v9 (oBytes (g.opts.take (k + 1))) := by rw [HST.out]; simpa using hN9
        have N9 := Lib.hid hN9'
        have BK9 := Lib.hid (BK8.out.below hb9 (Nat.lt_succ_self T))
        have B9 := Lib.hid (B8.out.trans (hb9.mono (by rw [← HT.out]; exact Nat.le_succ T)))
        clear hN9 hN9' hb9 N8 Q8 BK8 B8 x8 y8
        go_wp2_with fail
        go_roundw
        case rel => exact ⟨k + 1, by omega, by go_num, N9, BK9, B9.out⟩
        case measure => simp [intOf]; omega
      · have hge : ¬ (k : Int) < (n : Int) := by omega
        have hall : g.opts.take k = g.opts := List.take_of_length_le (by rw [HSAY.out]; unfold osay; rw [List.length_map, HO.out.len]; omega)
        have hN2 := hN.out
        rw [hall] at hN2 hszk
        obtain ⟨o, ho⟩ : ∃ o, o = oBytes g.opts := ⟨_, rfl⟩
        have hol : o.length = z := by rw [ho, oBytes_len, HZ.out]
        have hn7 : n7 = z := by have := hl7.out; rw [hall, ← ho, hol] at this; exact this.symm
        subst hn7
        rw [← ho] at hN2
        have HOO := Lib.hid ho
        have R2 := Lib.hid (show Rd wr wr.heap.size 1 A7 n7 (ns .u8 o) by have := hN2.rd; rwa [hol] at this)
        have HOL := Lib.hid hol
        have SB := Lib.hid (show SBox w wr T g A n c D m d l from ⟨hblk.out, HO.out.into hbw, HSAY.out, (HD.out.into hbw), hbw⟩)
        have HH := Lib.hid (rheader_any _ g wr (SB.out.val HMD.out.1 HMD.out.2) HGB.out)
        unfold segCs at HH
        have hdl := HD.out.natLen
        obtain ⟨t0, t1, t2, t3, t4, _, _⟩ := seg_cells hblk.out
        clear hall hN2 hN ho hol hr7 hl7
        go_wp2_with fail
        refine HH.out.mono ?_
        rintro e w3 ⟨v3, rfl, hN3, hb3⟩
        have N3 := Lib.hid hN3
        have R3 := Lib.hid (R2.out.below hb3)
        have B3 := Lib.hid (hbw.trans (hb3.mono hbw.size))
        have z6 := (hb3.cell (p := ⟨T, 6, none⟩) SB.out.blk.lt).trans t6
        have hz3 := hb3.size
        have hszw := hbw.size
        clear hN3 hb3 R2 HH hblk hbw t0 t1 t2 t3 t4 t5 t6
        go_wp2_with (at_builtin; go_must (refine app1n pel8 n7 rfl _ _ rfl rfl N3.out rfl rfl (by rw [hdrS_len]; exact room_ge (by omega)) hz3 ?_))
        intro v4 w4 hN4 _ hb4
        have N4 := Lib.hid hN4
        have R4 := Lib.hid (R3.out.below hb4)
        have B4 := Lib.hid (B3.out.trans (hb4.mono hszw))
        have y6 := (hb4.cell (p := ⟨T, 6, none⟩) (by have := SB.out.blk.lt; show T < wr.heap.size; exact this)).trans z6
        have hz4 := Nat.le_trans hz3 hb4.size
        clear hN4 hb4 N3 R3 B3 z6
        go_wp2_with fail
        refine OB.wp_ord [(0, .pure), (1, .pure), (3, .pure), (4, .read), (2, .sole), (5, .sole), (6, .pure), (7, .pure)] ⟨fun k => k < wr.heap.size, []⟩ (by kernel_rfl) (by kernel_rfl) (fun QQ hQ wd hwd => ?_); (try simp only [List.map_cons, List.map_nil, List.getD_cons_zero, List.getD_cons_succ])
        have x6 : wd.cell? ⟨T, 6, none⟩ = some (.slice D m d) := by rw [hwd.out]; exact y6
        have ND := Lib.hid (show Nats wd 5 .u8 wr.heap.size v4 (hdrS g ++ [n7]) by rw [hwd.out]; exact N4.out)
        have RD := Lib.hid (show Rd wd wr.heap.size 1 A7 n7 (ns .u8 o) by rw [hwd.out]; exact R4.out)
        have BD := Lib.hid (show Below w.heap.size w wd by rw [hwd.out]; exact B4.out.drew)
        have hzd : wr.heap.size ≤ wd.heap.size := by rw [hwd.out]; exact hz4
        have hTwr := SB.out.blk.lt
        clear hwd N4 R4 B4 y6
        (refine OB.o_pure (v := ?_) (by rfl) (fun w' => ?_) ?_; rotate_left; (focus (go_simp; (try with_reducible rfl))); (try simp only [Act.put, List.setIfInBounds_toArray, List.set_cons_zero, List.set_cons_succ]))
        (refine OB.o_pure (v := ?_) (by rfl) (fun w' => ?_) ?_; rotate_left; (focus (go_simp; (try with_reducible rfl))); (try simp only [Act.put, List.setIfInBounds_toArray, List.set_cons_zero, List.set_cons_succ]))
        (refine OB.o_pure (v := ?_) (by rfl) (fun w' => ?_) ?_; rotate_left; (focus (go_simp; (try with_reducible rfl))); (try simp only [Act.put, List.setIfInBounds_toArray, List.set_cons_zero, List.set_cons_succ]))
        (refine OB.o_load _ (by rfl) rfl rfl (by dsimp only; first | assumption | omega) (by assumption) (by kernel_rfl) ?_; simp only [Act.put, List.setIfInBounds_toArray, List.set_cons_zero, List.set_cons_succ])
        refine OB.o_sole (fun K hK => ?_)
        refine appn pel8 rfl (.tmp 52) (.tmp 53) rfl rfl ND.out rfl RD.out (by rw [List.length_append, hdrS_len, HOL.out]; exact room_ge (by simp; omega)) hzd ?_
        intro v5 w5 hN5 _ hb5
        have N5 := Lib.hid hN5
        have B5 := Lib.hid (BD.out.trans (hb5.mono hszw))
        have DD := Lib.hid (HD.out.below B5.out)
        have hz5 := Nat.le_trans hzd hb5.size
        refine wpList_nil ?_
        refine hK _ _ (fun _ => OB.ExtB.of (hb5)) ?_; clear hK K
        clear hN5 hb5 ND RD BD x6
        refine OB.o_sole (fun K hK => ?_)
        refine appn pel8 rfl (.tmp 54) (.tmp 56) rfl rfl N5.out rfl DD.out (by rw [List.length_append, List.length_append, hdrS_len, HOL.out]; exact room_ge (by simp; omega)) hz5 ?_
        intro v6 w6 hN6 _ hb6
        have N6 := Lib.hid hN6
        have B6 := Lib.hid (B5.out.trans (hb6.mono hszw))
        refine wpList_nil ?_
        refine hK _ _ (fun _ => OB.ExtB.of (hb6)) ?_; clear hK K
        clear hN6 hb6 N5 DD B5
        (refine OB.o_pure (v := ?_) (by rfl) (fun w' => ?_) ?_; rotate_left; (focus (go_simp; (try with_reducible rfl))); (try simp only [Act.put, List.setIfInBounds_toArray, List.set_cons_zero, List.set_cons_succ]))
        (refine OB.o_pure (v := ?_) (by rfl) (fun w' => ?_) ?_; rotate_left; (focus (go_simp; (try with_reducible rfl))); (try simp only [Act.put, List.setIfInBounds_toArray, List.set_cons_zero, List.set_cons_succ]))
        refine OB.o_nil (hQ.out _ _ ?_); clear hQ QQ
        go_wp2
        go_ret2
        refine ⟨_, rfl, ?_, B6.out⟩
        rw [HA.out]
        unfold encS
        have h1 := N6.out.mono (show w.heap.size ≤ wr.heap.size from hszw)
        rw [HOO.out, HZ.out] at h1
        simpa using h1
  · have h0' : ¬ (r : Int) = 0 := by omega
    have h0d : ((r : Int) == 0) = false := beq_eq_false_iff_ne.2 h0'
    have HA := Lib.hid (ansS_no (g := g) (by rw [← HRR.out]; exact h0))
    go_wp2_with fail
    go_ret2
    refine ⟨_, rfl, ?_, S1.out.bel⟩
    rw [HA.out]
    exact Nats.nil _ _ _ _
end Go.Proofs.Ytiabafnfiedlcaa
