/- The bytes of a segment. -/
import Derived.Test.YtiabafnfiedlcaaSg2
namespace Go.Proofs.Ytiabafnfiedlcaa
open Go.RowKit
set_option linter.unusedVariables false
/-- What Encode answers. -/
def ansS (g : Sg) : List Nat := if rightS g = 0 then encS g else []
theorem ansS_ok {g : Sg} (h : rightS g = 0) : ansS g = encS g := if_pos h
theorem ansS_no {g : Sg} (h : rightS g ≠ 0) : ansS g = [] := if_neg h
theorem rightS_zero {g : Sg} (h : rightS g = 0) : oOk g.opts = true ∧ oSize g.opts ≤ 200 ∧ g.data.length ≤ 1024 := by
  unfold rightS at h
  by_cases h1 : 7 < g.flags
  · rw [if_pos h1] at h; cases h
  rw [if_neg h1] at h
  by_cases h2 : oOk g.opts = false
  · rw [if_pos h2] at h; cases h
  rw [if_neg h2] at h
  by_cases h3 : 1024 < g.data.length
  · rw [if_pos h3] at h; cases h
  have h2 : oOk g.opts = true := by simpa using h2
  exact ⟨h2, ((oOk_iff _).1 h2).2, by omega⟩
theorem body_le {l : List Opn} {i k : Nat} {b : List Nat} (h : l[i]? = some (k, b)) : b.length ≤ oSize l := by
  have h1 := oSize_take l (i + 1)
  rw [nth_take (Lib.hid h), oSize_snoc] at h1
  dsimp only at h1
  omega
theorem oBytes_step {l : List Opn} {i k : Nat} {b : List Nat} (h : l[i]? = some (k, b)) (X : List Nat) : X ++ oBytes (l.take (i + 1)) = X ++ (oBytes (l.take i) ++ k :: b.length :: b) := by
  rw [nth_take (Lib.hid h), oBytes_append]
  simp [oBytes]
set_option maxRecDepth 20000 in
set_option maxHeartbeats 4000000 in
theorem encode_any (v : Value) (g : Sg) (w : World) (h : SegV w v g) (hs : g.small) (hg : g.bd) :
    Calls Try.prog 31 #[v] w fun e w' => ∃ v', e = .returned (.tuple #[v', .int .i64 (rightS g : Int)]) ∧ Nats w' 5 .u8 w.heap.size v' (ansS g) ∧ Below w.heap.size w w' := by
  obtain ⟨A, n, c, D, m, d, l, rfl, hO, ho, hD, hmd, hdm⟩ := h
  have hB := SBox.mk' (d := d) hO ho hD
  have HSB := Lib.hid hB
  have HO := Lib.hid hO
  have HD := Lib.hid hD
  have HSAY := Lib.hid ho
  have hn : n ≤ 10000 := by have h1 := hs.opts; rw [hB.olen] at h1; exact h1
  have HBO := Lib.hid (hB.bods hs)
  have HMD := Lib.hid (And.intro hmd hdm)
  have HGB := Lib.hid hg
  have HSM := Lib.hid hs
  have HRI := Lib.hid (right_any _ g _ (hB.val hmd hdm) hs)
  clear hO hD ho hmd hdm hg hB hs
  unfold segCs at HRI
  obtain ⟨r, hr⟩ : ∃ r, r = rightS g := ⟨_, rfl⟩
  rw [← hr] at HRI ⊢
  have HRR := Lib.hid hr
  clear hr
  have hcs := HSB.out.blk
  obtain ⟨t0, t1, t2, t3, t4, t5, t6⟩ := seg_cells hcs
  clear hcs
  unfold segCs at *
  go_enter Try.func31, Try.ntmps31
  go_wp2_with fail
  refine HRI.out.mono ?_
  rintro e w1 ⟨rfl, hb1⟩
  generalize w.alloc (.cells #[.int .u16 (g.src : Int), .int .u16 (g.dst : Int), .int .u32 (g.seq : Int), .int .u32 (g.ack : Int), .int .u8 (g.flags : Int), .slice A n c, .slice D m d] 56) = W at *
  obtain ⟨T, hT⟩ : ∃ T, T = w.heap.size := ⟨_, rfl⟩
  rw [← hT] at HSB ⊢
  have HT := Lib.hid hT
  clear hT t0 t1 t2 t3 t4 t5 t6
  have S1 := Lib.hid (SBox.into (show SBox w W T g A n c D m d l from HSB.out) hb1)
  clear hb1 HSB HRI
  by_cases h0 : r = 0
  · subst h0
    obtain ⟨ok1, ok2, ok3⟩ := rightS_zero HRR.out.symm
    have HA := Lib.hid (ansS_ok HRR.out.symm)
    have hans := oAns_ok ok1
    obtain ⟨t0, t1, t2, t3, t4, t5, t6⟩ := seg_cells S1.out.blk
    have HSZ := Lib.hid (size_any A n c l w1 S1.out.os hn HBO.out)
    rw [← HSAY.out, hans, ok1] at HSZ
    clear hans ok1
    obtain ⟨z, hz⟩ : ∃ z, z = oSize g.opts := ⟨_, rfl⟩
    rw [← hz] at HSZ ok2
    have HZ := Lib.hid hz
    clear hz
    have wz : IntKind.u8.wrap (z : Int) = (z : Int) := by rw [IntKind.wrap_u8]; omega
    go_wp2_with fail
    refine HSZ.out.mono ?_
    rintro e w2 ⟨rfl, hb2⟩
    have S2 := Lib.hid (S1.out.into hb2)
    clear hb2 S1 HSZ t0 t1 t2 t3 t4 t5 t6
    obtain ⟨t0, t1, t2, t3, t4, t5, t6⟩ := seg_cells S2.out.blk
    have HH := Lib.hid (header_any _ g w2 (S2.out.val HMD.out.1 HMD.out.2) HGB.out)
    unfold segCs at HH
    go_wp2_with fail
    refine HH.out.mono ?_
    rintro e w3 ⟨v3, rfl, hN3, hb3⟩
    obtain ⟨A3, n3, c3, rfl, _, hl3, hr3⟩ := hN3.out
    have S3 := Lib.hid (S2.out.into hb3)
    have hsz3 := hb3.size
    clear hb3 S2 HH t0 t1 t2 t3 t4 t5 t6 hN3
    go_wp2_with fail
    refine (pB_any (z : Int) w3 (by omega) (by omega)).mono ?_
    rintro e w4 ⟨rfl, hb4⟩
    have S4 := Lib.hid (S3.out.into hb4)
    have R4 := Lib.hid (hr3.out.into hb4)
    clear hb4 S3 hr3
    go_wp2_with fail
    have hrd : Rd (w4.alloc (.cells #[.int .i64 1, .int .u64 (z : Int)] 117)) (w4.heap.size + 1) 2 (some ⟨w4.heap.size, 0, none⟩) 1 (fs [((1 : Int), z)]) := Rd.made w4 117 #[.int .i64 1, .int .u64 (z : Int)] rfl
    have hb5 := (Below.refl w4.heap.size w4).alloc (Nat.le_refl _) (.cells #[.int .i64 1, .int .u64 (z : Int)] 117)
    have S5 := Lib.hid (S4.out.into hb5)
    have R5 := Lib.hid (R4.out.into hb5)
    have HRD := Lib.hid hrd
    have hz5 : (w4.alloc (.cells #[.int .i64 1, .int .u64 (z : Int)] 117)).heap.size = w4.heap.size + 1 := by simp
    have HZ5 := Lib.hid hz5
    clear hrd hb5 S4 R4 hz5
    generalize w4.alloc (.cells #[.int .i64 1, .int .u64 (z : Int)] 117) = w5 at *
    have hn3 : n3 = 13 := by have := hl3.out; rw [hdrS_len] at this; exact this.symm
    refine (pput_any A3 _ n3 1 c3 1 _ _ w5 R5.out (by have := HRD.out; rw [← HZ5.out] at this; exact this) (by omega) (fun p hp => by simp at hp; subst hp; dsimp only; omega)).mono ?_
    rintro e w6 ⟨v6, rfl, hN6, hb6⟩
    have hf1 : fbs [((1 : Int), z)] = [z] := by
      unfold fbs
      rw [List.flatMap_cons, List.flatMap_nil, if_pos (show okS ((1 : Int), z).1 = true from rfl)]
      show be z 1 ++ [] = [z]
      rw [be1 (by omega)]
      rfl
    rw [hf1] at hN6
    have S6 := Lib.hid (S5.out.into hb6)
    have hT5 : T + 1 ≤ w5.heap.size := S5.out.blk.lt
    have N6 := Lib.hid (hN6.mono hT5)
    obtain ⟨_, _, _, _, _, t5, t6⟩ := seg_cells S6.out.blk
    clear hN6 hb6 hf1 S5 R5 HRD HZ5
    go_wp2_with fail
    obtain ⟨Y, hY⟩ : ∃ Y, Y = hdrS g ++ [z] := ⟨_, rfl⟩
    rw [← hY] at N6
    have hYl : Y.length = 14 := by rw [hY, List.length_append, hdrS_len]; rfl
    have HY := Lib.hid hY
    have HBL := Lib.hid (fun (i k : Nat) (b : List Nat) (h : g.opts[i]? = some (k, b)) => body_le h)
    rw [← HZ.out] at HBL
    clear hY
    go_loopw [7, 31] (fun bv iv wr => ∃ k : Nat, k ≤ n ∧ iv = .int .i64 k ∧ Hid (Nats wr 5 .u8 (T + 1) bv (Y ++ oBytes (g.opts.take k))) ∧ Hid (Blk wr T 56 (segCs g A n c D m d)) ∧ Below w.heap.size w wr) (fun _ iv _ => n - (intOf iv).toNat)
    case atStart => exact ⟨0, Nat.zero_le _, rfl, by simpa [oBytes] using N6, Lib.hid S6.out.blk, S6.out.bel⟩
    case round =>
      obtain ⟨k, hk, rfl, hN, hblk, hbw⟩ := hrel
      clear N6 S6
      obtain ⟨A7, n7, c7, rfl, _, hl7, hr7⟩ := hN.out.out
      have hTw : T + 1 ≤ wr.heap.size := hblk.out.lt
      have hszk : (oBytes (g.opts.take k)).length ≤ z := by rw [oBytes_len, HZ.out]; exact oSize_take _ _
      by_cases hlt : k < n
      · have hlt' : (k : Int) < (n : Int) := by omega
        obtain ⟨b, off, kd, q, rfl, hbb, p0, p1, hp, hq, hql⟩ := HO.out.at_ hlt
        have q0 := (hbw.cell (p := ⟨b, off + k * 2, none⟩) hbb).trans p0
        have q1 := (hbw.cell (p := ⟨b, off + k * 2 + 1, none⟩) hbb).trans p1
        have hp2 := osay_at hp
        rw [← HSAY.out] at hp2
        have hqz := HBL.out _ _ _ hp2
        have hst := oBytes_step hp2 Y
        obtain ⟨qA, qn, qc, ql⟩ := q
        dsimp only at *
        rw [hql.out] at hqz hst
        have HQ := Lib.hid (hq.out.below hbw)
        have HST := Lib.hid hst
        have wq : IntKind.u8.wrap (qn : Int) = (qn : Int) := by rw [IntKind.wrap_u8]; omega
        clear p0 p1 hp hp2 hst hq t5 t6
        go_wp2_with (at_builtin; go_must (refine appn pel8 rfl _ _ rfl rfl ((hN.out.alloc _).alloc _) rfl (Rd.lit (B := wr.heap.size + 2) [kd, qn] (by simp) (by simp) rfl rfl) ?_ ?_ ?_))
        · simp only [List.length_append, List.length_cons, List.length_nil, hYl]; exact room_ge (by omega)
        · simp; omega
        intro v8 w8 hN8 hg8 hb8
        have hbA : Below (T + 1) wr w8 := (((Below.refl _ _).alloc hTw _).alloc (by simp; omega) _).trans hb8
        have hpb := ((Blk.new wr 74 #[.int .u8 (kd : Int), .slice qA qn qc]).alloc (.cells #[.int .u8 (kd : Int), .int .u8 (qn : Int)] 5))
        have hne : some wr.heap.size ≠ (Value.slice A7 n7 c7).ownBlock := fun e => by have := (hN.out.lt wr.heap.size e.symm).2; omega
        have hpb2 : Blk w8 wr.heap.size 74 #[.int .u8 (kd : Int), .slice qA qn qc] := (hg8.block wr.heap.size hpb.lt hne).trans hpb
        have z1 : w8.cell? ⟨wr.heap.size, 1, none⟩ = some (.slice qA qn qc) := by rw [hpb2.cell]; rfl
        have N8 := Lib.hid hN8
        have hbw8 := hbw.trans (hbA.mono (by rw [← HT.out]; exact Nat.le_succ T))
        have BK8 := Lib.hid (hblk.out.below hbA (Nat.lt_succ_self T))
        have Q8 := Lib.hid (HQ.out.below (hbA.mono (by rw [← HT.out]; exact Nat.le_succ T)))
        have hT8 : T + 1 ≤ w8.heap.size := BK8.out.lt
        clear hN8 hg8 hb8 hpb hne hpb2 hbA hN hblk HQ hr7 hl7
        obtain ⟨A8, n8, c8, rfl, _, _, _⟩ := N8.out.out
        go_wp2_with (at_builtin; go_must (refine appn pel8 rfl _ _ rfl rfl N8.out rfl Q8.out (by simp only [List.length_append, List.length_cons, List.length_nil, hYl, hql.out]; exact room_ge (by omega)) hT8 ?_))
        intro v9 w9 hN9 _ hb9
        rw [← HST.out] at hN9
        have N9 := Lib.hid hN9
        have BK9 := Lib.hid (BK8.out.below hb9 (Nat.lt_succ_self T))
        have B9 := Lib.hid (hbw8.trans (hb9.mono (by rw [← HT.out]; exact Nat.le_succ T)))
        clear hN9 hb9 N8 Q8 BK8
        go_wp2_with fail
        go_roundw
        case rel => exact ⟨k + 1, by omega, by go_num, N9, BK9, B9.out⟩
        case measure => simp [intOf]; omega
      · have hge : ¬ (k : Int) < (n : Int) := by omega
        have hall : g.opts.take k = g.opts := List.take_of_length_le (by rw [HSAY.out]; unfold osay; rw [List.length_map, HO.out.len]; omega)
        have hN2 := hN.out
        rw [hall] at hN2
        have N2 := Lib.hid hN2
        rw [hall] at hszk
        obtain ⟨_, _, _, _, _, _, z6⟩ := seg_cells hblk.out
        have DD := Lib.hid (HD.out.below hbw)
        have hdl := HD.out.natLen
        clear hall hN2 hN t5 t6
        go_wp2_with (at_builtin; go_must (refine appn pel8 rfl _ _ rfl rfl N2.out rfl DD.out (by simp only [List.length_append, hYl]; exact room_ge (by omega)) hTw ?_))
        intro v9 w9 hN9 _ hb9
        have N9 := Lib.hid hN9
        have B9 := Lib.hid (hbw.trans (hb9.mono (by rw [← HT.out]; exact Nat.le_succ T)))
        clear hN9 hb9 N2 DD
        go_wp2
        go_ret2
        refine ⟨_, rfl, ?_, B9.out⟩
        rw [HA.out]
        unfold encS
        have h1 := N9.out.mono (show w.heap.size ≤ T + 1 by have := HT.out; omega)
        rw [HY.out, HZ.out] at h1
        simpa using h1
  · have h0' : ¬ (r : Int) = 0 := by omega
    have h0d : ((r : Int) == 0) = false := beq_eq_false_iff_ne.2 h0'
    have HA := Lib.hid (ansS_no (g := g) (by rw [← HRR.out]; exact h0))
    go_wp2_with fail
    go_ret2
    refine ⟨_, rfl, ?_, S1.out.bel⟩
    rw [HA.out]
    exact Nats.nil _ _ _ _
end Go.Proofs.Ytiabafnfiedlcaa
