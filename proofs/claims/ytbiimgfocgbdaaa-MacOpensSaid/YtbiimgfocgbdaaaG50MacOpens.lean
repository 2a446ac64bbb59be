/- Layer 10: the law MacOpens answers true, and nothing that was there has turned. -/
import Derived.Test.YtbiimgfocgbdaaaG45MacOpens
import Derived.Test.YtbiimgfocgbdaaaG40MacOpens
import Derived.Test.YtbiimgfocgbdaaaG46MacOpens
import Derived.Test.YtbiimgfocgbdaaaG44MacOpens
import Derived.Test.YtbiimgfocgbdaaaG47MacOpens
import Derived.Test.YtbiimgfocgbdaaaG48MacOpens
import Derived.Test.YtbiimgfocgbdaaaG41MacOpens
import Derived.Test.YtbiimgfocgbdaaaG28MacOpens
import Derived.Test.YtbiimgfocgbdaaaG49MacOpens
import Derived.Deep.Cut

namespace Go.Proofs.Ytbiimgfocgbdaaa
open Go.RowKit
set_option linter.unusedVariables false
set_option linter.unusedSimpArgs false
theorem cells_six {w : World} {ab o : Nat} {a0 a1 a2 a3 a4 a5 : Value} (h0 : w.cell? ⟨ab, o, none⟩ = some a0) (h1 : w.cell? ⟨ab, o + 1, none⟩ = some a1) (h2 : w.cell? ⟨ab, o + 2, none⟩ = some a2) (h3 : w.cell? ⟨ab, o + 3, none⟩ = some a3) (h4 : w.cell? ⟨ab, o + 4, none⟩ = some a4) (h5 : w.cell? ⟨ab, o + 5, none⟩ = some a5) : ∀ j v, [a0, a1, a2, a3, a4, a5][j]? = some v → w.cell? ⟨ab, o + j, none⟩ = some v := by
  intro j v hj
  match j, hj with
  | 0, hj => simp at hj; subst hj; exact h0
  | 1, hj => simp at hj; subst hj; exact h1
  | 2, hj => simp at hj; subst hj; exact h2
  | 3, hj => simp at hj; subst hj; exact h3
  | 4, hj => simp at hj; subst hj; exact h4
  | 5, hj => simp at hj; subst hj; exact h5
  | n + 6, hj => simp at hj
theorem neqR8 (f p : Bool) (sq ak wn t : Nat) (w : World) : (binOp .neq 58 (.agg #[.bool f, .bool p, .int .u64 (sq : Nat), .int .u64 (ak : Nat), .int .u32 (wn : Nat), .int .u64 (t : Nat)]) (.agg #[.bool f, .bool p, .int .u64 (sq : Nat), .int .u64 (ak : Nat), .int .u32 (wn : Nat), .int .u64 (t : Nat)])).run Try.prog w = .ok (.bool false) w := by
  have h : (Op.equalIn 10000 58 (.agg #[.bool f, .bool p, .int .u64 (sq : Nat), .int .u64 (ak : Nat), .int .u32 (wn : Nat), .int .u64 (t : Nat)]) (.agg #[.bool f, .bool p, .int .u64 (sq : Nat), .int .u64 (ak : Nat), .int .u32 (wn : Nat), .int .u64 (t : Nat)])).run Try.prog w = .ok true w := by
    rw [show (10000 : Nat) = 9999 + 1 from rfl, run_equalIn_agg w 9999 58 _ _ (by kernel_rfl) (by kernel_rfl)]
    simp [go_sem]
  rw [run_neq_struct, h]
  rfl
set_option maxRecDepth 20000 in
set_option maxHeartbeats 4000000 in
theorem macOpens_walk (k0 k1 : Nat) (v : Value) (g : Sg) (w : World) (h0 : k0 < 18446744073709551616) (h1 : k1 < 18446744073709551616) (hv : SegV w v g) (hg : g.bd) :
    Calls Try.prog 4 #[.agg #[.int .u64 (k0 : Nat), .int .u64 (k1 : Nat)], v] w fun e w' => e = .returned (.bool true) ∧ Below w.heap.size w w' := by
  have HS := Lib.hid hv
  obtain ⟨A1, n1, c1, D, m, d, l1, rfl, hO, ho, hD, hmd, hdm⟩ := hv
  have HG := Lib.hid hg
  clear hO ho hD hmd hdm hg
  unfold segCs at *
  (try dsimp only at *)
  go_enter Try.func4, Try.ntmps4
  go_upto_region 1 with fail
  have hk0 : Hid (Blk (w.alloc (.cells #[.int .u64 (k0 : Nat), .int .u64 (k1 : Nat)] 24)) (w.heap.size) 24 #[.int .u64 (k0 : Nat), .int .u64 (k1 : Nat)]) := Lib.hid ((Blk.new w 24 #[.int .u64 (k0 : Nat), .int .u64 (k1 : Nat)]))
  replace hk0 : Hid (Blk ((w.alloc (.cells #[.int .u64 (k0 : Nat), .int .u64 (k1 : Nat)] 24)).alloc (.cells #[.int .u16 (g.src : Int), .int .u16 (g.dst : Int), .int .u32 (g.seq : Int), .int .u32 (g.ack : Int), .int .u8 (g.flags : Int), .slice A1 n1 c1, .slice D m d] 30)) (w.heap.size) 24 #[.int .u64 (k0 : Nat), .int .u64 (k1 : Nat)]) := Lib.hid (hk0.out.alloc _)
  have hk1 : Hid (Blk ((w.alloc (.cells #[.int .u64 (k0 : Nat), .int .u64 (k1 : Nat)] 24)).alloc (.cells #[.int .u16 (g.src : Int), .int .u16 (g.dst : Int), .int .u32 (g.seq : Int), .int .u32 (g.ack : Int), .int .u8 (g.flags : Int), .slice A1 n1 c1, .slice D m d] 30)) (w.heap.size + 1) 30 #[.int .u16 (g.src : Int), .int .u16 (g.dst : Int), .int .u32 (g.seq : Int), .int .u32 (g.ack : Int), .int .u8 (g.flags : Int), .slice A1 n1 c1, .slice D m d]) := Lib.hid ((Blk.new (w.alloc (.cells #[.int .u64 (k0 : Nat), .int .u64 (k1 : Nat)] 24)) 30 #[.int .u16 (g.src : Int), .int .u16 (g.dst : Int), .int .u32 (g.seq : Int), .int .u32 (g.ack : Int), .int .u8 (g.flags : Int), .slice A1 n1 c1, .slice D m d]) |> fun h => by simpa using h)
  have b1 : Hid (Below w.heap.size w ((w.alloc (.cells #[.int .u64 (k0 : Nat), .int .u64 (k1 : Nat)] 24)).alloc (.cells #[.int .u16 (g.src : Int), .int .u16 (g.dst : Int), .int .u32 (g.seq : Int), .int .u32 (g.ack : Int), .int .u8 (g.flags : Int), .slice A1 n1 c1, .slice D m d] 30))) := Lib.hid (((Below.refl w.heap.size w).alloc (Nat.le_refl _) (.cells #[.int .u64 (k0 : Nat), .int .u64 (k1 : Nat)] 24)).alloc (by simp <;> omega) (.cells #[.int .u16 (g.src : Int), .int .u16 (g.dst : Int), .int .u32 (g.seq : Int), .int .u32 (g.ack : Int), .int .u8 (g.flags : Int), .slice A1 n1 c1, .slice D m d] 30))
  have hz : ((w.alloc (.cells #[.int .u64 (k0 : Nat), .int .u64 (k1 : Nat)] 24)).alloc (.cells #[.int .u16 (g.src : Int), .int .u16 (g.dst : Int), .int .u32 (g.seq : Int), .int .u32 (g.ack : Int), .int .u8 (g.flags : Int), .slice A1 n1 c1, .slice D m d] 30)).heap.size = w.heap.size + 2 := by simp
  generalize ((w.alloc (.cells #[.int .u64 (k0 : Nat), .int .u64 (k1 : Nat)] 24)).alloc (.cells #[.int .u16 (g.src : Int), .int .u16 (g.dst : Int), .int .u32 (g.seq : Int), .int .u32 (g.ack : Int), .int .u8 (g.flags : Int), .slice A1 n1 c1, .slice D m d] 30)) = w2 at hk0 hk1 b1 hz ⊢
  have HZ := Lib.hid hz
  clear hz
  replace HS := Lib.hid (HS.out.into b1.out)
  have KB := hk0
  have KS := hk1
  clear hk0 hk1 HZ
  obtain ⟨p0, p1⟩ := ptc2 KB.out
  obtain ⟨s0, s1, s2, s3, s4, s5, s6⟩ := seg_cells KS.out
  go_wp2_with fail
  clear p0 p1 s0 s1 s2 s3 s4 s5 s6
  refine (great_any _ g w2 HS.out).mono ?_
  rintro e w3 ⟨rfl, hb3⟩
  replace KB := Lib.hid (KB.out.below hb3 KB.out.lt)
  replace KS := Lib.hid (KS.out.below hb3 KS.out.lt)
  replace HS := Lib.hid (HS.out.into hb3)
  replace b1 := Lib.hid (b1.out.trans (hb3.mono b1.out.size))
  clear hb3
  cases hgr : greatS g with
  | true =>
    clear hgr
    go_wp2_with fail
    go_ret
    exact ⟨rfl, b1.out⟩
  | false =>
  obtain ⟨hsm, hq1, hq2, hq3⟩ := greatS_small hgr
  have HM := Lib.hid hsm
  clear hgr hsm hq1 hq2 hq3
  obtain ⟨p0, p1⟩ := ptc2 KB.out
  obtain ⟨s0, s1, s2, s3, s4, s5, s6⟩ := seg_cells KS.out
  go_wp2_with fail
  clear p0 p1 s0 s1 s2 s3 s4 s5 s6
  refine (mopen_any k0 k1 _ g w3 h0 h1 HS.out HG.out HM.out).mono ?_
  rintro e w4 ⟨⟨f, p, sq, ak, wn, t, ok, rfl, hR⟩, hb4⟩
  have HR := Lib.hid hR
  clear hR
  replace KB := Lib.hid (KB.out.below hb4 KB.out.lt)
  replace KS := Lib.hid (KS.out.below hb4 KS.out.lt)
  replace HS := Lib.hid (HS.out.into hb4)
  replace b1 := Lib.hid (b1.out.trans (hb4.mono b1.out.size))
  clear hb4
  go_upto_region 4 with fail
  have hbA := (Below.refl w4.heap.size w4).alloc (Nat.le_refl _) (.cells #[.bool f, .bool p, .int .u64 (sq : Nat), .int .u64 (ak : Nat), .int .u32 (wn : Nat), .int .u64 (t : Nat)] 38)
  have KD := Lib.hid (Blk.new w4 38 #[.bool f, .bool p, .int .u64 (sq : Nat), .int .u64 (ak : Nat), .int .u32 (wn : Nat), .int .u64 (t : Nat)])
  replace KB := Lib.hid (KB.out.below hbA KB.out.lt)
  replace KS := Lib.hid (KS.out.below hbA KS.out.lt)
  replace HS := Lib.hid (HS.out.into hbA)
  replace b1 := Lib.hid (b1.out.trans (hbA.mono b1.out.size))
  clear hbA
  obtain ⟨xd, hX⟩ : ∃ x, x = w4.heap.size := ⟨_, rfl⟩
  rw [← hX] at KD ⊢
  clear hX
  generalize w4.alloc (.cells #[.bool f, .bool p, .int .u64 (sq : Nat), .int .u64 (ak : Nat), .int .u32 (wn : Nat), .int .u64 (t : Nat)] 38) = w5 at *
  obtain ⟨p0, p1⟩ := ptc2 KB.out
  obtain ⟨s0, s1, s2, s3, s4, s5, s6⟩ := seg_cells KS.out
  go_wp2_with fail
  clear p0 p1 s0 s1 s2 s3 s4 s5 s6
  refine (ropen_any k0 k1 _ g w5 h0 h1 HS.out HG.out HM.out).mono ?_
  rintro e w6 ⟨⟨f', p', sq', ak', wn', t', ok', rfl, hR⟩, hb6⟩
  obtain ⟨e1, e2, e3, e4, e5, e6, e7⟩ := HR.out.one hR
  subst e1 e2 e3 e4 e5 e6 e7
  clear hR
  replace KB := Lib.hid (KB.out.below hb6 KB.out.lt)
  replace KS := Lib.hid (KS.out.below hb6 KS.out.lt)
  replace KD := Lib.hid (KD.out.below hb6 KD.out.lt)
  replace HS := Lib.hid (HS.out.into hb6)
  replace b1 := Lib.hid (b1.out.trans (hb6.mono b1.out.size))
  clear hb6
  go_upto_region 5 with fail
  have hbA := (Below.refl w6.heap.size w6).alloc (Nat.le_refl _) (.cells #[.bool f, .bool p, .int .u64 (sq : Nat), .int .u64 (ak : Nat), .int .u32 (wn : Nat), .int .u64 (t : Nat)] 58)
  have KE := Lib.hid (Blk.new w6 58 #[.bool f, .bool p, .int .u64 (sq : Nat), .int .u64 (ak : Nat), .int .u32 (wn : Nat), .int .u64 (t : Nat)])
  replace KB := Lib.hid (KB.out.below hbA KB.out.lt)
  replace KS := Lib.hid (KS.out.below hbA KS.out.lt)
  replace KD := Lib.hid (KD.out.below hbA KD.out.lt)
  replace HS := Lib.hid (HS.out.into hbA)
  replace b1 := Lib.hid (b1.out.trans (hbA.mono b1.out.size))
  clear hbA
  obtain ⟨xe, hX⟩ : ∃ x, x = w6.heap.size := ⟨_, rfl⟩
  rw [← hX] at KE ⊢
  clear hX
  generalize w6.alloc (.cells #[.bool f, .bool p, .int .u64 (sq : Nat), .int .u64 (ak : Nat), .int .u32 (wn : Nat), .int .u64 (t : Nat)] 58) = w7 at *
  obtain ⟨x0, x1, x2, x3, x4, x5⟩ := ptc6 KD.out
  go_upto_region 6 with fail
  clear x0 x1 x2 x3 x4 x5
  have hbA := (Below.refl w7.heap.size w7).alloc (Nat.le_refl _) (.cells #[.bool f, .bool p, .int .u64 (sq : Nat), .int .u64 (ak : Nat), .int .u32 (wn : Nat), .int .u64 (t : Nat)] 58)
  have KF := Lib.hid (Blk.new w7 58 #[.bool f, .bool p, .int .u64 (sq : Nat), .int .u64 (ak : Nat), .int .u32 (wn : Nat), .int .u64 (t : Nat)])
  replace KB := Lib.hid (KB.out.below hbA KB.out.lt)
  replace KS := Lib.hid (KS.out.below hbA KS.out.lt)
  replace KD := Lib.hid (KD.out.below hbA KD.out.lt)
  replace KE := Lib.hid (KE.out.below hbA KE.out.lt)
  replace HS := Lib.hid (HS.out.into hbA)
  replace b1 := Lib.hid (b1.out.trans (hbA.mono b1.out.size))
  clear hbA
  obtain ⟨xf, hX⟩ : ∃ x, x = w7.heap.size := ⟨_, rfl⟩
  rw [← hX] at KF ⊢
  clear hX
  generalize w7.alloc (.cells #[.bool f, .bool p, .int .u64 (sq : Nat), .int .u64 (ak : Nat), .int .u32 (wn : Nat), .int .u64 (t : Nat)] 58) = w8 at *
  obtain ⟨p0, p1⟩ := ptc2 KB.out
  obtain ⟨s0, s1, s2, s3, s4, s5, s6⟩ := seg_cells KS.out
  go_wp2_with fail
  clear p0 p1 s0 s1 s2 s3 s4 s5 s6
  refine (mwords_any k0 k1 _ g w8 h0 h1 HS.out HG.out HM.out).mono ?_
  rintro e w9 ⟨⟨v9, ws, rfl, hW, hwd⟩, hb9⟩
  have HW := Lib.hid hW
  have HWD := Lib.hid hwd
  clear hW hwd
  replace KB := Lib.hid (KB.out.below hb9 KB.out.lt)
  replace KS := Lib.hid (KS.out.below hb9 KS.out.lt)
  replace KE := Lib.hid (KE.out.below hb9 KE.out.lt)
  replace KF := Lib.hid (KF.out.below hb9 KF.out.lt)
  replace HS := Lib.hid (HS.out.into hb9)
  replace b1 := Lib.hid (b1.out.trans (hb9.mono b1.out.size))
  clear hb9
  obtain ⟨A5, n5, c5, rfl, hc5, hl5, _⟩ := HW.out.out
  obtain ⟨p0, p1⟩ := ptc2 KB.out
  obtain ⟨s0, s1, s2, s3, s4, s5, s6⟩ := seg_cells KS.out
  go_wp2_with fail
  clear p0 p1 s0 s1 s2 s3 s4 s5 s6
  refine (rwords_any k0 k1 _ g w9 h0 h1 HS.out HG.out HM.out).mono ?_
  rintro e w10 ⟨⟨A6, n6, c6, lw, rfl, hOs, hsay⟩, hb10⟩
  obtain rfl : n5 = n6 := by
    have q1 := HWD.out.1
    rw [← hsay] at q1
    unfold osay at q1
    rw [List.length_map, hOs.len, hl5.out] at q1
    exact q1
  have HOs := Lib.hid hOs
  have HSay := Lib.hid hsay
  clear hOs hsay
  replace KE := Lib.hid (KE.out.below hb10 KE.out.lt)
  replace KF := Lib.hid (KF.out.below hb10 KF.out.lt)
  replace HW := Lib.hid (HW.out.below hb10)
  replace b1 := Lib.hid (b1.out.trans (hb10.mono b1.out.size))
  clear hb10
  clear KB KS HS KD
  obtain ⟨x0, x1, x2, x3, x4, x5⟩ := ptc6 KE.out
  obtain ⟨y0, y1, y2, y3, y4, y5⟩ := ptc6 KF.out
  have hnR := neqR8 f p sq ak wn t
  go_wp2_with fail
  clear x0 x1 x2 x3 x4 x5 y0 y1 y2 y3 y4 y5 hnR
  have hn5 : n5 ≤ 10000 := by rw [← hl5.out, HWD.out.1]; exact Nat.le_trans (List.length_filter_le _ _) HM.out.opts
  go_loopw [12] (fun iv wr => ∃ i : Nat, i ≤ n5 ∧ iv = .int .i64 (i : Nat) ∧ Hid (Below w10.heap.size w10 wr)) (fun iv _ => n5 - (intOf iv).toNat)
  case atStart => exact ⟨0, Nat.zero_le _, rfl, Lib.hid (Below.refl _ _)⟩
  case round =>
    obtain ⟨i, hi, rfl, hbw⟩ := hrel
    by_cases hlt : i < n5
    · have HLT := Lib.hid hlt
      have hlt' : (i : Int) < (n5 : Int) := by omega
      obtain ⟨A5', n5', c5', eV, _, hl5', hR5⟩ := HW.out.out
      injection eV with eV1 eV2 eV3
      subst eV1 eV2 eV3
      obtain ⟨ab, ao, kd, nm, id, pa, bk, t, eA, hab, q0, q1, q2, q3, q4, q5, hx⟩ := (hR5.out.into hbw.out).wd hlt
      obtain ⟨ab2, ao2, ko, qq, eB, hab2, r0, r1, hp, hr, hrl⟩ := (HOs.out.into hbw.out).at_ hlt
      obtain ⟨qA, qn, qc, ql⟩ := qq
      dsimp only at *
      have hy := HWD.out.2 i _ _ hx.out (by rw [← HSay.out]; exact osay_at hp)
      obtain ⟨g1, g2, _⟩ := hy
      have g1 : kd = ko := g1
      subst g1
      have HWI := Lib.hid g2
      have RQ : Hid (Rd wr wr.heap.size 1 qA qn (ns .u8 (wordB nm id pa bk t))) := Lib.hid (by have := hr.out; rw [show ql = _ from g2.hb] at this; exact this)
      have EA := Lib.hid eA
      have EB := Lib.hid eB
      have C0 := Lib.hid q0
      have C1 := Lib.hid q1
      have C2 := Lib.hid q2
      have C3 := Lib.hid q3
      have C4 := Lib.hid q4
      have C5 := Lib.hid q5
      have D0 := Lib.hid r0
      have D1 := Lib.hid r1
      clear q0 q1 q2 q3 q4 q5 r0 r1 hx hp hr hrl g2 eA eB hl5' hR5 hlt
      go_upto_region 13 with fail
      refine GH.wp_ghl (M := false) 11 ((GH.SP.eq (.slice A5 n5 c5)) :: (GH.SP.eq (.int .i64 (i : Nat))) :: (GH.SP.eq (.pointer (some ⟨ab, ao + i * 6, none⟩))) :: (GH.SP.eq (.agg #[.int .u8 (kd : Nat), .int .u32 (nm : Nat), .int .u8 (id : Nat), .int .u8 (pa : Nat), .bool bk, .int .u64 (t : Nat)])) :: (GH.SP.opt kd (wordB nm id pa bk t)) :: (GH.SP.eq (.slice A6 n5 c6)) :: (GH.SP.eq (.int .i64 (i : Nat))) :: (GH.SP.eq (.pointer (some ⟨ab2, ao2 + i * 2, none⟩))) :: (GH.SP.eq (.agg #[.int .u8 (kd : Nat), .slice qA qn qc])) :: (GH.SP.eq (.bool true)) :: (GH.SP.eq (.bool false)) :: []) (none :: none :: none :: none :: none :: none :: none :: none :: none :: none :: none :: none :: none :: none :: none :: none :: none :: none :: none :: none :: none :: none :: none :: none :: none :: none :: none :: none :: none :: none :: none :: none :: none :: none :: none :: none :: none :: none :: none :: none :: none :: none :: none :: none :: none :: none :: none :: none :: none :: none :: none :: none :: none :: none :: none :: none :: none :: none :: none :: none :: none :: none :: none :: none :: none :: none :: none :: none :: (some 0) :: (some 1) :: (some 2) :: (some 3) :: (some 4) :: (some 5) :: (some 6) :: (some 7) :: (some 8) :: (some 9) :: (some 10) :: none :: []) [68, 69, 70, 71, 72, 73, 74, 75, 76, 77, 78] (by rfl) (by kernel_rfl) (by kernel_rfl) ?_ ?_ ?_
      · intro S jx v hjx
        match jx, hjx with
        | 0, _ => rfl
        | 1, _ => rfl
        | 2, _ => rfl
        | 3, _ => rfl
        | 4, _ => rfl
        | 5, _ => rfl
        | 6, _ => rfl
        | 7, _ => rfl
        | 8, _ => rfl
        | 9, _ => rfl
        | 10, _ => rfl
        | nx + 11, hjx => omega
      · intro jx hjx S w' hb hd
        match jx, hjx, hd with
        | 0, _, hd =>
          simp only [GH.mkL, List.getD_cons_succ, List.getD_cons_zero]
          clear hd
          refine GH.st_eq (by rfl) ?_
          go_simp
          (try with_reducible rfl)
        | 1, _, hd =>
          simp only [GH.mkL, List.getD_cons_succ, List.getD_cons_zero]
          clear hd
          refine GH.st_eq (by rfl) ?_
          go_simp
          (try with_reducible rfl)
        | 2, _, hd =>
          simp only [GH.mkL, List.getD_cons_succ, List.getD_cons_zero]
          have d0 : S 0 = .slice A5 n5 c5 := (hd 0 (by kernel_rfl)).2
          rw [d0]
          clear d0
          have d1 : S 1 = .int .i64 (i : Nat) := (hd 1 (by kernel_rfl)).2
          rw [d1]
          clear d1
          clear hd
          refine GH.st_eq (by rfl) ?_
          rw [EA.out]
          go_simp
          (try with_reducible rfl)
        | 3, _, hd =>
          simp only [GH.mkL, List.getD_cons_succ, List.getD_cons_zero]
          have d2 : S 2 = .pointer (some ⟨ab, ao + i * 6, none⟩) := (hd 2 (by kernel_rfl)).2
          rw [d2]
          clear d2
          clear hd
          exact GH.st_loads _ [.int .u8 (kd : Nat), .int .u32 (nm : Nat), .int .u8 (id : Nat), .int .u8 (pa : Nat), .bool bk, .int .u64 (t : Nat)] (by rfl) rfl rfl (cells_six (hb.at_ hab C0.out) (hb.at_ hab C1.out) (hb.at_ hab C2.out) (hb.at_ hab C3.out) (hb.at_ hab C4.out) (hb.at_ hab C5.out)) (by kernel_rfl) (by kernel_rfl)
        | 4, _, hd =>
          simp only [GH.mkL, List.getD_cons_succ, List.getD_cons_zero]
          have d3 : S 3 = .agg #[.int .u8 (kd : Nat), .int .u32 (nm : Nat), .int .u8 (id : Nat), .int .u8 (pa : Nat), .bool bk, .int .u64 (t : Nat)] := (hd 3 (by kernel_rfl)).2
          rw [d3]
          clear d3
          clear hd
          refine GH.st_call (by rfl) hb.below.size (by go_simp) ((wordOpt_any kd nm id pa t bk w' HWI.out.hnm HWI.out.hid HWI.out.hpa HWI.out.ht).mono ?_)
          rintro e w9 ⟨⟨v, rfl, hN⟩, hb9⟩
          exact ⟨_, rfl, hb9, (GH.opt_of hN)⟩
        | 5, _, hd =>
          simp only [GH.mkL, List.getD_cons_succ, List.getD_cons_zero]
          clear hd
          refine GH.st_eq (by rfl) ?_
          go_simp
          (try with_reducible rfl)
        | 6, _, hd =>
          simp only [GH.mkL, List.getD_cons_succ, List.getD_cons_zero]
          clear hd
          refine GH.st_eq (by rfl) ?_
          go_simp
          (try with_reducible rfl)
        | 7, _, hd =>
          simp only [GH.mkL, List.getD_cons_succ, List.getD_cons_zero]
          have d5 : S 5 = .slice A6 n5 c6 := (hd 5 (by kernel_rfl)).2
          rw [d5]
          clear d5
          have d6 : S 6 = .int .i64 (i : Nat) := (hd 6 (by kernel_rfl)).2
          rw [d6]
          clear d6
          clear hd
          refine GH.st_eq (by rfl) ?_
          rw [EB.out]
          go_simp
          (try with_reducible rfl)
        | 8, _, hd =>
          simp only [GH.mkL, List.getD_cons_succ, List.getD_cons_zero]
          have d7 : S 7 = .pointer (some ⟨ab2, ao2 + i * 2, none⟩) := (hd 7 (by kernel_rfl)).2
          rw [d7]
          clear d7
          clear hd
          exact GH.st_loads _ [.int .u8 (kd : Nat), .slice qA qn qc] (by rfl) rfl rfl (cells_two (hb.at_ hab2 D0.out) (hb.at_ hab2 D1.out)) (by kernel_rfl) (by kernel_rfl)
        | 9, _, hd =>
          simp only [GH.mkL, List.getD_cons_succ, List.getD_cons_zero]
          obtain ⟨A4, n4, c4, d4, e4, m4, H4⟩ := (hd 4 (by kernel_rfl)).2
          rw [d4]
          clear d4
          replace H4 := Lib.hid H4
          have d8 : S 8 = .agg #[.int .u8 (kd : Nat), .slice qA qn qc] := (hd 8 (by kernel_rfl)).2
          rw [d8]
          clear d8
          clear hd
          refine GH.st_call (by rfl) hb.below.size (by go_simp) ((sameo_any kd A4 qA n4 c4 qn qc _ w' H4.out (hb.rd RQ.out)).mono ?_)
          rintro e w9 ⟨rfl, hb9⟩
          exact ⟨_, rfl, hb9, rfl⟩
        | 10, _, hd =>
          simp only [GH.mkL, List.getD_cons_succ, List.getD_cons_zero]
          have d9 : S 9 = .bool true := (hd 9 (by kernel_rfl)).2
          rw [d9]
          clear d9
          clear hd
          refine GH.st_eq (by rfl) ?_
          go_simp
          (try with_reducible rfl)
        | nx + 11, hjx, _ => omega
      intro S w' hb hG
      simp only [GH.mkL, List.drop_succ_cons, List.drop_zero]
      have d10 : S 10 = .bool false := hG 10 (by omega)
      rw [d10]
      clear d10
      clear hG
      have hb7 : Below wr.heap.size wr w' := hb.below
      have B7 := Lib.hid (hbw.out.trans (hb7.mono hbw.out.size))
      clear hbw hb7 hb HWI RQ C0 C1 C2 C3 C4 C5 D0 D1
      generalize w' = w11 at *
      refine wpList_nil ?_
      go_wp2_with fail
      go_roundw
      case rel => exact ⟨i + 1, by have := HLT.out; omega, by go_num, B7⟩
      case measure => have := HLT.out; simp [intOf]; omega
    · obtain rfl : n5 = i := by omega
      have BF := Lib.hid (b1.out.trans (hbw.out.mono b1.out.size))
      clear hbw
      go_wp2_with fail
      refine (alive10_any wr).mono ?_
      rintro e w11 ⟨rfl, hb11⟩
      have BG := Lib.hid (BF.out.trans (hb11.mono BF.out.size))
      clear hb11
      go_wp2_with fail
      go_ret
      exact ⟨rfl, BG.out⟩
end Go.Proofs.Ytbiimgfocgbdaaa
