/- Layer 7: the law SegWrites answers true, and nothing that was there has turned. -/
import Derived.Test.YtiabafnfiedlcaaOpenSg
import Derived.Test.YtiabafnfiedlcaaSg4
import Derived.Test.YtiabafnfiedlcaaSg9
namespace Go.Proofs.Ytiabafnfiedlcaa
open Go.RowKit
set_option linter.unusedVariables false
section
variable {P : Program} {ops : Array Oper} {wild : List Nat} {Q : Act → World → Prop} {rest : List (Oper × Nat × Kd)} {a : Act} {w : World} {o : Oper} {i : Nat}
/-- Bytes read as a string, ahead of the calls. -/
theorem o_conv {src dst e : TypeId} (hs : P.underlying src = some (.slice e)) (he : P.underlying e = some (.int .u8)) (hd : P.underlying dst = some .string) (x : Operand) (hw : Region.wanted o (yielded ops a.tmps) = true) (ho : o.op = .convert src dst x)
    {n c : Nat} {A : Option Addr} {l : List Nat} (hx : a.eval x = .slice A n c) (hr : Rd w w.heap.size 1 A n (ns .u8 l)) (h : WpO P ops wild Q rest (a.put o.dst (.string (strN l))) w) : WpO P ops wild Q ((o, i, .read) :: rest) a w := by
  refine o_read hw (fun w' hx' => ?_) h
  have hr' : Rd w' w.heap.size 1 A n (ns .u8 l) := ⟨hr.1, fun hn => by
    obtain ⟨b, off, e, hb, hc⟩ := hr.2 hn
    exact ⟨b, off, e, hb, fun j hj => by rw [hx'.cell hb]; exact hc j hj⟩⟩
  have := run_conv (c := c) hs he hd hr'
  simp [execOp, ho, hx, this, Result.andThen]
end
theorem cells7v {w : World} {T : Nat} {t : TypeId} {g : Sg} {A : Option Addr} {n c : Nat} {D : Option Addr} {m d : Nat} (h : Blk w T t (segCs g A n c D m d)) :
    ∀ j x, [Value.int .u16 (g.src : Int), .int .u16 (g.dst : Int), .int .u32 (g.seq : Int), .int .u32 (g.ack : Int), .int .u8 (g.flags : Int), .slice A n c, .slice D m d][j]? = some x → w.cell? ⟨T, 0 + j, none⟩ = some x := by
  intro j x hx
  rw [Nat.zero_add, h.cell]
  unfold segCs
  simpa using hx
set_option maxRecDepth 20000 in
set_option maxHeartbeats 4000000 in
theorem segWrites_walk (v : Value) (g : Sg) (w : World) (hv : SegV w v g) (hg : g.bd) :
    Calls Try.prog 5 #[v] w fun e w' => e = .returned (.bool true) ∧ Below w.heap.size w w' := by
  obtain ⟨A0, n0, c0, D0, m0, d0, l0, rfl, hO, ho, hD, hmd, hdm⟩ := hv
  have S0 := Lib.hid (SBox.mk' (d := d0) hO ho hD)
  have HMD := Lib.hid (And.intro hmd hdm)
  have HG := Lib.hid hg
  clear hO ho hD hmd hdm hg
  obtain ⟨s0, s1, s2, s3, s4, s5, s6⟩ := seg_cells S0.out.blk
  obtain ⟨r, hr⟩ : ∃ r, r = greatS g := ⟨_, rfl⟩
  have HGR := Lib.hid (great_any _ g _ (S0.out.val HMD.out.1 HMD.out.2))
  rw [← hr] at HGR
  have HRG := Lib.hid hr
  clear hr
  unfold segCs at *
  go_enter Try.func5, Try.ntmps5
  go_wp2_with fail
  refine HGR.out.mono ?_
  rintro e w1 ⟨rfl, hb1⟩
  have S1 := Lib.hid (S0.out.into hb1)
  clear HGR hb1 s0 s1 s2 s3 s4 s5 s6 S0
  cases r with
  | true =>
    go_wp2_with fail
    go_ret
    exact ⟨rfl, S1.out.bel⟩
  | false =>
  obtain ⟨hsm, _⟩ := greatS_small HRG.out.symm
  have HS := Lib.hid hsm
  clear hsm HRG
  obtain ⟨s0, s1, s2, s3, s4, s5, s6⟩ := seg_cells S1.out.blk
  unfold segCs at *
  go_wp2_with fail
  refine (encode_any _ g w1 (S1.out.val HMD.out.1 HMD.out.2) HS.out HG.out).mono ?_
  rintro e w2 ⟨v2, rfl, hN, hb2⟩
  have S2 := Lib.hid (S1.out.into hb2)
  clear hb2 s0 s1 s2 s3 s4 s5 s6 S1
  obtain ⟨A2, c2, rfl, _, _, H2'⟩ := own_form (show w2.ownsRow w1.heap.size 5 1 v2 _ _ from hN)
  have H2 := Lib.hid H2'
  clear hN H2'

  obtain ⟨s0, s1, s2, s3, s4, s5, s6⟩ := seg_cells S2.out.blk
  unfold segCs at *
  go_wp2_with fail
  refine (rencode_any _ g w2 (S2.out.val HMD.out.1 HMD.out.2) HS.out HG.out).mono ?_
  rintro e w3 ⟨v3, rfl, hN, hb3⟩
  have S3 := Lib.hid (S2.out.into hb3)
  have H2 := Lib.hid (H2.out.into hb3)
  clear hb3 s0 s1 s2 s3 s4 s5 s6 S2
  obtain ⟨A3, c3, rfl, _, _, H3'⟩ := own_form (show w3.ownsRow w2.heap.size 5 1 v3 _ _ from hN)
  have H3 := Lib.hid H3'
  clear hN H3'

  have HSELF := strN_self (ansS g)
  have HSELF2 := strN_self (hdrS g)
  generalize (ansS g).length = n2 at *
  generalize ansS g = x2 at *
  go_wp2_with fail
  refine wp_ord [(0, .pure), (1, .read), (2, .pure), (3, .read), (4, .pure), (5, .pure), (6, .pure), (7, .pure), (8, .pure), (9, .pure), (10, .pure), (11, .read), (13, .read), (12, .sole), (14, .sole), (15, .pure), (16, .pure), (17, .pure), (18, .read), (21, .read), (19, .sole), (20, .read), (22, .sole), (23, .read), (24, .pure), (25, .pure), (26, .pure), (27, .sole), (28, .pure), (29, .pure)] [] (by kernel_rfl) (by kernel_rfl) (fun QQ hQ wd hwd => ?_); simp only [List.map_cons, List.map_nil, List.getD_cons_zero, List.getD_cons_succ]
  have SD := Lib.hid (show SBox w wd w.heap.size g A0 n0 c0 D0 m0 d0 l0 by rw [hwd.out]; exact S3.out.into (Below.refl _ _).drew)
  have D2 := Lib.hid (show Rd wd wd.heap.size 1 A2 n2 (ns .u8 x2) by rw [hwd.out]; exact H2.out)
  have D3 := Lib.hid (show Rd wd wd.heap.size 1 A3 n2 (ns .u8 x2) by rw [hwd.out]; exact H3.out)
  clear hwd S3 H2 H3
  (refine o_pure (v := ?_) (by rfl) (fun w' => ?_) ?_; rotate_left; (focus (go_simp; (try with_reducible rfl))); (try simp only [Act.put, List.setIfInBounds_toArray, List.set_cons_zero, List.set_cons_succ]))
  (refine o_conv Try.underlying54 Try.underlying5 Try.underlying9 _ (by rfl) rfl rfl (D2.out) ?_; simp only [Act.put, List.setIfInBounds_toArray, List.set_cons_zero, List.set_cons_succ])
  (refine o_pure (v := ?_) (by rfl) (fun w' => ?_) ?_; rotate_left; (focus (go_simp; (try with_reducible rfl))); (try simp only [Act.put, List.setIfInBounds_toArray, List.set_cons_zero, List.set_cons_succ]))
  (refine o_conv Try.underlying54 Try.underlying5 Try.underlying9 _ (by rfl) rfl rfl (D3.out) ?_; simp only [Act.put, List.setIfInBounds_toArray, List.set_cons_zero, List.set_cons_succ])
  clear D2 D3
  (refine o_pure (v := ?_) (by rfl) (fun w' => ?_) ?_; rotate_left; (focus (go_simp; (try with_reducible rfl))); (try simp only [Act.put, List.setIfInBounds_toArray, List.set_cons_zero, List.set_cons_succ]))
  (refine o_pure (v := ?_) (by rfl) (fun w' => ?_) ?_; rotate_left; (focus (go_simp; (try with_reducible rfl))); (try simp only [Act.put, List.setIfInBounds_toArray, List.set_cons_zero, List.set_cons_succ]))
  (refine o_pure (v := ?_) (by rfl) (fun w' => ?_) ?_; rotate_left; (focus (go_simp; (try with_reducible rfl))); (try simp only [Act.put, List.setIfInBounds_toArray, List.set_cons_zero, List.set_cons_succ]))
  (refine o_pure (v := ?_) (by rfl) (fun w' => ?_) ?_; rotate_left; (focus (go_simp; (try with_reducible rfl))); (try simp only [Act.put, List.setIfInBounds_toArray, List.set_cons_zero, List.set_cons_succ]))
  (refine o_pure (v := ?_) (by rfl) (fun w' => ?_) ?_; rotate_left; (focus (go_simp; (try with_reducible rfl))); (try simp only [Act.put, List.setIfInBounds_toArray, List.set_cons_zero, List.set_cons_succ]))
  (refine o_pure (v := ?_) (by rfl) (fun w' => ?_) ?_; rotate_left; (focus (go_simp; (try with_reducible rfl))); (try simp only [Act.put, List.setIfInBounds_toArray, List.set_cons_zero, List.set_cons_succ]))
  (refine o_pure (v := ?_) (by rfl) (fun w' => ?_) ?_; rotate_left; (focus (go_simp; (try with_reducible rfl))); (try simp only [Act.put, List.setIfInBounds_toArray, List.set_cons_zero, List.set_cons_succ]))
  (refine o_loads _ [.int .u16 (g.src : Int), .int .u16 (g.dst : Int), .int .u32 (g.seq : Int), .int .u32 (g.ack : Int), .int .u8 (g.flags : Int), .slice A0 n0 c0, .slice D0 m0 d0] (by rfl) rfl rfl (cells7v SD.out.blk) (Nat.succ_pos _) (by kernel_rfl) (by kernel_rfl) ?_; simp only [Act.put, List.setIfInBounds_toArray, List.set_cons_zero, List.set_cons_succ])
  (refine o_loads _ [.int .u16 (g.src : Int), .int .u16 (g.dst : Int), .int .u32 (g.seq : Int), .int .u32 (g.ack : Int), .int .u8 (g.flags : Int), .slice A0 n0 c0, .slice D0 m0 d0] (by rfl) rfl rfl (cells7v SD.out.blk) (Nat.succ_pos _) (by kernel_rfl) (by kernel_rfl) ?_; simp only [Act.put, List.setIfInBounds_toArray, List.set_cons_zero, List.set_cons_succ])
  refine o_sole (fun K hK => ?_)
  go_wp2_with fail
  refine (right_any _ g wd (SD.out.val HMD.out.1 HMD.out.2) HS.out).mono ?_
  rintro e w4 ⟨rfl, hb⟩
  have S4 := Lib.hid (SD.out.into hb)
  go_wp2_with fail
  refine hK _ _ (fun _ => Ext.of hb) ?_; clear hK K
  clear hb SD
  refine o_sole (fun K hK => ?_)
  go_wp2_with fail
  refine (rright_any _ g w4 (S4.out.val HMD.out.1 HMD.out.2) HS.out).mono ?_
  rintro e w5 ⟨rfl, hb⟩
  have S5 := Lib.hid (S4.out.into hb)
  go_wp2_with fail
  refine hK _ _ (fun _ => Ext.of hb) ?_; clear hK K
  clear hb S4
  (refine o_pure (v := ?_) (by rfl) (fun w' => ?_) ?_; rotate_left; (focus (go_simp; (try with_reducible rfl))); (try simp only [Act.put, List.setIfInBounds_toArray, List.set_cons_zero, List.set_cons_succ]))
  (refine o_pure (v := ?_) (by rfl) (fun w' => ?_) ?_; rotate_left; (focus (go_simp; (try with_reducible rfl))); (try simp only [Act.put, List.setIfInBounds_toArray, List.set_cons_zero, List.set_cons_succ]))
  (refine o_pure (v := ?_) (by rfl) (fun w' => ?_) ?_; rotate_left; (focus (go_simp; (try with_reducible rfl))); (try simp only [Act.put, List.setIfInBounds_toArray, List.set_cons_zero, List.set_cons_succ]))
  (refine o_loads _ [.int .u16 (g.src : Int), .int .u16 (g.dst : Int), .int .u32 (g.seq : Int), .int .u32 (g.ack : Int), .int .u8 (g.flags : Int), .slice A0 n0 c0, .slice D0 m0 d0] (by rfl) rfl rfl (cells7v S5.out.blk) (Nat.succ_pos _) (by kernel_rfl) (by kernel_rfl) ?_; simp only [Act.put, List.setIfInBounds_toArray, List.set_cons_zero, List.set_cons_succ])
  (refine o_loads _ [.int .u16 (g.src : Int), .int .u16 (g.dst : Int), .int .u32 (g.seq : Int), .int .u32 (g.ack : Int), .int .u8 (g.flags : Int), .slice A0 n0 c0, .slice D0 m0 d0] (by rfl) rfl rfl (cells7v S5.out.blk) (Nat.succ_pos _) (by kernel_rfl) (by kernel_rfl) ?_; simp only [Act.put, List.setIfInBounds_toArray, List.set_cons_zero, List.set_cons_succ])
  refine o_sole (fun K hK => ?_)
  go_wp2_with fail
  refine (header_any _ g w5 (S5.out.val HMD.out.1 HMD.out.2) HG.out).mono ?_
  rintro e w6 ⟨v6, rfl, hN, hb⟩
  have S6 := Lib.hid (S5.out.into hb)
  obtain ⟨A6, c6, rfl, _, _, H6'⟩ := own_form (show w6.ownsRow w5.heap.size 5 1 v6 _ _ from hN)
  have H6 := Lib.hid H6'
  clear hN H6'
  go_wp2_with fail
  refine hK _ _ (fun _ => Ext.of hb) ?_; clear hK K
  clear hb S5
  (refine o_conv Try.underlying54 Try.underlying5 Try.underlying9 _ (by rfl) rfl rfl (H6.out) ?_; simp only [Act.put, List.setIfInBounds_toArray, List.set_cons_zero, List.set_cons_succ])
  clear H6
  refine o_sole (fun K hK => ?_)
  go_wp2_with fail
  refine (rheader_any _ g w6 (S6.out.val HMD.out.1 HMD.out.2) HG.out).mono ?_
  rintro e w7 ⟨v7, rfl, hN, hb⟩
  have S7 := Lib.hid (S6.out.into hb)
  obtain ⟨A7, c7, rfl, _, _, H7'⟩ := own_form (show w7.ownsRow w6.heap.size 5 1 v7 _ _ from hN)
  have H7 := Lib.hid H7'
  clear hN H7'
  go_wp2_with fail
  refine hK _ _ (fun _ => Ext.of hb) ?_; clear hK K
  clear hb S6
  (refine o_conv Try.underlying54 Try.underlying5 Try.underlying9 _ (by rfl) rfl rfl (H7.out) ?_; simp only [Act.put, List.setIfInBounds_toArray, List.set_cons_zero, List.set_cons_succ])
  clear H7
  (refine o_pure (v := ?_) (by rfl) (fun w' => ?_) ?_; rotate_left; (focus (go_simp; (try with_reducible rfl))); (try simp only [Act.put, List.setIfInBounds_toArray, List.set_cons_zero, List.set_cons_succ]))
  (refine o_pure (v := ?_) (by rfl) (fun w' => ?_) ?_; rotate_left; (focus (go_simp; (try with_reducible rfl))); (try simp only [Act.put, List.setIfInBounds_toArray, List.set_cons_zero, List.set_cons_succ]))
  (refine o_pure (v := ?_) (by rfl) (fun w' => ?_) ?_; rotate_left; (focus (go_simp; (try with_reducible rfl))); (try simp only [Act.put, List.setIfInBounds_toArray, List.set_cons_zero, List.set_cons_succ]))
  refine o_sole (fun K hK => ?_)
  go_wp2_with fail
  refine (alive_any w7).mono ?_
  rintro e w8 ⟨rfl, hb⟩
  have B8 := Lib.hid (S7.out.bel.trans (hb.mono S7.out.bel.size))
  go_wp2_with fail
  refine hK _ _ (fun _ => Ext.of hb) ?_; clear hK K
  clear hb S7
  (refine o_pure (v := ?_) (by rfl) (fun w' => ?_) ?_; rotate_left; (focus (go_simp; (try with_reducible rfl))); (try simp only [Act.put, List.setIfInBounds_toArray, List.set_cons_zero, List.set_cons_succ]))
  (refine o_pure (v := ?_) (by rfl) (fun w' => ?_) ?_; rotate_left; (focus (go_simp; (try with_reducible rfl))); (try simp only [Act.put, List.setIfInBounds_toArray, List.set_cons_zero, List.set_cons_succ]))
  refine o_nil (hQ.out _ _ ?_); clear hQ QQ
  go_wp2
  go_ret
  exact ⟨rfl, B8.out⟩

theorem segWrites_any (q : Array Value × Sg) (w : World) (hq : SegV w (.agg q.1) q.2 ∧ q.2.bd) :
    Calls Try.prog 5 #[.agg q.1] w fun e w' => e = .returned (.bool true) ∧ Below w.heap.size w w' := segWrites_walk _ q.2 w hq.1 hq.2
end Go.Proofs.Ytiabafnfiedlcaa
