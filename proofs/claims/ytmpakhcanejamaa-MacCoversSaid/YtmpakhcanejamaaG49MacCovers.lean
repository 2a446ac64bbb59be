/- Layer 10: the law MacCovers answers true, and nothing that was there has turned. -/
import Derived.Test.YtmpakhcanejamaaG47MacCovers
import Derived.Test.YtmpakhcanejamaaOrdF
import Derived.Deep.Cut

namespace Go.Proofs.Ytmpakhcanejamaa
open Go.RowKit
set_option linter.unusedVariables false
set_option linter.unusedSimpArgs false
/-- Bytes as a text. -/
theorem GH.st_conv {P : Program} {M : Bool} {B : Nat} {ops : Array Oper} {o : Oper} {a : Act} {w : World} {src dst e : TypeId} (hs : P.underlying src = some (.slice e)) (he : P.underlying e = some (.int .u8)) (hd : P.underlying dst = some .string) (x : Operand) (hw : Region.wanted o (yielded ops a.tmps) = true) (ho : o.op = .convert src dst x)
    {n c : Nat} {A : Option Addr} {l : List Nat} (hx : a.eval x = .slice A n c) (hr : Rd w w.heap.size 1 A n (Go.Proofs.Ytmpakhcanejamaa.ns .u8 l)) : GH.St P M B ops o a w (GH.SP.eq (.string (strN l))) := by
  refine GH.st_eq hw ?_
  have := run_conv (c := c) hs he hd hr
  simp [execOp, ho, hx, this, Result.andThen]
theorem hdrS_inj {g g' : Sg} (h : g.bd) (h' : g'.bd) (e : hdrS g = hdrS g') : g.src = g'.src ∧ g.dst = g'.dst ∧ g.seq = g'.seq ∧ g.ack = g'.ack ∧ g.flags = g'.flags := by
  unfold hdrS at e
  have e1 := List.append_inj e (by simp [be_len])
  have e2 := List.append_inj e1.1 (by simp [be_len])
  have e3 := List.append_inj e2.1 (by simp [be_len])
  have e4 := List.append_inj e3.1 (by simp [be_len])
  refine ⟨be_eq e4.1 h.src h'.src, be_eq e4.2 h.dst h'.dst, be_eq e3.2 h.seq h'.seq, be_eq e2.2 h.ack h'.ack, by simpa using e1.2⟩
def sameC (g g' : Sg) (k k' : Nat) (l l' : List Nat) : Prop := (g.src = g'.src ∧ g.dst = g'.dst ∧ g.seq = g'.seq ∧ g.ack = g'.ack ∧ g.flags = g'.flags) ∧ (k = k' ∧ l.take (l.length - 8) = l'.take (l'.length - 8)) ∧ g.data = g'.data
theorem cover_iff {g g' : Sg} {k k' : Nat} {l l' : List Nat} (h : g.bd) (h' : g'.bd) (hl : 8 ≤ l.length) (hl' : 8 ≤ l'.length) (hm : l.length ≤ 255) (hm' : l'.length ≤ 255) : coverL g k l = coverL g' k' l' ↔ sameC g g' k k' l l' := by
  rw [coverL_eq, coverL_eq]
  constructor
  · intro e
    simp only [List.append_assoc] at e
    have e1 := List.append_inj e (by simp [hdrS_len])
    have e2 := List.append_inj e1.2 (by simp)
    have e3 := e2.1
    simp only [List.cons.injEq, and_true] at e3
    have hll : l.length = l'.length := by omega
    have e4 := List.append_inj e2.2 (by simp; omega)
    have e5 := List.append_inj e4.2 (by simp [be_len])
    exact ⟨hdrS_inj h h' e1.1, ⟨e3.1, e4.1⟩, e5.2⟩
  · rintro ⟨⟨h1, h2, h3, h4, h5⟩, ⟨rfl, e⟩, hd⟩
    have hll : l.length = l'.length := by
      have := congrArg List.length e
      simp at this
      omega
    have hh : hdrS g = hdrS g' := by unfold hdrS; rw [h1, h2, h3, h4, h5]
    rw [hh, e, hd, hll]
theorem nat_beq (a b : Nat) : ((a : Int) == (b : Int)) = decide (a = b) := by
  rw [Bool.eq_iff_iff, beq_iff_eq, decide_eq_true_eq]
  omega
set_option maxRecDepth 20000 in
set_option maxHeartbeats 4000000 in
theorem macCovers_walk (v1 v2 : Value) (g1 g2 : Sg) (ka kb na ca nb cb : Nat) (Aa Ab : Option Addr) (la lb : List Nat) (w : World) (hv1 : SegV w v1 g1) (hg1 : g1.bd) (hv2 : SegV w v2 g2) (hg2 : g2.bd) (hka : ka < 256) (hkb : kb < 256) (ha : Rd w w.heap.size 1 Aa na (ns .u8 la)) (hna : na ≤ ca) (hb8a : ∀ x ∈ la, x < 256) (hbR : Rd w w.heap.size 1 Ab nb (ns .u8 lb)) (hnb : nb ≤ cb) (hb8b : ∀ x ∈ lb, x < 256) :
    Calls Try.prog 6 #[v1, v2, .agg #[.int .u8 (ka : Nat), .slice Aa na ca, .int .u8 (kb : Nat), .slice Ab nb cb]] w fun e w' => e = .returned (.bool true) ∧ Below w.heap.size w w' := by
  have HS1 := Lib.hid hv1
  have HS2 := Lib.hid hv2
  obtain ⟨Ap1, np1, cp1, Dp1, mp1, dp1, l1, rfl, hO1, ho1, hD1, hmd1, hdm1⟩ := hv1
  obtain ⟨Ap2, np2, cp2, Dp2, mp2, dp2, l2, rfl, hO2, ho2, hD2, hmd2, hdm2⟩ := hv2
  have HD1 := Lib.hid hD1
  have HD2 := Lib.hid hD2
  have HL1 := Lib.hid hD1.natLen
  have HL2 := Lib.hid hD2.natLen
  have HLA := Lib.hid ha.natLen
  have HLB := Lib.hid hbR.natLen
  have HRA := Lib.hid ha
  have HRB := Lib.hid hbR
  have HG1 := Lib.hid hg1
  have HG2 := Lib.hid hg2
  have H8A := Lib.hid hb8a
  have H8B := Lib.hid hb8b
  clear hO1 ho1 hD1 hdm1 hO2 ho2 hD2 hdm2 ha hbR hg1 hg2 hb8a hb8b
  unfold segCs at *
  obtain ⟨big, hbig⟩ : ∃ b : Bool, b = (decide (na < 8) || decide (nb < 8) || decide (255 < na) || decide (255 < nb) || decide (2000 < mp1) || decide (2000 < mp2)) := ⟨_, rfl⟩
  have HBG := Lib.hid hbig
  obtain ⟨hd, hhd⟩ : ∃ b : Bool, b = decide (g1.src = g2.src ∧ g1.dst = g2.dst ∧ g1.seq = g2.seq ∧ g1.ack = g2.ack ∧ g1.flags = g2.flags) := ⟨_, rfl⟩
  have HHD := Lib.hid hhd
  clear hbig hhd
  go_enter Try.func6, Try.ntmps6
  go_upto_region 1 with fail
  have hk0 : Hid (Blk (w.alloc (.cells #[.int .u16 (g1.src : Int), .int .u16 (g1.dst : Int), .int .u32 (g1.seq : Int), .int .u32 (g1.ack : Int), .int .u8 (g1.flags : Int), .slice Ap1 np1 cp1, .slice Dp1 mp1 dp1] 30)) (w.heap.size) 30 #[.int .u16 (g1.src : Int), .int .u16 (g1.dst : Int), .int .u32 (g1.seq : Int), .int .u32 (g1.ack : Int), .int .u8 (g1.flags : Int), .slice Ap1 np1 cp1, .slice Dp1 mp1 dp1]) := Lib.hid ((Blk.new w 30 #[.int .u16 (g1.src : Int), .int .u16 (g1.dst : Int), .int .u32 (g1.seq : Int), .int .u32 (g1.ack : Int), .int .u8 (g1.flags : Int), .slice Ap1 np1 cp1, .slice Dp1 mp1 dp1]))
  replace hk0 : Hid (Blk ((w.alloc (.cells #[.int .u16 (g1.src : Int), .int .u16 (g1.dst : Int), .int .u32 (g1.seq : Int), .int .u32 (g1.ack : Int), .int .u8 (g1.flags : Int), .slice Ap1 np1 cp1, .slice Dp1 mp1 dp1] 30)).alloc (.cells #[.int .u16 (g2.src : Int), .int .u16 (g2.dst : Int), .int .u32 (g2.seq : Int), .int .u32 (g2.ack : Int), .int .u8 (g2.flags : Int), .slice Ap2 np2 cp2, .slice Dp2 mp2 dp2] 30)) (w.heap.size) 30 #[.int .u16 (g1.src : Int), .int .u16 (g1.dst : Int), .int .u32 (g1.seq : Int), .int .u32 (g1.ack : Int), .int .u8 (g1.flags : Int), .slice Ap1 np1 cp1, .slice Dp1 mp1 dp1]) := Lib.hid (hk0.out.alloc _)
  replace hk0 : Hid (Blk (((w.alloc (.cells #[.int .u16 (g1.src : Int), .int .u16 (g1.dst : Int), .int .u32 (g1.seq : Int), .int .u32 (g1.ack : Int), .int .u8 (g1.flags : Int), .slice Ap1 np1 cp1, .slice Dp1 mp1 dp1] 30)).alloc (.cells #[.int .u16 (g2.src : Int), .int .u16 (g2.dst : Int), .int .u32 (g2.seq : Int), .int .u32 (g2.ack : Int), .int .u8 (g2.flags : Int), .slice Ap2 np2 cp2, .slice Dp2 mp2 dp2] 30)).alloc (.cells #[.int .u8 (ka : Nat), .slice Aa na ca, .int .u8 (kb : Nat), .slice Ab nb cb] 81)) (w.heap.size) 30 #[.int .u16 (g1.src : Int), .int .u16 (g1.dst : Int), .int .u32 (g1.seq : Int), .int .u32 (g1.ack : Int), .int .u8 (g1.flags : Int), .slice Ap1 np1 cp1, .slice Dp1 mp1 dp1]) := Lib.hid (hk0.out.alloc _)
  have hk1 : Hid (Blk ((w.alloc (.cells #[.int .u16 (g1.src : Int), .int .u16 (g1.dst : Int), .int .u32 (g1.seq : Int), .int .u32 (g1.ack : Int), .int .u8 (g1.flags : Int), .slice Ap1 np1 cp1, .slice Dp1 mp1 dp1] 30)).alloc (.cells #[.int .u16 (g2.src : Int), .int .u16 (g2.dst : Int), .int .u32 (g2.seq : Int), .int .u32 (g2.ack : Int), .int .u8 (g2.flags : Int), .slice Ap2 np2 cp2, .slice Dp2 mp2 dp2] 30)) (w.heap.size + 1) 30 #[.int .u16 (g2.src : Int), .int .u16 (g2.dst : Int), .int .u32 (g2.seq : Int), .int .u32 (g2.ack : Int), .int .u8 (g2.flags : Int), .slice Ap2 np2 cp2, .slice Dp2 mp2 dp2]) := Lib.hid ((Blk.new (w.alloc (.cells #[.int .u16 (g1.src : Int), .int .u16 (g1.dst : Int), .int .u32 (g1.seq : Int), .int .u32 (g1.ack : Int), .int .u8 (g1.flags : Int), .slice Ap1 np1 cp1, .slice Dp1 mp1 dp1] 30)) 30 #[.int .u16 (g2.src : Int), .int .u16 (g2.dst : Int), .int .u32 (g2.seq : Int), .int .u32 (g2.ack : Int), .int .u8 (g2.flags : Int), .slice Ap2 np2 cp2, .slice Dp2 mp2 dp2]) |> fun h => by simpa using h)
  replace hk1 : Hid (Blk (((w.alloc (.cells #[.int .u16 (g1.src : Int), .int .u16 (g1.dst : Int), .int .u32 (g1.seq : Int), .int .u32 (g1.ack : Int), .int .u8 (g1.flags : Int), .slice Ap1 np1 cp1, .slice Dp1 mp1 dp1] 30)).alloc (.cells #[.int .u16 (g2.src : Int), .int .u16 (g2.dst : Int), .int .u32 (g2.seq : Int), .int .u32 (g2.ack : Int), .int .u8 (g2.flags : Int), .slice Ap2 np2 cp2, .slice Dp2 mp2 dp2] 30)).alloc (.cells #[.int .u8 (ka : Nat), .slice Aa na ca, .int .u8 (kb : Nat), .slice Ab nb cb] 81)) (w.heap.size + 1) 30 #[.int .u16 (g2.src : Int), .int .u16 (g2.dst : Int), .int .u32 (g2.seq : Int), .int .u32 (g2.ack : Int), .int .u8 (g2.flags : Int), .slice Ap2 np2 cp2, .slice Dp2 mp2 dp2]) := Lib.hid (hk1.out.alloc _)
  have hk2 : Hid (Blk (((w.alloc (.cells #[.int .u16 (g1.src : Int), .int .u16 (g1.dst : Int), .int .u32 (g1.seq : Int), .int .u32 (g1.ack : Int), .int .u8 (g1.flags : Int), .slice Ap1 np1 cp1, .slice Dp1 mp1 dp1] 30)).alloc (.cells #[.int .u16 (g2.src : Int), .int .u16 (g2.dst : Int), .int .u32 (g2.seq : Int), .int .u32 (g2.ack : Int), .int .u8 (g2.flags : Int), .slice Ap2 np2 cp2, .slice Dp2 mp2 dp2] 30)).alloc (.cells #[.int .u8 (ka : Nat), .slice Aa na ca, .int .u8 (kb : Nat), .slice Ab nb cb] 81)) (w.heap.size + 2) 81 #[.int .u8 (ka : Nat), .slice Aa na ca, .int .u8 (kb : Nat), .slice Ab nb cb]) := Lib.hid ((Blk.new ((w.alloc (.cells #[.int .u16 (g1.src : Int), .int .u16 (g1.dst : Int), .int .u32 (g1.seq : Int), .int .u32 (g1.ack : Int), .int .u8 (g1.flags : Int), .slice Ap1 np1 cp1, .slice Dp1 mp1 dp1] 30)).alloc (.cells #[.int .u16 (g2.src : Int), .int .u16 (g2.dst : Int), .int .u32 (g2.seq : Int), .int .u32 (g2.ack : Int), .int .u8 (g2.flags : Int), .slice Ap2 np2 cp2, .slice Dp2 mp2 dp2] 30)) 81 #[.int .u8 (ka : Nat), .slice Aa na ca, .int .u8 (kb : Nat), .slice Ab nb cb]) |> fun h => by simpa using h)
  have b1 : Hid (Below w.heap.size w (((w.alloc (.cells #[.int .u16 (g1.src : Int), .int .u16 (g1.dst : Int), .int .u32 (g1.seq : Int), .int .u32 (g1.ack : Int), .int .u8 (g1.flags : Int), .slice Ap1 np1 cp1, .slice Dp1 mp1 dp1] 30)).alloc (.cells #[.int .u16 (g2.src : Int), .int .u16 (g2.dst : Int), .int .u32 (g2.seq : Int), .int .u32 (g2.ack : Int), .int .u8 (g2.flags : Int), .slice Ap2 np2 cp2, .slice Dp2 mp2 dp2] 30)).alloc (.cells #[.int .u8 (ka : Nat), .slice Aa na ca, .int .u8 (kb : Nat), .slice Ab nb cb] 81))) := Lib.hid ((((Below.refl w.heap.size w).alloc (Nat.le_refl _) (.cells #[.int .u16 (g1.src : Int), .int .u16 (g1.dst : Int), .int .u32 (g1.seq : Int), .int .u32 (g1.ack : Int), .int .u8 (g1.flags : Int), .slice Ap1 np1 cp1, .slice Dp1 mp1 dp1] 30)).alloc (by simp <;> omega) (.cells #[.int .u16 (g2.src : Int), .int .u16 (g2.dst : Int), .int .u32 (g2.seq : Int), .int .u32 (g2.ack : Int), .int .u8 (g2.flags : Int), .slice Ap2 np2 cp2, .slice Dp2 mp2 dp2] 30)).alloc (by simp <;> omega) (.cells #[.int .u8 (ka : Nat), .slice Aa na ca, .int .u8 (kb : Nat), .slice Ab nb cb] 81))
  have hz : (((w.alloc (.cells #[.int .u16 (g1.src : Int), .int .u16 (g1.dst : Int), .int .u32 (g1.seq : Int), .int .u32 (g1.ack : Int), .int .u8 (g1.flags : Int), .slice Ap1 np1 cp1, .slice Dp1 mp1 dp1] 30)).alloc (.cells #[.int .u16 (g2.src : Int), .int .u16 (g2.dst : Int), .int .u32 (g2.seq : Int), .int .u32 (g2.ack : Int), .int .u8 (g2.flags : Int), .slice Ap2 np2 cp2, .slice Dp2 mp2 dp2] 30)).alloc (.cells #[.int .u8 (ka : Nat), .slice Aa na ca, .int .u8 (kb : Nat), .slice Ab nb cb] 81)).heap.size = w.heap.size + 3 := by simp
  generalize (((w.alloc (.cells #[.int .u16 (g1.src : Int), .int .u16 (g1.dst : Int), .int .u32 (g1.seq : Int), .int .u32 (g1.ack : Int), .int .u8 (g1.flags : Int), .slice Ap1 np1 cp1, .slice Dp1 mp1 dp1] 30)).alloc (.cells #[.int .u16 (g2.src : Int), .int .u16 (g2.dst : Int), .int .u32 (g2.seq : Int), .int .u32 (g2.ack : Int), .int .u8 (g2.flags : Int), .slice Ap2 np2 cp2, .slice Dp2 mp2 dp2] 30)).alloc (.cells #[.int .u8 (ka : Nat), .slice Aa na ca, .int .u8 (kb : Nat), .slice Ab nb cb] 81)) = w2 at hk0 hk1 hk2 b1 hz ⊢
  have HZ := Lib.hid hz
  clear hz
  replace HS1 := Lib.hid (HS1.out.into b1.out)
  replace HS2 := Lib.hid (HS2.out.into b1.out)
  replace HRA := Lib.hid (HRA.out.into b1.out)
  replace HRB := Lib.hid (HRB.out.into b1.out)
  replace HD1 := Lib.hid (HD1.out.into b1.out)
  replace HD2 := Lib.hid (HD2.out.into b1.out)
  refine OB.wp_f ⟨fun k => k < w.heap.size + 3, []⟩ (by kernel_rfl) (fun QQ hQ wd hwd => ?_)
  have hD : Below w2.heap.size w2 wd := by rw [hwd.out]; exact (Below.refl _ _).drew
  have K0 := Lib.hid (hk0.out.below hD hk0.out.lt)
  have K1 := Lib.hid (hk1.out.below hD hk1.out.lt)
  have K2 := Lib.hid (hk2.out.below hD hk2.out.lt)
  have BD := Lib.hid hD
  have hz3 : w.heap.size + 3 ≤ wd.heap.size := by have := hD.size; have := HZ.out; omega
  clear hwd hD hk0 hk1 hk2
  generalize wd = w3 at *
  refine OB.f_walk [(0, .pure), (1, .read), (2, .pure), (3, .read)] 4 (by rfl) (by kernel_rfl) ?_; (try simp only [List.map_cons, List.map_nil, List.getD_cons_zero, List.getD_cons_succ])
  (refine OB.o_pure (v := ?_) (by rfl) (fun w' => ?_) ?_; rotate_left; (focus (go_simp; (try with_reducible rfl))); (try simp only [Act.put, List.setIfInBounds_toArray, List.set_cons_zero, List.set_cons_succ]))
  (refine OB.o_loads _ [.int .u8 (ka : Nat), .slice Aa na ca] (by rfl) rfl rfl (by dsimp only; first | assumption | omega) (K2.out.loads 0 _ (by rfl)) (Nat.succ_pos _) (by kernel_rfl) (by kernel_rfl) ?_; simp only [Act.put, List.setIfInBounds_toArray, List.set_cons_zero, List.set_cons_succ])
  (refine OB.o_pure (v := ?_) (by rfl) (fun w' => ?_) ?_; rotate_left; (focus (go_simp; (try with_reducible rfl))); (try simp only [Act.put, List.setIfInBounds_toArray, List.set_cons_zero, List.set_cons_succ]))
  (refine OB.o_loads _ [.int .u8 (kb : Nat), .slice Ab nb cb] (by rfl) rfl rfl (by dsimp only; first | assumption | omega) (K2.out.loads 2 _ (by rfl)) (Nat.succ_pos _) (by kernel_rfl) (by kernel_rfl) ?_; simp only [Act.put, List.setIfInBounds_toArray, List.set_cons_zero, List.set_cons_succ])
  refine OB.o_nil ?_
  refine OB.f_fork 4 5 (by kernel_rfl) (by kernel_rfl) ?_ ?_
  ·
    (try simp only [List.map_cons, List.map_nil, List.getD_cons_zero, List.getD_cons_succ])
    refine OB.o_sole (fun K hK => ?_)
    go_wp2_with fail
    refine hK _ _ (fun _ => OB.ExtB.at_ ((Below.refl _ _).alloc (Nat.le_refl _) _) (fun k hk => Nat.lt_of_lt_of_le hk hz3)) ?_; clear hK K
    refine OB.o_nil ?_
    refine OB.f_walk [(5, .sole), (6, .sole), (7, .sole)] 0 (by rfl) (by kernel_rfl) ?_; (try simp only [List.map_cons, List.map_nil, List.getD_cons_zero, List.getD_cons_succ])
    have KU := Lib.hid (Blk.new w3 45 #[.int .u8 0, .slice none 0 0])
    have bU : Below w3.heap.size w3 (w3.alloc (.cells #[.int .u8 0, .slice none 0 0] 45)) := (Below.refl _ _).alloc (Nat.le_refl _) _
    have hz4 : (w3.alloc (.cells #[.int .u8 0, .slice none 0 0] 45)).heap.size = w3.heap.size + 1 := by simp
    generalize w3.alloc (.cells #[.int .u8 0, .slice none 0 0] 45) = w4 at KU bU hz4 ⊢
    refine OB.o_sole (fun K hK => ?_)
    go_wp2_with fail
    refine hK _ _ (fun _ => OB.ExtB.at_ ((Below.refl _ _).alloc (Nat.le_refl _) _) (fun k hk => by have := hz3; simp only at hk; omega)) ?_; clear hK K
    have KV := Lib.hid (Blk.new w4 45 #[.int .u8 0, .slice none 0 0])
    have bV : Below w4.heap.size w4 (w4.alloc (.cells #[.int .u8 0, .slice none 0 0] 45)) := (Below.refl _ _).alloc (Nat.le_refl _) _
    replace KU := Lib.hid (KU.out.below bV KU.out.lt)
    generalize w4.alloc (.cells #[.int .u8 0, .slice none 0 0] 45) = w6 at *
    rw [hz4] at KV
    (try rw [hz4] at KV)
    (try rw [hz4])
    have KA : Hid (Blk w6 (w3.heap.size) 45 #[.int .u8 0, .slice none 0 0]) := KU
    have KB : Hid (Blk w6 (w3.heap.size + 1) 45 #[.int .u8 0, .slice none 0 0]) := KV
    clear KU KV
    refine OB.o_sole (fun K hK => ?_)
    refine stm_store (cs' := #[.int .u8 (ka : Nat), .slice Aa na ca]) KA.out rfl _ _ rfl rfl rfl (by simp) (by kernel_rfl) (by simp [Value.oneCell']) (by simp [setL]) fun w7 hk7 hs7 => ?_
    refine wpList_nil ?_
    refine hK _ _ (fun _ => OB.ExtB.at_ hs7.1 (fun k hk => by simp only at hk; omega)) ?_; clear hK K
    have KA7 := Lib.hid hk7
    have KB7 := Lib.hid (hs7.blk KB.out (by omega))
    refine OB.o_sole (fun K hK => ?_)
    refine stm_store (cs' := #[.int .u8 (kb : Nat), .slice Ab nb cb]) KB7.out rfl _ _ rfl rfl rfl (by simp) (by kernel_rfl) (by simp [Value.oneCell']) (by simp [setL]) fun w8 hk8 hs8 => ?_
    refine wpList_nil ?_
    refine hK _ _ (fun _ => OB.ExtB.at_ hs8.1 (fun k hk => by simp only at hk; omega)) ?_; clear hK K
    have KB8 := Lib.hid hk8
    have KA8 := Lib.hid (hs8.blk KA7.out (by omega))
    have B38 : Below w3.heap.size w3 w8 := (bU.trans (bV.mono (by omega))).trans ((hs7.1.mono (by omega)).trans (hs8.1.mono (by omega)))
    have B28 := Lib.hid (BD.out.trans (B38.mono BD.out.size))
    replace K0 := Lib.hid (K0.out.below B38 K0.out.lt)
    replace K1 := Lib.hid (K1.out.below B38 K1.out.lt)
    replace HD1 := Lib.hid (HD1.out.into B28.out)
    replace HD2 := Lib.hid (HD2.out.into B28.out)
    replace HRA := Lib.hid (HRA.out.into B28.out)
    replace HRB := Lib.hid (HRB.out.into B28.out)
    have B5 := Lib.hid (b1.out.trans (B28.out.mono b1.out.size))
    replace HS1 := Lib.hid (HS1.out.into B28.out)
    replace HS2 := Lib.hid (HS2.out.into B28.out)
    clear hk7 hs7 hk8 hs8 KA KB KA7 KB7 bU bV hz4 B38 B28 BD K2 HZ b1 hz3
    obtain ⟨pa, hpa⟩ : ∃ p, p = w3.heap.size := ⟨_, rfl⟩
    obtain ⟨pb, hpb⟩ : ∃ p, p = w3.heap.size + 1 := ⟨_, rfl⟩
    have KA : Hid (Blk w8 pa 45 #[.int .u8 (ka : Nat), .slice Aa na ca]) := by rw [hpa]; exact KA8
    have KB : Hid (Blk w8 pb 45 #[.int .u8 (kb : Nat), .slice Ab nb cb]) := by rw [hpb]; exact KB8
    rw [← hpb, ← hpa]
    clear KA8 KB8 hpa hpb
    generalize w8 = w5 at *
    refine OB.o_nil ?_
    refine OB.f_end (by kernel_rfl) (hQ.out _ _ ?_); clear hQ QQ
    obtain ⟨a0, a1⟩ := ptc2 KA.out
    obtain ⟨b0, b1'⟩ := ptc2 KB.out
    obtain ⟨s0, s1, s2, s3, s4, s5, s6⟩ := seg_cells K0.out
    obtain ⟨t0, t1, t2, t3, t4, t5, t6⟩ := seg_cells K1.out
    go_upto_region 2 with fail
    (try simp only [Act.put])
    go_cut [49] from 12 (fun t wc => t = .bool big ∧ wc = w5)
    case first =>
      by_cases q0 : na < 8
      · have q0' : (na : Int) < (8 : Int) := by omega
        have hbg : big = true := by rw [HBG.out]; simp [q0]
        subst hbg
        go_wp2_with fail
        go_meet
        case rel => exact ⟨rfl, rfl⟩
      · have q0' : ¬ (na : Int) < (8 : Int) := by omega
        by_cases q1 : nb < 8
        · have q1' : (nb : Int) < (8 : Int) := by omega
          have hbg : big = true := by rw [HBG.out]; simp [q0, q1]
          subst hbg
          go_wp2_with fail
          go_meet
          case rel => exact ⟨rfl, rfl⟩
        · have q1' : ¬ (nb : Int) < (8 : Int) := by omega
          by_cases q2 : 255 < na
          · have q2' : (255 : Int) < (na : Int) := by omega
            have hbg : big = true := by rw [HBG.out]; simp [q0, q1, q2]
            subst hbg
            go_wp2_with fail
            go_meet
            case rel => exact ⟨rfl, rfl⟩
          · have q2' : ¬ (255 : Int) < (na : Int) := by omega
            by_cases q3 : 255 < nb
            · have q3' : (255 : Int) < (nb : Int) := by omega
              have hbg : big = true := by rw [HBG.out]; simp [q0, q1, q2, q3]
              subst hbg
              go_wp2_with fail
              go_meet
              case rel => exact ⟨rfl, rfl⟩
            · have q3' : ¬ (255 : Int) < (nb : Int) := by omega
              by_cases q4 : 2000 < mp1
              · have q4' : (2000 : Int) < (mp1 : Int) := by omega
                have hbg : big = true := by rw [HBG.out]; simp [q0, q1, q2, q3, q4]
                subst hbg
                go_wp2_with fail
                go_meet
                case rel => exact ⟨rfl, rfl⟩
              · have q4' : ¬ (2000 : Int) < (mp1 : Int) := by omega
                by_cases q5 : 2000 < mp2
                · have q5' : (2000 : Int) < (mp2 : Int) := by omega
                  have hbg : big = true := by rw [HBG.out]; simp [q0, q1, q2, q3, q4, q5]
                  subst hbg
                  go_wp2_with fail
                  go_meet
                  case rel => exact ⟨rfl, rfl⟩
                · have q5' : ¬ (2000 : Int) < (mp2 : Int) := by omega
                  have hbg : big = false := by rw [HBG.out]; simp [q0, q1, q2, q3, q4, q5]
                  subst hbg
                  have q0d : decide ((na : Int) < 8) = false := decide_eq_false q0'
                  go_wp2_with fail
                  go_meet
                  case rel => exact ⟨rfl, rfl⟩
    case rest =>
    obtain ⟨rfl, rfl⟩ := hcut
    cases big with
    | true =>
      go_wp2_with fail
      go_ret
      exact ⟨rfl, B5.out⟩
    | false =>
    have HQ := Lib.hid (show ¬ na < 8 ∧ ¬ nb < 8 ∧ ¬ 255 < na ∧ ¬ 255 < nb ∧ ¬ 2000 < mp1 ∧ ¬ 2000 < mp2 from by have h := HBG.out; simpa [Bool.or_eq_false_iff, and_assoc] using h.symm)
    have HC1 := Lib.hid (show CovV wc _ g1 Aa na ca ka la from ⟨HS1.out, HG1.out, HRA.out, hna, by have := HQ.out; omega, hka, by rw [HL1.out]; have := HQ.out; omega, H8A.out⟩)
    have HC2 := Lib.hid (show CovV wc _ g2 Ab nb cb kb lb from ⟨HS2.out, HG2.out, HRB.out, hnb, by have := HQ.out; omega, hkb, by rw [HL2.out]; have := HQ.out; omega, H8B.out⟩)
    clear HS1 HS2
    go_upto_region 4 with fail
    go_cut [9] from 50 (fun t wc2 => t = .bool hd ∧ wc2 = wc)
    case first =>
      by_cases q0 : g1.src = g2.src
      · have e0 : ((g1.src : Int) == (g2.src : Int)) = true := by rw [q0]; simp
        by_cases q1 : g1.dst = g2.dst
        · have e1 : ((g1.dst : Int) == (g2.dst : Int)) = true := by rw [q1]; simp
          by_cases q2 : g1.seq = g2.seq
          · have e2 : ((g1.seq : Int) == (g2.seq : Int)) = true := by rw [q2]; simp
            by_cases q3 : g1.ack = g2.ack
            · have e3 : ((g1.ack : Int) == (g2.ack : Int)) = true := by rw [q3]; simp
              by_cases q4 : g1.flags = g2.flags
              · have e4 : ((g1.flags : Int) == (g2.flags : Int)) = true := by rw [q4]; simp
                have hh : hd = true := by rw [HHD.out]; simp [q0, q1, q2, q3, q4]
                subst hh
                go_wp2_with fail
                go_meet
                case rel => exact ⟨rfl, rfl⟩
              · have e4 : ((g1.flags : Int) == (g2.flags : Int)) = false := by simp; omega
                have hh : hd = false := by rw [HHD.out]; simp [q4]
                subst hh
                go_wp2_with fail
                go_meet
                case rel => exact ⟨rfl, rfl⟩
            · have e3 : ((g1.ack : Int) == (g2.ack : Int)) = false := by simp; omega
              have hh : hd = false := by rw [HHD.out]; simp [q3]
              subst hh
              go_wp2_with fail
              go_meet
              case rel => exact ⟨rfl, rfl⟩
          · have e2 : ((g1.seq : Int) == (g2.seq : Int)) = false := by simp; omega
            have hh : hd = false := by rw [HHD.out]; simp [q2]
            subst hh
            go_wp2_with fail
            go_meet
            case rel => exact ⟨rfl, rfl⟩
        · have e1 : ((g1.dst : Int) == (g2.dst : Int)) = false := by simp; omega
          have hh : hd = false := by rw [HHD.out]; simp [q1]
          subst hh
          go_wp2_with fail
          go_meet
          case rel => exact ⟨rfl, rfl⟩
      · have e0 : ((g1.src : Int) == (g2.src : Int)) = false := by simp; omega
        have hh : hd = false := by rw [HHD.out]; simp [q0]
        subst hh
        go_wp2_with fail
        go_meet
        case rel => exact ⟨rfl, rfl⟩
    case rest =>
    obtain ⟨rfl, rfl⟩ := hcut
    clear a0 a1 b0 b1' s0 s1 s2 s3 s4 s5 s6 t0 t1 t2 t3 t4 t5 t6
    by_cases keq : ka = kb
    · have hke : ((ka : Int) == (kb : Int)) = true := by rw [keq]; simp
      obtain ⟨ja, hja⟩ : ∃ j, j = na - 8 := ⟨_, rfl⟩
      obtain ⟨jb, hjb⟩ : ∃ j, j = nb - 8 := ⟨_, rfl⟩
      have hwa : IntKind.i64.wrap ((na : Int) - 8) = (ja : Nat) := by have h := HQ.out; rw [IntKind.wrap_i64]; omega
      have hwb : IntKind.i64.wrap ((nb : Int) - 8) = (jb : Nat) := by have h := HQ.out; rw [IntKind.wrap_i64]; omega
      have HJA := Lib.hid (show ja ≤ ca by omega)
      have HJB := Lib.hid (show jb ≤ cb by omega)
      have HTA := Lib.hid (HRA.out.takeN (show ja ≤ na by omega))
      have HTB := Lib.hid (HRB.out.takeN (show jb ≤ nb by omega))
      obtain ⟨bd, hbd⟩ : ∃ b : Bool, b = decide (la.take ja = lb.take jb) := ⟨_, rfl⟩
      have HBE := Lib.hid (show ((strN (la.take ja)).toList == (strN (lb.take jb)).toList) = bd from by rw [hbd]; exact strN_beq (fun x hx => H8A.out x (List.mem_of_mem_take hx)) (fun x hx => H8B.out x (List.mem_of_mem_take hx)))
      obtain ⟨dq, hdq⟩ : ∃ b : Bool, b = decide (g1.data = g2.data) := ⟨_, rfl⟩
      have HDE := Lib.hid (show ((strN g1.data).toList == (strN g2.data).toList) = dq from by rw [hdq]; exact strN_beq HG1.out.data HG2.out.data)
      have HSM := Lib.hid (show ((strN (coverL g1 ka la)).toList == (strN (coverL g2 kb lb)).toList) = (hd && bd && dq) from by
        have h := HQ.out
        rw [strN_beq (coverL_byte HG1.out HC1.out.kind H8A.out) (coverL_byte HG2.out HC2.out.kind H8B.out)]
        have h2 := cover_iff (k := ka) (k' := kb) HG1.out HG2.out (by rw [HLA.out]; omega) (by rw [HLB.out]; omega) (by rw [HLA.out]; omega) (by rw [HLB.out]; omega)
        unfold sameC at h2
        rw [HLA.out, HLB.out, ← hja, ← hjb] at h2
        rw [HHD.out, hbd, hdq, Bool.eq_iff_iff]
        simp only [decide_eq_true_eq, Bool.and_eq_true]
        rw [h2]
        simp only [keq, true_and, and_assoc])
      clear hja hjb hbd hdq keq
      clear HQ HHD HRA HRB H8A H8B
      go_upto_region 5 with fail
      refine GH.wp_ghl (M := false) 25 ((GH.SP.eq (.pointer (some ⟨pa, 0, none⟩))) :: (GH.SP.eq (.int .u8 (ka : Nat))) :: (GH.SP.eq (.pointer (some ⟨pb, 0, none⟩))) :: (GH.SP.eq (.int .u8 (kb : Nat))) :: (GH.SP.eq (.bool true)) :: (GH.SP.eq (.bool true)) :: (GH.SP.eq (.pointer (some ⟨pa, 1, none⟩))) :: (GH.SP.eq (.slice Aa na ca)) :: (GH.SP.eq (.pointer (some ⟨pa, 1, none⟩))) :: (GH.SP.eq (.slice Aa na ca)) :: (GH.SP.eq (.int .i64 (na : Nat))) :: (GH.SP.eq (.int .i64 (ja : Nat))) :: (GH.SP.eq (.slice Aa ja ca)) :: (GH.SP.eq (.string (strN (la.take ja)))) :: (GH.SP.eq (.pointer (some ⟨pb, 1, none⟩))) :: (GH.SP.eq (.slice Ab nb cb)) :: (GH.SP.eq (.pointer (some ⟨pb, 1, none⟩))) :: (GH.SP.eq (.slice Ab nb cb)) :: (GH.SP.eq (.int .i64 (nb : Nat))) :: (GH.SP.eq (.int .i64 (jb : Nat))) :: (GH.SP.eq (.slice Ab jb cb)) :: (GH.SP.eq (.string (strN (lb.take jb)))) :: (GH.SP.eq (.bool bd)) :: (GH.SP.eq (.bool bd)) :: (GH.SP.eq (.bool bd)) :: []) (none :: none :: none :: none :: none :: none :: none :: none :: none :: none :: (some 24) :: none :: none :: none :: none :: none :: none :: none :: none :: none :: none :: none :: none :: none :: none :: none :: none :: none :: none :: none :: none :: none :: none :: none :: none :: none :: none :: none :: none :: none :: none :: none :: none :: none :: none :: none :: none :: none :: none :: none :: none :: none :: none :: none :: none :: none :: none :: none :: none :: none :: none :: none :: none :: none :: none :: none :: none :: none :: none :: none :: none :: none :: none :: none :: none :: none :: none :: none :: none :: none :: none :: none :: none :: (some 0) :: (some 1) :: (some 2) :: (some 3) :: (some 4) :: (some 5) :: (some 6) :: (some 7) :: (some 8) :: (some 9) :: (some 10) :: (some 11) :: (some 12) :: (some 13) :: (some 14) :: (some 15) :: (some 16) :: (some 17) :: (some 18) :: (some 19) :: (some 20) :: (some 21) :: (some 22) :: (some 23) :: none :: none :: none :: none :: none :: none :: none :: none :: none :: none :: none :: none :: none :: none :: none :: none :: none :: none :: none :: none :: none :: none :: none :: none :: none :: none :: none :: []) [83, 84, 85, 86, 87, 88, 89, 90, 91, 92, 93, 94, 95, 96, 97, 98, 99, 100, 101, 102, 103, 104, 105, 106, 10] (by rfl) (by kernel_rfl) (by kernel_rfl) ?_ ?_ ?_
      · intro S jx v hjx
        match jx, hjx with
        | 0, _ => rfl
        | 1, _ => rfl
        | 2, _ => rfl
        | 3, _ => rfl
        | 4, _ => rfl
        | 5, _ => rfl
        | 6, _ => rfl
        | 7, _ => rfl
        | 8, _ => rfl
        | 9, _ => rfl
        | 10, _ => rfl
        | 11, _ => rfl
        | 12, _ => rfl
        | 13, _ => rfl
        | 14, _ => rfl
        | 15, _ => rfl
        | 16, _ => rfl
        | 17, _ => rfl
        | 18, _ => rfl
        | 19, _ => rfl
        | 20, _ => rfl
        | 21, _ => rfl
        | 22, _ => rfl
        | 23, _ => rfl
        | 24, _ => rfl
        | nx + 25, hjx => omega
      · intro jx hjx S w' hb hd
        match jx, hjx, hd with
        | 0, _, hd =>
          simp only [GH.mkL, List.getD_cons_succ, List.getD_cons_zero]
          clear hd
          refine GH.st_eq (by rfl) ?_
          go_simp
          (try with_reducible rfl)
        | 1, _, hd =>
          simp only [GH.mkL, List.getD_cons_succ, List.getD_cons_zero]
          have d0 : S 0 = .pointer (some ⟨pa, 0, none⟩) := (hd 0 (by kernel_rfl)).2
          rw [d0]
          clear d0
          clear hd
          exact GH.st_load _ (by rfl) rfl rfl (((KA.out.below hb.below KA.out.lt)).cell 0) (by kernel_rfl)
        | 2, _, hd =>
          simp only [GH.mkL, List.getD_cons_succ, List.getD_cons_zero]
          clear hd
          refine GH.st_eq (by rfl) ?_
          go_simp
          (try with_reducible rfl)
        | 3, _, hd =>
          simp only [GH.mkL, List.getD_cons_succ, List.getD_cons_zero]
          have d2 : S 2 = .pointer (some ⟨pb, 0, none⟩) := (hd 2 (by kernel_rfl)).2
          rw [d2]
          clear d2
          clear hd
          exact GH.st_load _ (by rfl) rfl rfl (((KB.out.below hb.below KB.out.lt)).cell 0) (by kernel_rfl)
        | 4, _, hd =>
          simp only [GH.mkL, List.getD_cons_succ, List.getD_cons_zero]
          have d1 : S 1 = .int .u8 (ka : Nat) := (hd 1 (by kernel_rfl)).2
          rw [d1]
          clear d1
          have d3 : S 3 = .int .u8 (kb : Nat) := (hd 3 (by kernel_rfl)).2
          rw [d3]
          clear d3
          clear hd
          refine GH.st_eq (by rfl) ?_
          go_simp
          (try with_reducible rfl)
        | 5, _, hd =>
          simp only [GH.mkL, List.getD_cons_succ, List.getD_cons_zero]
          have d4 : S 4 = .bool true := (hd 4 (by kernel_rfl)).2
          rw [d4]
          clear d4
          clear hd
          refine GH.st_eq (by rfl) ?_
          go_simp
          (try with_reducible rfl)
        | 6, _, hd =>
          simp only [GH.mkL, List.getD_cons_succ, List.getD_cons_zero]
          have d5 : S 5 = .bool true := (hd 5 (by kernel_rfl)).2
          rw [d5]
          clear d5
          clear hd
          refine GH.st_eq (by rfl) ?_
          go_simp
          (try with_reducible rfl)
        | 7, _, hd =>
          simp only [GH.mkL, List.getD_cons_succ, List.getD_cons_zero]
          have d5 : S 5 = .bool true := (hd 5 (by kernel_rfl)).2
          rw [d5]
          clear d5
          have d6 : S 6 = .pointer (some ⟨pa, 1, none⟩) := (hd 6 (by kernel_rfl)).2
          rw [d6]
          clear d6
          clear hd
          exact GH.st_load _ (by rfl) rfl rfl (((KA.out.below hb.below KA.out.lt)).cell 1) (by kernel_rfl)
        | 8, _, hd =>
          simp only [GH.mkL, List.getD_cons_succ, List.getD_cons_zero]
          have d5 : S 5 = .bool true := (hd 5 (by kernel_rfl)).2
          rw [d5]
          clear d5
          clear hd
          refine GH.st_eq (by rfl) ?_
          go_simp
          (try with_reducible rfl)
        | 9, _, hd =>
          simp only [GH.mkL, List.getD_cons_succ, List.getD_cons_zero]
          have d5 : S 5 = .bool true := (hd 5 (by kernel_rfl)).2
          rw [d5]
          clear d5
          have d8 : S 8 = .pointer (some ⟨pa, 1, none⟩) := (hd 8 (by kernel_rfl)).2
          rw [d8]
          clear d8
          clear hd
          exact GH.st_load _ (by rfl) rfl rfl (((KA.out.below hb.below KA.out.lt)).cell 1) (by kernel_rfl)
        | 10, _, hd =>
          simp only [GH.mkL, List.getD_cons_succ, List.getD_cons_zero]
          have d5 : S 5 = .bool true := (hd 5 (by kernel_rfl)).2
          rw [d5]
          clear d5
          have d9 : S 9 = .slice Aa na ca := (hd 9 (by kernel_rfl)).2
          rw [d9]
          clear d9
          clear hd
          refine GH.st_eq (by rfl) ?_
          go_simp
          (try with_reducible rfl)
        | 11, _, hd =>
          simp only [GH.mkL, List.getD_cons_succ, List.getD_cons_zero]
          have d5 : S 5 = .bool true := (hd 5 (by kernel_rfl)).2
          rw [d5]
          clear d5
          have d10 : S 10 = .int .i64 (na : Nat) := (hd 10 (by kernel_rfl)).2
          rw [d10]
          clear d10
          clear hd
          refine GH.st_eq (by rfl) ?_
          go_simp
          (try with_reducible rfl)
        | 12, _, hd =>
          simp only [GH.mkL, List.getD_cons_succ, List.getD_cons_zero]
          have d5 : S 5 = .bool true := (hd 5 (by kernel_rfl)).2
          rw [d5]
          clear d5
          have d7 : S 7 = .slice Aa na ca := (hd 7 (by kernel_rfl)).2
          rw [d7]
          clear d7
          have d11 : S 11 = .int .i64 (ja : Nat) := (hd 11 (by kernel_rfl)).2
          rw [d11]
          clear d11
          clear hd
          refine GH.st_eq (by rfl) ?_
          have hcut := run_cut_h cctEl Aa na ca ja HJA.out w'
          go_simp
          (try with_reducible rfl)
        | 13, _, hd =>
          simp only [GH.mkL, List.getD_cons_succ, List.getD_cons_zero]
          have d5 : S 5 = .bool true := (hd 5 (by kernel_rfl)).2
          rw [d5]
          clear d5
          have d12 : S 12 = .slice Aa ja ca := (hd 12 (by kernel_rfl)).2
          rw [d12]
          clear d12
          clear hd
          exact GH.st_conv Try.underlying28 Try.underlying5 Try.underlying9 _ (by rfl) rfl rfl (HTA.out.gr hb)
        | 14, _, hd =>
          simp only [GH.mkL, List.getD_cons_succ, List.getD_cons_zero]
          have d5 : S 5 = .bool true := (hd 5 (by kernel_rfl)).2
          rw [d5]
          clear d5
          clear hd
          refine GH.st_eq (by rfl) ?_
          go_simp
          (try with_reducible rfl)
        | 15, _, hd =>
          simp only [GH.mkL, List.getD_cons_succ, List.getD_cons_zero]
          have d5 : S 5 = .bool true := (hd 5 (by kernel_rfl)).2
          rw [d5]
          clear d5
          have d14 : S 14 = .pointer (some ⟨pb, 1, none⟩) := (hd 14 (by kernel_rfl)).2
          rw [d14]
          clear d14
          clear hd
          exact GH.st_load _ (by rfl) rfl rfl (((KB.out.below hb.below KB.out.lt)).cell 1) (by kernel_rfl)
        | 16, _, hd =>
          simp only [GH.mkL, List.getD_cons_succ, List.getD_cons_zero]
          have d5 : S 5 = .bool true := (hd 5 (by kernel_rfl)).2
          rw [d5]
          clear d5
          clear hd
          refine GH.st_eq (by rfl) ?_
          go_simp
          (try with_reducible rfl)
        | 17, _, hd =>
          simp only [GH.mkL, List.getD_cons_succ, List.getD_cons_zero]
          have d5 : S 5 = .bool true := (hd 5 (by kernel_rfl)).2
          rw [d5]
          clear d5
          have d16 : S 16 = .pointer (some ⟨pb, 1, none⟩) := (hd 16 (by kernel_rfl)).2
          rw [d16]
          clear d16
          clear hd
          exact GH.st_load _ (by rfl) rfl rfl (((KB.out.below hb.below KB.out.lt)).cell 1) (by kernel_rfl)
        | 18, _, hd =>
          simp only [GH.mkL, List.getD_cons_succ, List.getD_cons_zero]
          have d5 : S 5 = .bool true := (hd 5 (by kernel_rfl)).2
          rw [d5]
          clear d5
          have d17 : S 17 = .slice Ab nb cb := (hd 17 (by kernel_rfl)).2
          rw [d17]
          clear d17
          clear hd
          refine GH.st_eq (by rfl) ?_
          go_simp
          (try with_reducible rfl)
        | 19, _, hd =>
          simp only [GH.mkL, List.getD_cons_succ, List.getD_cons_zero]
          have d5 : S 5 = .bool true := (hd 5 (by kernel_rfl)).2
          rw [d5]
          clear d5
          have d18 : S 18 = .int .i64 (nb : Nat) := (hd 18 (by kernel_rfl)).2
          rw [d18]
          clear d18
          clear hd
          refine GH.st_eq (by rfl) ?_
          go_simp
          (try with_reducible rfl)
        | 20, _, hd =>
          simp only [GH.mkL, List.getD_cons_succ, List.getD_cons_zero]
          have d5 : S 5 = .bool true := (hd 5 (by kernel_rfl)).2
          rw [d5]
          clear d5
          have d15 : S 15 = .slice Ab nb cb := (hd 15 (by kernel_rfl)).2
          rw [d15]
          clear d15
          have d19 : S 19 = .int .i64 (jb : Nat) := (hd 19 (by kernel_rfl)).2
          rw [d19]
          clear d19
          clear hd
          refine GH.st_eq (by rfl) ?_
          have hcut := run_cut_h cctEl Ab nb cb jb HJB.out w'
          go_simp
          (try with_reducible rfl)
        | 21, _, hd =>
          simp only [GH.mkL, List.getD_cons_succ, List.getD_cons_zero]
          have d5 : S 5 = .bool true := (hd 5 (by kernel_rfl)).2
          rw [d5]
          clear d5
          have d20 : S 20 = .slice Ab jb cb := (hd 20 (by kernel_rfl)).2
          rw [d20]
          clear d20
          clear hd
          exact GH.st_conv Try.underlying28 Try.underlying5 Try.underlying9 _ (by rfl) rfl rfl (HTB.out.gr hb)
        | 22, _, hd =>
          simp only [GH.mkL, List.getD_cons_succ, List.getD_cons_zero]
          have d5 : S 5 = .bool true := (hd 5 (by kernel_rfl)).2
          rw [d5]
          clear d5
          have d13 : S 13 = .string (strN (la.take ja)) := (hd 13 (by kernel_rfl)).2
          rw [d13]
          clear d13
          have d21 : S 21 = .string (strN (lb.take jb)) := (hd 21 (by kernel_rfl)).2
          rw [d21]
          clear d21
          clear hd
          refine GH.st_eq (by rfl) ?_
          have hbe := HBE.out
          go_simp
          (try with_reducible rfl)
        | 23, _, hd =>
          simp only [GH.mkL, List.getD_cons_succ, List.getD_cons_zero]
          have d5 : S 5 = .bool true := (hd 5 (by kernel_rfl)).2
          rw [d5]
          clear d5
          have d22 : S 22 = .bool bd := (hd 22 (by kernel_rfl)).2
          rw [d22]
          clear d22
          clear hd
          refine GH.st_eq (by rfl) ?_
          go_simp
          (try with_reducible rfl)
        | 24, _, hd =>
          simp only [GH.mkL, List.getD_cons_succ, List.getD_cons_zero]
          have d0 : S 0 = .pointer (some ⟨pa, 0, none⟩) := (hd 0 (by kernel_rfl)).2
          rw [d0]
          clear d0
          have d1 : S 1 = .int .u8 (ka : Nat) := (hd 1 (by kernel_rfl)).2
          rw [d1]
          clear d1
          have d2 : S 2 = .pointer (some ⟨pb, 0, none⟩) := (hd 2 (by kernel_rfl)).2
          rw [d2]
          clear d2
          have d3 : S 3 = .int .u8 (kb : Nat) := (hd 3 (by kernel_rfl)).2
          rw [d3]
          clear d3
          have d4 : S 4 = .bool true := (hd 4 (by kernel_rfl)).2
          rw [d4]
          clear d4
          have d5 : S 5 = .bool true := (hd 5 (by kernel_rfl)).2
          rw [d5]
          clear d5
          have d6 : S 6 = .pointer (some ⟨pa, 1, none⟩) := (hd 6 (by kernel_rfl)).2
          rw [d6]
          clear d6
          have d7 : S 7 = .slice Aa na ca := (hd 7 (by kernel_rfl)).2
          rw [d7]
          clear d7
          have d8 : S 8 = .pointer (some ⟨pa, 1, none⟩) := (hd 8 (by kernel_rfl)).2
          rw [d8]
          clear d8
          have d9 : S 9 = .slice Aa na ca := (hd 9 (by kernel_rfl)).2
          rw [d9]
          clear d9
          have d10 : S 10 = .int .i64 (na : Nat) := (hd 10 (by kernel_rfl)).2
          rw [d10]
          clear d10
          have d11 : S 11 = .int .i64 (ja : Nat) := (hd 11 (by kernel_rfl)).2
          rw [d11]
          clear d11
          have d12 : S 12 = .slice Aa ja ca := (hd 12 (by kernel_rfl)).2
          rw [d12]
          clear d12
          have d13 : S 13 = .string (strN (la.take ja)) := (hd 13 (by kernel_rfl)).2
          rw [d13]
          clear d13
          have d14 : S 14 = .pointer (some ⟨pb, 1, none⟩) := (hd 14 (by kernel_rfl)).2
          rw [d14]
          clear d14
          have d15 : S 15 = .slice Ab nb cb := (hd 15 (by kernel_rfl)).2
          rw [d15]
          clear d15
          have d16 : S 16 = .pointer (some ⟨pb, 1, none⟩) := (hd 16 (by kernel_rfl)).2
          rw [d16]
          clear d16
          have d17 : S 17 = .slice Ab nb cb := (hd 17 (by kernel_rfl)).2
          rw [d17]
          clear d17
          have d18 : S 18 = .int .i64 (nb : Nat) := (hd 18 (by kernel_rfl)).2
          rw [d18]
          clear d18
          have d19 : S 19 = .int .i64 (jb : Nat) := (hd 19 (by kernel_rfl)).2
          rw [d19]
          clear d19
          have d20 : S 20 = .slice Ab jb cb := (hd 20 (by kernel_rfl)).2
          rw [d20]
          clear d20
          have d21 : S 21 = .string (strN (lb.take jb)) := (hd 21 (by kernel_rfl)).2
          rw [d21]
          clear d21
          have d22 : S 22 = .bool bd := (hd 22 (by kernel_rfl)).2
          rw [d22]
          clear d22
          have d23 : S 23 = .bool bd := (hd 23 (by kernel_rfl)).2
          rw [d23]
          clear d23
          clear hd
          refine GH.st_eq (by rfl) ?_
          go_simp
          (try with_reducible rfl)
        | nx + 25, hjx, _ => omega
      intro S w' hb hG
      simp only [GH.mkL, List.drop_succ_cons, List.drop_zero]
      have d24 : S 24 = .bool bd := hG 24 (by omega)
      rw [d24]
      clear d24
      clear hG
      have bh : Below wc.heap.size wc w' := hb.below
      replace K0 := Lib.hid (K0.out.below bh K0.out.lt)
      replace K1 := Lib.hid (K1.out.below bh K1.out.lt)
      replace KA := Lib.hid (KA.out.below bh KA.out.lt)
      replace KB := Lib.hid (KB.out.below bh KB.out.lt)
      replace HD1 := Lib.hid (HD1.out.into bh)
      replace HD2 := Lib.hid (HD2.out.into bh)
      replace HC1 := Lib.hid (HC1.out.into bh)
      replace HC2 := Lib.hid (HC2.out.into bh)
      replace B5 := Lib.hid (B5.out.trans (bh.mono B5.out.size))
      clear bh hb
      generalize w' = w7 at *
      refine wpList_nil ?_
      go_upto_region 6 with fail
      obtain ⟨_, _, _, _, _, _, s6⟩ := seg_cells K0.out
      obtain ⟨_, _, _, _, _, _, t6⟩ := seg_cells K1.out
      obtain ⟨sm, hsm⟩ : ∃ b : Bool, b = (hd && bd && dq) := ⟨_, rfl⟩
      replace HSM := Lib.hid (HSM.out.trans hsm.symm)
      go_cut [11] from 107 (fun t wc => t = .bool sm ∧ wc = w7)
      case first =>
        have hde := HDE.out
        cases hd with
        | false =>
          have hs2 : sm = false := by rw [hsm]; rfl
          clear hsm
          subst hs2
          go_wp2_with fail
          go_meet
          case rel => exact ⟨rfl, rfl⟩
        | true =>
          cases bd with
          | false =>
            have hs2 : sm = false := by rw [hsm]; rfl
            clear hsm
            subst hs2
            go_wp2_with fail
            go_meet
            case rel => exact ⟨rfl, rfl⟩
          | true =>
            have hs2 : sm = dq := by rw [hsm]; simp
            clear hsm
            subst hs2
            go_wp2_with (first | refine wpList_conv Try.underlying28 Try.underlying5 Try.underlying9 rfl _ rfl rfl HD1.out ?_ | refine wpList_conv Try.underlying28 Try.underlying5 Try.underlying9 rfl _ rfl rfl HD2.out ?_)
            go_meet
            case rel => exact ⟨rfl, rfl⟩
      case rest =>
      obtain ⟨rfl, rfl⟩ := hcut
      clear hsm s6 t6
      go_upto_region 7 with fail
      refine GH.wp_ghl (M := false) 15 ((GH.SP.eq (.agg #[.int .u16 (g1.src : Int), .int .u16 (g1.dst : Int), .int .u32 (g1.seq : Int), .int .u32 (g1.ack : Int), .int .u8 (g1.flags : Int), .slice Ap1 np1 cp1, .slice Dp1 mp1 dp1])) :: (GH.SP.eq (.agg #[.int .u8 (ka : Nat), .slice Aa na ca])) :: (GH.SP.ns .u8 (coverL g1 ka la)) :: (GH.SP.eq (.string (strN (coverL g1 ka la)))) :: (GH.SP.eq (.agg #[.int .u16 (g2.src : Int), .int .u16 (g2.dst : Int), .int .u32 (g2.seq : Int), .int .u32 (g2.ack : Int), .int .u8 (g2.flags : Int), .slice Ap2 np2 cp2, .slice Dp2 mp2 dp2])) :: (GH.SP.eq (.agg #[.int .u8 (kb : Nat), .slice Ab nb cb])) :: (GH.SP.ns .u8 (coverL g2 kb lb)) :: (GH.SP.eq (.string (strN (coverL g2 kb lb)))) :: (GH.SP.eq (.bool sm)) :: (GH.SP.eq (.bool sm)) :: (GH.SP.eq (.bool true)) :: (GH.SP.eq (.bool true)) :: (GH.SP.eq (.bool true)) :: (GH.SP.eq (.bool true)) :: (GH.SP.eq (.bool true)) :: []) (none :: none :: none :: none :: none :: none :: (some 14) :: none :: none :: none :: none :: none :: none :: none :: none :: none :: none :: none :: none :: none :: none :: none :: none :: none :: none :: none :: none :: none :: none :: none :: none :: none :: none :: none :: none :: none :: none :: none :: none :: none :: none :: none :: none :: none :: none :: none :: none :: none :: none :: none :: none :: none :: none :: none :: none :: none :: none :: none :: none :: none :: none :: none :: none :: none :: none :: none :: none :: none :: none :: none :: none :: none :: none :: none :: none :: none :: none :: none :: none :: none :: none :: none :: none :: none :: none :: none :: none :: none :: none :: none :: none :: none :: none :: none :: none :: none :: none :: none :: none :: none :: none :: none :: none :: none :: none :: none :: none :: none :: none :: none :: none :: none :: none :: none :: none :: none :: none :: none :: none :: none :: (some 0) :: (some 1) :: (some 2) :: (some 3) :: (some 4) :: (some 5) :: (some 6) :: (some 7) :: (some 8) :: (some 9) :: (some 10) :: (some 11) :: (some 12) :: (some 13) :: []) [120, 121, 122, 123, 124, 125, 126, 127, 128, 129, 130, 131, 132, 133, 6] (by rfl) (by kernel_rfl) (by kernel_rfl) ?_ ?_ ?_
      · intro S jx v hjx
        match jx, hjx with
        | 0, _ => rfl
        | 1, _ => rfl
        | 2, _ => rfl
        | 3, _ => rfl
        | 4, _ => rfl
        | 5, _ => rfl
        | 6, _ => rfl
        | 7, _ => rfl
        | 8, _ => rfl
        | 9, _ => rfl
        | 10, _ => rfl
        | 11, _ => rfl
        | 12, _ => rfl
        | 13, _ => rfl
        | 14, _ => rfl
        | nx + 15, hjx => omega
      · intro jx hjx S w' hb hd
        match jx, hjx, hd with
        | 0, _, hd =>
          simp only [GH.mkL, List.getD_cons_succ, List.getD_cons_zero]
          clear hd
          exact GH.st_loads _ [.int .u16 (g1.src : Int), .int .u16 (g1.dst : Int), .int .u32 (g1.seq : Int), .int .u32 (g1.ack : Int), .int .u8 (g1.flags : Int), .slice Ap1 np1 cp1, .slice Dp1 mp1 dp1] (by rfl) rfl rfl (((K0.out.below hb.below K0.out.lt)).loads 0 _ (by rfl)) (by kernel_rfl) (by kernel_rfl)
        | 1, _, hd =>
          simp only [GH.mkL, List.getD_cons_succ, List.getD_cons_zero]
          clear hd
          exact GH.st_loads _ [.int .u8 (ka : Nat), .slice Aa na ca] (by rfl) rfl rfl (((KA.out.below hb.below KA.out.lt)).loads 0 _ (by rfl)) (by kernel_rfl) (by kernel_rfl)
        | 2, _, hd =>
          simp only [GH.mkL, List.getD_cons_succ, List.getD_cons_zero]
          have d0 : S 0 = .agg #[.int .u16 (g1.src : Int), .int .u16 (g1.dst : Int), .int .u32 (g1.seq : Int), .int .u32 (g1.ack : Int), .int .u8 (g1.flags : Int), .slice Ap1 np1 cp1, .slice Dp1 mp1 dp1] := (hd 0 (by kernel_rfl)).2
          rw [d0]
          clear d0
          have d1 : S 1 = .agg #[.int .u8 (ka : Nat), .slice Aa na ca] := (hd 1 (by kernel_rfl)).2
          rw [d1]
          clear d1
          clear hd
          refine GH.st_call (by rfl) hb.below.size (by go_simp) ((mcover_any _ g1 Aa na ca ka la w' (HC1.out.gr hb)).mono ?_)
          rintro e w9 ⟨⟨A9, n9, c9, rfl, e9, l9, h9⟩, hb9⟩
          exact ⟨_, rfl, hb9, ⟨_, _, _, rfl, e9, l9, h9⟩⟩
        | 3, _, hd =>
          simp only [GH.mkL, List.getD_cons_succ, List.getD_cons_zero]
          obtain ⟨A2, n2, c2, d2, e2, l2, H2⟩ := (hd 2 (by kernel_rfl)).2
          rw [d2]
          clear d2
          replace H2 := Lib.hid H2
          replace l2 := Lib.hid l2
          clear hd
          exact GH.st_conv Try.underlying28 Try.underlying5 Try.underlying9 _ (by rfl) rfl rfl H2.out
        | 4, _, hd =>
          simp only [GH.mkL, List.getD_cons_succ, List.getD_cons_zero]
          clear hd
          exact GH.st_loads _ [.int .u16 (g2.src : Int), .int .u16 (g2.dst : Int), .int .u32 (g2.seq : Int), .int .u32 (g2.ack : Int), .int .u8 (g2.flags : Int), .slice Ap2 np2 cp2, .slice Dp2 mp2 dp2] (by rfl) rfl rfl (((K1.out.below hb.below K1.out.lt)).loads 0 _ (by rfl)) (by kernel_rfl) (by kernel_rfl)
        | 5, _, hd =>
          simp only [GH.mkL, List.getD_cons_succ, List.getD_cons_zero]
          clear hd
          exact GH.st_loads _ [.int .u8 (kb : Nat), .slice Ab nb cb] (by rfl) rfl rfl (((KB.out.below hb.below KB.out.lt)).loads 0 _ (by rfl)) (by kernel_rfl) (by kernel_rfl)
        | 6, _, hd =>
          simp only [GH.mkL, List.getD_cons_succ, List.getD_cons_zero]
          obtain ⟨A2, n2, c2, d2, e2, l2, H2⟩ := (hd 2 (by kernel_rfl)).2
          rw [d2]
          clear d2
          replace H2 := Lib.hid H2
          replace l2 := Lib.hid l2
          have d4 : S 4 = .agg #[.int .u16 (g2.src : Int), .int .u16 (g2.dst : Int), .int .u32 (g2.seq : Int), .int .u32 (g2.ack : Int), .int .u8 (g2.flags : Int), .slice Ap2 np2 cp2, .slice Dp2 mp2 dp2] := (hd 4 (by kernel_rfl)).2
          rw [d4]
          clear d4
          have d5 : S 5 = .agg #[.int .u8 (kb : Nat), .slice Ab nb cb] := (hd 5 (by kernel_rfl)).2
          rw [d5]
          clear d5
          clear hd
          refine GH.st_call (by rfl) hb.below.size (by go_simp) ((mcover_any _ g2 Ab nb cb kb lb w' (HC2.out.gr hb)).mono ?_)
          rintro e w9 ⟨⟨A9, n9, c9, rfl, e9, l9, h9⟩, hb9⟩
          exact ⟨_, rfl, hb9, ⟨_, _, _, rfl, e9, l9, h9⟩⟩
        | 7, _, hd =>
          simp only [GH.mkL, List.getD_cons_succ, List.getD_cons_zero]
          obtain ⟨A6, n6, c6, d6, e6, l6, H6⟩ := (hd 6 (by kernel_rfl)).2
          rw [d6]
          clear d6
          replace H6 := Lib.hid H6
          replace l6 := Lib.hid l6
          clear hd
          exact GH.st_conv Try.underlying28 Try.underlying5 Try.underlying9 _ (by rfl) rfl rfl H6.out
        | 8, _, hd =>
          simp only [GH.mkL, List.getD_cons_succ, List.getD_cons_zero]
          have d3 : S 3 = .string (strN (coverL g1 ka la)) := (hd 3 (by kernel_rfl)).2
          rw [d3]
          clear d3
          have d7 : S 7 = .string (strN (coverL g2 kb lb)) := (hd 7 (by kernel_rfl)).2
          rw [d7]
          clear d7
          clear hd
          refine GH.st_eq (by rfl) ?_
          have hsm := HSM.out
          go_simp
          (try with_reducible rfl)
        | 9, _, hd =>
          simp only [GH.mkL, List.getD_cons_succ, List.getD_cons_zero]
          clear hd
          refine GH.st_eq (by rfl) ?_
          go_simp
          (try with_reducible rfl)
        | 10, _, hd =>
          simp only [GH.mkL, List.getD_cons_succ, List.getD_cons_zero]
          have d8 : S 8 = .bool sm := (hd 8 (by kernel_rfl)).2
          rw [d8]
          clear d8
          have d9 : S 9 = .bool sm := (hd 9 (by kernel_rfl)).2
          rw [d9]
          clear d9
          clear hd
          refine GH.st_eq (by rfl) ?_
          go_simp
          (try with_reducible rfl)
        | 11, _, hd =>
          simp only [GH.mkL, List.getD_cons_succ, List.getD_cons_zero]
          obtain ⟨A6, n6, c6, d6, e6, l6, H6⟩ := (hd 6 (by kernel_rfl)).2
          rw [d6]
          clear d6
          replace H6 := Lib.hid H6
          replace l6 := Lib.hid l6
          have d10 : S 10 = .bool true := (hd 10 (by kernel_rfl)).2
          rw [d10]
          clear d10
          clear hd
          refine GH.st_eq (by rfl) ?_
          go_simp
          (try with_reducible rfl)
        | 12, _, hd =>
          simp only [GH.mkL, List.getD_cons_succ, List.getD_cons_zero]
          have d11 : S 11 = .bool true := (hd 11 (by kernel_rfl)).2
          rw [d11]
          clear d11
          clear hd
          refine GH.st_call (by rfl) hb.below.size (by go_simp) ((alive10_any w').mono ?_)
          rintro e w9 ⟨rfl, hb9⟩
          exact ⟨_, rfl, hb9, rfl⟩
        | 13, _, hd =>
          simp only [GH.mkL, List.getD_cons_succ, List.getD_cons_zero]
          have d11 : S 11 = .bool true := (hd 11 (by kernel_rfl)).2
          rw [d11]
          clear d11
          have d12 : S 12 = .bool true := (hd 12 (by kernel_rfl)).2
          rw [d12]
          clear d12
          clear hd
          refine GH.st_eq (by rfl) ?_
          go_simp
          (try with_reducible rfl)
        | 14, _, hd =>
          simp only [GH.mkL, List.getD_cons_succ, List.getD_cons_zero]
          have d0 : S 0 = .agg #[.int .u16 (g1.src : Int), .int .u16 (g1.dst : Int), .int .u32 (g1.seq : Int), .int .u32 (g1.ack : Int), .int .u8 (g1.flags : Int), .slice Ap1 np1 cp1, .slice Dp1 mp1 dp1] := (hd 0 (by kernel_rfl)).2
          rw [d0]
          clear d0
          have d1 : S 1 = .agg #[.int .u8 (ka : Nat), .slice Aa na ca] := (hd 1 (by kernel_rfl)).2
          rw [d1]
          clear d1
          obtain ⟨A2, n2, c2, d2, e2, l2, H2⟩ := (hd 2 (by kernel_rfl)).2
          rw [d2]
          clear d2
          replace H2 := Lib.hid H2
          replace l2 := Lib.hid l2
          have d3 : S 3 = .string (strN (coverL g1 ka la)) := (hd 3 (by kernel_rfl)).2
          rw [d3]
          clear d3
          have d4 : S 4 = .agg #[.int .u16 (g2.src : Int), .int .u16 (g2.dst : Int), .int .u32 (g2.seq : Int), .int .u32 (g2.ack : Int), .int .u8 (g2.flags : Int), .slice Ap2 np2 cp2, .slice Dp2 mp2 dp2] := (hd 4 (by kernel_rfl)).2
          rw [d4]
          clear d4
          have d5 : S 5 = .agg #[.int .u8 (kb : Nat), .slice Ab nb cb] := (hd 5 (by kernel_rfl)).2
          rw [d5]
          clear d5
          obtain ⟨A6, n6, c6, d6, e6, l6, H6⟩ := (hd 6 (by kernel_rfl)).2
          rw [d6]
          clear d6
          replace H6 := Lib.hid H6
          replace l6 := Lib.hid l6
          have d7 : S 7 = .string (strN (coverL g2 kb lb)) := (hd 7 (by kernel_rfl)).2
          rw [d7]
          clear d7
          have d8 : S 8 = .bool sm := (hd 8 (by kernel_rfl)).2
          rw [d8]
          clear d8
          have d9 : S 9 = .bool sm := (hd 9 (by kernel_rfl)).2
          rw [d9]
          clear d9
          have d10 : S 10 = .bool true := (hd 10 (by kernel_rfl)).2
          rw [d10]
          clear d10
          have d11 : S 11 = .bool true := (hd 11 (by kernel_rfl)).2
          rw [d11]
          clear d11
          have d12 : S 12 = .bool true := (hd 12 (by kernel_rfl)).2
          rw [d12]
          clear d12
          have d13 : S 13 = .bool true := (hd 13 (by kernel_rfl)).2
          rw [d13]
          clear d13
          clear hd
          refine GH.st_eq (by rfl) ?_
          go_simp
          (try with_reducible rfl)
        | nx + 15, hjx, _ => omega
      intro S w' hb hG
      simp only [GH.mkL, List.drop_succ_cons, List.drop_zero]
      have d14 : S 14 = .bool true := hG 14 (by omega)
      rw [d14]
      clear d14
      clear hG
      have BF := Lib.hid (B5.out.trans (hb.below.mono B5.out.size))
      clear hb
      refine wpList_nil ?_
      go_wp2_with fail
      go_ret
      exact ⟨rfl, BF.out⟩
      
    · have hke : ((ka : Int) == (kb : Int)) = false := by simp; omega
      have HSM := Lib.hid (show ((strN (coverL g1 ka la)).toList == (strN (coverL g2 kb lb)).toList) = false from by
        have h := HQ.out
        rw [strN_beq (coverL_byte HG1.out HC1.out.kind H8A.out) (coverL_byte HG2.out HC2.out.kind H8B.out)]
        have h2 := cover_iff (k := ka) (k' := kb) HG1.out HG2.out (by rw [HLA.out]; omega) (by rw [HLB.out]; omega) (by rw [HLA.out]; omega) (by rw [HLB.out]; omega)
        rw [decide_eq_false_iff_not, h2]
        exact fun h3 => keq h3.2.1.1)
      clear keq
      clear HQ HHD HRA HRB H8A H8B
      go_upto_region 5 with fail
      refine GH.wp_ghl (M := false) 25 ((GH.SP.eq (.pointer (some ⟨pa, 0, none⟩))) :: (GH.SP.eq (.int .u8 (ka : Nat))) :: (GH.SP.eq (.pointer (some ⟨pb, 0, none⟩))) :: (GH.SP.eq (.int .u8 (kb : Nat))) :: (GH.SP.eq (.bool false)) :: (GH.SP.eq (.bool false)) :: (GH.SP.eq (undef)) :: (GH.SP.eq (undef)) :: (GH.SP.eq (undef)) :: (GH.SP.eq (undef)) :: (GH.SP.eq (undef)) :: (GH.SP.eq (undef)) :: (GH.SP.eq (undef)) :: (GH.SP.eq (undef)) :: (GH.SP.eq (undef)) :: (GH.SP.eq (undef)) :: (GH.SP.eq (undef)) :: (GH.SP.eq (undef)) :: (GH.SP.eq (undef)) :: (GH.SP.eq (undef)) :: (GH.SP.eq (undef)) :: (GH.SP.eq (undef)) :: (GH.SP.eq (undef)) :: (GH.SP.eq (.bool false)) :: (GH.SP.eq (.bool false)) :: []) (none :: none :: none :: none :: none :: none :: none :: none :: none :: none :: (some 24) :: none :: none :: none :: none :: none :: none :: none :: none :: none :: none :: none :: none :: none :: none :: none :: none :: none :: none :: none :: none :: none :: none :: none :: none :: none :: none :: none :: none :: none :: none :: none :: none :: none :: none :: none :: none :: none :: none :: none :: none :: none :: none :: none :: none :: none :: none :: none :: none :: none :: none :: none :: none :: none :: none :: none :: none :: none :: none :: none :: none :: none :: none :: none :: none :: none :: none :: none :: none :: none :: none :: none :: none :: (some 0) :: (some 1) :: (some 2) :: (some 3) :: (some 4) :: (some 5) :: (some 6) :: (some 7) :: (some 8) :: (some 9) :: (some 10) :: (some 11) :: (some 12) :: (some 13) :: (some 14) :: (some 15) :: (some 16) :: (some 17) :: (some 18) :: (some 19) :: (some 20) :: (some 21) :: (some 22) :: (some 23) :: none :: none :: none :: none :: none :: none :: none :: none :: none :: none :: none :: none :: none :: none :: none :: none :: none :: none :: none :: none :: none :: none :: none :: none :: none :: none :: none :: []) [83, 84, 85, 86, 87, 88, 89, 90, 91, 92, 93, 94, 95, 96, 97, 98, 99, 100, 101, 102, 103, 104, 105, 106, 10] (by rfl) (by kernel_rfl) (by kernel_rfl) ?_ ?_ ?_
      · intro S jx v hjx
        match jx, hjx with
        | 0, _ => rfl
        | 1, _ => rfl
        | 2, _ => rfl
        | 3, _ => rfl
        | 4, _ => rfl
        | 5, _ => rfl
        | 6, _ => rfl
        | 7, _ => rfl
        | 8, _ => rfl
        | 9, _ => rfl
        | 10, _ => rfl
        | 11, _ => rfl
        | 12, _ => rfl
        | 13, _ => rfl
        | 14, _ => rfl
        | 15, _ => rfl
        | 16, _ => rfl
        | 17, _ => rfl
        | 18, _ => rfl
        | 19, _ => rfl
        | 20, _ => rfl
        | 21, _ => rfl
        | 22, _ => rfl
        | 23, _ => rfl
        | 24, _ => rfl
        | nx + 25, hjx => omega
      · intro jx hjx S w' hb hd
        match jx, hjx, hd with
        | 0, _, hd =>
          simp only [GH.mkL, List.getD_cons_succ, List.getD_cons_zero]
          clear hd
          refine GH.st_eq (by rfl) ?_
          go_simp
          (try with_reducible rfl)
        | 1, _, hd =>
          simp only [GH.mkL, List.getD_cons_succ, List.getD_cons_zero]
          have d0 : S 0 = .pointer (some ⟨pa, 0, none⟩) := (hd 0 (by kernel_rfl)).2
          rw [d0]
          clear d0
          clear hd
          exact GH.st_load _ (by rfl) rfl rfl (((KA.out.below hb.below KA.out.lt)).cell 0) (by kernel_rfl)
        | 2, _, hd =>
          simp only [GH.mkL, List.getD_cons_succ, List.getD_cons_zero]
          clear hd
          refine GH.st_eq (by rfl) ?_
          go_simp
          (try with_reducible rfl)
        | 3, _, hd =>
          simp only [GH.mkL, List.getD_cons_succ, List.getD_cons_zero]
          have d2 : S 2 = .pointer (some ⟨pb, 0, none⟩) := (hd 2 (by kernel_rfl)).2
          rw [d2]
          clear d2
          clear hd
          exact GH.st_load _ (by rfl) rfl rfl (((KB.out.below hb.below KB.out.lt)).cell 0) (by kernel_rfl)
        | 4, _, hd =>
          simp only [GH.mkL, List.getD_cons_succ, List.getD_cons_zero]
          have d1 : S 1 = .int .u8 (ka : Nat) := (hd 1 (by kernel_rfl)).2
          rw [d1]
          clear d1
          have d3 : S 3 = .int .u8 (kb : Nat) := (hd 3 (by kernel_rfl)).2
          rw [d3]
          clear d3
          clear hd
          refine GH.st_eq (by rfl) ?_
          go_simp
          (try with_reducible rfl)
        | 5, _, hd =>
          simp only [GH.mkL, List.getD_cons_succ, List.getD_cons_zero]
          have d4 : S 4 = .bool false := (hd 4 (by kernel_rfl)).2
          rw [d4]
          clear d4
          clear hd
          refine GH.st_eq (by rfl) ?_
          go_simp
          (try with_reducible rfl)
        | 6, _, hd =>
          simp only [GH.mkL, List.getD_cons_succ, List.getD_cons_zero]
          have d5 : S 5 = .bool false := (hd 5 (by kernel_rfl)).2
          rw [d5]
          clear d5
          clear hd
          exact GH.st_skip (by rfl) rfl
        | 7, _, hd =>
          simp only [GH.mkL, List.getD_cons_succ, List.getD_cons_zero]
          have d5 : S 5 = .bool false := (hd 5 (by kernel_rfl)).2
          rw [d5]
          clear d5
          have d6 : S 6 = undef := (hd 6 (by kernel_rfl)).2
          rw [d6]
          clear d6
          clear hd
          exact GH.st_skip (by rfl) rfl
        | 8, _, hd =>
          simp only [GH.mkL, List.getD_cons_succ, List.getD_cons_zero]
          have d5 : S 5 = .bool false := (hd 5 (by kernel_rfl)).2
          rw [d5]
          clear d5
          clear hd
          exact GH.st_skip (by rfl) rfl
        | 9, _, hd =>
          simp only [GH.mkL, List.getD_cons_succ, List.getD_cons_zero]
          have d5 : S 5 = .bool false := (hd 5 (by kernel_rfl)).2
          rw [d5]
          clear d5
          have d8 : S 8 = undef := (hd 8 (by kernel_rfl)).2
          rw [d8]
          clear d8
          clear hd
          exact GH.st_skip (by rfl) rfl
        | 10, _, hd =>
          simp only [GH.mkL, List.getD_cons_succ, List.getD_cons_zero]
          have d5 : S 5 = .bool false := (hd 5 (by kernel_rfl)).2
          rw [d5]
          clear d5
          have d9 : S 9 = undef := (hd 9 (by kernel_rfl)).2
          rw [d9]
          clear d9
          clear hd
          exact GH.st_skip (by rfl) rfl
        | 11, _, hd =>
          simp only [GH.mkL, List.getD_cons_succ, List.getD_cons_zero]
          have d5 : S 5 = .bool false := (hd 5 (by kernel_rfl)).2
          rw [d5]
          clear d5
          have d10 : S 10 = undef := (hd 10 (by kernel_rfl)).2
          rw [d10]
          clear d10
          clear hd
          exact GH.st_skip (by rfl) rfl
        | 12, _, hd =>
          simp only [GH.mkL, List.getD_cons_succ, List.getD_cons_zero]
          have d5 : S 5 = .bool false := (hd 5 (by kernel_rfl)).2
          rw [d5]
          clear d5
          have d7 : S 7 = undef := (hd 7 (by kernel_rfl)).2
          rw [d7]
          clear d7
          have d11 : S 11 = undef := (hd 11 (by kernel_rfl)).2
          rw [d11]
          clear d11
          clear hd
          exact GH.st_skip (by rfl) rfl
        | 13, _, hd =>
          simp only [GH.mkL, List.getD_cons_succ, List.getD_cons_zero]
          have d5 : S 5 = .bool false := (hd 5 (by kernel_rfl)).2
          rw [d5]
          clear d5
          have d12 : S 12 = undef := (hd 12 (by kernel_rfl)).2
          rw [d12]
          clear d12
          clear hd
          exact GH.st_skip (by rfl) rfl
        | 14, _, hd =>
          simp only [GH.mkL, List.getD_cons_succ, List.getD_cons_zero]
          have d5 : S 5 = .bool false := (hd 5 (by kernel_rfl)).2
          rw [d5]
          clear d5
          clear hd
          exact GH.st_skip (by rfl) rfl
        | 15, _, hd =>
          simp only [GH.mkL, List.getD_cons_succ, List.getD_cons_zero]
          have d5 : S 5 = .bool false := (hd 5 (by kernel_rfl)).2
          rw [d5]
          clear d5
          have d14 : S 14 = undef := (hd 14 (by kernel_rfl)).2
          rw [d14]
          clear d14
          clear hd
          exact GH.st_skip (by rfl) rfl
        | 16, _, hd =>
          simp only [GH.mkL, List.getD_cons_succ, List.getD_cons_zero]
          have d5 : S 5 = .bool false := (hd 5 (by kernel_rfl)).2
          rw [d5]
          clear d5
          clear hd
          exact GH.st_skip (by rfl) rfl
        | 17, _, hd =>
          simp only [GH.mkL, List.getD_cons_succ, List.getD_cons_zero]
          have d5 : S 5 = .bool false := (hd 5 (by kernel_rfl)).2
          rw [d5]
          clear d5
          have d16 : S 16 = undef := (hd 16 (by kernel_rfl)).2
          rw [d16]
          clear d16
          clear hd
          exact GH.st_skip (by rfl) rfl
        | 18, _, hd =>
          simp only [GH.mkL, List.getD_cons_succ, List.getD_cons_zero]
          have d5 : S 5 = .bool false := (hd 5 (by kernel_rfl)).2
          rw [d5]
          clear d5
          have d17 : S 17 = undef := (hd 17 (by kernel_rfl)).2
          rw [d17]
          clear d17
          clear hd
          exact GH.st_skip (by rfl) rfl
        | 19, _, hd =>
          simp only [GH.mkL, List.getD_cons_succ, List.getD_cons_zero]
          have d5 : S 5 = .bool false := (hd 5 (by kernel_rfl)).2
          rw [d5]
          clear d5
          have d18 : S 18 = undef := (hd 18 (by kernel_rfl)).2
          rw [d18]
          clear d18
          clear hd
          exact GH.st_skip (by rfl) rfl
        | 20, _, hd =>
          simp only [GH.mkL, List.getD_cons_succ, List.getD_cons_zero]
          have d5 : S 5 = .bool false := (hd 5 (by kernel_rfl)).2
          rw [d5]
          clear d5
          have d15 : S 15 = undef := (hd 15 (by kernel_rfl)).2
          rw [d15]
          clear d15
          have d19 : S 19 = undef := (hd 19 (by kernel_rfl)).2
          rw [d19]
          clear d19
          clear hd
          exact GH.st_skip (by rfl) rfl
        | 21, _, hd =>
          simp only [GH.mkL, List.getD_cons_succ, List.getD_cons_zero]
          have d5 : S 5 = .bool false := (hd 5 (by kernel_rfl)).2
          rw [d5]
          clear d5
          have d20 : S 20 = undef := (hd 20 (by kernel_rfl)).2
          rw [d20]
          clear d20
          clear hd
          exact GH.st_skip (by rfl) rfl
        | 22, _, hd =>
          simp only [GH.mkL, List.getD_cons_succ, List.getD_cons_zero]
          have d5 : S 5 = .bool false := (hd 5 (by kernel_rfl)).2
          rw [d5]
          clear d5
          have d13 : S 13 = undef := (hd 13 (by kernel_rfl)).2
          rw [d13]
          clear d13
          have d21 : S 21 = undef := (hd 21 (by kernel_rfl)).2
          rw [d21]
          clear d21
          clear hd
          exact GH.st_skip (by rfl) rfl
        | 23, _, hd =>
          simp only [GH.mkL, List.getD_cons_succ, List.getD_cons_zero]
          have d5 : S 5 = .bool false := (hd 5 (by kernel_rfl)).2
          rw [d5]
          clear d5
          have d22 : S 22 = undef := (hd 22 (by kernel_rfl)).2
          rw [d22]
          clear d22
          clear hd
          refine GH.st_eq (by rfl) ?_
          go_simp
          (try with_reducible rfl)
        | 24, _, hd =>
          simp only [GH.mkL, List.getD_cons_succ, List.getD_cons_zero]
          have d0 : S 0 = .pointer (some ⟨pa, 0, none⟩) := (hd 0 (by kernel_rfl)).2
          rw [d0]
          clear d0
          have d1 : S 1 = .int .u8 (ka : Nat) := (hd 1 (by kernel_rfl)).2
          rw [d1]
          clear d1
          have d2 : S 2 = .pointer (some ⟨pb, 0, none⟩) := (hd 2 (by kernel_rfl)).2
          rw [d2]
          clear d2
          have d3 : S 3 = .int .u8 (kb : Nat) := (hd 3 (by kernel_rfl)).2
          rw [d3]
          clear d3
          have d4 : S 4 = .bool false := (hd 4 (by kernel_rfl)).2
          rw [d4]
          clear d4
          have d5 : S 5 = .bool false := (hd 5 (by kernel_rfl)).2
          rw [d5]
          clear d5
          have d6 : S 6 = undef := (hd 6 (by kernel_rfl)).2
          rw [d6]
          clear d6
          have d7 : S 7 = undef := (hd 7 (by kernel_rfl)).2
          rw [d7]
          clear d7
          have d8 : S 8 = undef := (hd 8 (by kernel_rfl)).2
          rw [d8]
          clear d8
          have d9 : S 9 = undef := (hd 9 (by kernel_rfl)).2
          rw [d9]
          clear d9
          have d10 : S 10 = undef := (hd 10 (by kernel_rfl)).2
          rw [d10]
          clear d10
          have d11 : S 11 = undef := (hd 11 (by kernel_rfl)).2
          rw [d11]
          clear d11
          have d12 : S 12 = undef := (hd 12 (by kernel_rfl)).2
          rw [d12]
          clear d12
          have d13 : S 13 = undef := (hd 13 (by kernel_rfl)).2
          rw [d13]
          clear d13
          have d14 : S 14 = undef := (hd 14 (by kernel_rfl)).2
          rw [d14]
          clear d14
          have d15 : S 15 = undef := (hd 15 (by kernel_rfl)).2
          rw [d15]
          clear d15
          have d16 : S 16 = undef := (hd 16 (by kernel_rfl)).2
          rw [d16]
          clear d16
          have d17 : S 17 = undef := (hd 17 (by kernel_rfl)).2
          rw [d17]
          clear d17
          have d18 : S 18 = undef := (hd 18 (by kernel_rfl)).2
          rw [d18]
          clear d18
          have d19 : S 19 = undef := (hd 19 (by kernel_rfl)).2
          rw [d19]
          clear d19
          have d20 : S 20 = undef := (hd 20 (by kernel_rfl)).2
          rw [d20]
          clear d20
          have d21 : S 21 = undef := (hd 21 (by kernel_rfl)).2
          rw [d21]
          clear d21
          have d22 : S 22 = undef := (hd 22 (by kernel_rfl)).2
          rw [d22]
          clear d22
          have d23 : S 23 = .bool false := (hd 23 (by kernel_rfl)).2
          rw [d23]
          clear d23
          clear hd
          refine GH.st_eq (by rfl) ?_
          go_simp
          (try with_reducible rfl)
        | nx + 25, hjx, _ => omega
      intro S w' hb hG
      simp only [GH.mkL, List.drop_succ_cons, List.drop_zero]
      have d24 : S 24 = .bool false := hG 24 (by omega)
      rw [d24]
      clear d24
      clear hG
      have bh : Below wc.heap.size wc w' := hb.below
      replace K0 := Lib.hid (K0.out.below bh K0.out.lt)
      replace K1 := Lib.hid (K1.out.below bh K1.out.lt)
      replace KA := Lib.hid (KA.out.below bh KA.out.lt)
      replace KB := Lib.hid (KB.out.below bh KB.out.lt)
      replace HD1 := Lib.hid (HD1.out.into bh)
      replace HD2 := Lib.hid (HD2.out.into bh)
      replace HC1 := Lib.hid (HC1.out.into bh)
      replace HC2 := Lib.hid (HC2.out.into bh)
      replace B5 := Lib.hid (B5.out.trans (bh.mono B5.out.size))
      clear bh hb
      generalize w' = w7 at *
      refine wpList_nil ?_
      go_upto_region 6 with fail
      obtain ⟨sm, hsm⟩ : ∃ b : Bool, b = false := ⟨_, rfl⟩
      replace HSM := Lib.hid (HSM.out.trans hsm.symm)
      go_cut [11] from 107 (fun t wc => t = .bool sm ∧ wc = w7)
      case first =>
        subst hsm
        cases hd with
        | false =>
          go_wp2_with fail
          go_meet
          case rel => exact ⟨rfl, rfl⟩
        | true =>
          go_wp2_with fail
          go_meet
          case rel => exact ⟨rfl, rfl⟩
      case rest =>
      obtain ⟨rfl, rfl⟩ := hcut
      clear hsm
      go_upto_region 7 with fail
      refine GH.wp_ghl (M := false) 15 ((GH.SP.eq (.agg #[.int .u16 (g1.src : Int), .int .u16 (g1.dst : Int), .int .u32 (g1.seq : Int), .int .u32 (g1.ack : Int), .int .u8 (g1.flags : Int), .slice Ap1 np1 cp1, .slice Dp1 mp1 dp1])) :: (GH.SP.eq (.agg #[.int .u8 (ka : Nat), .slice Aa na ca])) :: (GH.SP.ns .u8 (coverL g1 ka la)) :: (GH.SP.eq (.string (strN (coverL g1 ka la)))) :: (GH.SP.eq (.agg #[.int .u16 (g2.src : Int), .int .u16 (g2.dst : Int), .int .u32 (g2.seq : Int), .int .u32 (g2.ack : Int), .int .u8 (g2.flags : Int), .slice Ap2 np2 cp2, .slice Dp2 mp2 dp2])) :: (GH.SP.eq (.agg #[.int .u8 (kb : Nat), .slice Ab nb cb])) :: (GH.SP.ns .u8 (coverL g2 kb lb)) :: (GH.SP.eq (.string (strN (coverL g2 kb lb)))) :: (GH.SP.eq (.bool sm)) :: (GH.SP.eq (.bool sm)) :: (GH.SP.eq (.bool true)) :: (GH.SP.eq (.bool true)) :: (GH.SP.eq (.bool true)) :: (GH.SP.eq (.bool true)) :: (GH.SP.eq (.bool true)) :: []) (none :: none :: none :: none :: none :: none :: (some 14) :: none :: none :: none :: none :: none :: none :: none :: none :: none :: none :: none :: none :: none :: none :: none :: none :: none :: none :: none :: none :: none :: none :: none :: none :: none :: none :: none :: none :: none :: none :: none :: none :: none :: none :: none :: none :: none :: none :: none :: none :: none :: none :: none :: none :: none :: none :: none :: none :: none :: none :: none :: none :: none :: none :: none :: none :: none :: none :: none :: none :: none :: none :: none :: none :: none :: none :: none :: none :: none :: none :: none :: none :: none :: none :: none :: none :: none :: none :: none :: none :: none :: none :: none :: none :: none :: none :: none :: none :: none :: none :: none :: none :: none :: none :: none :: none :: none :: none :: none :: none :: none :: none :: none :: none :: none :: none :: none :: none :: none :: none :: none :: none :: none :: (some 0) :: (some 1) :: (some 2) :: (some 3) :: (some 4) :: (some 5) :: (some 6) :: (some 7) :: (some 8) :: (some 9) :: (some 10) :: (some 11) :: (some 12) :: (some 13) :: []) [120, 121, 122, 123, 124, 125, 126, 127, 128, 129, 130, 131, 132, 133, 6] (by rfl) (by kernel_rfl) (by kernel_rfl) ?_ ?_ ?_
      · intro S jx v hjx
        match jx, hjx with
        | 0, _ => rfl
        | 1, _ => rfl
        | 2, _ => rfl
        | 3, _ => rfl
        | 4, _ => rfl
        | 5, _ => rfl
        | 6, _ => rfl
        | 7, _ => rfl
        | 8, _ => rfl
        | 9, _ => rfl
        | 10, _ => rfl
        | 11, _ => rfl
        | 12, _ => rfl
        | 13, _ => rfl
        | 14, _ => rfl
        | nx + 15, hjx => omega
      · intro jx hjx S w' hb hd
        match jx, hjx, hd with
        | 0, _, hd =>
          simp only [GH.mkL, List.getD_cons_succ, List.getD_cons_zero]
          clear hd
          exact GH.st_loads _ [.int .u16 (g1.src : Int), .int .u16 (g1.dst : Int), .int .u32 (g1.seq : Int), .int .u32 (g1.ack : Int), .int .u8 (g1.flags : Int), .slice Ap1 np1 cp1, .slice Dp1 mp1 dp1] (by rfl) rfl rfl (((K0.out.below hb.below K0.out.lt)).loads 0 _ (by rfl)) (by kernel_rfl) (by kernel_rfl)
        | 1, _, hd =>
          simp only [GH.mkL, List.getD_cons_succ, List.getD_cons_zero]
          clear hd
          exact GH.st_loads _ [.int .u8 (ka : Nat), .slice Aa na ca] (by rfl) rfl rfl (((KA.out.below hb.below KA.out.lt)).loads 0 _ (by rfl)) (by kernel_rfl) (by kernel_rfl)
        | 2, _, hd =>
          simp only [GH.mkL, List.getD_cons_succ, List.getD_cons_zero]
          have d0 : S 0 = .agg #[.int .u16 (g1.src : Int), .int .u16 (g1.dst : Int), .int .u32 (g1.seq : Int), .int .u32 (g1.ack : Int), .int .u8 (g1.flags : Int), .slice Ap1 np1 cp1, .slice Dp1 mp1 dp1] := (hd 0 (by kernel_rfl)).2
          rw [d0]
          clear d0
          have d1 : S 1 = .agg #[.int .u8 (ka : Nat), .slice Aa na ca] := (hd 1 (by kernel_rfl)).2
          rw [d1]
          clear d1
          clear hd
          refine GH.st_call (by rfl) hb.below.size (by go_simp) ((mcover_any _ g1 Aa na ca ka la w' (HC1.out.gr hb)).mono ?_)
          rintro e w9 ⟨⟨A9, n9, c9, rfl, e9, l9, h9⟩, hb9⟩
          exact ⟨_, rfl, hb9, ⟨_, _, _, rfl, e9, l9, h9⟩⟩
        | 3, _, hd =>
          simp only [GH.mkL, List.getD_cons_succ, List.getD_cons_zero]
          obtain ⟨A2, n2, c2, d2, e2, l2, H2⟩ := (hd 2 (by kernel_rfl)).2
          rw [d2]
          clear d2
          replace H2 := Lib.hid H2
          replace l2 := Lib.hid l2
          clear hd
          exact GH.st_conv Try.underlying28 Try.underlying5 Try.underlying9 _ (by rfl) rfl rfl H2.out
        | 4, _, hd =>
          simp only [GH.mkL, List.getD_cons_succ, List.getD_cons_zero]
          clear hd
          exact GH.st_loads _ [.int .u16 (g2.src : Int), .int .u16 (g2.dst : Int), .int .u32 (g2.seq : Int), .int .u32 (g2.ack : Int), .int .u8 (g2.flags : Int), .slice Ap2 np2 cp2, .slice Dp2 mp2 dp2] (by rfl) rfl rfl (((K1.out.below hb.below K1.out.lt)).loads 0 _ (by rfl)) (by kernel_rfl) (by kernel_rfl)
        | 5, _, hd =>
          simp only [GH.mkL, List.getD_cons_succ, List.getD_cons_zero]
          clear hd
          exact GH.st_loads _ [.int .u8 (kb : Nat), .slice Ab nb cb] (by rfl) rfl rfl (((KB.out.below hb.below KB.out.lt)).loads 0 _ (by rfl)) (by kernel_rfl) (by kernel_rfl)
        | 6, _, hd =>
          simp only [GH.mkL, List.getD_cons_succ, List.getD_cons_zero]
          obtain ⟨A2, n2, c2, d2, e2, l2, H2⟩ := (hd 2 (by kernel_rfl)).2
          rw [d2]
          clear d2
          replace H2 := Lib.hid H2
          replace l2 := Lib.hid l2
          have d4 : S 4 = .agg #[.int .u16 (g2.src : Int), .int .u16 (g2.dst : Int), .int .u32 (g2.seq : Int), .int .u32 (g2.ack : Int), .int .u8 (g2.flags : Int), .slice Ap2 np2 cp2, .slice Dp2 mp2 dp2] := (hd 4 (by kernel_rfl)).2
          rw [d4]
          clear d4
          have d5 : S 5 = .agg #[.int .u8 (kb : Nat), .slice Ab nb cb] := (hd 5 (by kernel_rfl)).2
          rw [d5]
          clear d5
          clear hd
          refine GH.st_call (by rfl) hb.below.size (by go_simp) ((mcover_any _ g2 Ab nb cb kb lb w' (HC2.out.gr hb)).mono ?_)
          rintro e w9 ⟨⟨A9, n9, c9, rfl, e9, l9, h9⟩, hb9⟩
          exact ⟨_, rfl, hb9, ⟨_, _, _, rfl, e9, l9, h9⟩⟩
        | 7, _, hd =>
          simp only [GH.mkL, List.getD_cons_succ, List.getD_cons_zero]
          obtain ⟨A6, n6, c6, d6, e6, l6, H6⟩ := (hd 6 (by kernel_rfl)).2
          rw [d6]
          clear d6
          replace H6 := Lib.hid H6
          replace l6 := Lib.hid l6
          clear hd
          exact GH.st_conv Try.underlying28 Try.underlying5 Try.underlying9 _ (by rfl) rfl rfl H6.out
        | 8, _, hd =>
          simp only [GH.mkL, List.getD_cons_succ, List.getD_cons_zero]
          have d3 : S 3 = .string (strN (coverL g1 ka la)) := (hd 3 (by kernel_rfl)).2
          rw [d3]
          clear d3
          have d7 : S 7 = .string (strN (coverL g2 kb lb)) := (hd 7 (by kernel_rfl)).2
          rw [d7]
          clear d7
          clear hd
          refine GH.st_eq (by rfl) ?_
          have hsm := HSM.out
          go_simp
          (try with_reducible rfl)
        | 9, _, hd =>
          simp only [GH.mkL, List.getD_cons_succ, List.getD_cons_zero]
          clear hd
          refine GH.st_eq (by rfl) ?_
          go_simp
          (try with_reducible rfl)
        | 10, _, hd =>
          simp only [GH.mkL, List.getD_cons_succ, List.getD_cons_zero]
          have d8 : S 8 = .bool sm := (hd 8 (by kernel_rfl)).2
          rw [d8]
          clear d8
          have d9 : S 9 = .bool sm := (hd 9 (by kernel_rfl)).2
          rw [d9]
          clear d9
          clear hd
          refine GH.st_eq (by rfl) ?_
          go_simp
          (try with_reducible rfl)
        | 11, _, hd =>
          simp only [GH.mkL, List.getD_cons_succ, List.getD_cons_zero]
          obtain ⟨A6, n6, c6, d6, e6, l6, H6⟩ := (hd 6 (by kernel_rfl)).2
          rw [d6]
          clear d6
          replace H6 := Lib.hid H6
          replace l6 := Lib.hid l6
          have d10 : S 10 = .bool true := (hd 10 (by kernel_rfl)).2
          rw [d10]
          clear d10
          clear hd
          refine GH.st_eq (by rfl) ?_
          go_simp
          (try with_reducible rfl)
        | 12, _, hd =>
          simp only [GH.mkL, List.getD_cons_succ, List.getD_cons_zero]
          have d11 : S 11 = .bool true := (hd 11 (by kernel_rfl)).2
          rw [d11]
          clear d11
          clear hd
          refine GH.st_call (by rfl) hb.below.size (by go_simp) ((alive10_any w').mono ?_)
          rintro e w9 ⟨rfl, hb9⟩
          exact ⟨_, rfl, hb9, rfl⟩
        | 13, _, hd =>
          simp only [GH.mkL, List.getD_cons_succ, List.getD_cons_zero]
          have d11 : S 11 = .bool true := (hd 11 (by kernel_rfl)).2
          rw [d11]
          clear d11
          have d12 : S 12 = .bool true := (hd 12 (by kernel_rfl)).2
          rw [d12]
          clear d12
          clear hd
          refine GH.st_eq (by rfl) ?_
          go_simp
          (try with_reducible rfl)
        | 14, _, hd =>
          simp only [GH.mkL, List.getD_cons_succ, List.getD_cons_zero]
          have d0 : S 0 = .agg #[.int .u16 (g1.src : Int), .int .u16 (g1.dst : Int), .int .u32 (g1.seq : Int), .int .u32 (g1.ack : Int), .int .u8 (g1.flags : Int), .slice Ap1 np1 cp1, .slice Dp1 mp1 dp1] := (hd 0 (by kernel_rfl)).2
          rw [d0]
          clear d0
          have d1 : S 1 = .agg #[.int .u8 (ka : Nat), .slice Aa na ca] := (hd 1 (by kernel_rfl)).2
          rw [d1]
          clear d1
          obtain ⟨A2, n2, c2, d2, e2, l2, H2⟩ := (hd 2 (by kernel_rfl)).2
          rw [d2]
          clear d2
          replace H2 := Lib.hid H2
          replace l2 := Lib.hid l2
          have d3 : S 3 = .string (strN (coverL g1 ka la)) := (hd 3 (by kernel_rfl)).2
          rw [d3]
          clear d3
          have d4 : S 4 = .agg #[.int .u16 (g2.src : Int), .int .u16 (g2.dst : Int), .int .u32 (g2.seq : Int), .int .u32 (g2.ack : Int), .int .u8 (g2.flags : Int), .slice Ap2 np2 cp2, .slice Dp2 mp2 dp2] := (hd 4 (by kernel_rfl)).2
          rw [d4]
          clear d4
          have d5 : S 5 = .agg #[.int .u8 (kb : Nat), .slice Ab nb cb] := (hd 5 (by kernel_rfl)).2
          rw [d5]
          clear d5
          obtain ⟨A6, n6, c6, d6, e6, l6, H6⟩ := (hd 6 (by kernel_rfl)).2
          rw [d6]
          clear d6
          replace H6 := Lib.hid H6
          replace l6 := Lib.hid l6
          have d7 : S 7 = .string (strN (coverL g2 kb lb)) := (hd 7 (by kernel_rfl)).2
          rw [d7]
          clear d7
          have d8 : S 8 = .bool sm := (hd 8 (by kernel_rfl)).2
          rw [d8]
          clear d8
          have d9 : S 9 = .bool sm := (hd 9 (by kernel_rfl)).2
          rw [d9]
          clear d9
          have d10 : S 10 = .bool true := (hd 10 (by kernel_rfl)).2
          rw [d10]
          clear d10
          have d11 : S 11 = .bool true := (hd 11 (by kernel_rfl)).2
          rw [d11]
          clear d11
          have d12 : S 12 = .bool true := (hd 12 (by kernel_rfl)).2
          rw [d12]
          clear d12
          have d13 : S 13 = .bool true := (hd 13 (by kernel_rfl)).2
          rw [d13]
          clear d13
          clear hd
          refine GH.st_eq (by rfl) ?_
          go_simp
          (try with_reducible rfl)
        | nx + 15, hjx, _ => omega
      intro S w' hb hG
      simp only [GH.mkL, List.drop_succ_cons, List.drop_zero]
      have d14 : S 14 = .bool true := hG 14 (by omega)
      rw [d14]
      clear d14
      clear hG
      have BF := Lib.hid (B5.out.trans (hb.below.mono B5.out.size))
      clear hb
      refine wpList_nil ?_
      go_wp2_with fail
      go_ret
      exact ⟨rfl, BF.out⟩
      
    
  ·
    (try simp only [List.map_cons, List.map_nil, List.getD_cons_zero, List.getD_cons_succ])
    refine OB.o_sole (fun K hK => ?_)
    go_wp2_with fail
    refine hK _ _ (fun _ => OB.ExtB.at_ ((Below.refl _ _).alloc (Nat.le_refl _) _) (fun k hk => Nat.lt_of_lt_of_le hk hz3)) ?_; clear hK K
    refine OB.o_nil ?_
    refine OB.f_walk [(4, .sole), (6, .sole), (7, .sole)] 0 (by rfl) (by kernel_rfl) ?_; (try simp only [List.map_cons, List.map_nil, List.getD_cons_zero, List.getD_cons_succ])
    have KU := Lib.hid (Blk.new w3 45 #[.int .u8 0, .slice none 0 0])
    have bU : Below w3.heap.size w3 (w3.alloc (.cells #[.int .u8 0, .slice none 0 0] 45)) := (Below.refl _ _).alloc (Nat.le_refl _) _
    have hz4 : (w3.alloc (.cells #[.int .u8 0, .slice none 0 0] 45)).heap.size = w3.heap.size + 1 := by simp
    generalize w3.alloc (.cells #[.int .u8 0, .slice none 0 0] 45) = w4 at KU bU hz4 ⊢
    refine OB.o_sole (fun K hK => ?_)
    go_wp2_with fail
    refine hK _ _ (fun _ => OB.ExtB.at_ ((Below.refl _ _).alloc (Nat.le_refl _) _) (fun k hk => by have := hz3; simp only at hk; omega)) ?_; clear hK K
    have KV := Lib.hid (Blk.new w4 45 #[.int .u8 0, .slice none 0 0])
    have bV : Below w4.heap.size w4 (w4.alloc (.cells #[.int .u8 0, .slice none 0 0] 45)) := (Below.refl _ _).alloc (Nat.le_refl _) _
    replace KU := Lib.hid (KU.out.below bV KU.out.lt)
    generalize w4.alloc (.cells #[.int .u8 0, .slice none 0 0] 45) = w6 at *
    rw [hz4] at KV
    (try rw [hz4] at KV)
    (try rw [hz4])
    have KA : Hid (Blk w6 (w3.heap.size + 1) 45 #[.int .u8 0, .slice none 0 0]) := KV
    have KB : Hid (Blk w6 (w3.heap.size) 45 #[.int .u8 0, .slice none 0 0]) := KU
    clear KU KV
    refine OB.o_sole (fun K hK => ?_)
    refine stm_store (cs' := #[.int .u8 (ka : Nat), .slice Aa na ca]) KA.out rfl _ _ rfl rfl rfl (by simp) (by kernel_rfl) (by simp [Value.oneCell']) (by simp [setL]) fun w7 hk7 hs7 => ?_
    refine wpList_nil ?_
    refine hK _ _ (fun _ => OB.ExtB.at_ hs7.1 (fun k hk => by simp only at hk; omega)) ?_; clear hK K
    have KA7 := Lib.hid hk7
    have KB7 := Lib.hid (hs7.blk KB.out (by omega))
    refine OB.o_sole (fun K hK => ?_)
    refine stm_store (cs' := #[.int .u8 (kb : Nat), .slice Ab nb cb]) KB7.out rfl _ _ rfl rfl rfl (by simp) (by kernel_rfl) (by simp [Value.oneCell']) (by simp [setL]) fun w8 hk8 hs8 => ?_
    refine wpList_nil ?_
    refine hK _ _ (fun _ => OB.ExtB.at_ hs8.1 (fun k hk => by simp only at hk; omega)) ?_; clear hK K
    have KB8 := Lib.hid hk8
    have KA8 := Lib.hid (hs8.blk KA7.out (by omega))
    have B38 : Below w3.heap.size w3 w8 := (bU.trans (bV.mono (by omega))).trans ((hs7.1.mono (by omega)).trans (hs8.1.mono (by omega)))
    have B28 := Lib.hid (BD.out.trans (B38.mono BD.out.size))
    replace K0 := Lib.hid (K0.out.below B38 K0.out.lt)
    replace K1 := Lib.hid (K1.out.below B38 K1.out.lt)
    replace HD1 := Lib.hid (HD1.out.into B28.out)
    replace HD2 := Lib.hid (HD2.out.into B28.out)
    replace HRA := Lib.hid (HRA.out.into B28.out)
    replace HRB := Lib.hid (HRB.out.into B28.out)
    have B5 := Lib.hid (b1.out.trans (B28.out.mono b1.out.size))
    replace HS1 := Lib.hid (HS1.out.into B28.out)
    replace HS2 := Lib.hid (HS2.out.into B28.out)
    clear hk7 hs7 hk8 hs8 KA KB KA7 KB7 bU bV hz4 B38 B28 BD K2 HZ b1 hz3
    obtain ⟨pa, hpa⟩ : ∃ p, p = w3.heap.size + 1 := ⟨_, rfl⟩
    obtain ⟨pb, hpb⟩ : ∃ p, p = w3.heap.size := ⟨_, rfl⟩
    have KA : Hid (Blk w8 pa 45 #[.int .u8 (ka : Nat), .slice Aa na ca]) := by rw [hpa]; exact KA8
    have KB : Hid (Blk w8 pb 45 #[.int .u8 (kb : Nat), .slice Ab nb cb]) := by rw [hpb]; exact KB8
    rw [← hpa, ← hpb]
    clear KA8 KB8 hpa hpb
    generalize w8 = w5 at *
    refine OB.o_nil ?_
    refine OB.f_end (by kernel_rfl) (hQ.out _ _ ?_); clear hQ QQ
    obtain ⟨a0, a1⟩ := ptc2 KA.out
    obtain ⟨b0, b1'⟩ := ptc2 KB.out
    obtain ⟨s0, s1, s2, s3, s4, s5, s6⟩ := seg_cells K0.out
    obtain ⟨t0, t1, t2, t3, t4, t5, t6⟩ := seg_cells K1.out
    go_upto_region 2 with fail
    (try simp only [Act.put])
    go_cut [49] from 12 (fun t wc => t = .bool big ∧ wc = w5)
    case first =>
      by_cases q0 : na < 8
      · have q0' : (na : Int) < (8 : Int) := by omega
        have hbg : big = true := by rw [HBG.out]; simp [q0]
        subst hbg
        go_wp2_with fail
        go_meet
        case rel => exact ⟨rfl, rfl⟩
      · have q0' : ¬ (na : Int) < (8 : Int) := by omega
        by_cases q1 : nb < 8
        · have q1' : (nb : Int) < (8 : Int) := by omega
          have hbg : big = true := by rw [HBG.out]; simp [q0, q1]
          subst hbg
          go_wp2_with fail
          go_meet
          case rel => exact ⟨rfl, rfl⟩
        · have q1' : ¬ (nb : Int) < (8 : Int) := by omega
          by_cases q2 : 255 < na
          · have q2' : (255 : Int) < (na : Int) := by omega
            have hbg : big = true := by rw [HBG.out]; simp [q0, q1, q2]
            subst hbg
            go_wp2_with fail
            go_meet
            case rel => exact ⟨rfl, rfl⟩
          · have q2' : ¬ (255 : Int) < (na : Int) := by omega
            by_cases q3 : 255 < nb
            · have q3' : (255 : Int) < (nb : Int) := by omega
              have hbg : big = true := by rw [HBG.out]; simp [q0, q1, q2, q3]
              subst hbg
              go_wp2_with fail
              go_meet
              case rel => exact ⟨rfl, rfl⟩
            · have q3' : ¬ (255 : Int) < (nb : Int) := by omega
              by_cases q4 : 2000 < mp1
              · have q4' : (2000 : Int) < (mp1 : Int) := by omega
                have hbg : big = true := by rw [HBG.out]; simp [q0, q1, q2, q3, q4]
                subst hbg
                go_wp2_with fail
                go_meet
                case rel => exact ⟨rfl, rfl⟩
              · have q4' : ¬ (2000 : Int) < (mp1 : Int) := by omega
                by_cases q5 : 2000 < mp2
                · have q5' : (2000 : Int) < (mp2 : Int) := by omega
                  have hbg : big = true := by rw [HBG.out]; simp [q0, q1, q2, q3, q4, q5]
                  subst hbg
                  go_wp2_with fail
                  go_meet
                  case rel => exact ⟨rfl, rfl⟩
                · have q5' : ¬ (2000 : Int) < (mp2 : Int) := by omega
                  have hbg : big = false := by rw [HBG.out]; simp [q0, q1, q2, q3, q4, q5]
                  subst hbg
                  have q0d : decide ((na : Int) < 8) = false := decide_eq_false q0'
                  go_wp2_with fail
                  go_meet
                  case rel => exact ⟨rfl, rfl⟩
    case rest =>
    obtain ⟨rfl, rfl⟩ := hcut
    cases big with
    | true =>
      go_wp2_with fail
      go_ret
      exact ⟨rfl, B5.out⟩
    | false =>
    have HQ := Lib.hid (show ¬ na < 8 ∧ ¬ nb < 8 ∧ ¬ 255 < na ∧ ¬ 255 < nb ∧ ¬ 2000 < mp1 ∧ ¬ 2000 < mp2 from by have h := HBG.out; simpa [Bool.or_eq_false_iff, and_assoc] using h.symm)
    have HC1 := Lib.hid (show CovV wc _ g1 Aa na ca ka la from ⟨HS1.out, HG1.out, HRA.out, hna, by have := HQ.out; omega, hka, by rw [HL1.out]; have := HQ.out; omega, H8A.out⟩)
    have HC2 := Lib.hid (show CovV wc _ g2 Ab nb cb kb lb from ⟨HS2.out, HG2.out, HRB.out, hnb, by have := HQ.out; omega, hkb, by rw [HL2.out]; have := HQ.out; omega, H8B.out⟩)
    clear HS1 HS2
    go_upto_region 4 with fail
    go_cut [9] from 50 (fun t wc2 => t = .bool hd ∧ wc2 = wc)
    case first =>
      by_cases q0 : g1.src = g2.src
      · have e0 : ((g1.src : Int) == (g2.src : Int)) = true := by rw [q0]; simp
        by_cases q1 : g1.dst = g2.dst
        · have e1 : ((g1.dst : Int) == (g2.dst : Int)) = true := by rw [q1]; simp
          by_cases q2 : g1.seq = g2.seq
          · have e2 : ((g1.seq : Int) == (g2.seq : Int)) = true := by rw [q2]; simp
            by_cases q3 : g1.ack = g2.ack
            · have e3 : ((g1.ack : Int) == (g2.ack : Int)) = true := by rw [q3]; simp
              by_cases q4 : g1.flags = g2.flags
              · have e4 : ((g1.flags : Int) == (g2.flags : Int)) = true := by rw [q4]; simp
                have hh : hd = true := by rw [HHD.out]; simp [q0, q1, q2, q3, q4]
                subst hh
                go_wp2_with fail
                go_meet
                case rel => exact ⟨rfl, rfl⟩
              · have e4 : ((g1.flags : Int) == (g2.flags : Int)) = false := by simp; omega
                have hh : hd = false := by rw [HHD.out]; simp [q4]
                subst hh
                go_wp2_with fail
                go_meet
                case rel => exact ⟨rfl, rfl⟩
            · have e3 : ((g1.ack : Int) == (g2.ack : Int)) = false := by simp; omega
              have hh : hd = false := by rw [HHD.out]; simp [q3]
              subst hh
              go_wp2_with fail
              go_meet
              case rel => exact ⟨rfl, rfl⟩
          · have e2 : ((g1.seq : Int) == (g2.seq : Int)) = false := by simp; omega
            have hh : hd = false := by rw [HHD.out]; simp [q2]
            subst hh
            go_wp2_with fail
            go_meet
            case rel => exact ⟨rfl, rfl⟩
        · have e1 : ((g1.dst : Int) == (g2.dst : Int)) = false := by simp; omega
          have hh : hd = false := by rw [HHD.out]; simp [q1]
          subst hh
          go_wp2_with fail
          go_meet
          case rel => exact ⟨rfl, rfl⟩
      · have e0 : ((g1.src : Int) == (g2.src : Int)) = false := by simp; omega
        have hh : hd = false := by rw [HHD.out]; simp [q0]
        subst hh
        go_wp2_with fail
        go_meet
        case rel => exact ⟨rfl, rfl⟩
    case rest =>
    obtain ⟨rfl, rfl⟩ := hcut
    clear a0 a1 b0 b1' s0 s1 s2 s3 s4 s5 s6 t0 t1 t2 t3 t4 t5 t6
    by_cases keq : ka = kb
    · have hke : ((ka : Int) == (kb : Int)) = true := by rw [keq]; simp
      obtain ⟨ja, hja⟩ : ∃ j, j = na - 8 := ⟨_, rfl⟩
      obtain ⟨jb, hjb⟩ : ∃ j, j = nb - 8 := ⟨_, rfl⟩
      have hwa : IntKind.i64.wrap ((na : Int) - 8) = (ja : Nat) := by have h := HQ.out; rw [IntKind.wrap_i64]; omega
      have hwb : IntKind.i64.wrap ((nb : Int) - 8) = (jb : Nat) := by have h := HQ.out; rw [IntKind.wrap_i64]; omega
      have HJA := Lib.hid (show ja ≤ ca by omega)
      have HJB := Lib.hid (show jb ≤ cb by omega)
      have HTA := Lib.hid (HRA.out.takeN (show ja ≤ na by omega))
      have HTB := Lib.hid (HRB.out.takeN (show jb ≤ nb by omega))
      obtain ⟨bd, hbd⟩ : ∃ b : Bool, b = decide (la.take ja = lb.take jb) := ⟨_, rfl⟩
      have HBE := Lib.hid (show ((strN (la.take ja)).toList == (strN (lb.take jb)).toList) = bd from by rw [hbd]; exact strN_beq (fun x hx => H8A.out x (List.mem_of_mem_take hx)) (fun x hx => H8B.out x (List.mem_of_mem_take hx)))
      obtain ⟨dq, hdq⟩ : ∃ b : Bool, b = decide (g1.data = g2.data) := ⟨_, rfl⟩
      have HDE := Lib.hid (show ((strN g1.data).toList == (strN g2.data).toList) = dq from by rw [hdq]; exact strN_beq HG1.out.data HG2.out.data)
      have HSM := Lib.hid (show ((strN (coverL g1 ka la)).toList == (strN (coverL g2 kb lb)).toList) = (hd && bd && dq) from by
        have h := HQ.out
        rw [strN_beq (coverL_byte HG1.out HC1.out.kind H8A.out) (coverL_byte HG2.out HC2.out.kind H8B.out)]
        have h2 := cover_iff (k := ka) (k' := kb) HG1.out HG2.out (by rw [HLA.out]; omega) (by rw [HLB.out]; omega) (by rw [HLA.out]; omega) (by rw [HLB.out]; omega)
        unfold sameC at h2
        rw [HLA.out, HLB.out, ← hja, ← hjb] at h2
        rw [HHD.out, hbd, hdq, Bool.eq_iff_iff]
        simp only [decide_eq_true_eq, Bool.and_eq_true]
        rw [h2]
        simp only [keq, true_and, and_assoc])
      clear hja hjb hbd hdq keq
      clear HQ HHD HRA HRB H8A H8B
      go_upto_region 5 with fail
      refine GH.wp_ghl (M := false) 25 ((GH.SP.eq (.pointer (some ⟨pa, 0, none⟩))) :: (GH.SP.eq (.int .u8 (ka : Nat))) :: (GH.SP.eq (.pointer (some ⟨pb, 0, none⟩))) :: (GH.SP.eq (.int .u8 (kb : Nat))) :: (GH.SP.eq (.bool true)) :: (GH.SP.eq (.bool true)) :: (GH.SP.eq (.pointer (some ⟨pa, 1, none⟩))) :: (GH.SP.eq (.slice Aa na ca)) :: (GH.SP.eq (.pointer (some ⟨pa, 1, none⟩))) :: (GH.SP.eq (.slice Aa na ca)) :: (GH.SP.eq (.int .i64 (na : Nat))) :: (GH.SP.eq (.int .i64 (ja : Nat))) :: (GH.SP.eq (.slice Aa ja ca)) :: (GH.SP.eq (.string (strN (la.take ja)))) :: (GH.SP.eq (.pointer (some ⟨pb, 1, none⟩))) :: (GH.SP.eq (.slice Ab nb cb)) :: (GH.SP.eq (.pointer (some ⟨pb, 1, none⟩))) :: (GH.SP.eq (.slice Ab nb cb)) :: (GH.SP.eq (.int .i64 (nb : Nat))) :: (GH.SP.eq (.int .i64 (jb : Nat))) :: (GH.SP.eq (.slice Ab jb cb)) :: (GH.SP.eq (.string (strN (lb.take jb)))) :: (GH.SP.eq (.bool bd)) :: (GH.SP.eq (.bool bd)) :: (GH.SP.eq (.bool bd)) :: []) (none :: none :: none :: none :: none :: none :: none :: none :: none :: none :: (some 24) :: none :: none :: none :: none :: none :: none :: none :: none :: none :: none :: none :: none :: none :: none :: none :: none :: none :: none :: none :: none :: none :: none :: none :: none :: none :: none :: none :: none :: none :: none :: none :: none :: none :: none :: none :: none :: none :: none :: none :: none :: none :: none :: none :: none :: none :: none :: none :: none :: none :: none :: none :: none :: none :: none :: none :: none :: none :: none :: none :: none :: none :: none :: none :: none :: none :: none :: none :: none :: none :: none :: none :: none :: (some 0) :: (some 1) :: (some 2) :: (some 3) :: (some 4) :: (some 5) :: (some 6) :: (some 7) :: (some 8) :: (some 9) :: (some 10) :: (some 11) :: (some 12) :: (some 13) :: (some 14) :: (some 15) :: (some 16) :: (some 17) :: (some 18) :: (some 19) :: (some 20) :: (some 21) :: (some 22) :: (some 23) :: none :: none :: none :: none :: none :: none :: none :: none :: none :: none :: none :: none :: none :: none :: none :: none :: none :: none :: none :: none :: none :: none :: none :: none :: none :: none :: none :: []) [83, 84, 85, 86, 87, 88, 89, 90, 91, 92, 93, 94, 95, 96, 97, 98, 99, 100, 101, 102, 103, 104, 105, 106, 10] (by rfl) (by kernel_rfl) (by kernel_rfl) ?_ ?_ ?_
      · intro S jx v hjx
        match jx, hjx with
        | 0, _ => rfl
        | 1, _ => rfl
        | 2, _ => rfl
        | 3, _ => rfl
        | 4, _ => rfl
        | 5, _ => rfl
        | 6, _ => rfl
        | 7, _ => rfl
        | 8, _ => rfl
        | 9, _ => rfl
        | 10, _ => rfl
        | 11, _ => rfl
        | 12, _ => rfl
        | 13, _ => rfl
        | 14, _ => rfl
        | 15, _ => rfl
        | 16, _ => rfl
        | 17, _ => rfl
        | 18, _ => rfl
        | 19, _ => rfl
        | 20, _ => rfl
        | 21, _ => rfl
        | 22, _ => rfl
        | 23, _ => rfl
        | 24, _ => rfl
        | nx + 25, hjx => omega
      · intro jx hjx S w' hb hd
        match jx, hjx, hd with
        | 0, _, hd =>
          simp only [GH.mkL, List.getD_cons_succ, List.getD_cons_zero]
          clear hd
          refine GH.st_eq (by rfl) ?_
          go_simp
          (try with_reducible rfl)
        | 1, _, hd =>
          simp only [GH.mkL, List.getD_cons_succ, List.getD_cons_zero]
          have d0 : S 0 = .pointer (some ⟨pa, 0, none⟩) := (hd 0 (by kernel_rfl)).2
          rw [d0]
          clear d0
          clear hd
          exact GH.st_load _ (by rfl) rfl rfl (((KA.out.below hb.below KA.out.lt)).cell 0) (by kernel_rfl)
        | 2, _, hd =>
          simp only [GH.mkL, List.getD_cons_succ, List.getD_cons_zero]
          clear hd
          refine GH.st_eq (by rfl) ?_
          go_simp
          (try with_reducible rfl)
        | 3, _, hd =>
          simp only [GH.mkL, List.getD_cons_succ, List.getD_cons_zero]
          have d2 : S 2 = .pointer (some ⟨pb, 0, none⟩) := (hd 2 (by kernel_rfl)).2
          rw [d2]
          clear d2
          clear hd
          exact GH.st_load _ (by rfl) rfl rfl (((KB.out.below hb.below KB.out.lt)).cell 0) (by kernel_rfl)
        | 4, _, hd =>
          simp only [GH.mkL, List.getD_cons_succ, List.getD_cons_zero]
          have d1 : S 1 = .int .u8 (ka : Nat) := (hd 1 (by kernel_rfl)).2
          rw [d1]
          clear d1
          have d3 : S 3 = .int .u8 (kb : Nat) := (hd 3 (by kernel_rfl)).2
          rw [d3]
          clear d3
          clear hd
          refine GH.st_eq (by rfl) ?_
          go_simp
          (try with_reducible rfl)
        | 5, _, hd =>
          simp only [GH.mkL, List.getD_cons_succ, List.getD_cons_zero]
          have d4 : S 4 = .bool true := (hd 4 (by kernel_rfl)).2
          rw [d4]
          clear d4
          clear hd
          refine GH.st_eq (by rfl) ?_
          go_simp
          (try with_reducible rfl)
        | 6, _, hd =>
          simp only [GH.mkL, List.getD_cons_succ, List.getD_cons_zero]
          have d5 : S 5 = .bool true := (hd 5 (by kernel_rfl)).2
          rw [d5]
          clear d5
          clear hd
          refine GH.st_eq (by rfl) ?_
          go_simp
          (try with_reducible rfl)
        | 7, _, hd =>
          simp only [GH.mkL, List.getD_cons_succ, List.getD_cons_zero]
          have d5 : S 5 = .bool true := (hd 5 (by kernel_rfl)).2
          rw [d5]
          clear d5
          have d6 : S 6 = .pointer (some ⟨pa, 1, none⟩) := (hd 6 (by kernel_rfl)).2
          rw [d6]
          clear d6
          clear hd
          exact GH.st_load _ (by rfl) rfl rfl (((KA.out.below hb.below KA.out.lt)).cell 1) (by kernel_rfl)
        | 8, _, hd =>
          simp only [GH.mkL, List.getD_cons_succ, List.getD_cons_zero]
          have d5 : S 5 = .bool true := (hd 5 (by kernel_rfl)).2
          rw [d5]
          clear d5
          clear hd
          refine GH.st_eq (by rfl) ?_
          go_simp
          (try with_reducible rfl)
        | 9, _, hd =>
          simp only [GH.mkL, List.getD_cons_succ, List.getD_cons_zero]
          have d5 : S 5 = .bool true := (hd 5 (by kernel_rfl)).2
          rw [d5]
          clear d5
          have d8 : S 8 = .pointer (some ⟨pa, 1, none⟩) := (hd 8 (by kernel_rfl)).2
          rw [d8]
          clear d8
          clear hd
          exact GH.st_load _ (by rfl) rfl rfl (((KA.out.below hb.below KA.out.lt)).cell 1) (by kernel_rfl)
        | 10, _, hd =>
          simp only [GH.mkL, List.getD_cons_succ, List.getD_cons_zero]
          have d5 : S 5 = .bool true := (hd 5 (by kernel_rfl)).2
          rw [d5]
          clear d5
          have d9 : S 9 = .slice Aa na ca := (hd 9 (by kernel_rfl)).2
          rw [d9]
          clear d9
          clear hd
          refine GH.st_eq (by rfl) ?_
          go_simp
          (try with_reducible rfl)
        | 11, _, hd =>
          simp only [GH.mkL, List.getD_cons_succ, List.getD_cons_zero]
          have d5 : S 5 = .bool true := (hd 5 (by kernel_rfl)).2
          rw [d5]
          clear d5
          have d10 : S 10 = .int .i64 (na : Nat) := (hd 10 (by kernel_rfl)).2
          rw [d10]
          clear d10
          clear hd
          refine GH.st_eq (by rfl) ?_
          go_simp
          (try with_reducible rfl)
        | 12, _, hd =>
          simp only [GH.mkL, List.getD_cons_succ, List.getD_cons_zero]
          have d5 : S 5 = .bool true := (hd 5 (by kernel_rfl)).2
          rw [d5]
          clear d5
          have d7 : S 7 = .slice Aa na ca := (hd 7 (by kernel_rfl)).2
          rw [d7]
          clear d7
          have d11 : S 11 = .int .i64 (ja : Nat) := (hd 11 (by kernel_rfl)).2
          rw [d11]
          clear d11
          clear hd
          refine GH.st_eq (by rfl) ?_
          have hcut := run_cut_h cctEl Aa na ca ja HJA.out w'
          go_simp
          (try with_reducible rfl)
        | 13, _, hd =>
          simp only [GH.mkL, List.getD_cons_succ, List.getD_cons_zero]
          have d5 : S 5 = .bool true := (hd 5 (by kernel_rfl)).2
          rw [d5]
          clear d5
          have d12 : S 12 = .slice Aa ja ca := (hd 12 (by kernel_rfl)).2
          rw [d12]
          clear d12
          clear hd
          exact GH.st_conv Try.underlying28 Try.underlying5 Try.underlying9 _ (by rfl) rfl rfl (HTA.out.gr hb)
        | 14, _, hd =>
          simp only [GH.mkL, List.getD_cons_succ, List.getD_cons_zero]
          have d5 : S 5 = .bool true := (hd 5 (by kernel_rfl)).2
          rw [d5]
          clear d5
          clear hd
          refine GH.st_eq (by rfl) ?_
          go_simp
          (try with_reducible rfl)
        | 15, _, hd =>
          simp only [GH.mkL, List.getD_cons_succ, List.getD_cons_zero]
          have d5 : S 5 = .bool true := (hd 5 (by kernel_rfl)).2
          rw [d5]
          clear d5
          have d14 : S 14 = .pointer (some ⟨pb, 1, none⟩) := (hd 14 (by kernel_rfl)).2
          rw [d14]
          clear d14
          clear hd
          exact GH.st_load _ (by rfl) rfl rfl (((KB.out.below hb.below KB.out.lt)).cell 1) (by kernel_rfl)
        | 16, _, hd =>
          simp only [GH.mkL, List.getD_cons_succ, List.getD_cons_zero]
          have d5 : S 5 = .bool true := (hd 5 (by kernel_rfl)).2
          rw [d5]
          clear d5
          clear hd
          refine GH.st_eq (by rfl) ?_
          go_simp
          (try with_reducible rfl)
        | 17, _, hd =>
          simp only [GH.mkL, List.getD_cons_succ, List.getD_cons_zero]
          have d5 : S 5 = .bool true := (hd 5 (by kernel_rfl)).2
          rw [d5]
          clear d5
          have d16 : S 16 = .pointer (some ⟨pb, 1, none⟩) := (hd 16 (by kernel_rfl)).2
          rw [d16]
          clear d16
          clear hd
          exact GH.st_load _ (by rfl) rfl rfl (((KB.out.below hb.below KB.out.lt)).cell 1) (by kernel_rfl)
        | 18, _, hd =>
          simp only [GH.mkL, List.getD_cons_succ, List.getD_cons_zero]
          have d5 : S 5 = .bool true := (hd 5 (by kernel_rfl)).2
          rw [d5]
          clear d5
          have d17 : S 17 = .slice Ab nb cb := (hd 17 (by kernel_rfl)).2
          rw [d17]
          clear d17
          clear hd
          refine GH.st_eq (by rfl) ?_
          go_simp
          (try with_reducible rfl)
        | 19, _, hd =>
          simp only [GH.mkL, List.getD_cons_succ, List.getD_cons_zero]
          have d5 : S 5 = .bool true := (hd 5 (by kernel_rfl)).2
          rw [d5]
          clear d5
          have d18 : S 18 = .int .i64 (nb : Nat) := (hd 18 (by kernel_rfl)).2
          rw [d18]
          clear d18
          clear hd
          refine GH.st_eq (by rfl) ?_
          go_simp
          (try with_reducible rfl)
        | 20, _, hd =>
          simp only [GH.mkL, List.getD_cons_succ, List.getD_cons_zero]
          have d5 : S 5 = .bool true := (hd 5 (by kernel_rfl)).2
          rw [d5]
          clear d5
          have d15 : S 15 = .slice Ab nb cb := (hd 15 (by kernel_rfl)).2
          rw [d15]
          clear d15
          have d19 : S 19 = .int .i64 (jb : Nat) := (hd 19 (by kernel_rfl)).2
          rw [d19]
          clear d19
          clear hd
          refine GH.st_eq (by rfl) ?_
          have hcut := run_cut_h cctEl Ab nb cb jb HJB.out w'
          go_simp
          (try with_reducible rfl)
        | 21, _, hd =>
          simp only [GH.mkL, List.getD_cons_succ, List.getD_cons_zero]
          have d5 : S 5 = .bool true := (hd 5 (by kernel_rfl)).2
          rw [d5]
          clear d5
          have d20 : S 20 = .slice Ab jb cb := (hd 20 (by kernel_rfl)).2
          rw [d20]
          clear d20
          clear hd
          exact GH.st_conv Try.underlying28 Try.underlying5 Try.underlying9 _ (by rfl) rfl rfl (HTB.out.gr hb)
        | 22, _, hd =>
          simp only [GH.mkL, List.getD_cons_succ, List.getD_cons_zero]
          have d5 : S 5 = .bool true := (hd 5 (by kernel_rfl)).2
          rw [d5]
          clear d5
          have d13 : S 13 = .string (strN (la.take ja)) := (hd 13 (by kernel_rfl)).2
          rw [d13]
          clear d13
          have d21 : S 21 = .string (strN (lb.take jb)) := (hd 21 (by kernel_rfl)).2
          rw [d21]
          clear d21
          clear hd
          refine GH.st_eq (by rfl) ?_
          have hbe := HBE.out
          go_simp
          (try with_reducible rfl)
        | 23, _, hd =>
          simp only [GH.mkL, List.getD_cons_succ, List.getD_cons_zero]
          have d5 : S 5 = .bool true := (hd 5 (by kernel_rfl)).2
          rw [d5]
          clear d5
          have d22 : S 22 = .bool bd := (hd 22 (by kernel_rfl)).2
          rw [d22]
          clear d22
          clear hd
          refine GH.st_eq (by rfl) ?_
          go_simp
          (try with_reducible rfl)
        | 24, _, hd =>
          simp only [GH.mkL, List.getD_cons_succ, List.getD_cons_zero]
          have d0 : S 0 = .pointer (some ⟨pa, 0, none⟩) := (hd 0 (by kernel_rfl)).2
          rw [d0]
          clear d0
          have d1 : S 1 = .int .u8 (ka : Nat) := (hd 1 (by kernel_rfl)).2
          rw [d1]
          clear d1
          have d2 : S 2 = .pointer (some ⟨pb, 0, none⟩) := (hd 2 (by kernel_rfl)).2
          rw [d2]
          clear d2
          have d3 : S 3 = .int .u8 (kb : Nat) := (hd 3 (by kernel_rfl)).2
          rw [d3]
          clear d3
          have d4 : S 4 = .bool true := (hd 4 (by kernel_rfl)).2
          rw [d4]
          clear d4
          have d5 : S 5 = .bool true := (hd 5 (by kernel_rfl)).2
          rw [d5]
          clear d5
          have d6 : S 6 = .pointer (some ⟨pa, 1, none⟩) := (hd 6 (by kernel_rfl)).2
          rw [d6]
          clear d6
          have d7 : S 7 = .slice Aa na ca := (hd 7 (by kernel_rfl)).2
          rw [d7]
          clear d7
          have d8 : S 8 = .pointer (some ⟨pa, 1, none⟩) := (hd 8 (by kernel_rfl)).2
          rw [d8]
          clear d8
          have d9 : S 9 = .slice Aa na ca := (hd 9 (by kernel_rfl)).2
          rw [d9]
          clear d9
          have d10 : S 10 = .int .i64 (na : Nat) := (hd 10 (by kernel_rfl)).2
          rw [d10]
          clear d10
          have d11 : S 11 = .int .i64 (ja : Nat) := (hd 11 (by kernel_rfl)).2
          rw [d11]
          clear d11
          have d12 : S 12 = .slice Aa ja ca := (hd 12 (by kernel_rfl)).2
          rw [d12]
          clear d12
          have d13 : S 13 = .string (strN (la.take ja)) := (hd 13 (by kernel_rfl)).2
          rw [d13]
          clear d13
          have d14 : S 14 = .pointer (some ⟨pb, 1, none⟩) := (hd 14 (by kernel_rfl)).2
          rw [d14]
          clear d14
          have d15 : S 15 = .slice Ab nb cb := (hd 15 (by kernel_rfl)).2
          rw [d15]
          clear d15
          have d16 : S 16 = .pointer (some ⟨pb, 1, none⟩) := (hd 16 (by kernel_rfl)).2
          rw [d16]
          clear d16
          have d17 : S 17 = .slice Ab nb cb := (hd 17 (by kernel_rfl)).2
          rw [d17]
          clear d17
          have d18 : S 18 = .int .i64 (nb : Nat) := (hd 18 (by kernel_rfl)).2
          rw [d18]
          clear d18
          have d19 : S 19 = .int .i64 (jb : Nat) := (hd 19 (by kernel_rfl)).2
          rw [d19]
          clear d19
          have d20 : S 20 = .slice Ab jb cb := (hd 20 (by kernel_rfl)).2
          rw [d20]
          clear d20
          have d21 : S 21 = .string (strN (lb.take jb)) := (hd 21 (by kernel_rfl)).2
          rw [d21]
          clear d21
          have d22 : S 22 = .bool bd := (hd 22 (by kernel_rfl)).2
          rw [d22]
          clear d22
          have d23 : S 23 = .bool bd := (hd 23 (by kernel_rfl)).2
          rw [d23]
          clear d23
          clear hd
          refine GH.st_eq (by rfl) ?_
          go_simp
          (try with_reducible rfl)
        | nx + 25, hjx, _ => omega
      intro S w' hb hG
      simp only [GH.mkL, List.drop_succ_cons, List.drop_zero]
      have d24 : S 24 = .bool bd := hG 24 (by omega)
      rw [d24]
      clear d24
      clear hG
      have bh : Below wc.heap.size wc w' := hb.below
      replace K0 := Lib.hid (K0.out.below bh K0.out.lt)
      replace K1 := Lib.hid (K1.out.below bh K1.out.lt)
      replace KA := Lib.hid (KA.out.below bh KA.out.lt)
      replace KB := Lib.hid (KB.out.below bh KB.out.lt)
      replace HD1 := Lib.hid (HD1.out.into bh)
      replace HD2 := Lib.hid (HD2.out.into bh)
      replace HC1 := Lib.hid (HC1.out.into bh)
      replace HC2 := Lib.hid (HC2.out.into bh)
      replace B5 := Lib.hid (B5.out.trans (bh.mono B5.out.size))
      clear bh hb
      generalize w' = w7 at *
      refine wpList_nil ?_
      go_upto_region 6 with fail
      obtain ⟨_, _, _, _, _, _, s6⟩ := seg_cells K0.out
      obtain ⟨_, _, _, _, _, _, t6⟩ := seg_cells K1.out
      obtain ⟨sm, hsm⟩ : ∃ b : Bool, b = (hd && bd && dq) := ⟨_, rfl⟩
      replace HSM := Lib.hid (HSM.out.trans hsm.symm)
      go_cut [11] from 107 (fun t wc => t = .bool sm ∧ wc = w7)
      case first =>
        have hde := HDE.out
        cases hd with
        | false =>
          have hs2 : sm = false := by rw [hsm]; rfl
          clear hsm
          subst hs2
          go_wp2_with fail
          go_meet
          case rel => exact ⟨rfl, rfl⟩
        | true =>
          cases bd with
          | false =>
            have hs2 : sm = false := by rw [hsm]; rfl
            clear hsm
            subst hs2
            go_wp2_with fail
            go_meet
            case rel => exact ⟨rfl, rfl⟩
          | true =>
            have hs2 : sm = dq := by rw [hsm]; simp
            clear hsm
            subst hs2
            go_wp2_with (first | refine wpList_conv Try.underlying28 Try.underlying5 Try.underlying9 rfl _ rfl rfl HD1.out ?_ | refine wpList_conv Try.underlying28 Try.underlying5 Try.underlying9 rfl _ rfl rfl HD2.out ?_)
            go_meet
            case rel => exact ⟨rfl, rfl⟩
      case rest =>
      obtain ⟨rfl, rfl⟩ := hcut
      clear hsm s6 t6
      go_upto_region 7 with fail
      refine GH.wp_ghl (M := false) 15 ((GH.SP.eq (.agg #[.int .u16 (g1.src : Int), .int .u16 (g1.dst : Int), .int .u32 (g1.seq : Int), .int .u32 (g1.ack : Int), .int .u8 (g1.flags : Int), .slice Ap1 np1 cp1, .slice Dp1 mp1 dp1])) :: (GH.SP.eq (.agg #[.int .u8 (ka : Nat), .slice Aa na ca])) :: (GH.SP.ns .u8 (coverL g1 ka la)) :: (GH.SP.eq (.string (strN (coverL g1 ka la)))) :: (GH.SP.eq (.agg #[.int .u16 (g2.src : Int), .int .u16 (g2.dst : Int), .int .u32 (g2.seq : Int), .int .u32 (g2.ack : Int), .int .u8 (g2.flags : Int), .slice Ap2 np2 cp2, .slice Dp2 mp2 dp2])) :: (GH.SP.eq (.agg #[.int .u8 (kb : Nat), .slice Ab nb cb])) :: (GH.SP.ns .u8 (coverL g2 kb lb)) :: (GH.SP.eq (.string (strN (coverL g2 kb lb)))) :: (GH.SP.eq (.bool sm)) :: (GH.SP.eq (.bool sm)) :: (GH.SP.eq (.bool true)) :: (GH.SP.eq (.bool true)) :: (GH.SP.eq (.bool true)) :: (GH.SP.eq (.bool true)) :: (GH.SP.eq (.bool true)) :: []) (none :: none :: none :: none :: none :: none :: (some 14) :: none :: none :: none :: none :: none :: none :: none :: none :: none :: none :: none :: none :: none :: none :: none :: none :: none :: none :: none :: none :: none :: none :: none :: none :: none :: none :: none :: none :: none :: none :: none :: none :: none :: none :: none :: none :: none :: none :: none :: none :: none :: none :: none :: none :: none :: none :: none :: none :: none :: none :: none :: none :: none :: none :: none :: none :: none :: none :: none :: none :: none :: none :: none :: none :: none :: none :: none :: none :: none :: none :: none :: none :: none :: none :: none :: none :: none :: none :: none :: none :: none :: none :: none :: none :: none :: none :: none :: none :: none :: none :: none :: none :: none :: none :: none :: none :: none :: none :: none :: none :: none :: none :: none :: none :: none :: none :: none :: none :: none :: none :: none :: none :: none :: (some 0) :: (some 1) :: (some 2) :: (some 3) :: (some 4) :: (some 5) :: (some 6) :: (some 7) :: (some 8) :: (some 9) :: (some 10) :: (some 11) :: (some 12) :: (some 13) :: []) [120, 121, 122, 123, 124, 125, 126, 127, 128, 129, 130, 131, 132, 133, 6] (by rfl) (by kernel_rfl) (by kernel_rfl) ?_ ?_ ?_
      · intro S jx v hjx
        match jx, hjx with
        | 0, _ => rfl
        | 1, _ => rfl
        | 2, _ => rfl
        | 3, _ => rfl
        | 4, _ => rfl
        | 5, _ => rfl
        | 6, _ => rfl
        | 7, _ => rfl
        | 8, _ => rfl
        | 9, _ => rfl
        | 10, _ => rfl
        | 11, _ => rfl
        | 12, _ => rfl
        | 13, _ => rfl
        | 14, _ => rfl
        | nx + 15, hjx => omega
      · intro jx hjx S w' hb hd
        match jx, hjx, hd with
        | 0, _, hd =>
          simp only [GH.mkL, List.getD_cons_succ, List.getD_cons_zero]
          clear hd
          exact GH.st_loads _ [.int .u16 (g1.src : Int), .int .u16 (g1.dst : Int), .int .u32 (g1.seq : Int), .int .u32 (g1.ack : Int), .int .u8 (g1.flags : Int), .slice Ap1 np1 cp1, .slice Dp1 mp1 dp1] (by rfl) rfl rfl (((K0.out.below hb.below K0.out.lt)).loads 0 _ (by rfl)) (by kernel_rfl) (by kernel_rfl)
        | 1, _, hd =>
          simp only [GH.mkL, List.getD_cons_succ, List.getD_cons_zero]
          clear hd
          exact GH.st_loads _ [.int .u8 (ka : Nat), .slice Aa na ca] (by rfl) rfl rfl (((KA.out.below hb.below KA.out.lt)).loads 0 _ (by rfl)) (by kernel_rfl) (by kernel_rfl)
        | 2, _, hd =>
          simp only [GH.mkL, List.getD_cons_succ, List.getD_cons_zero]
          have d0 : S 0 = .agg #[.int .u16 (g1.src : Int), .int .u16 (g1.dst : Int), .int .u32 (g1.seq : Int), .int .u32 (g1.ack : Int), .int .u8 (g1.flags : Int), .slice Ap1 np1 cp1, .slice Dp1 mp1 dp1] := (hd 0 (by kernel_rfl)).2
          rw [d0]
          clear d0
          have d1 : S 1 = .agg #[.int .u8 (ka : Nat), .slice Aa na ca] := (hd 1 (by kernel_rfl)).2
          rw [d1]
          clear d1
          clear hd
          refine GH.st_call (by rfl) hb.below.size (by go_simp) ((mcover_any _ g1 Aa na ca ka la w' (HC1.out.gr hb)).mono ?_)
          rintro e w9 ⟨⟨A9, n9, c9, rfl, e9, l9, h9⟩, hb9⟩
          exact ⟨_, rfl, hb9, ⟨_, _, _, rfl, e9, l9, h9⟩⟩
        | 3, _, hd =>
          simp only [GH.mkL, List.getD_cons_succ, List.getD_cons_zero]
          obtain ⟨A2, n2, c2, d2, e2, l2, H2⟩ := (hd 2 (by kernel_rfl)).2
          rw [d2]
          clear d2
          replace H2 := Lib.hid H2
          replace l2 := Lib.hid l2
          clear hd
          exact GH.st_conv Try.underlying28 Try.underlying5 Try.underlying9 _ (by rfl) rfl rfl H2.out
        | 4, _, hd =>
          simp only [GH.mkL, List.getD_cons_succ, List.getD_cons_zero]
          clear hd
          exact GH.st_loads _ [.int .u16 (g2.src : Int), .int .u16 (g2.dst : Int), .int .u32 (g2.seq : Int), .int .u32 (g2.ack : Int), .int .u8 (g2.flags : Int), .slice Ap2 np2 cp2, .slice Dp2 mp2 dp2] (by rfl) rfl rfl (((K1.out.below hb.below K1.out.lt)).loads 0 _ (by rfl)) (by kernel_rfl) (by kernel_rfl)
        | 5, _, hd =>
          simp only [GH.mkL, List.getD_cons_succ, List.getD_cons_zero]
          clear hd
          exact GH.st_loads _ [.int .u8 (kb : Nat), .slice Ab nb cb] (by rfl) rfl rfl (((KB.out.below hb.below KB.out.lt)).loads 0 _ (by rfl)) (by kernel_rfl) (by kernel_rfl)
        | 6, _, hd =>
          simp only [GH.mkL, List.getD_cons_succ, List.getD_cons_zero]
          obtain ⟨A2, n2, c2, d2, e2, l2, H2⟩ := (hd 2 (by kernel_rfl)).2
          rw [d2]
          clear d2
          replace H2 := Lib.hid H2
          replace l2 := Lib.hid l2
          have d4 : S 4 = .agg #[.int .u16 (g2.src : Int), .int .u16 (g2.dst : Int), .int .u32 (g2.seq : Int), .int .u32 (g2.ack : Int), .int .u8 (g2.flags : Int), .slice Ap2 np2 cp2, .slice Dp2 mp2 dp2] := (hd 4 (by kernel_rfl)).2
          rw [d4]
          clear d4
          have d5 : S 5 = .agg #[.int .u8 (kb : Nat), .slice Ab nb cb] := (hd 5 (by kernel_rfl)).2
          rw [d5]
          clear d5
          clear hd
          refine GH.st_call (by rfl) hb.below.size (by go_simp) ((mcover_any _ g2 Ab nb cb kb lb w' (HC2.out.gr hb)).mono ?_)
          rintro e w9 ⟨⟨A9, n9, c9, rfl, e9, l9, h9⟩, hb9⟩
          exact ⟨_, rfl, hb9, ⟨_, _, _, rfl, e9, l9, h9⟩⟩
        | 7, _, hd =>
          simp only [GH.mkL, List.getD_cons_succ, List.getD_cons_zero]
          obtain ⟨A6, n6, c6, d6, e6, l6, H6⟩ := (hd 6 (by kernel_rfl)).2
          rw [d6]
          clear d6
          replace H6 := Lib.hid H6
          replace l6 := Lib.hid l6
          clear hd
          exact GH.st_conv Try.underlying28 Try.underlying5 Try.underlying9 _ (by rfl) rfl rfl H6.out
        | 8, _, hd =>
          simp only [GH.mkL, List.getD_cons_succ, List.getD_cons_zero]
          have d3 : S 3 = .string (strN (coverL g1 ka la)) := (hd 3 (by kernel_rfl)).2
          rw [d3]
          clear d3
          have d7 : S 7 = .string (strN (coverL g2 kb lb)) := (hd 7 (by kernel_rfl)).2
          rw [d7]
          clear d7
          clear hd
          refine GH.st_eq (by rfl) ?_
          have hsm := HSM.out
          go_simp
          (try with_reducible rfl)
        | 9, _, hd =>
          simp only [GH.mkL, List.getD_cons_succ, List.getD_cons_zero]
          clear hd
          refine GH.st_eq (by rfl) ?_
          go_simp
          (try with_reducible rfl)
        | 10, _, hd =>
          simp only [GH.mkL, List.getD_cons_succ, List.getD_cons_zero]
          have d8 : S 8 = .bool sm := (hd 8 (by kernel_rfl)).2
          rw [d8]
          clear d8
          have d9 : S 9 = .bool sm := (hd 9 (by kernel_rfl)).2
          rw [d9]
          clear d9
          clear hd
          refine GH.st_eq (by rfl) ?_
          go_simp
          (try with_reducible rfl)
        | 11, _, hd =>
          simp only [GH.mkL, List.getD_cons_succ, List.getD_cons_zero]
          obtain ⟨A6, n6, c6, d6, e6, l6, H6⟩ := (hd 6 (by kernel_rfl)).2
          rw [d6]
          clear d6
          replace H6 := Lib.hid H6
          replace l6 := Lib.hid l6
          have d10 : S 10 = .bool true := (hd 10 (by kernel_rfl)).2
          rw [d10]
          clear d10
          clear hd
          refine GH.st_eq (by rfl) ?_
          go_simp
          (try with_reducible rfl)
        | 12, _, hd =>
          simp only [GH.mkL, List.getD_cons_succ, List.getD_cons_zero]
          have d11 : S 11 = .bool true := (hd 11 (by kernel_rfl)).2
          rw [d11]
          clear d11
          clear hd
          refine GH.st_call (by rfl) hb.below.size (by go_simp) ((alive10_any w').mono ?_)
          rintro e w9 ⟨rfl, hb9⟩
          exact ⟨_, rfl, hb9, rfl⟩
        | 13, _, hd =>
          simp only [GH.mkL, List.getD_cons_succ, List.getD_cons_zero]
          have d11 : S 11 = .bool true := (hd 11 (by kernel_rfl)).2
          rw [d11]
          clear d11
          have d12 : S 12 = .bool true := (hd 12 (by kernel_rfl)).2
          rw [d12]
          clear d12
          clear hd
          refine GH.st_eq (by rfl) ?_
          go_simp
          (try with_reducible rfl)
        | 14, _, hd =>
          simp only [GH.mkL, List.getD_cons_succ, List.getD_cons_zero]
          have d0 : S 0 = .agg #[.int .u16 (g1.src : Int), .int .u16 (g1.dst : Int), .int .u32 (g1.seq : Int), .int .u32 (g1.ack : Int), .int .u8 (g1.flags : Int), .slice Ap1 np1 cp1, .slice Dp1 mp1 dp1] := (hd 0 (by kernel_rfl)).2
          rw [d0]
          clear d0
          have d1 : S 1 = .agg #[.int .u8 (ka : Nat), .slice Aa na ca] := (hd 1 (by kernel_rfl)).2
          rw [d1]
          clear d1
          obtain ⟨A2, n2, c2, d2, e2, l2, H2⟩ := (hd 2 (by kernel_rfl)).2
          rw [d2]
          clear d2
          replace H2 := Lib.hid H2
          replace l2 := Lib.hid l2
          have d3 : S 3 = .string (strN (coverL g1 ka la)) := (hd 3 (by kernel_rfl)).2
          rw [d3]
          clear d3
          have d4 : S 4 = .agg #[.int .u16 (g2.src : Int), .int .u16 (g2.dst : Int), .int .u32 (g2.seq : Int), .int .u32 (g2.ack : Int), .int .u8 (g2.flags : Int), .slice Ap2 np2 cp2, .slice Dp2 mp2 dp2] := (hd 4 (by kernel_rfl)).2
          rw [d4]
          clear d4
          have d5 : S 5 = .agg #[.int .u8 (kb : Nat), .slice Ab nb cb] := (hd 5 (by kernel_rfl)).2
          rw [d5]
          clear d5
          obtain ⟨A6, n6, c6, d6, e6, l6, H6⟩ := (hd 6 (by kernel_rfl)).2
          rw [d6]
          clear d6
          replace H6 := Lib.hid H6
          replace l6 := Lib.hid l6
          have d7 : S 7 = .string (strN (coverL g2 kb lb)) := (hd 7 (by kernel_rfl)).2
          rw [d7]
          clear d7
          have d8 : S 8 = .bool sm := (hd 8 (by kernel_rfl)).2
          rw [d8]
          clear d8
          have d9 : S 9 = .bool sm := (hd 9 (by kernel_rfl)).2
          rw [d9]
          clear d9
          have d10 : S 10 = .bool true := (hd 10 (by kernel_rfl)).2
          rw [d10]
          clear d10
          have d11 : S 11 = .bool true := (hd 11 (by kernel_rfl)).2
          rw [d11]
          clear d11
          have d12 : S 12 = .bool true := (hd 12 (by kernel_rfl)).2
          rw [d12]
          clear d12
          have d13 : S 13 = .bool true := (hd 13 (by kernel_rfl)).2
          rw [d13]
          clear d13
          clear hd
          refine GH.st_eq (by rfl) ?_
          go_simp
          (try with_reducible rfl)
        | nx + 15, hjx, _ => omega
      intro S w' hb hG
      simp only [GH.mkL, List.drop_succ_cons, List.drop_zero]
      have d14 : S 14 = .bool true := hG 14 (by omega)
      rw [d14]
      clear d14
      clear hG
      have BF := Lib.hid (B5.out.trans (hb.below.mono B5.out.size))
      clear hb
      refine wpList_nil ?_
      go_wp2_with fail
      go_ret
      exact ⟨rfl, BF.out⟩
      
    · have hke : ((ka : Int) == (kb : Int)) = false := by simp; omega
      have HSM := Lib.hid (show ((strN (coverL g1 ka la)).toList == (strN (coverL g2 kb lb)).toList) = false from by
        have h := HQ.out
        rw [strN_beq (coverL_byte HG1.out HC1.out.kind H8A.out) (coverL_byte HG2.out HC2.out.kind H8B.out)]
        have h2 := cover_iff (k := ka) (k' := kb) HG1.out HG2.out (by rw [HLA.out]; omega) (by rw [HLB.out]; omega) (by rw [HLA.out]; omega) (by rw [HLB.out]; omega)
        rw [decide_eq_false_iff_not, h2]
        exact fun h3 => keq h3.2.1.1)
      clear keq
      clear HQ HHD HRA HRB H8A H8B
      go_upto_region 5 with fail
      refine GH.wp_ghl (M := false) 25 ((GH.SP.eq (.pointer (some ⟨pa, 0, none⟩))) :: (GH.SP.eq (.int .u8 (ka : Nat))) :: (GH.SP.eq (.pointer (some ⟨pb, 0, none⟩))) :: (GH.SP.eq (.int .u8 (kb : Nat))) :: (GH.SP.eq (.bool false)) :: (GH.SP.eq (.bool false)) :: (GH.SP.eq (undef)) :: (GH.SP.eq (undef)) :: (GH.SP.eq (undef)) :: (GH.SP.eq (undef)) :: (GH.SP.eq (undef)) :: (GH.SP.eq (undef)) :: (GH.SP.eq (undef)) :: (GH.SP.eq (undef)) :: (GH.SP.eq (undef)) :: (GH.SP.eq (undef)) :: (GH.SP.eq (undef)) :: (GH.SP.eq (undef)) :: (GH.SP.eq (undef)) :: (GH.SP.eq (undef)) :: (GH.SP.eq (undef)) :: (GH.SP.eq (undef)) :: (GH.SP.eq (undef)) :: (GH.SP.eq (.bool false)) :: (GH.SP.eq (.bool false)) :: []) (none :: none :: none :: none :: none :: none :: none :: none :: none :: none :: (some 24) :: none :: none :: none :: none :: none :: none :: none :: none :: none :: none :: none :: none :: none :: none :: none :: none :: none :: none :: none :: none :: none :: none :: none :: none :: none :: none :: none :: none :: none :: none :: none :: none :: none :: none :: none :: none :: none :: none :: none :: none :: none :: none :: none :: none :: none :: none :: none :: none :: none :: none :: none :: none :: none :: none :: none :: none :: none :: none :: none :: none :: none :: none :: none :: none :: none :: none :: none :: none :: none :: none :: none :: none :: (some 0) :: (some 1) :: (some 2) :: (some 3) :: (some 4) :: (some 5) :: (some 6) :: (some 7) :: (some 8) :: (some 9) :: (some 10) :: (some 11) :: (some 12) :: (some 13) :: (some 14) :: (some 15) :: (some 16) :: (some 17) :: (some 18) :: (some 19) :: (some 20) :: (some 21) :: (some 22) :: (some 23) :: none :: none :: none :: none :: none :: none :: none :: none :: none :: none :: none :: none :: none :: none :: none :: none :: none :: none :: none :: none :: none :: none :: none :: none :: none :: none :: none :: []) [83, 84, 85, 86, 87, 88, 89, 90, 91, 92, 93, 94, 95, 96, 97, 98, 99, 100, 101, 102, 103, 104, 105, 106, 10] (by rfl) (by kernel_rfl) (by kernel_rfl) ?_ ?_ ?_
      · intro S jx v hjx
        match jx, hjx with
        | 0, _ => rfl
        | 1, _ => rfl
        | 2, _ => rfl
        | 3, _ => rfl
        | 4, _ => rfl
        | 5, _ => rfl
        | 6, _ => rfl
        | 7, _ => rfl
        | 8, _ => rfl
        | 9, _ => rfl
        | 10, _ => rfl
        | 11, _ => rfl
        | 12, _ => rfl
        | 13, _ => rfl
        | 14, _ => rfl
        | 15, _ => rfl
        | 16, _ => rfl
        | 17, _ => rfl
        | 18, _ => rfl
        | 19, _ => rfl
        | 20, _ => rfl
        | 21, _ => rfl
        | 22, _ => rfl
        | 23, _ => rfl
        | 24, _ => rfl
        | nx + 25, hjx => omega
      · intro jx hjx S w' hb hd
        match jx, hjx, hd with
        | 0, _, hd =>
          simp only [GH.mkL, List.getD_cons_succ, List.getD_cons_zero]
          clear hd
          refine GH.st_eq (by rfl) ?_
          go_simp
          (try with_reducible rfl)
        | 1, _, hd =>
          simp only [GH.mkL, List.getD_cons_succ, List.getD_cons_zero]
          have d0 : S 0 = .pointer (some ⟨pa, 0, none⟩) := (hd 0 (by kernel_rfl)).2
          rw [d0]
          clear d0
          clear hd
          exact GH.st_load _ (by rfl) rfl rfl (((KA.out.below hb.below KA.out.lt)).cell 0) (by kernel_rfl)
        | 2, _, hd =>
          simp only [GH.mkL, List.getD_cons_succ, List.getD_cons_zero]
          clear hd
          refine GH.st_eq (by rfl) ?_
          go_simp
          (try with_reducible rfl)
        | 3, _, hd =>
          simp only [GH.mkL, List.getD_cons_succ, List.getD_cons_zero]
          have d2 : S 2 = .pointer (some ⟨pb, 0, none⟩) := (hd 2 (by kernel_rfl)).2
          rw [d2]
          clear d2
          clear hd
          exact GH.st_load _ (by rfl) rfl rfl (((KB.out.below hb.below KB.out.lt)).cell 0) (by kernel_rfl)
        | 4, _, hd =>
          simp only [GH.mkL, List.getD_cons_succ, List.getD_cons_zero]
          have d1 : S 1 = .int .u8 (ka : Nat) := (hd 1 (by kernel_rfl)).2
          rw [d1]
          clear d1
          have d3 : S 3 = .int .u8 (kb : Nat) := (hd 3 (by kernel_rfl)).2
          rw [d3]
          clear d3
          clear hd
          refine GH.st_eq (by rfl) ?_
          go_simp
          (try with_reducible rfl)
        | 5, _, hd =>
          simp only [GH.mkL, List.getD_cons_succ, List.getD_cons_zero]
          have d4 : S 4 = .bool false := (hd 4 (by kernel_rfl)).2
          rw [d4]
          clear d4
          clear hd
          refine GH.st_eq (by rfl) ?_
          go_simp
          (try with_reducible rfl)
        | 6, _, hd =>
          simp only [GH.mkL, List.getD_cons_succ, List.getD_cons_zero]
          have d5 : S 5 = .bool false := (hd 5 (by kernel_rfl)).2
          rw [d5]
          clear d5
          clear hd
          exact GH.st_skip (by rfl) rfl
        | 7, _, hd =>
          simp only [GH.mkL, List.getD_cons_succ, List.getD_cons_zero]
          have d5 : S 5 = .bool false := (hd 5 (by kernel_rfl)).2
          rw [d5]
          clear d5
          have d6 : S 6 = undef := (hd 6 (by kernel_rfl)).2
          rw [d6]
          clear d6
          clear hd
          exact GH.st_skip (by rfl) rfl
        | 8, _, hd =>
          simp only [GH.mkL, List.getD_cons_succ, List.getD_cons_zero]
          have d5 : S 5 = .bool false := (hd 5 (by kernel_rfl)).2
          rw [d5]
          clear d5
          clear hd
          exact GH.st_skip (by rfl) rfl
        | 9, _, hd =>
          simp only [GH.mkL, List.getD_cons_succ, List.getD_cons_zero]
          have d5 : S 5 = .bool false := (hd 5 (by kernel_rfl)).2
          rw [d5]
          clear d5
          have d8 : S 8 = undef := (hd 8 (by kernel_rfl)).2
          rw [d8]
          clear d8
          clear hd
          exact GH.st_skip (by rfl) rfl
        | 10, _, hd =>
          simp only [GH.mkL, List.getD_cons_succ, List.getD_cons_zero]
          have d5 : S 5 = .bool false := (hd 5 (by kernel_rfl)).2
          rw [d5]
          clear d5
          have d9 : S 9 = undef := (hd 9 (by kernel_rfl)).2
          rw [d9]
          clear d9
          clear hd
          exact GH.st_skip (by rfl) rfl
        | 11, _, hd =>
          simp only [GH.mkL, List.getD_cons_succ, List.getD_cons_zero]
          have d5 : S 5 = .bool false := (hd 5 (by kernel_rfl)).2
          rw [d5]
          clear d5
          have d10 : S 10 = undef := (hd 10 (by kernel_rfl)).2
          rw [d10]
          clear d10
          clear hd
          exact GH.st_skip (by rfl) rfl
        | 12, _, hd =>
          simp only [GH.mkL, List.getD_cons_succ, List.getD_cons_zero]
          have d5 : S 5 = .bool false := (hd 5 (by kernel_rfl)).2
          rw [d5]
          clear d5
          have d7 : S 7 = undef := (hd 7 (by kernel_rfl)).2
          rw [d7]
          clear d7
          have d11 : S 11 = undef := (hd 11 (by kernel_rfl)).2
          rw [d11]
          clear d11
          clear hd
          exact GH.st_skip (by rfl) rfl
        | 13, _, hd =>
          simp only [GH.mkL, List.getD_cons_succ, List.getD_cons_zero]
          have d5 : S 5 = .bool false := (hd 5 (by kernel_rfl)).2
          rw [d5]
          clear d5
          have d12 : S 12 = undef := (hd 12 (by kernel_rfl)).2
          rw [d12]
          clear d12
          clear hd
          exact GH.st_skip (by rfl) rfl
        | 14, _, hd =>
          simp only [GH.mkL, List.getD_cons_succ, List.getD_cons_zero]
          have d5 : S 5 = .bool false := (hd 5 (by kernel_rfl)).2
          rw [d5]
          clear d5
          clear hd
          exact GH.st_skip (by rfl) rfl
        | 15, _, hd =>
          simp only [GH.mkL, List.getD_cons_succ, List.getD_cons_zero]
          have d5 : S 5 = .bool false := (hd 5 (by kernel_rfl)).2
          rw [d5]
          clear d5
          have d14 : S 14 = undef := (hd 14 (by kernel_rfl)).2
          rw [d14]
          clear d14
          clear hd
          exact GH.st_skip (by rfl) rfl
        | 16, _, hd =>
          simp only [GH.mkL, List.getD_cons_succ, List.getD_cons_zero]
          have d5 : S 5 = .bool false := (hd 5 (by kernel_rfl)).2
          rw [d5]
          clear d5
          clear hd
          exact GH.st_skip (by rfl) rfl
        | 17, _, hd =>
          simp only [GH.mkL, List.getD_cons_succ, List.getD_cons_zero]
          have d5 : S 5 = .bool false := (hd 5 (by kernel_rfl)).2
          rw [d5]
          clear d5
          have d16 : S 16 = undef := (hd 16 (by kernel_rfl)).2
          rw [d16]
          clear d16
          clear hd
          exact GH.st_skip (by rfl) rfl
        | 18, _, hd =>
          simp only [GH.mkL, List.getD_cons_succ, List.getD_cons_zero]
          have d5 : S 5 = .bool false := (hd 5 (by kernel_rfl)).2
          rw [d5]
          clear d5
          have d17 : S 17 = undef := (hd 17 (by kernel_rfl)).2
          rw [d17]
          clear d17
          clear hd
          exact GH.st_skip (by rfl) rfl
        | 19, _, hd =>
          simp only [GH.mkL, List.getD_cons_succ, List.getD_cons_zero]
          have d5 : S 5 = .bool false := (hd 5 (by kernel_rfl)).2
          rw [d5]
          clear d5
          have d18 : S 18 = undef := (hd 18 (by kernel_rfl)).2
          rw [d18]
          clear d18
          clear hd
          exact GH.st_skip (by rfl) rfl
        | 20, _, hd =>
          simp only [GH.mkL, List.getD_cons_succ, List.getD_cons_zero]
          have d5 : S 5 = .bool false := (hd 5 (by kernel_rfl)).2
          rw [d5]
          clear d5
          have d15 : S 15 = undef := (hd 15 (by kernel_rfl)).2
          rw [d15]
          clear d15
          have d19 : S 19 = undef := (hd 19 (by kernel_rfl)).2
          rw [d19]
          clear d19
          clear hd
          exact GH.st_skip (by rfl) rfl
        | 21, _, hd =>
          simp only [GH.mkL, List.getD_cons_succ, List.getD_cons_zero]
          have d5 : S 5 = .bool false := (hd 5 (by kernel_rfl)).2
          rw [d5]
          clear d5
          have d20 : S 20 = undef := (hd 20 (by kernel_rfl)).2
          rw [d20]
          clear d20
          clear hd
          exact GH.st_skip (by rfl) rfl
        | 22, _, hd =>
          simp only [GH.mkL, List.getD_cons_succ, List.getD_cons_zero]
          have d5 : S 5 = .bool false := (hd 5 (by kernel_rfl)).2
          rw [d5]
          clear d5
          have d13 : S 13 = undef := (hd 13 (by kernel_rfl)).2
          rw [d13]
          clear d13
          have d21 : S 21 = undef := (hd 21 (by kernel_rfl)).2
          rw [d21]
          clear d21
          clear hd
          exact GH.st_skip (by rfl) rfl
        | 23, _, hd =>
          simp only [GH.mkL, List.getD_cons_succ, List.getD_cons_zero]
          have d5 : S 5 = .bool false := (hd 5 (by kernel_rfl)).2
          rw [d5]
          clear d5
          have d22 : S 22 = undef := (hd 22 (by kernel_rfl)).2
          rw [d22]
          clear d22
          clear hd
          refine GH.st_eq (by rfl) ?_
          go_simp
          (try with_reducible rfl)
        | 24, _, hd =>
          simp only [GH.mkL, List.getD_cons_succ, List.getD_cons_zero]
          have d0 : S 0 = .pointer (some ⟨pa, 0, none⟩) := (hd 0 (by kernel_rfl)).2
          rw [d0]
          clear d0
          have d1 : S 1 = .int .u8 (ka : Nat) := (hd 1 (by kernel_rfl)).2
          rw [d1]
          clear d1
          have d2 : S 2 = .pointer (some ⟨pb, 0, none⟩) := (hd 2 (by kernel_rfl)).2
          rw [d2]
          clear d2
          have d3 : S 3 = .int .u8 (kb : Nat) := (hd 3 (by kernel_rfl)).2
          rw [d3]
          clear d3
          have d4 : S 4 = .bool false := (hd 4 (by kernel_rfl)).2
          rw [d4]
          clear d4
          have d5 : S 5 = .bool false := (hd 5 (by kernel_rfl)).2
          rw [d5]
          clear d5
          have d6 : S 6 = undef := (hd 6 (by kernel_rfl)).2
          rw [d6]
          clear d6
          have d7 : S 7 = undef := (hd 7 (by kernel_rfl)).2
          rw [d7]
          clear d7
          have d8 : S 8 = undef := (hd 8 (by kernel_rfl)).2
          rw [d8]
          clear d8
          have d9 : S 9 = undef := (hd 9 (by kernel_rfl)).2
          rw [d9]
          clear d9
          have d10 : S 10 = undef := (hd 10 (by kernel_rfl)).2
          rw [d10]
          clear d10
          have d11 : S 11 = undef := (hd 11 (by kernel_rfl)).2
          rw [d11]
          clear d11
          have d12 : S 12 = undef := (hd 12 (by kernel_rfl)).2
          rw [d12]
          clear d12
          have d13 : S 13 = undef := (hd 13 (by kernel_rfl)).2
          rw [d13]
          clear d13
          have d14 : S 14 = undef := (hd 14 (by kernel_rfl)).2
          rw [d14]
          clear d14
          have d15 : S 15 = undef := (hd 15 (by kernel_rfl)).2
          rw [d15]
          clear d15
          have d16 : S 16 = undef := (hd 16 (by kernel_rfl)).2
          rw [d16]
          clear d16
          have d17 : S 17 = undef := (hd 17 (by kernel_rfl)).2
          rw [d17]
          clear d17
          have d18 : S 18 = undef := (hd 18 (by kernel_rfl)).2
          rw [d18]
          clear d18
          have d19 : S 19 = undef := (hd 19 (by kernel_rfl)).2
          rw [d19]
          clear d19
          have d20 : S 20 = undef := (hd 20 (by kernel_rfl)).2
          rw [d20]
          clear d20
          have d21 : S 21 = undef := (hd 21 (by kernel_rfl)).2
          rw [d21]
          clear d21
          have d22 : S 22 = undef := (hd 22 (by kernel_rfl)).2
          rw [d22]
          clear d22
          have d23 : S 23 = .bool false := (hd 23 (by kernel_rfl)).2
          rw [d23]
          clear d23
          clear hd
          refine GH.st_eq (by rfl) ?_
          go_simp
          (try with_reducible rfl)
        | nx + 25, hjx, _ => omega
      intro S w' hb hG
      simp only [GH.mkL, List.drop_succ_cons, List.drop_zero]
      have d24 : S 24 = .bool false := hG 24 (by omega)
      rw [d24]
      clear d24
      clear hG
      have bh : Below wc.heap.size wc w' := hb.below
      replace K0 := Lib.hid (K0.out.below bh K0.out.lt)
      replace K1 := Lib.hid (K1.out.below bh K1.out.lt)
      replace KA := Lib.hid (KA.out.below bh KA.out.lt)
      replace KB := Lib.hid (KB.out.below bh KB.out.lt)
      replace HD1 := Lib.hid (HD1.out.into bh)
      replace HD2 := Lib.hid (HD2.out.into bh)
      replace HC1 := Lib.hid (HC1.out.into bh)
      replace HC2 := Lib.hid (HC2.out.into bh)
      replace B5 := Lib.hid (B5.out.trans (bh.mono B5.out.size))
      clear bh hb
      generalize w' = w7 at *
      refine wpList_nil ?_
      go_upto_region 6 with fail
      obtain ⟨sm, hsm⟩ : ∃ b : Bool, b = false := ⟨_, rfl⟩
      replace HSM := Lib.hid (HSM.out.trans hsm.symm)
      go_cut [11] from 107 (fun t wc => t = .bool sm ∧ wc = w7)
      case first =>
        subst hsm
        cases hd with
        | false =>
          go_wp2_with fail
          go_meet
          case rel => exact ⟨rfl, rfl⟩
        | true =>
          go_wp2_with fail
          go_meet
          case rel => exact ⟨rfl, rfl⟩
      case rest =>
      obtain ⟨rfl, rfl⟩ := hcut
      clear hsm
      go_upto_region 7 with fail
      refine GH.wp_ghl (M := false) 15 ((GH.SP.eq (.agg #[.int .u16 (g1.src : Int), .int .u16 (g1.dst : Int), .int .u32 (g1.seq : Int), .int .u32 (g1.ack : Int), .int .u8 (g1.flags : Int), .slice Ap1 np1 cp1, .slice Dp1 mp1 dp1])) :: (GH.SP.eq (.agg #[.int .u8 (ka : Nat), .slice Aa na ca])) :: (GH.SP.ns .u8 (coverL g1 ka la)) :: (GH.SP.eq (.string (strN (coverL g1 ka la)))) :: (GH.SP.eq (.agg #[.int .u16 (g2.src : Int), .int .u16 (g2.dst : Int), .int .u32 (g2.seq : Int), .int .u32 (g2.ack : Int), .int .u8 (g2.flags : Int), .slice Ap2 np2 cp2, .slice Dp2 mp2 dp2])) :: (GH.SP.eq (.agg #[.int .u8 (kb : Nat), .slice Ab nb cb])) :: (GH.SP.ns .u8 (coverL g2 kb lb)) :: (GH.SP.eq (.string (strN (coverL g2 kb lb)))) :: (GH.SP.eq (.bool sm)) :: (GH.SP.eq (.bool sm)) :: (GH.SP.eq (.bool true)) :: (GH.SP.eq (.bool true)) :: (GH.SP.eq (.bool true)) :: (GH.SP.eq (.bool true)) :: (GH.SP.eq (.bool true)) :: []) (none :: none :: none :: none :: none :: none :: (some 14) :: none :: none :: none :: none :: none :: none :: none :: none :: none :: none :: none :: none :: none :: none :: none :: none :: none :: none :: none :: none :: none :: none :: none :: none :: none :: none :: none :: none :: none :: none :: none :: none :: none :: none :: none :: none :: none :: none :: none :: none :: none :: none :: none :: none :: none :: none :: none :: none :: none :: none :: none :: none :: none :: none :: none :: none :: none :: none :: none :: none :: none :: none :: none :: none :: none :: none :: none :: none :: none :: none :: none :: none :: none :: none :: none :: none :: none :: none :: none :: none :: none :: none :: none :: none :: none :: none :: none :: none :: none :: none :: none :: none :: none :: none :: none :: none :: none :: none :: none :: none :: none :: none :: none :: none :: none :: none :: none :: none :: none :: none :: none :: none :: none :: (some 0) :: (some 1) :: (some 2) :: (some 3) :: (some 4) :: (some 5) :: (some 6) :: (some 7) :: (some 8) :: (some 9) :: (some 10) :: (some 11) :: (some 12) :: (some 13) :: []) [120, 121, 122, 123, 124, 125, 126, 127, 128, 129, 130, 131, 132, 133, 6] (by rfl) (by kernel_rfl) (by kernel_rfl) ?_ ?_ ?_
      · intro S jx v hjx
        match jx, hjx with
        | 0, _ => rfl
        | 1, _ => rfl
        | 2, _ => rfl
        | 3, _ => rfl
        | 4, _ => rfl
        | 5, _ => rfl
        | 6, _ => rfl
        | 7, _ => rfl
        | 8, _ => rfl
        | 9, _ => rfl
        | 10, _ => rfl
        | 11, _ => rfl
        | 12, _ => rfl
        | 13, _ => rfl
        | 14, _ => rfl
        | nx + 15, hjx => omega
      · intro jx hjx S w' hb hd
        match jx, hjx, hd with
        | 0, _, hd =>
          simp only [GH.mkL, List.getD_cons_succ, List.getD_cons_zero]
          clear hd
          exact GH.st_loads _ [.int .u16 (g1.src : Int), .int .u16 (g1.dst : Int), .int .u32 (g1.seq : Int), .int .u32 (g1.ack : Int), .int .u8 (g1.flags : Int), .slice Ap1 np1 cp1, .slice Dp1 mp1 dp1] (by rfl) rfl rfl (((K0.out.below hb.below K0.out.lt)).loads 0 _ (by rfl)) (by kernel_rfl) (by kernel_rfl)
        | 1, _, hd =>
          simp only [GH.mkL, List.getD_cons_succ, List.getD_cons_zero]
          clear hd
          exact GH.st_loads _ [.int .u8 (ka : Nat), .slice Aa na ca] (by rfl) rfl rfl (((KA.out.below hb.below KA.out.lt)).loads 0 _ (by rfl)) (by kernel_rfl) (by kernel_rfl)
        | 2, _, hd =>
          simp only [GH.mkL, List.getD_cons_succ, List.getD_cons_zero]
          have d0 : S 0 = .agg #[.int .u16 (g1.src : Int), .int .u16 (g1.dst : Int), .int .u32 (g1.seq : Int), .int .u32 (g1.ack : Int), .int .u8 (g1.flags : Int), .slice Ap1 np1 cp1, .slice Dp1 mp1 dp1] := (hd 0 (by kernel_rfl)).2
          rw [d0]
          clear d0
          have d1 : S 1 = .agg #[.int .u8 (ka : Nat), .slice Aa na ca] := (hd 1 (by kernel_rfl)).2
          rw [d1]
          clear d1
          clear hd
          refine GH.st_call (by rfl) hb.below.size (by go_simp) ((mcover_any _ g1 Aa na ca ka la w' (HC1.out.gr hb)).mono ?_)
          rintro e w9 ⟨⟨A9, n9, c9, rfl, e9, l9, h9⟩, hb9⟩
          exact ⟨_, rfl, hb9, ⟨_, _, _, rfl, e9, l9, h9⟩⟩
        | 3, _, hd =>
          simp only [GH.mkL, List.getD_cons_succ, List.getD_cons_zero]
          obtain ⟨A2, n2, c2, d2, e2, l2, H2⟩ := (hd 2 (by kernel_rfl)).2
          rw [d2]
          clear d2
          replace H2 := Lib.hid H2
          replace l2 := Lib.hid l2
          clear hd
          exact GH.st_conv Try.underlying28 Try.underlying5 Try.underlying9 _ (by rfl) rfl rfl H2.out
        | 4, _, hd =>
          simp only [GH.mkL, List.getD_cons_succ, List.getD_cons_zero]
          clear hd
          exact GH.st_loads _ [.int .u16 (g2.src : Int), .int .u16 (g2.dst : Int), .int .u32 (g2.seq : Int), .int .u32 (g2.ack : Int), .int .u8 (g2.flags : Int), .slice Ap2 np2 cp2, .slice Dp2 mp2 dp2] (by rfl) rfl rfl (((K1.out.below hb.below K1.out.lt)).loads 0 _ (by rfl)) (by kernel_rfl) (by kernel_rfl)
        | 5, _, hd =>
          simp only [GH.mkL, List.getD_cons_succ, List.getD_cons_zero]
          clear hd
          exact GH.st_loads _ [.int .u8 (kb : Nat), .slice Ab nb cb] (by rfl) rfl rfl (((KB.out.below hb.below KB.out.lt)).loads 0 _ (by rfl)) (by kernel_rfl) (by kernel_rfl)
        | 6, _, hd =>
          simp only [GH.mkL, List.getD_cons_succ, List.getD_cons_zero]
          obtain ⟨A2, n2, c2, d2, e2, l2, H2⟩ := (hd 2 (by kernel_rfl)).2
          rw [d2]
          clear d2
          replace H2 := Lib.hid H2
          replace l2 := Lib.hid l2
          have d4 : S 4 = .agg #[.int .u16 (g2.src : Int), .int .u16 (g2.dst : Int), .int .u32 (g2.seq : Int), .int .u32 (g2.ack : Int), .int .u8 (g2.flags : Int), .slice Ap2 np2 cp2, .slice Dp2 mp2 dp2] := (hd 4 (by kernel_rfl)).2
          rw [d4]
          clear d4
          have d5 : S 5 = .agg #[.int .u8 (kb : Nat), .slice Ab nb cb] := (hd 5 (by kernel_rfl)).2
          rw [d5]
          clear d5
          clear hd
          refine GH.st_call (by rfl) hb.below.size (by go_simp) ((mcover_any _ g2 Ab nb cb kb lb w' (HC2.out.gr hb)).mono ?_)
          rintro e w9 ⟨⟨A9, n9, c9, rfl, e9, l9, h9⟩, hb9⟩
          exact ⟨_, rfl, hb9, ⟨_, _, _, rfl, e9, l9, h9⟩⟩
        | 7, _, hd =>
          simp only [GH.mkL, List.getD_cons_succ, List.getD_cons_zero]
          obtain ⟨A6, n6, c6, d6, e6, l6, H6⟩ := (hd 6 (by kernel_rfl)).2
          rw [d6]
          clear d6
          replace H6 := Lib.hid H6
          replace l6 := Lib.hid l6
          clear hd
          exact GH.st_conv Try.underlying28 Try.underlying5 Try.underlying9 _ (by rfl) rfl rfl H6.out
        | 8, _, hd =>
          simp only [GH.mkL, List.getD_cons_succ, List.getD_cons_zero]
          have d3 : S 3 = .string (strN (coverL g1 ka la)) := (hd 3 (by kernel_rfl)).2
          rw [d3]
          clear d3
          have d7 : S 7 = .string (strN (coverL g2 kb lb)) := (hd 7 (by kernel_rfl)).2
          rw [d7]
          clear d7
          clear hd
          refine GH.st_eq (by rfl) ?_
          have hsm := HSM.out
          go_simp
          (try with_reducible rfl)
        | 9, _, hd =>
          simp only [GH.mkL, List.getD_cons_succ, List.getD_cons_zero]
          clear hd
          refine GH.st_eq (by rfl) ?_
          go_simp
          (try with_reducible rfl)
        | 10, _, hd =>
          simp only [GH.mkL, List.getD_cons_succ, List.getD_cons_zero]
          have d8 : S 8 = .bool sm := (hd 8 (by kernel_rfl)).2
          rw [d8]
          clear d8
          have d9 : S 9 = .bool sm := (hd 9 (by kernel_rfl)).2
          rw [d9]
          clear d9
          clear hd
          refine GH.st_eq (by rfl) ?_
          go_simp
          (try with_reducible rfl)
        | 11, _, hd =>
          simp only [GH.mkL, List.getD_cons_succ, List.getD_cons_zero]
          obtain ⟨A6, n6, c6, d6, e6, l6, H6⟩ := (hd 6 (by kernel_rfl)).2
          rw [d6]
          clear d6
          replace H6 := Lib.hid H6
          replace l6 := Lib.hid l6
          have d10 : S 10 = .bool true := (hd 10 (by kernel_rfl)).2
          rw [d10]
          clear d10
          clear hd
          refine GH.st_eq (by rfl) ?_
          go_simp
          (try with_reducible rfl)
        | 12, _, hd =>
          simp only [GH.mkL, List.getD_cons_succ, List.getD_cons_zero]
          have d11 : S 11 = .bool true := (hd 11 (by kernel_rfl)).2
          rw [d11]
          clear d11
          clear hd
          refine GH.st_call (by rfl) hb.below.size (by go_simp) ((alive10_any w').mono ?_)
          rintro e w9 ⟨rfl, hb9⟩
          exact ⟨_, rfl, hb9, rfl⟩
        | 13, _, hd =>
          simp only [GH.mkL, List.getD_cons_succ, List.getD_cons_zero]
          have d11 : S 11 = .bool true := (hd 11 (by kernel_rfl)).2
          rw [d11]
          clear d11
          have d12 : S 12 = .bool true := (hd 12 (by kernel_rfl)).2
          rw [d12]
          clear d12
          clear hd
          refine GH.st_eq (by rfl) ?_
          go_simp
          (try with_reducible rfl)
        | 14, _, hd =>
          simp only [GH.mkL, List.getD_cons_succ, List.getD_cons_zero]
          have d0 : S 0 = .agg #[.int .u16 (g1.src : Int), .int .u16 (g1.dst : Int), .int .u32 (g1.seq : Int), .int .u32 (g1.ack : Int), .int .u8 (g1.flags : Int), .slice Ap1 np1 cp1, .slice Dp1 mp1 dp1] := (hd 0 (by kernel_rfl)).2
          rw [d0]
          clear d0
          have d1 : S 1 = .agg #[.int .u8 (ka : Nat), .slice Aa na ca] := (hd 1 (by kernel_rfl)).2
          rw [d1]
          clear d1
          obtain ⟨A2, n2, c2, d2, e2, l2, H2⟩ := (hd 2 (by kernel_rfl)).2
          rw [d2]
          clear d2
          replace H2 := Lib.hid H2
          replace l2 := Lib.hid l2
          have d3 : S 3 = .string (strN (coverL g1 ka la)) := (hd 3 (by kernel_rfl)).2
          rw [d3]
          clear d3
          have d4 : S 4 = .agg #[.int .u16 (g2.src : Int), .int .u16 (g2.dst : Int), .int .u32 (g2.seq : Int), .int .u32 (g2.ack : Int), .int .u8 (g2.flags : Int), .slice Ap2 np2 cp2, .slice Dp2 mp2 dp2] := (hd 4 (by kernel_rfl)).2
          rw [d4]
          clear d4
          have d5 : S 5 = .agg #[.int .u8 (kb : Nat), .slice Ab nb cb] := (hd 5 (by kernel_rfl)).2
          rw [d5]
          clear d5
          obtain ⟨A6, n6, c6, d6, e6, l6, H6⟩ := (hd 6 (by kernel_rfl)).2
          rw [d6]
          clear d6
          replace H6 := Lib.hid H6
          replace l6 := Lib.hid l6
          have d7 : S 7 = .string (strN (coverL g2 kb lb)) := (hd 7 (by kernel_rfl)).2
          rw [d7]
          clear d7
          have d8 : S 8 = .bool sm := (hd 8 (by kernel_rfl)).2
          rw [d8]
          clear d8
          have d9 : S 9 = .bool sm := (hd 9 (by kernel_rfl)).2
          rw [d9]
          clear d9
          have d10 : S 10 = .bool true := (hd 10 (by kernel_rfl)).2
          rw [d10]
          clear d10
          have d11 : S 11 = .bool true := (hd 11 (by kernel_rfl)).2
          rw [d11]
          clear d11
          have d12 : S 12 = .bool true := (hd 12 (by kernel_rfl)).2
          rw [d12]
          clear d12
          have d13 : S 13 = .bool true := (hd 13 (by kernel_rfl)).2
          rw [d13]
          clear d13
          clear hd
          refine GH.st_eq (by rfl) ?_
          go_simp
          (try with_reducible rfl)
        | nx + 15, hjx, _ => omega
      intro S w' hb hG
      simp only [GH.mkL, List.drop_succ_cons, List.drop_zero]
      have d14 : S 14 = .bool true := hG 14 (by omega)
      rw [d14]
      clear d14
      clear hG
      have BF := Lib.hid (B5.out.trans (hb.below.mono B5.out.size))
      clear hb
      refine wpList_nil ?_
      go_wp2_with fail
      go_ret
      exact ⟨rfl, BF.out⟩
      
    
end Go.Proofs.Ytmpakhcanejamaa
