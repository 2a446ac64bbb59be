/- Layer 7: the law SegReads answers true, and nothing that was there has turned. -/
import Derived.Test.YtiabafnfiedlcaaSg5
import Derived.Test.YtiabafnfiedlcaaSg8
import Derived.Test.YtiabafnfiedlcaaSg9
namespace Go.Proofs.Ytiabafnfiedlcaa
open Go.RowKit
set_option linter.unusedVariables false
theorem oSize_ge (l : List Opn) : 2 * l.length ≤ oSize l := by
  induction l with
  | nil => simp [oSize]
  | cons p l ih => rw [oSize_cons, List.length_cons]; omega
theorem zeroS_small : zeroS.small := ⟨by decide, by simp [zeroS], by decide⟩
theorem enc_small {g : Sg} (h : (encS g).length ≤ 10000) : g.small := by
  rw [encS_len] at h
  have := oSize_ge g.opts
  refine ⟨by omega, fun p hp => ?_, by omega⟩
  obtain ⟨i, hi⟩ := List.mem_iff_getElem?.1 hp
  have := body_le (show g.opts[i]? = some (p.1, p.2) from hi)
  omega
set_option maxRecDepth 20000 in
set_option maxHeartbeats 4000000 in
theorem segReads_walk (A : Option Addr) (n c : Nat) (l : List Nat) (w : World) (h : Rd w w.heap.size 1 A n (ns .u8 l)) (hnc : n ≤ c) (hmax : c ≤ maxLen) (hb : ∀ x ∈ l, x < 256) :
    Calls Try.prog 6 #[.slice A n c] w fun e w' => e = .returned (.bool true) ∧ Below w.heap.size w w' := by
  by_cases hn : 3000 < n
  · have hn' : (3000 : Int) < (n : Int) := by omega
    clear h hmax hb
    go_enter Try.func6, Try.ntmps6
    go_wp2_with fail
    go_ret
    exact ⟨rfl, Below.refl _ _⟩
  have hn' : ¬ (3000 : Int) < (n : Int) := by omega
  have HP := Lib.hid (parse_any A n c l w h hnc hmax hb (by omega))
  have HR := Lib.hid h
  have HL := Lib.hid h.natLen
  have HM := Lib.hid hmax
  have HB := Lib.hid hb
  clear h hmax hb
  go_enter Try.func6, Try.ntmps6
  go_wp2_with fail
  refine HP.out.mono ?_
  rintro e w1 ⟨⟨v, cd, g, rfl, hc, hv, hg, hz, hnz⟩, hb1⟩
  obtain ⟨A1, n1, c1, D1, m1, d1, l1, rfl, hO1, ho1, hD1, hmd1, hdm1⟩ := hv
  have hs : g.small := by
    by_cases h0 : cd = 0
    · exact enc_small (by rw [(hz h0).1, HL.out]; omega)
    · rw [hnz h0]; exact zeroS_small
  have bA : Below w1.heap.size w1 (w1.alloc (.cells (segCs g A1 n1 c1 D1 m1 d1) 56)) := (Below.refl _ _).alloc (Nat.le_refl _) _
  have V1 := Lib.hid (SegV.into (⟨A1, n1, c1, D1, m1, d1, l1, rfl, hO1, ho1, hD1, hmd1, hdm1⟩ : SegV w1 (.agg (segCs g A1 n1 c1 D1 m1 d1)) g) bA)
  have K1 := Lib.hid (Blk.new w1 56 (segCs g A1 n1 c1 D1 m1 d1))
  have B1 := Lib.hid (hb1.trans (bA.mono hb1.size))
  have HC := Lib.hid hc
  have HZ := Lib.hid hz
  have HNZ := Lib.hid hnz
  have HG := Lib.hid hg
  have HS := Lib.hid hs
  clear hc hz hnz hg hs hO1 ho1 hD1 hmd1 hdm1 bA hb1 HP
  unfold segCs at V1 K1 B1 ⊢
  go_wp2_with fail
  generalize w1.alloc (.cells #[.int .u16 (g.src : Int), .int .u16 (g.dst : Int), .int .u32 (g.seq : Int), .int .u32 (g.ack : Int), .int .u8 (g.flags : Int), .slice A1 n1 c1, .slice D1 m1 d1] 56) = W1 at *
  obtain ⟨N1, hN1⟩ : ∃ N1, N1 = w1.heap.size := ⟨_, rfl⟩
  rw [← hN1] at K1 ⊢
  clear hN1
  have HQ := Lib.hid (rparse_any A n c l W1 (HR.out.into B1.out) hnc HM.out HB.out (by omega))
  refine HQ.out.mono ?_
  rintro e w2 ⟨⟨v2, cd2, g2, rfl, hc2, hv2, hg2, hz2, hnz2⟩, hb2⟩
  have ecd := parC_one HC.out hc2
  subst ecd
  have eg : g2 = g := by
    by_cases h0 : cd = 0
    · exact encS_inj hg2 HG.out ((hz2 h0).1.trans (HZ.out h0).1.symm)
    · rw [hnz2 h0, HNZ.out h0]
  subst eg
  obtain ⟨A2, n2, c2, D2, m2, d2, l2, rfl, hO2, ho2, hD2, hmd2, hdm2⟩ := hv2
  have bA : Below w2.heap.size w2 (w2.alloc (.cells (segCs g2 A2 n2 c2 D2 m2 d2) 56)) := (Below.refl _ _).alloc (Nat.le_refl _) _
  have V2 := Lib.hid (SegV.into (⟨A2, n2, c2, D2, m2, d2, l2, rfl, hO2, ho2, hD2, hmd2, hdm2⟩ : SegV w2 (.agg (segCs g2 A2 n2 c2 D2 m2 d2)) g2) bA)
  have V3 := Lib.hid ((V1.out.into hb2).into bA)
  have B2 := Lib.hid ((B1.out.trans (hb2.mono B1.out.size)).trans (bA.mono (Nat.le_trans B1.out.size hb2.size)))
  obtain ⟨s0, s1, s2, s3, s4, s5, s6⟩ := seg_cells (show Blk _ N1 56 (segCs g2 A1 n1 c1 D1 m1 d1) from (K1.out.below hb2 K1.out.lt).alloc (.cells (segCs g2 A2 n2 c2 D2 m2 d2) 56))
  obtain ⟨t0, t1, t2, t3, t4, t5, t6⟩ := seg_cells (Blk.new w2 56 (segCs g2 A2 n2 c2 D2 m2 d2))
  clear hc2 hz2 hnz2 hg2 hO2 ho2 hD2 hmd2 hdm2 bA hb2 HQ V1
  unfold segCs at *
  go_wp2_with fail
  generalize w2.alloc (.cells #[.int .u16 (g2.src : Int), .int .u16 (g2.dst : Int), .int .u32 (g2.seq : Int), .int .u32 (g2.ack : Int), .int .u8 (g2.flags : Int), .slice A2 n2 c2, .slice D2 m2 d2] 56) = W2 at *
  refine (same_true _ _ g2 W2 V3.out V2.out HS.out).mono ?_
  rintro e w3 ⟨rfl, hb3⟩
  have B3 := Lib.hid (B2.out.trans (hb3.mono B2.out.size))
  clear hb3 s0 s1 s2 s3 s4 s5 s6 t0 t1 t2 t3 t4 t5 t6
  go_wp2_with fail
  refine (alive_any w3).mono ?_
  rintro e w4 ⟨rfl, hb4⟩
  have B4 := Lib.hid (B3.out.trans (hb4.mono B3.out.size))
  clear hb4
  go_wp2_with fail
  go_ret
  exact ⟨rfl, B4.out⟩
end Go.Proofs.Ytiabafnfiedlcaa
