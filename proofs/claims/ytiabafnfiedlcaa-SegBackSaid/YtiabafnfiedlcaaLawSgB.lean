/- Layer 7: the law SegBack answers true, and nothing that was there has turned. -/
import Derived.Test.YtiabafnfiedlcaaOpenSg
import Derived.Test.YtiabafnfiedlcaaSg5
import Derived.Test.YtiabafnfiedlcaaLawSgR
namespace Go.Proofs.Ytiabafnfiedlcaa
open Go.RowKit
set_option linter.unusedVariables false
theorem oBytes_byte {l : List Opn} (h1 : ∀ p ∈ l, p.1 < 256) (h2 : ∀ p ∈ l, ∀ x ∈ p.2, x < 256) (h3 : oSize l ≤ 200) : ∀ x ∈ oBytes l, x < 256 := by
  intro x hx
  unfold oBytes at hx
  obtain ⟨p, hp, hx⟩ := List.mem_flatMap.1 hx
  have hl : p.2.length ≤ oSize l := by
    obtain ⟨i, hi⟩ := List.mem_iff_getElem?.1 hp
    exact body_le (show l[i]? = some (p.1, p.2) from hi)
  rcases List.mem_cons.1 hx with rfl | hx
  · exact h1 p hp
  rcases List.mem_cons.1 hx with rfl | hx
  · omega
  · exact h2 p hp x hx
theorem ans_byte {g : Sg} (hg : g.bd) : ∀ x ∈ ansS g, x < 256 := by
  by_cases h : rightS g = 0
  · rw [ansS_ok h]
    obtain ⟨_, h2, _⟩ := rightS_zero h
    intro x hx
    unfold encS hdrS at hx
    simp only [List.mem_append, List.mem_cons, List.not_mem_nil, or_false] at hx
    rcases hx with ((((hx | hx) | hx) | hx) | hx) | hx | hx | hx
    · exact be_byte _ _ x hx
    · exact be_byte _ _ x hx
    · exact be_byte _ _ x hx
    · exact be_byte _ _ x hx
    · rw [hx]; exact hg.flags
    · omega
    · exact oBytes_byte hg.kinds hg.bodies h2 x hx
    · exact hg.data x hx
  · rw [ansS_no h]
    simp
theorem ans_len (g : Sg) : (ansS g).length ≤ 10000 := by
  by_cases h : rightS g = 0
  · rw [ansS_ok h, encS_len]
    obtain ⟨_, h2, h3⟩ := rightS_zero h
    omega
  · rw [ansS_no h]
    simp
set_option maxRecDepth 20000 in
set_option maxHeartbeats 4000000 in
theorem segBack_walk (v : Value) (g : Sg) (A : Option Addr) (n c : Nat) (l : List Nat) (w : World) (hv : SegV w v g) (hg : g.bd) (h : Rd w w.heap.size 1 A n (ns .u8 l)) (hnc : n ≤ c) (hmax : c ≤ maxLen) (hb : ∀ x ∈ l, x < 256) :
    Calls Try.prog 7 #[v, .slice A n c] w fun e w' => e = .returned (.bool true) ∧ Below w.heap.size w w' := by
  obtain ⟨A0, n0, c0, D0, m0, d0, l0, rfl, hO, ho, hD, hmd, hdm⟩ := hv
  have S0 := Lib.hid (SBox.mk' (d := d0) hO ho hD)
  have HMD := Lib.hid (And.intro hmd hdm)
  have HR := Lib.hid h
  have HL := Lib.hid h.natLen
  have HM := Lib.hid hmax
  have HB := Lib.hid hb
  have HNC := Lib.hid hnc
  have HG := Lib.hid hg
  clear hO ho hD hmd hdm h hmax hb hnc hg
  obtain ⟨s0, s1, s2, s3, s4, s5, s6⟩ := seg_cells S0.out.blk
  obtain ⟨r, hr⟩ : ∃ r, r = greatS g := ⟨_, rfl⟩
  have HGR := Lib.hid (great_any _ g _ (S0.out.val HMD.out.1 HMD.out.2))
  rw [← hr] at HGR
  have HRG := Lib.hid hr
  clear hr
  unfold segCs at *
  go_enter Try.func7, Try.ntmps7
  go_wp2_with fail
  refine HGR.out.mono ?_
  rintro e w1 ⟨rfl, hb1⟩
  have S1 := Lib.hid (S0.out.into hb1)
  clear HGR hb1 s0 s1 s2 s3 s4 s5 s6 S0
  have B1 := Lib.hid S1.out.bel
  cases r with
  | true =>
    go_wp2_with fail
    go_ret
    exact ⟨rfl, B1.out⟩
  | false =>
  obtain ⟨hsm, _⟩ := greatS_small HRG.out.symm
  have HS := Lib.hid hsm
  clear hsm HRG
  by_cases hn : 3000 < n
  · have hn' : (3000 : Int) < (n : Int) := by omega
    go_wp2_with fail
    go_ret
    exact ⟨rfl, B1.out⟩
  have hn' : ¬ (3000 : Int) < (n : Int) := by omega
  obtain ⟨s0, s1, s2, s3, s4, s5, s6⟩ := seg_cells S1.out.blk
  unfold segCs at *
  go_wp2_with fail
  refine (encode_any _ g w1 (S1.out.val HMD.out.1 HMD.out.2) HS.out HG.out).mono ?_
  rintro e w2 ⟨v2, rfl, hN2, hb2⟩
  have S2 := Lib.hid (S1.out.into hb2)
  clear hb2 s0 s1 s2 s3 s4 s5 s6 S1 B1
  obtain ⟨A2, c2, rfl, hnc2, hcm2, hr2⟩ := own_form (show w2.ownsRow w1.heap.size 5 1 v2 _ _ from hN2)
  clear hN2
  have HP := Lib.hid (parse_any A2 _ c2 (ansS g) w2 hr2 hnc2 hcm2 (ans_byte HG.out) (ans_len g))
  clear hr2 hnc2 hcm2
  generalize (ansS g).length = n2 at HP ⊢
  obtain ⟨r, hr⟩ : ∃ r, r = rightS g := ⟨_, rfl⟩
  rw [← hr]
  have HRR := Lib.hid hr
  clear hr
  go_wp2_with fail
  refine HP.out.mono ?_
  rintro e w3 ⟨⟨v3, cd, g2, rfl, hc3, hv3, hg3, hz3, hnz3⟩, hb3⟩
  clear HP hnz3
  obtain ⟨A3, n3, c3, D3, m3, d3, l3, rfl, hO3, ho3, hD3, hmd3, hdm3⟩ := hv3
  have bA : Below w3.heap.size w3 (w3.alloc (.cells (segCs g2 A3 n3 c3 D3 m3 d3) 56)) := (Below.refl _ _).alloc (Nat.le_refl _) _
  have V3 := Lib.hid (SegV.into (⟨A3, n3, c3, D3, m3, d3, l3, rfl, hO3, ho3, hD3, hmd3, hdm3⟩ : SegV w3 (.agg (segCs g2 A3 n3 c3 D3 m3 d3)) g2) bA)
  have S3 := Lib.hid ((S2.out.into hb3).into bA)
  have B3 := Lib.hid S3.out.bel
  obtain ⟨s0, s1, s2, s3, s4, s5, s6⟩ := seg_cells S3.out.blk
  obtain ⟨t0, t1, t2, t3, t4, t5, t6⟩ := seg_cells (Blk.new w3 56 (segCs g2 A3 n3 c3 D3 m3 d3))
  have HC3 := Lib.hid hc3
  have HG3 := Lib.hid hg3
  have HZ3 := Lib.hid hz3
  clear hc3 hg3 hz3 hO3 ho3 hD3 hmd3 hdm3 bA hb3 S2
  unfold segCs at *
  by_cases h0 : r = 0
  · subst h0
    have ea : ansS g = encS g := ansS_ok HRR.out.symm
    have ecd : cd = 0 := parC_one HC3.out (by rw [ea]; exact parC_enc HRR.out.symm)
    subst ecd
    have eg : g2 = g := encS_inj HG3.out HG.out ((HZ3.out rfl).1.trans ea)
    subst eg
    clear HC3 HZ3 ea
    go_wp2_with fail
    generalize w3.alloc (.cells #[.int .u16 (g2.src : Int), .int .u16 (g2.dst : Int), .int .u32 (g2.seq : Int), .int .u32 (g2.ack : Int), .int .u8 (g2.flags : Int), .slice A3 n3 c3, .slice D3 m3 d3] 56) = W3 at *
    refine (same_true _ _ g2 W3 (S3.out.val HMD.out.1 HMD.out.2) V3.out HS.out).mono ?_
    rintro e w4 ⟨rfl, hb4⟩
    have B4 := Lib.hid (B3.out.trans (hb4.mono B3.out.size))
    clear hb4 s0 s1 s2 s3 s4 s5 s6 t0 t1 t2 t3 t4 t5 t6
    go_wp2_with fail
    refine (parse_any A n c l w4 (HR.out.into B4.out) HNC.out HM.out HB.out (by omega)).mono ?_
    rintro e w5 ⟨⟨v5, cd5, g5, rfl, hc5, hv5, hg5, hz5, hnz5⟩, hb5⟩
    clear hc5
    obtain ⟨A5, n5, c5, D5, m5, d5, l5, rfl, hO5, ho5, hD5, hmd5, hdm5⟩ := hv5
    have hs5 : g5.small := by
      by_cases h0 : cd5 = 0
      · exact enc_small (by rw [(hz5 h0).1, HL.out]; omega)
      · rw [hnz5 h0]; exact zeroS_small
    have bA5 : Below w5.heap.size w5 (w5.alloc (.cells (segCs g5 A5 n5 c5 D5 m5 d5) 56)) := (Below.refl _ _).alloc (Nat.le_refl _) _
    have V5 := Lib.hid (SegV.into (⟨A5, n5, c5, D5, m5, d5, l5, rfl, hO5, ho5, hD5, hmd5, hdm5⟩ : SegV w5 (.agg (segCs g5 A5 n5 c5 D5 m5 d5)) g5) bA5)
    have B5 := Lib.hid ((B4.out.trans (hb5.mono B4.out.size)).trans (bA5.mono (Nat.le_trans B4.out.size hb5.size)))
    obtain ⟨u0, u1, u2, u3, u4, u5, u6⟩ := seg_cells (Blk.new w5 56 (segCs g5 A5 n5 c5 D5 m5 d5))
    have HS5 := Lib.hid hs5
    have HG5 := Lib.hid hg5
    have HZ5 := Lib.hid hz5
    clear hO5 ho5 hD5 hmd5 hdm5 bA5 hb5 hs5 hg5 hz5 hnz5
    unfold segCs at *
    go_wp2_with fail
    generalize w5.alloc (.cells #[.int .u16 (g5.src : Int), .int .u16 (g5.dst : Int), .int .u32 (g5.seq : Int), .int .u32 (g5.ack : Int), .int .u8 (g5.flags : Int), .slice A5 n5 c5, .slice D5 m5 d5] 56) = W5 at *
    refine (encode_any _ g5 W5 V5.out HS5.out HG5.out).mono ?_
    rintro e w6 ⟨v6, rfl, hN6, hb6⟩
    have B6 := Lib.hid (B5.out.trans (hb6.mono B5.out.size))
    clear hb6 u0 u1 u2 u3 u4 u5 u6
    have HR6 := Lib.hid (HR.out.into B6.out)
    obtain ⟨r5, hr5⟩ : ∃ r, r = rightS g5 := ⟨_, rfl⟩
    rw [← hr5]
    by_cases h5 : cd5 = 0
    · subst h5
      have ea : ansS g5 = l := (ansS_ok (HZ5.out rfl).2).trans (HZ5.out rfl).1
      have er : r5 = 0 := hr5.trans (HZ5.out rfl).2
      subst er
      rw [ea] at hN6
      obtain ⟨A6, c6, rfl, _, _, hr6⟩ := own_form (show w6.ownsRow W5.heap.size 5 1 v6 _ _ from hN6)
      have H6 := Lib.hid hr6
      have HSELF := strN_self l
      clear hr6 hN6 hr5
      go_wp2_with (first | refine wpList_conv Try.underlying54 Try.underlying5 Try.underlying9 rfl _ rfl rfl H6.out ?_ | refine wpList_conv Try.underlying54 Try.underlying5 Try.underlying9 rfl _ rfl rfl HR6.out ?_)
      refine (alive_any _).mono ?_
      rintro e w7 ⟨rfl, hb7⟩
      have B7 := Lib.hid (B6.out.trans (hb7.mono B6.out.size))
      go_wp2_with fail
      go_ret
      exact ⟨rfl, B7.out⟩
    · obtain ⟨A6, c6, rfl, _, _, hr6⟩ := own_form (show w6.ownsRow W5.heap.size 5 1 v6 _ _ from hN6)
      have h5' : ((cd5 : Int) == 0) = false := by simp; omega
      clear hr6 hN6
      go_wp2_with fail
      refine (alive_any _).mono ?_
      rintro e w7 ⟨rfl, hb7⟩
      have B7 := Lib.hid (B6.out.trans (hb7.mono B6.out.size))
      go_wp2_with fail
      go_ret
      exact ⟨rfl, B7.out⟩
  · have h0' : ((r : Int) == 0) = false := by simp; omega
    clear HC3 HZ3 s0 s1 s2 s3 s4 s5 s6
    go_wp2_with fail
    generalize w3.alloc (.cells #[.int .u16 (g2.src : Int), .int .u16 (g2.dst : Int), .int .u32 (g2.seq : Int), .int .u32 (g2.ack : Int), .int .u8 (g2.flags : Int), .slice A3 n3 c3, .slice D3 m3 d3] 56) = W3 at *
    clear t0 t1 t2 t3 t4 t5 t6
    refine (parse_any A n c l W3 (HR.out.into B3.out) HNC.out HM.out HB.out (by omega)).mono ?_
    rintro e w5 ⟨⟨v5, cd5, g5, rfl, hc5, hv5, hg5, hz5, hnz5⟩, hb5⟩
    clear hc5
    obtain ⟨A5, n5, c5, D5, m5, d5, l5, rfl, hO5, ho5, hD5, hmd5, hdm5⟩ := hv5
    have hs5 : g5.small := by
      by_cases h0 : cd5 = 0
      · exact enc_small (by rw [(hz5 h0).1, HL.out]; omega)
      · rw [hnz5 h0]; exact zeroS_small
    have bA5 : Below w5.heap.size w5 (w5.alloc (.cells (segCs g5 A5 n5 c5 D5 m5 d5) 56)) := (Below.refl _ _).alloc (Nat.le_refl _) _
    have V5 := Lib.hid (SegV.into (⟨A5, n5, c5, D5, m5, d5, l5, rfl, hO5, ho5, hD5, hmd5, hdm5⟩ : SegV w5 (.agg (segCs g5 A5 n5 c5 D5 m5 d5)) g5) bA5)
    have B5 := Lib.hid ((B3.out.trans (hb5.mono B3.out.size)).trans (bA5.mono (Nat.le_trans B3.out.size hb5.size)))
    obtain ⟨u0, u1, u2, u3, u4, u5, u6⟩ := seg_cells (Blk.new w5 56 (segCs g5 A5 n5 c5 D5 m5 d5))
    have HS5 := Lib.hid hs5
    have HG5 := Lib.hid hg5
    have HZ5 := Lib.hid hz5
    clear hO5 ho5 hD5 hmd5 hdm5 bA5 hb5 hs5 hg5 hz5 hnz5
    unfold segCs at *
    go_wp2_with fail
    generalize w5.alloc (.cells #[.int .u16 (g5.src : Int), .int .u16 (g5.dst : Int), .int .u32 (g5.seq : Int), .int .u32 (g5.ack : Int), .int .u8 (g5.flags : Int), .slice A5 n5 c5, .slice D5 m5 d5] 56) = W5 at *
    refine (encode_any _ g5 W5 V5.out HS5.out HG5.out).mono ?_
    rintro e w6 ⟨v6, rfl, hN6, hb6⟩
    have B6 := Lib.hid (B5.out.trans (hb6.mono B5.out.size))
    clear hb6 u0 u1 u2 u3 u4 u5 u6
    have HR6 := Lib.hid (HR.out.into B6.out)
    obtain ⟨r5, hr5⟩ : ∃ r, r = rightS g5 := ⟨_, rfl⟩
    rw [← hr5]
    by_cases h5 : cd5 = 0
    · subst h5
      have ea : ansS g5 = l := (ansS_ok (HZ5.out rfl).2).trans (HZ5.out rfl).1
      have er : r5 = 0 := hr5.trans (HZ5.out rfl).2
      subst er
      rw [ea] at hN6
      obtain ⟨A6, c6, rfl, _, _, hr6⟩ := own_form (show w6.ownsRow W5.heap.size 5 1 v6 _ _ from hN6)
      have H6 := Lib.hid hr6
      have HSELF := strN_self l
      clear hr6 hN6 hr5
      go_wp2_with (first | refine wpList_conv Try.underlying54 Try.underlying5 Try.underlying9 rfl _ rfl rfl H6.out ?_ | refine wpList_conv Try.underlying54 Try.underlying5 Try.underlying9 rfl _ rfl rfl HR6.out ?_)
      refine (alive_any _).mono ?_
      rintro e w7 ⟨rfl, hb7⟩
      have B7 := Lib.hid (B6.out.trans (hb7.mono B6.out.size))
      go_wp2_with fail
      go_ret
      exact ⟨rfl, B7.out⟩
    · obtain ⟨A6, c6, rfl, _, _, hr6⟩ := own_form (show w6.ownsRow W5.heap.size 5 1 v6 _ _ from hN6)
      have h5' : ((cd5 : Int) == 0) = false := by simp; omega
      clear hr6 hN6
      go_wp2_with fail
      refine (alive_any _).mono ?_
      rintro e w7 ⟨rfl, hb7⟩
      have B7 := Lib.hid (B6.out.trans (hb7.mono B6.out.size))
      go_wp2_with fail
      go_ret
      exact ⟨rfl, B7.out⟩
theorem segBack_any (q : Array Value × Sg) (A : Option Addr) (n c : Nat) (l : List Nat) (w : World) (hq : SegV w (.agg q.1) q.2 ∧ q.2.bd) (h : Rd w w.heap.size 1 A n (ns .u8 l)) (hnc : n ≤ c) (hmax : c ≤ maxLen) (hb : ∀ x ∈ l, x < 256) :
    Calls Try.prog 7 #[.agg q.1, .slice A n c] w fun e w' => e = .returned (.bool true) ∧ Below w.heap.size w w' := segBack_walk _ q.2 A n c l w hq.1 hq.2 h hnc hmax hb
end Go.Proofs.Ytiabafnfiedlcaa
