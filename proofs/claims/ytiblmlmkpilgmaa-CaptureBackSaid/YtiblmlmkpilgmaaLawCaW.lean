/- Layer 34: the law CaptureWrites answers true, and nothing that was there has turned. -/
import Derived.Test.YtiblmlmkpilgmaaCapL
namespace Go.Proofs.Ytiblmlmkpilgmaa
open Go.RowKit
set_option linter.unusedVariables false
set_option linter.unusedSimpArgs false
theorem capA_eq {l : List Rcd} {b c : Bool} (h1 : b = true ↔ rightR l) (h2 : c = true ↔ rightR l) : b = c := by
  cases b <;> cases c
  · rfl
  · exact absurd (h1.2 (h2.1 rfl)) (by simp)
  · exact absurd (h2.2 (h1.1 rfl)) (by simp)
  · rfl
set_option maxRecDepth 20000 in
set_option maxHeartbeats 4000000 in
theorem captureWrites_walk (A : Option Addr) (n c : Nat) (l : List Rb) (A2 : Option Addr) (n2 c2 : Nat) (lb : List Nat) (w : World) (h : Rs w A n c l) (h2 : Rd w w.heap.size 1 A2 n2 (ns .u8 lb)) (hnc : n2 ≤ c2) (hcm : c2 ≤ maxLen) (hb : ∀ x ∈ lb, x < 256) :
    Calls Try.prog 10 #[.slice A n c, .slice A2 n2 c2] w fun e w' => e = .returned (.bool true) ∧ Below w.heap.size w w' := by
  have HO := Lib.hid h
  have HR := Lib.hid h2
  have HNC := Lib.hid (And.intro hnc hcm)
  have HB := Lib.hid hb
  have HL := Lib.hid h.len
  have HG := Lib.hid (cgreat_any A n c l w h)
  clear h h2 hnc hcm hb
  go_enter Try.func10, Try.ntmps10
  go_wp2_with fail
  refine HG.out.mono ?_
  rintro e w1 ⟨⟨g, rfl, hg⟩, hb1⟩
  have B1 := Lib.hid hb1
  clear HG hb1
  cases g with
  | true =>
    go_wp2_with fail
    go_ret
    exact ⟨rfl, B1.out⟩
  | false =>
  have HGG := Lib.hid (hg rfl)
  clear hg
  have hn11 : n ≤ 1100 := by have := HGG.out.1; rw [rsay_len, HL.out] at this; exact this
  have HBS := Lib.hid (show rightR (rsay l) → bsum (rsay l) ≤ 20000 from fun hr => HGG.out.2 fun p hp => by
    obtain ⟨b, hok⟩ := rightGo_mem hr.2 p hp
    exact hok.2.2.1)
  by_cases hn : 5000 < n2
  · have hn' : (5000 : Int) < (n2 : Int) := by omega
    go_wp2_with fail
    go_ret
    exact ⟨rfl, B1.out⟩
  have hn' : ¬ (5000 : Int) < (n2 : Int) := by omega
  have hnd : decide ((5000 : Int) < (n2 : Int)) = false := decide_eq_false hn'
  have HBY := Lib.hid (show ∀ p ∈ rsay l, ∀ x ∈ p.2.2.2, x < 256 from by
    intro p hp
    obtain ⟨q, hq, rfl⟩ := List.mem_map.1 hp
    exact (HO.out.bds q hq).2.2.2)
  have HML := Lib.hid (show ∀ p ∈ rsay l, p.2.2.2.length ≤ maxLen from by
    intro p hp
    obtain ⟨q, hq, rfl⟩ := List.mem_map.1 hp
    have h1 := HO.out.bod q hq
    have h2 := h1.1.natLen
    dsimp only
    omega)
  go_wp2_with fail
  refine (cencode_any A n c l w1 (HO.out.into B1.out) HBS.out).mono ?_
  rintro e w2 ⟨⟨v2, b2, rfl, hi2, hN2⟩, hb⟩
  obtain ⟨X2, m2, d2, rfl, _, _, hr2⟩ := hN2.out
  have HI2 := Lib.hid hi2
  have B2 := Lib.hid (B1.out.trans (hb.mono B1.out.size))
  clear hi2 hN2 hb B1
  go_wp2_with fail
  refine (cplain_any A n c l w2 (HO.out.into B2.out) (by omega)).mono ?_
  rintro e w3 ⟨v3, rfl, hO3, hb⟩
  obtain ⟨X3, m3, d3, rfl, _, hl3, hr3⟩ := hO3.out
  have hm3 : m3 = n := by rw [← hl3.out, rsay_len, HL.out]
  subst hm3
  have R2 := Lib.hid (hr2.out.into hb)
  have B3 := Lib.hid (B2.out.trans (hb.mono B2.out.size))
  have R3 := Lib.hid hr3.out
  clear hb hO3 hl3 hr3 hr2 B2
  go_wp2_with fail
  refine (rcencode_any X3 m3 d3 (rsay l) w3 R3.out (by omega) HML.out HBY.out HBS.out).mono ?_
  rintro e w4 ⟨⟨v4, b4, rfl, hi4, hN4⟩, hb⟩
  obtain ⟨X4, m4, d4, rfl, _, _, hr4⟩ := hN4.out
  obtain rfl : b4 = b2 := capA_eq hi4 HI2.out
  have R2b := Lib.hid (R2.out.into hb)
  have R4 := Lib.hid hr4.out
  have B4 := Lib.hid (B3.out.trans (hb.mono B3.out.size))
  have hself := strN_self (capA b4 (rsay l))
  clear hi4 hN4 hb B3 R2 R3 hr4
  generalize capA b4 (rsay l) = ca at *
  go_wp2_with (first | refine wpList_conv Try.underlying37 Try.underlying5 Try.underlying9 rfl _ rfl rfl R2b.out ?_ | refine wpList_conv Try.underlying37 Try.underlying5 Try.underlying9 rfl _ rfl rfl R4.out ?_)
  refine (cright_any A m3 c l w4 (HO.out.into B4.out)).mono ?_
  rintro e w5 ⟨⟨b5, rfl, hi5⟩, hb⟩
  have HI5 := Lib.hid hi5
  have B5 := Lib.hid (B4.out.trans (hb.mono B4.out.size))
  clear hi5 hb B4 R2b R4 hself
  go_wp2_with fail
  refine (cplain_any A m3 c l w5 (HO.out.into B5.out) (by omega)).mono ?_
  rintro e w6 ⟨v6, rfl, hO6, hb⟩
  obtain ⟨X6, m6, d6, rfl, _, hl6, hr6⟩ := hO6.out
  have hm6 : m6 = m3 := by rw [← hl6.out, rsay_len, HL.out]
  subst hm6
  have B6 := Lib.hid (B5.out.trans (hb.mono B5.out.size))
  have R6 := Lib.hid hr6.out
  clear hb hO6 hl6 hr6 B5
  go_wp2_with fail
  refine (rcright_any X6 m6 d6 (rsay l) w6 R6.out (by omega) HML.out).mono ?_
  rintro e w7 ⟨⟨b7, rfl, hi7⟩, hb⟩
  obtain rfl : b7 = b5 := capA_eq hi7 HI5.out
  have B7 := Lib.hid (B6.out.trans (hb.mono B6.out.size))
  clear hi7 hb B6 R6
  go_wp2_with fail
  refine (csum_any A2 n2 c2 lb w7 (HR.out.into B7.out) HNC.out.1 HNC.out.2 HB.out).mono ?_
  rintro e w8 ⟨rfl, hb⟩
  have B8 := Lib.hid (B7.out.trans (hb.mono B7.out.size))
  obtain ⟨S, hS⟩ : ∃ S, S = sumS lb := ⟨_, rfl⟩
  rw [← hS]
  have HSS := Lib.hid hS
  clear hS hb B7
  go_wp2_with fail
  refine (rsum_any A2 n2 c2 lb w8 (HR.out.into B8.out) HB.out (by omega)).mono ?_
  rintro e w9 ⟨rfl, hb⟩
  have B9 := Lib.hid (B8.out.trans (hb.mono B8.out.size))
  rw [← HSS.out]
  clear hb B8
  go_wp2_with fail
  refine (calive_any w9).mono ?_
  rintro e w10 ⟨rfl, hb⟩
  have B10 := Lib.hid (B9.out.trans (hb.mono B9.out.size))
  clear hb B9
  go_wp2_with fail
  go_ret
  exact ⟨rfl, B10.out⟩
theorem captureWrites_any (A : Option Addr) (n c : Nat) (l : List Rb) (A2 : Option Addr) (n2 c2 : Nat) (lb : List Nat) (w : World) (h1 : Rd w w.heap.size 4 A n (rbcs l)) (h2 : n ≤ c) (h3 : c ≤ maxLen) (h4 : ∀ p ∈ l, i64ok p.1 ∧ i64ok p.2.1 ∧ i64ok p.2.2.1 ∧ Body.ok w p.2.2.2) (h5 : Rd w w.heap.size 1 A2 n2 (ns .u8 lb)) (h6 : n2 ≤ c2) (h7 : c2 ≤ maxLen) (h8 : ∀ x ∈ lb, x < 256) :
    Calls Try.prog 10 #[.slice A n c, .slice A2 n2 c2] w fun e w' => e = .returned (.bool true) ∧ Below w.heap.size w w' := captureWrites_walk A n c l A2 n2 c2 lb w (rs_of h1 h2 h3 h4) h5 h6 h7 h8
end Go.Proofs.Ytiblmlmkpilgmaa
