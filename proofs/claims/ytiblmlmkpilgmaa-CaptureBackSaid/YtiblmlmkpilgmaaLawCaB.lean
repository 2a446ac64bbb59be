/- Layer 34: the law CaptureBack answers true, and nothing that was there has turned. -/
import Derived.Test.YtiblmlmkpilgmaaLawCaW
namespace Go.Proofs.Ytiblmlmkpilgmaa
open Go.RowKit
set_option linter.unusedVariables false
set_option linter.unusedSimpArgs false
set_option maxRecDepth 20000 in
set_option maxHeartbeats 8000000 in
theorem captureBack_walk (A : Option Addr) (n c : Nat) (l : List Rb) (A2 : Option Addr) (n2 c2 : Nat) (lb : List Nat) (w : World) (h : Rs w A n c l) (h2 : Rd w w.heap.size 1 A2 n2 (ns .u8 lb)) (hnc : n2 ≤ c2) (hcm : c2 ≤ maxLen) (hb : ∀ x ∈ lb, x < 256) :
    Calls Try.prog 12 #[.slice A n c, .slice A2 n2 c2] w fun e w' => e = .returned (.bool true) ∧ Below w.heap.size w w' := by
  have HO := Lib.hid h
  have HR := Lib.hid h2
  have HNC := Lib.hid (And.intro hnc hcm)
  have HB := Lib.hid hb
  have HL := Lib.hid h.len
  have HL2 := Lib.hid h2.natLen
  have HG := Lib.hid (cgreat_any A n c l w h)
  clear h h2 hnc hcm hb
  go_enter Try.func12, Try.ntmps12
  go_wp2_with fail
  refine HG.out.mono ?_
  rintro e w1 ⟨⟨g, rfl, hg⟩, hb1⟩
  have B1 := Lib.hid hb1
  clear HG hb1
  cases g with
  | true =>
    go_wp2_with fail
    go_ret
    exact ⟨rfl, B1.out⟩
  | false =>
  have HGG := Lib.hid (hg rfl)
  clear hg
  have hn11 : n ≤ 1100 := by have := HGG.out.1; rw [rsay_len, HL.out] at this; exact this
  have HBS := Lib.hid (show rightR (rsay l) → bsum (rsay l) ≤ 20000 from fun hr => HGG.out.2 fun p hp => by
    obtain ⟨b, hok⟩ := rightGo_mem hr.2 p hp
    exact hok.2.2.1)
  by_cases hn : 5000 < n2
  · have hn' : (5000 : Int) < (n2 : Int) := by omega
    go_wp2_with fail
    go_ret
    exact ⟨rfl, B1.out⟩
  have hn' : ¬ (5000 : Int) < (n2 : Int) := by omega
  have hnd : decide ((5000 : Int) < (n2 : Int)) = false := decide_eq_false hn'
  have HBY := Lib.hid (show ∀ p ∈ rsay l, ∀ x ∈ p.2.2.2, x < 256 from by
    intro p hp
    obtain ⟨q, hq, rfl⟩ := List.mem_map.1 hp
    exact (HO.out.bds q hq).2.2.2)
  go_wp2_with fail
  refine (cencode_any A n c l w1 (HO.out.into B1.out) HBS.out).mono ?_
  rintro e w2 ⟨⟨v2, b2, rfl, hi2, hN2⟩, hb⟩
  obtain ⟨X2, m2, d2, rfl, hmd2, hl2, hr2⟩ := hN2.out
  have hd2 : d2 ≤ maxLen := by
    obtain ⟨_, _, e, _, h, _⟩ := own_form (show w2.ownsRow w1.heap.size 5 1 (.slice X2 m2 d2) _ _ from hN2)
    injection e with _ _ e
    omega
  have B2 := Lib.hid (B1.out.trans (hb.mono B1.out.size))
  cases b2 with
  | false =>
    have hl0 : m2 = 0 := by rw [← hl2.out]; rfl
    subst hl0
    have R2 := Lib.hid (Rd.nil w2 w2.heap.size 1 X2)
    clear hi2 hN2 hb B1 hl2 hr2
    go_wp2_with fail
    refine (cdecode_any X2 0 d2 [] w2 (Rd.nil _ _ _ _) hmd2 hd2 (by simp) (by omega)).mono ?_
    rintro e w3 ⟨hp, hb⟩
    have B3 := Lib.hid (B2.out.trans (hb.mono B2.out.size))
    rcases hp with ⟨A3, n3, c3, lr, rfl, hrs, hrr, hce⟩ | ⟨rfl, hno⟩
    · have h1 := capE_len (rsay lr)
      rw [hce] at h1
      simp at h1
      omega
    clear hb hno B2
    go_wp2_with fail
    refine (cdecode_any A2 n2 c2 lb w3 (HR.out.into B3.out) HNC.out.1 HNC.out.2 HB.out (by omega)).mono ?_
    rintro e w10 ⟨hp, hb⟩
    have B10 := Lib.hid (B3.out.trans (hb.mono B3.out.size))
    rcases hp with ⟨A5, n5, c5, lr5, rfl, hrs5, hrr5, hce5⟩ | ⟨rfl, _⟩
    · have HRS5 := Lib.hid hrs5
      have HRR5 := Lib.hid hrr5
      have HCE5 := Lib.hid hce5
      have hbs5 : bsum (rsay lr5) ≤ 20000 := by have h1 := capE_len (rsay lr5); rw [hce5, HL2.out] at h1; omega
      clear hb hrs5 hrr5 hce5 B3
      go_wp2_with fail
      refine (cencode_any A5 n5 c5 lr5 w10 HRS5.out (fun _ => hbs5)).mono ?_
      rintro e w11 ⟨⟨v11, b11, rfl, hi11, hN11⟩, hb⟩
      obtain rfl : b11 = true := hi11.2 HRR5.out
      have hN12 : Nats w11 5 .u8 w10.heap.size v11 lb := by have h : capA true (rsay lr5) = lb := HCE5.out; rw [← h]; exact hN11
      obtain ⟨X11, m11, d11, rfl, _, _, hr11⟩ := hN12.out
      have B11 := Lib.hid (B10.out.trans (hb.mono B10.out.size))
      have R11 := Lib.hid hr11.out
      have RB := Lib.hid (HR.out.into B11.out)
      have hself := strN_self lb
      clear hi11 hN11 hN12 hb hr11 B10 HRS5
      go_wp2_with (first | refine wpList_conv Try.underlying37 Try.underlying5 Try.underlying9 rfl _ rfl rfl R11.out ?_ | refine wpList_conv Try.underlying37 Try.underlying5 Try.underlying9 rfl _ rfl rfl RB.out ?_)
      refine (calive_any w11).mono ?_
      rintro e w12 ⟨rfl, hb⟩
      have B12 := Lib.hid (B11.out.trans (hb.mono B11.out.size))
      clear hb B11
      go_wp2_with fail
      go_ret
      exact ⟨rfl, B12.out⟩
    · clear hb B3
      go_wp2_with fail
      refine (cencode_any none 0 0 [] w10 (Rs.nil w10) (fun _ => by simp [rsay, bsum])).mono ?_
      rintro e w11 ⟨⟨v11, b11, rfl, hi11, hN11⟩, hb⟩
      have B11 := Lib.hid (B10.out.trans (hb.mono B10.out.size))
      clear hi11 hN11 hb B10
      go_wp2_with fail
      refine (calive_any w11).mono ?_
      rintro e w12 ⟨rfl, hb⟩
      have B12 := Lib.hid (B11.out.trans (hb.mono B11.out.size))
      clear hb B11
      go_wp2_with fail
      go_ret
      exact ⟨rfl, B12.out⟩
  | true =>
    have hRR := hi2.1 rfl
    have HRR := Lib.hid hRR
    have hm2 : m2 ≤ 50000 := by
      rw [← hl2.out]
      show (capE (rsay l)).length ≤ 50000
      rw [capE_len]
      have := HBS.out hRR
      have := hRR.1
      omega
    have R2 := Lib.hid (show Rd w2 w2.heap.size 1 X2 m2 (ns .u8 (capE (rsay l))) from hr2.out)
    clear hi2 hN2 hb B1 hl2 hr2 hRR
    go_wp2_with fail
    refine (cdecode_any X2 m2 d2 (capE (rsay l)) w2 R2.out hmd2 hd2 (capE_byte HRR.out HBY.out) hm2).mono ?_
    rintro e w3 ⟨hp, hb⟩
    have B3 := Lib.hid (B2.out.trans (hb.mono B2.out.size))
    rcases hp with ⟨A3, n3, c3, lr, rfl, hrs, hrr, hce⟩ | ⟨_, hno⟩
    rotate_left
    · exact absurd ⟨HRR.out, rfl⟩ (hno _)
    have HS := Lib.hid (capE_inj hrr HRR.out hce)
    have hn3 : n3 = n := by rw [← hrs.len, ← rsay_len, HS.out, rsay_len, HL.out]
    subst hn3
    have HRS := Lib.hid hrs
    clear hb hrs hrr hce B2 R2
    go_wp2_with fail
    refine (cplain_any A n3 c l w3 (HO.out.into B3.out) (by omega)).mono ?_
    rintro e w4 ⟨v4, rfl, hO4, hb⟩
    obtain ⟨X4, m4, d4, rfl, _, hl4, hr4⟩ := hO4.out
    have hm4 : m4 = n3 := by rw [← hl4.out, rsay_len, HL.out]
    subst hm4
    have HRS4 := Lib.hid (HRS.out.into hb)
    have B4 := Lib.hid (B3.out.trans (hb.mono B3.out.size))
    clear hb hO4 hl4 B3 HRS
    go_wp2_with fail
    refine (cplain_any A3 m4 c3 lr w4 HRS4.out (by omega)).mono ?_
    rintro e w5 ⟨v5, rfl, hO5, hb⟩
    obtain ⟨X5, m5, d5, rfl, _, hl5, hr5⟩ := hO5.out
    have hm5 : m5 = m4 := by rw [← hl5.out, rsay_len, HRS4.out.len]
    subst hm5
    have R4 := Lib.hid (hr4.out.into hb)
    have R5 := Lib.hid (show Rd w5 w5.heap.size 4 X5 m5 (rcs (rsay l)) from by rw [← HS.out]; exact hr5.out)
    have B5 := Lib.hid (B4.out.trans (hb.mono B4.out.size))
    clear hb hO5 hl5 hr4 hr5 B4 HRS4
    go_wp2_with fail
    refine (csame_true X4 X5 m5 d4 d5 (rsay l) w5 R4.out R5.out (by omega)).mono ?_
    rintro e w6 ⟨rfl, hb⟩
    have B6 := Lib.hid (B5.out.trans (hb.mono B5.out.size))
    clear hb R4 R5 B5
    go_wp2_with fail
    refine (cdecode_any A2 n2 c2 lb w6 (HR.out.into B6.out) HNC.out.1 HNC.out.2 HB.out (by omega)).mono ?_
    rintro e w10 ⟨hp, hb⟩
    have B10 := Lib.hid (B6.out.trans (hb.mono B6.out.size))
    rcases hp with ⟨A5, n5, c5, lr5, rfl, hrs5, hrr5, hce5⟩ | ⟨rfl, _⟩
    · have HRS5 := Lib.hid hrs5
      have HRR5 := Lib.hid hrr5
      have HCE5 := Lib.hid hce5
      have hbs5 : bsum (rsay lr5) ≤ 20000 := by have h1 := capE_len (rsay lr5); rw [hce5, HL2.out] at h1; omega
      clear hb hrs5 hrr5 hce5 B6
      go_wp2_with fail
      refine (cencode_any A5 n5 c5 lr5 w10 HRS5.out (fun _ => hbs5)).mono ?_
      rintro e w11 ⟨⟨v11, b11, rfl, hi11, hN11⟩, hb⟩
      obtain rfl : b11 = true := hi11.2 HRR5.out
      have hN12 : Nats w11 5 .u8 w10.heap.size v11 lb := by have h : capA true (rsay lr5) = lb := HCE5.out; rw [← h]; exact hN11
      obtain ⟨X11, m11, d11, rfl, _, _, hr11⟩ := hN12.out
      have B11 := Lib.hid (B10.out.trans (hb.mono B10.out.size))
      have R11 := Lib.hid hr11.out
      have RB := Lib.hid (HR.out.into B11.out)
      have hself := strN_self lb
      clear hi11 hN11 hN12 hb hr11 B10 HRS5
      go_wp2_with (first | refine wpList_conv Try.underlying37 Try.underlying5 Try.underlying9 rfl _ rfl rfl R11.out ?_ | refine wpList_conv Try.underlying37 Try.underlying5 Try.underlying9 rfl _ rfl rfl RB.out ?_)
      refine (calive_any w11).mono ?_
      rintro e w12 ⟨rfl, hb⟩
      have B12 := Lib.hid (B11.out.trans (hb.mono B11.out.size))
      clear hb B11
      go_wp2_with fail
      go_ret
      exact ⟨rfl, B12.out⟩
    · clear hb B6
      go_wp2_with fail
      refine (cencode_any none 0 0 [] w10 (Rs.nil w10) (fun _ => by simp [rsay, bsum])).mono ?_
      rintro e w11 ⟨⟨v11, b11, rfl, hi11, hN11⟩, hb⟩
      have B11 := Lib.hid (B10.out.trans (hb.mono B10.out.size))
      clear hi11 hN11 hb B10
      go_wp2_with fail
      refine (calive_any w11).mono ?_
      rintro e w12 ⟨rfl, hb⟩
      have B12 := Lib.hid (B11.out.trans (hb.mono B11.out.size))
      clear hb B11
      go_wp2_with fail
      go_ret
      exact ⟨rfl, B12.out⟩
theorem captureBack_any (A : Option Addr) (n c : Nat) (l : List Rb) (A2 : Option Addr) (n2 c2 : Nat) (lb : List Nat) (w : World) (h1 : Rd w w.heap.size 4 A n (rbcs l)) (h2 : n ≤ c) (h3 : c ≤ maxLen) (h4 : ∀ p ∈ l, i64ok p.1 ∧ i64ok p.2.1 ∧ i64ok p.2.2.1 ∧ Body.ok w p.2.2.2) (h5 : Rd w w.heap.size 1 A2 n2 (ns .u8 lb)) (h6 : n2 ≤ c2) (h7 : c2 ≤ maxLen) (h8 : ∀ x ∈ lb, x < 256) :
    Calls Try.prog 12 #[.slice A n c, .slice A2 n2 c2] w fun e w' => e = .returned (.bool true) ∧ Below w.heap.size w w' := captureBack_walk A n c l A2 n2 c2 lb w (rs_of h1 h2 h3 h4) h5 h6 h7 h8
end Go.Proofs.Ytiblmlmkpilgmaa
