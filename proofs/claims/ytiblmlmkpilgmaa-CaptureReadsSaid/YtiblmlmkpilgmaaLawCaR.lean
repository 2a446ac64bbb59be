/- Layer 34: the law CaptureReads answers true, and nothing that was there has turned. -/
import Derived.Test.YtiblmlmkpilgmaaCapD
import Derived.Test.YtiblmlmkpilgmaaCapL
namespace Go.Proofs.Ytiblmlmkpilgmaa
open Go.RowKit
set_option linter.unusedVariables false
set_option linter.unusedSimpArgs false
set_option maxRecDepth 20000 in
set_option maxHeartbeats 4000000 in
theorem captureReads_any (A2 : Option Addr) (n2 c2 : Nat) (lb : List Nat) (w : World) (h2 : Rd w w.heap.size 1 A2 n2 (ns .u8 lb)) (hnc : n2 ≤ c2) (hcm : c2 ≤ maxLen) (hb : ∀ x ∈ lb, x < 256) :
    Calls Try.prog 11 #[.slice A2 n2 c2] w fun e w' => e = .returned (.bool true) ∧ Below w.heap.size w w' := by
  have HR := Lib.hid h2
  have HB := Lib.hid hb
  clear h2 hb
  go_enter Try.func11, Try.ntmps11
  by_cases hn : 5000 < n2
  · have hn' : (5000 : Int) < (n2 : Int) := by omega
    go_wp2_with fail
    go_ret
    exact ⟨rfl, Below.refl _ _⟩
  have hn' : ¬ (5000 : Int) < (n2 : Int) := by omega
  have hnd : decide ((5000 : Int) < (n2 : Int)) = false := decide_eq_false hn'
  go_wp2_with fail
  refine (cdecode_any A2 n2 c2 lb w HR.out hnc hcm HB.out (by omega)).mono ?_
  rintro e w1 ⟨hp, hb1⟩
  have B1 := Lib.hid hb1
  have HR1 := Lib.hid (HR.out.into hb1)
  clear hb1
  rcases hp with ⟨A3, n3, c3, lr, rfl, hrs, hrr, hce⟩ | ⟨rfl, hno⟩
  · have HRS := Lib.hid hrs
    have HRR := Lib.hid hrr
    have HCE := Lib.hid hce
    clear hrs hrr hce
    go_wp2_with fail
    refine (rdecode_any A2 n2 c2 lb w1 HR1.out hnc HB.out (by omega)).mono ?_
    rintro e w2 ⟨hp, hb2⟩
    rcases hp with ⟨A4, n4, c4, l4, rfl, hrd4, hl4, hr4, hc4⟩ | ⟨_, hno⟩
    rotate_left
    · exact absurd ⟨HRR.out, HCE.out⟩ (hno _)
    have hl : rsay lr = l4 := capE_inj HRR.out hr4 (HCE.out.trans hc4.symm)
    subst hl
    have hn4 : n4 = n3 := by rw [← hl4, rsay_len, HRS.out.len]
    subst hn4
    have h1024 : n4 ≤ 1024 := by have := hr4.1; omega
    have HRS2 := Lib.hid (HRS.out.into hb2)
    have RD4 := Lib.hid hrd4
    have B2 := Lib.hid (B1.out.trans (hb2.mono B1.out.size))
    clear hb2 hrd4 hl4 hr4 hc4 HRS B1
    go_wp2_with fail
    refine (cplain_any A3 n4 c3 lr w2 HRS2.out (by omega)).mono ?_
    rintro e w5 ⟨v5, rfl, hO5, hb⟩
    obtain ⟨X5, m5, d5, rfl, _, hl5, hr5⟩ := hO5.out
    have hm5 : m5 = n4 := by rw [← hl5.out, rsay_len, HRS2.out.len]
    subst hm5
    have R4 := Lib.hid (RD4.out.into hb)
    have R5 := Lib.hid hr5.out
    have B5 := Lib.hid (B2.out.trans (hb.mono B2.out.size))
    clear hb hO5 hl5 hr5 B2 HRS2 RD4
    go_wp2_with fail
    refine (csame_true X5 A4 m5 d5 c4 (rsay lr) w5 R5.out R4.out (by omega)).mono ?_
    rintro e w6 ⟨rfl, hb⟩
    have B6 := Lib.hid (B5.out.trans (hb.mono B5.out.size))
    clear hb R4 R5 B5
    go_wp2_with fail
    refine (calive_any w6).mono ?_
    rintro e w12 ⟨rfl, hb⟩
    have B12 := Lib.hid (B6.out.trans (hb.mono B6.out.size))
    clear hb B6
    go_wp2_with fail
    go_ret
    exact ⟨rfl, B12.out⟩
  · have HNO := Lib.hid hno
    clear hno
    go_wp2_with fail
    refine (rdecode_any A2 n2 c2 lb w1 HR1.out hnc HB.out (by omega)).mono ?_
    rintro e w2 ⟨hp, hb2⟩
    rcases hp with ⟨A4, n4, c4, l4, rfl, hrd4, hl4, hr4, hc4⟩ | ⟨rfl, _⟩
    · exact absurd ⟨hr4, hc4⟩ (HNO.out _)
    have B2 := Lib.hid (B1.out.trans (hb2.mono B1.out.size))
    clear hb2 B1
    go_wp2_with fail
    refine (cplain_any none 0 0 [] w2 (Rs.nil w2) (by omega)).mono ?_
    rintro e w5 ⟨v5, rfl, hO5, hb⟩
    obtain ⟨X5, m5, d5, rfl, _, hl5, hr5⟩ := hO5.out
    have hm5 : m5 = 0 := by rw [← hl5.out]; rfl
    subst hm5
    have R5 := Lib.hid (show Rd w5 w5.heap.size 4 X5 0 (rcs []) from hr5.out)
    have B5 := Lib.hid (B2.out.trans (hb.mono B2.out.size))
    clear hb hO5 hl5 hr5 B2
    go_wp2_with fail
    refine (csame_true X5 none 0 d5 0 [] w5 R5.out (Rd.nil _ _ _ _) (by omega)).mono ?_
    rintro e w6 ⟨rfl, hb⟩
    have B6 := Lib.hid (B5.out.trans (hb.mono B5.out.size))
    clear hb R5 B5
    go_wp2_with fail
    refine (calive_any w6).mono ?_
    rintro e w12 ⟨rfl, hb⟩
    have B12 := Lib.hid (B6.out.trans (hb.mono B6.out.size))
    clear hb B6
    go_wp2_with fail
    go_ret
    exact ⟨rfl, B12.out⟩
end Go.Proofs.Ytiblmlmkpilgmaa
