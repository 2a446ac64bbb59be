/- Layer 31: the law SackSays answers true. -/
import Derived.Test.YtpnnadnmkiobcaaG27SackBack
import Derived.Test.YtpnnadnmkiobcaaG43SackBack
import Derived.Test.YtpnnadnmkiobcaaG16SackBack
import Derived.Test.YtpnnadnmkiobcaaG47SackBack
import Derived.Test.YtpnnadnmkiobcaaG10SackBack
import Derived.Test.YtpnnadnmkiobcaaG40SackBack
import Derived.Test.YtpnnadnmkiobcaaG38SackBack
import Derived.RegionTactic

namespace Go.Proofs.Ytpnnadnmkiobcaa
open Go.RowKit
set_option linter.unusedVariables false
set_option linter.unusedSimpArgs false
theorem BO.rd {w : World} {B n : Nat} {v : Value} {l : List Bk} (h : BO w B v l) (hn : l.length = n) : ∃ (A : Option Addr) (c : Nat), v = .slice A n c ∧ n ≤ c ∧ Rd w w.heap.size 2 A n (bks l) := by
  obtain ⟨A, m, c, e, h1, h2, h3⟩ := h.out
  obtain rfl : n = m := hn.symm.trans h2.out
  exact ⟨A, c, e, h1, h3.out⟩
theorem Rd.into2 {w w' : World} {sz n : Nat} {A : Option Addr} {xs : List Value} {B : Nat} (h : Rd w B sz A n xs) (hb : Below B w w') (hs : B ≤ w.heap.size) : Rd w' w'.heap.size sz A n xs := (h.below hb).mono (Nat.le_trans hs hb.size)
set_option maxRecDepth 20000 in
set_option maxHeartbeats 8000000 in
theorem sackSays_core (wait kind : Int) (A OA : Option Addr) (n c on oc : Nat) (l : List Bk) (lb : List Nat) (w : World) (h : Rd w w.heap.size 2 A n (bks l)) (hu : U32s l) (hw : U32 wait) (ho : Rd w w.heap.size 1 OA on (ns .u8 lb)) (hoc : on ≤ oc) (hb : ∀ x ∈ lb, x < 256) :
    Calls Try.prog 3 #[.int .u32 wait, .slice A n c, .agg #[.int .u8 kind, .slice OA on oc]] w fun e w' => e = .returned (.bool true) ∧ Below w.heap.size w w' := by
  have hA0 : Below w.heap.size w (w.alloc (.cells #[.int .u8 kind, .slice OA on oc] 26)) := (Below.refl _ _).alloc (Nat.le_refl _) _
  have K0 := Lib.hid (Blk.new w 26 #[.int .u8 kind, .slice OA on oc])
  have H1 := Lib.hid (h.into hA0)
  have O1 := Lib.hid (ho.into hA0)
  have HU := Lib.hid hu; have HW := Lib.hid hw; have HBY := Lib.hid hb; have HL := Lib.hid h.bkLen
  go_enter Try.func3, Try.ntmps3
  go_upto_region 1 with fail
  have Z1 := Lib.hid hA0
  obtain ⟨T, hT⟩ : ∃ T, T = w.heap.size := ⟨_, rfl⟩
  rw [← hT] at K0 hA0
  try rw [← hT]
  clear h ho hu hw hb hA0
  generalize (w.alloc (.cells #[.int .u8 kind, .slice OA on oc] 26)) = w1 at K0 H1 O1 Z1 ⊢
  have HT := Lib.hid hT
  clear hT
  obtain ⟨c0, c1⟩ := ptc2 K0.out
  by_cases hn : 60 < n
  · have hni : (60 : Int) < (n : Int) := by omega
    go_wp2_with fail
    go_ret
    refine ⟨rfl, ?_⟩
    (try rw [HT.out])
    exact Z1.out
  have hni : ¬ (60 : Int) < (n : Int) := by omega
  by_cases hon : 300 < on
  · have hoi : (300 : Int) < (on : Int) := by omega
    go_wp2_with fail
    go_ret
    refine ⟨rfl, ?_⟩
    (try rw [HT.out])
    exact Z1.out
  have hoi : ¬ (300 : Int) < (on : Int) := by omega
  have KT := Lib.hid K0.out.lt
  go_wp2_with fail
  refine (soption_any wait A n c l w1 H1.out HU.out HW.out).mono ?_
  rintro e w2 ⟨hp, hb⟩
  have H2 := Lib.hid (H1.out.into hb)
  have O2 := Lib.hid (O1.out.into hb)
  have K2 := Lib.hid (K0.out.below hb K0.out.lt)
  have S2 := Lib.hid hb.size
  have Z2 := Lib.hid (Z1.out.trans (hb.mono Z1.out.size))
  clear c0 c1 hb H1 O1 K0 Z1
  rcases hp with ⟨v, rfl, hne, hr, hN⟩ | ⟨rfl, hno⟩
  · have HR := Lib.hid (And.intro hne hr)
    obtain ⟨XA, xn, xc, rfl, _, _, hX⟩ := hN.out
    have X2 := Lib.hid hX.out
    clear hne hr hN hX
    go_wp2_with fail
    have hA := (Below.refl w2.heap.size w2).alloc (Nat.le_refl _) (.cells #[.int .u8 9, .slice XA xn xc] 26)
    have B3 := Lib.hid (Blk.new w2 26 #[.int .u8 9, .slice XA xn xc])
    have H3 := Lib.hid (H2.out.into hA)
    have O3 := Lib.hid (O2.out.into hA)
    have Z3 := Lib.hid (Z2.out.trans (hA.mono Z2.out.size))
    have K3 := Lib.hid (K2.out.below hA K2.out.lt)
    have X3 := Lib.hid (X2.out.into hA)
    obtain ⟨T1, hT1⟩ : ∃ T1, T1 = w2.heap.size := ⟨_, rfl⟩
    have E1 := Lib.hid (show T < T1 by rw [hT1]; exact K2.out.lt)
    rw [← hT1] at B3 ⊢
    clear hA H2 O2 K2 S2 Z2 hT1 X2
    generalize w2.alloc (.cells #[.int .u8 9, .slice XA xn xc] 26) = w3 at * 
    refine (splain_any A n c l w3 H3.out (by omega)).mono ?_
    rintro e w4 ⟨v, rfl, hB, hb⟩
    obtain ⟨PA, pn, pc, rfl, _, hpn, hP⟩ := hB.out
    have hpn' : pn = n := by have := hpn.out; have := HL.out; omega
    subst hpn'
    have P4 := Lib.hid hP.out
    have H4 := Lib.hid (H3.out.into hb)
    have O4 := Lib.hid (O3.out.into hb)
    have Z4 := Lib.hid (Z3.out.trans (hb.mono Z3.out.size))
    have K4 := Lib.hid (K3.out.below hb K3.out.lt)
    have B4 := Lib.hid (B3.out.below hb B3.out.lt)
    have X4 := Lib.hid (X3.out.into hb)
    clear hB hpn hP hb H3 O3 K3 B3 Z3 X3
    go_wp2_with fail
    refine (rsoption_any wait PA pn pc l w4 P4.out (by omega) HU.out HW.out).mono ?_
    rintro e w5 ⟨hp, hb⟩
    have H5 := Lib.hid (H4.out.into hb)
    have O5 := Lib.hid (O4.out.into hb)
    have Z5 := Lib.hid (Z4.out.trans (hb.mono Z4.out.size))
    have K5 := Lib.hid (K4.out.below hb K4.out.lt)
    have B5 := Lib.hid (B4.out.below hb B4.out.lt)
    have X5 := Lib.hid (X4.out.into hb)
    clear hb H4 O4 K4 B4 Z4 P4 X4
    rcases hp with ⟨v, rfl, _, _, hN⟩ | ⟨rfl, hno⟩
    case inr => exact absurd HR.out hno
    obtain ⟨YA, yn, yc, rfl, _, _, hY⟩ := hN.out
    have Y5 := Lib.hid hY.out
    clear hN hY
    by_cases hS : SPOk wait kind on lb
    · have HS := Lib.hid hS
      clear hS
      go_upto_region 8 with fail
      have hA := (Below.refl w5.heap.size w5).alloc (Nat.le_refl _) (.cells #[.int .u8 9, .slice YA yn yc] 26)
      have C6 := Lib.hid (Blk.new w5 26 #[.int .u8 9, .slice YA yn yc])
      have H6 := Lib.hid (H5.out.into hA)
      have O6 := Lib.hid (O5.out.into hA)
      have K6 := Lib.hid (K5.out.below hA K5.out.lt)
      have B6 := Lib.hid (B5.out.below hA B5.out.lt)
      have Z6 := Lib.hid (Z5.out.trans (hA.mono Z5.out.size))
      have X6 := Lib.hid (X5.out.into hA)
      have Y6 := Lib.hid (Y5.out.into hA)
      clear hA H5 O5 K5 B5 Z5 X5 Y5
      obtain ⟨T2, hT2⟩ : ∃ T2, T2 = w5.heap.size := ⟨_, rfl⟩
      rw [← hT2] at C6 ⊢
      clear hT2
      generalize w5.alloc (.cells #[.int .u8 9, .slice YA yn yc] 26) = w6 at *
      obtain ⟨c0, c1⟩ := ptc2 K6.out
      go_wp2_with fail
      refine (spparse_any wait kind OA on oc lb w6 O6.out hoc HBY.out (by omega) HW.out).mono ?_
      rintro e w7 ⟨hp, hb⟩
      have H7 := Lib.hid (H6.out.into hb)
      have O7 := Lib.hid (O6.out.into hb)
      have K7 := Lib.hid (K6.out.below hb K6.out.lt)
      have B7 := Lib.hid (B6.out.below hb B6.out.lt)
      have Z7 := Lib.hid (Z6.out.trans (hb.mono Z6.out.size))
      have X7 := Lib.hid (X6.out.into hb)
      have Y7 := Lib.hid (Y6.out.into hb)
      have C7 := Lib.hid (C6.out.below hb C6.out.lt)
      clear hb H6 O6 K6 B6 Z6 X6 Y6 C6
      clear c0 c1
      rcases hp with ⟨hok, v, rfl, hM⟩ | ⟨hno, _⟩
      case inr => exact absurd HS.out hno
      obtain ⟨MA, mc, rfl, _, _, hM2⟩ := own_form hM
      obtain ⟨ML, hML⟩ : ∃ ML, ML = parB (on / 8) wait lb := ⟨_, rfl⟩
      obtain ⟨mn, hmn⟩ : ∃ mn, mn = ML.length := ⟨_, rfl⟩
      rw [← hML, ← hmn] at hM2
      rw [← hML, ← hmn]
      have M7 := Lib.hid hM2
      have HML := Lib.hid hML
      have HMN := Lib.hid hmn
      have hmn4 : mn ≤ 4 := by have h := HS.out.2.2.2.2.1; rw [← hML, ← hmn] at h; exact h
      clear hok hM hM2 hML hmn
      obtain ⟨c0, c1⟩ := ptc2 K7.out
      go_wp2_with fail
      refine (rsparse_any wait kind OA on oc lb w7 O7.out hoc HBY.out (by omega) HW.out).mono ?_
      rintro e w8 ⟨hp, hb⟩
      have H8 := Lib.hid (H7.out.into hb)
      have O8 := Lib.hid (O7.out.into hb)
      have K8 := Lib.hid (K7.out.below hb K7.out.lt)
      have B8 := Lib.hid (B7.out.below hb B7.out.lt)
      have Z8 := Lib.hid (Z7.out.trans (hb.mono Z7.out.size))
      have X8 := Lib.hid (X7.out.into hb)
      have Y8 := Lib.hid (Y7.out.into hb)
      have C8 := Lib.hid (C7.out.below hb C7.out.lt)
      have M8 := Lib.hid (M7.out.into hb)
      clear hb H7 O7 K7 B7 Z7 X7 Y7 C7 M7
      clear c0 c1
      rcases hp with ⟨hok, v, rfl, hM⟩ | ⟨hno, _⟩
      case inr => exact absurd HS.out hno
      obtain ⟨NA, nc, rfl, _, _, hM2⟩ := own_form hM
      rw [← HML.out, ← HMN.out] at hM2
      rw [← HML.out, ← HMN.out]
      have N8 := Lib.hid hM2
      clear hok hM hM2
      go_upto_region 10 with fail
      obtain ⟨b, hbb⟩ : ∃ b : Bool, b = true ↔ bkR wait l := ⟨@decide _ (Classical.propDecidable _), @decide_eq_true_iff _ (Classical.propDecidable _)⟩
      have HBB := Lib.hid hbb
      clear hbb
      refine GH.wp_ghs (M := false) 33 ((GH.SP.eq (.int .u32 wait)) :: (GH.SP.eq (.slice A pn c)) :: (GH.SP.eq (.bool b)) :: (GH.SP.eq (.int .u32 wait)) :: (GH.SP.eq (.slice A pn c)) :: (GH.SP.rd 2 pn (bks l)) :: (GH.SP.eq (.bool b)) :: (GH.SP.eq (.bool true)) :: (GH.SP.eq (.bool true)) :: (GH.SP.eq (.bool true)) :: (GH.SP.eq (.bool true)) :: (GH.SP.eq (.bool true)) :: (GH.SP.eq (.bool true)) :: (GH.SP.eq (.bool true)) :: (GH.SP.eq (.agg #[.int .u8 9, .slice XA xn xc])) :: (GH.SP.eq (.agg #[.int .u8 9, .slice YA yn yc])) :: (GH.SP.eq (.bool true)) :: (GH.SP.eq (.bool true)) :: (GH.SP.eq (.bool true)) :: (GH.SP.eq (.bool true)) :: (GH.SP.eq (.bool true)) :: (GH.SP.eq (.bool true)) :: (GH.SP.eq (.bool true)) :: (GH.SP.eq (.bool true)) :: (GH.SP.eq (.slice MA mn mc)) :: (GH.SP.rd 2 mn (bks ML)) :: (GH.SP.eq (.slice NA mn nc)) :: (GH.SP.eq (.bool true)) :: (GH.SP.eq (.bool true)) :: (GH.SP.eq (.bool true)) :: (GH.SP.eq (.bool true)) :: (GH.SP.eq (.bool true)) :: (GH.SP.eq (.bool true)) :: []) (none :: none :: none :: none :: none :: none :: (some 32) :: none :: none :: none :: none :: none :: none :: none :: none :: none :: none :: none :: none :: none :: none :: none :: none :: none :: none :: none :: none :: none :: none :: none :: none :: none :: none :: none :: none :: none :: none :: none :: none :: none :: none :: none :: none :: none :: none :: none :: none :: none :: none :: none :: none :: none :: none :: none :: (some 0) :: (some 1) :: (some 2) :: (some 3) :: (some 4) :: (some 5) :: (some 6) :: (some 7) :: (some 8) :: (some 9) :: (some 10) :: (some 11) :: (some 12) :: (some 13) :: (some 14) :: (some 15) :: (some 16) :: (some 17) :: (some 18) :: (some 19) :: (some 20) :: (some 21) :: (some 22) :: (some 23) :: (some 24) :: (some 25) :: (some 26) :: (some 27) :: (some 28) :: (some 29) :: (some 30) :: (some 31) :: []) [54, 55, 56, 57, 58, 59, 60, 61, 62, 63, 64, 65, 66, 67, 68, 69, 70, 71, 72, 73, 74, 75, 76, 77, 78, 79, 80, 81, 82, 83, 84, 85, 6] (by rfl) (by kernel_rfl) ?_ ?_ ?_
      · intro S jx v hjx
        match jx, hjx with
        | 0, _ => rfl
        | 1, _ => rfl
        | 2, _ => rfl
        | 3, _ => rfl
        | 4, _ => rfl
        | 5, _ => rfl
        | 6, _ => rfl
        | 7, _ => rfl
        | 8, _ => rfl
        | 9, _ => rfl
        | 10, _ => rfl
        | 11, _ => rfl
        | 12, _ => rfl
        | 13, _ => rfl
        | 14, _ => rfl
        | 15, _ => rfl
        | 16, _ => rfl
        | 17, _ => rfl
        | 18, _ => rfl
        | 19, _ => rfl
        | 20, _ => rfl
        | 21, _ => rfl
        | 22, _ => rfl
        | 23, _ => rfl
        | 24, _ => rfl
        | 25, _ => rfl
        | 26, _ => rfl
        | 27, _ => rfl
        | 28, _ => rfl
        | 29, _ => rfl
        | 30, _ => rfl
        | 31, _ => rfl
        | 32, _ => rfl
        | nx + 33, hjx => omega
      · intro jx hjx S w' hb hd
        match jx, hjx, hd with
        | 0, _, hd =>
          simp only [GH.mkL, List.getD_cons_succ, List.getD_cons_zero]
          clear hd
          refine GH.st_eq (by rfl) ?_
          go_simp
          (try with_reducible rfl)
        | 1, _, hd =>
          simp only [GH.mkL, List.getD_cons_succ, List.getD_cons_zero]
          clear hd
          refine GH.st_eq (by rfl) ?_
          go_simp
          (try with_reducible rfl)
        | 2, _, hd =>
          simp only [GH.mkL, List.getD_cons_succ, List.getD_cons_zero]
          have d0 : S 0 = .int .u32 wait := (hd 0 (by kernel_rfl)).2
          rw [d0]
          clear d0
          have d1 : S 1 = .slice A pn c := (hd 1 (by kernel_rfl)).2
          rw [d1]
          clear d1
          clear hd
          refine GH.st_call (by rfl) hb.below.size (by go_simp) ((sright_any wait A pn c l w' (H8.out.into hb.below)).mono ?_)
          rintro e w9 ⟨⟨b1, rfl, hb1⟩, hb9⟩
          exact ⟨_, rfl, hb9, congrArg Value.bool (Bool.eq_iff_iff.2 (hb1.trans HBB.out.symm))⟩
        | 3, _, hd =>
          simp only [GH.mkL, List.getD_cons_succ, List.getD_cons_zero]
          clear hd
          refine GH.st_eq (by rfl) ?_
          go_simp
          (try with_reducible rfl)
        | 4, _, hd =>
          simp only [GH.mkL, List.getD_cons_succ, List.getD_cons_zero]
          clear hd
          refine GH.st_eq (by rfl) ?_
          go_simp
          (try with_reducible rfl)
        | 5, _, hd =>
          simp only [GH.mkL, List.getD_cons_succ, List.getD_cons_zero]
          have d2 : S 2 = .bool b := (hd 2 (by kernel_rfl)).2
          rw [d2]
          clear d2
          have d4 : S 4 = .slice A pn c := (hd 4 (by kernel_rfl)).2
          rw [d4]
          clear d4
          clear hd
          refine GH.st_call (by rfl) hb.below.size (by go_simp) ((splain_any A pn c l w' (H8.out.into hb.below) (by omega)).mono ?_)
          rintro e w9 ⟨v, rfl, hB, hb9⟩
          exact ⟨_, rfl, hb9, hB.rd (HL.out)⟩
        | 6, _, hd =>
          simp only [GH.mkL, List.getD_cons_succ, List.getD_cons_zero]
          have d3 : S 3 = .int .u32 wait := (hd 3 (by kernel_rfl)).2
          rw [d3]
          clear d3
          obtain ⟨A5, c5, d5, e5, H5⟩ := (hd 5 (by kernel_rfl)).2
          rw [d5]
          clear d5
          replace H5 := Lib.hid H5
          clear hd
          refine GH.st_call (by rfl) hb.below.size (by go_simp) ((srright_any wait A5 pn c5 l w' H5.out (by omega) HU.out HW.out).mono ?_)
          rintro e w9 ⟨⟨b1, rfl, hb1⟩, hb9⟩
          exact ⟨_, rfl, hb9, congrArg Value.bool (Bool.eq_iff_iff.2 (hb1.trans HBB.out.symm))⟩
        | 7, _, hd =>
          simp only [GH.mkL, List.getD_cons_succ, List.getD_cons_zero]
          have d2 : S 2 = .bool b := (hd 2 (by kernel_rfl)).2
          rw [d2]
          clear d2
          have d6 : S 6 = .bool b := (hd 6 (by kernel_rfl)).2
          rw [d6]
          clear d6
          clear hd
          refine GH.st_eq (by rfl) ?_
          go_simp
          (try simp only [beq_self_eq_true])
          (try with_reducible rfl)
        | 8, _, hd =>
          simp only [GH.mkL, List.getD_cons_succ, List.getD_cons_zero]
          have d6 : S 6 = .bool b := (hd 6 (by kernel_rfl)).2
          rw [d6]
          clear d6
          have d7 : S 7 = .bool true := (hd 7 (by kernel_rfl)).2
          rw [d7]
          clear d7
          clear hd
          refine GH.st_eq (by rfl) ?_
          go_simp
          (try with_reducible rfl)
        | 9, _, hd =>
          simp only [GH.mkL, List.getD_cons_succ, List.getD_cons_zero]
          have d8 : S 8 = .bool true := (hd 8 (by kernel_rfl)).2
          rw [d8]
          clear d8
          clear hd
          refine GH.st_eq (by rfl) ?_
          go_simp
          (try with_reducible rfl)
        | 10, _, hd =>
          simp only [GH.mkL, List.getD_cons_succ, List.getD_cons_zero]
          have d8 : S 8 = .bool true := (hd 8 (by kernel_rfl)).2
          rw [d8]
          clear d8
          clear hd
          refine GH.st_eq (by rfl) ?_
          go_simp
          (try with_reducible rfl)
        | 11, _, hd =>
          simp only [GH.mkL, List.getD_cons_succ, List.getD_cons_zero]
          have d8 : S 8 = .bool true := (hd 8 (by kernel_rfl)).2
          rw [d8]
          clear d8
          have d9 : S 9 = .bool true := (hd 9 (by kernel_rfl)).2
          rw [d9]
          clear d9
          have d10 : S 10 = .bool true := (hd 10 (by kernel_rfl)).2
          rw [d10]
          clear d10
          clear hd
          refine GH.st_eq (by rfl) ?_
          go_simp
          (try with_reducible rfl)
        | 12, _, hd =>
          simp only [GH.mkL, List.getD_cons_succ, List.getD_cons_zero]
          have d8 : S 8 = .bool true := (hd 8 (by kernel_rfl)).2
          rw [d8]
          clear d8
          have d11 : S 11 = .bool true := (hd 11 (by kernel_rfl)).2
          rw [d11]
          clear d11
          clear hd
          refine GH.st_eq (by rfl) ?_
          go_simp
          (try with_reducible rfl)
        | 13, _, hd =>
          simp only [GH.mkL, List.getD_cons_succ, List.getD_cons_zero]
          have d8 : S 8 = .bool true := (hd 8 (by kernel_rfl)).2
          rw [d8]
          clear d8
          have d12 : S 12 = .bool true := (hd 12 (by kernel_rfl)).2
          rw [d12]
          clear d12
          clear hd
          refine GH.st_eq (by rfl) ?_
          go_simp
          (try with_reducible rfl)
        | 14, _, hd =>
          simp only [GH.mkL, List.getD_cons_succ, List.getD_cons_zero]
          have d13 : S 13 = .bool true := (hd 13 (by kernel_rfl)).2
          rw [d13]
          clear d13
          clear hd
          exact GH.st_loads _ [.int .u8 9, .slice XA xn xc] (by rfl) rfl rfl (((B8.out.below hb.below B8.out.lt)).loads 0 _ (by rfl)) (by kernel_rfl) (by kernel_rfl)
        | 15, _, hd =>
          simp only [GH.mkL, List.getD_cons_succ, List.getD_cons_zero]
          have d13 : S 13 = .bool true := (hd 13 (by kernel_rfl)).2
          rw [d13]
          clear d13
          clear hd
          exact GH.st_loads _ [.int .u8 9, .slice YA yn yc] (by rfl) rfl rfl (((C8.out.below hb.below C8.out.lt)).loads 0 _ (by rfl)) (by kernel_rfl) (by kernel_rfl)
        | 16, _, hd =>
          simp only [GH.mkL, List.getD_cons_succ, List.getD_cons_zero]
          have d13 : S 13 = .bool true := (hd 13 (by kernel_rfl)).2
          rw [d13]
          clear d13
          have d14 : S 14 = .agg #[.int .u8 9, .slice XA xn xc] := (hd 14 (by kernel_rfl)).2
          rw [d14]
          clear d14
          have d15 : S 15 = .agg #[.int .u8 9, .slice YA yn yc] := (hd 15 (by kernel_rfl)).2
          rw [d15]
          clear d15
          clear hd
          refine GH.st_call (by rfl) hb.below.size (by go_simp) ((sameo_any 9 XA YA xn xc yn yc (bksB wait l) w' (X8.out.into hb.below) (Y8.out.into hb.below)).mono ?_)
          rintro e w9 ⟨rfl, hb9⟩
          exact ⟨_, rfl, hb9, rfl⟩
        | 17, _, hd =>
          simp only [GH.mkL, List.getD_cons_succ, List.getD_cons_zero]
          have d13 : S 13 = .bool true := (hd 13 (by kernel_rfl)).2
          rw [d13]
          clear d13
          have d16 : S 16 = .bool true := (hd 16 (by kernel_rfl)).2
          rw [d16]
          clear d16
          clear hd
          refine GH.st_eq (by rfl) ?_
          go_simp
          (try with_reducible rfl)
        | 18, _, hd =>
          simp only [GH.mkL, List.getD_cons_succ, List.getD_cons_zero]
          have d16 : S 16 = .bool true := (hd 16 (by kernel_rfl)).2
          rw [d16]
          clear d16
          have d17 : S 17 = .bool true := (hd 17 (by kernel_rfl)).2
          rw [d17]
          clear d17
          clear hd
          refine GH.st_eq (by rfl) ?_
          go_simp
          (try with_reducible rfl)
        | 19, _, hd =>
          simp only [GH.mkL, List.getD_cons_succ, List.getD_cons_zero]
          have d18 : S 18 = .bool true := (hd 18 (by kernel_rfl)).2
          rw [d18]
          clear d18
          clear hd
          refine GH.st_eq (by rfl) ?_
          go_simp
          (try with_reducible rfl)
        | 20, _, hd =>
          simp only [GH.mkL, List.getD_cons_succ, List.getD_cons_zero]
          have d18 : S 18 = .bool true := (hd 18 (by kernel_rfl)).2
          rw [d18]
          clear d18
          clear hd
          refine GH.st_eq (by rfl) ?_
          go_simp
          (try with_reducible rfl)
        | 21, _, hd =>
          simp only [GH.mkL, List.getD_cons_succ, List.getD_cons_zero]
          have d18 : S 18 = .bool true := (hd 18 (by kernel_rfl)).2
          rw [d18]
          clear d18
          have d19 : S 19 = .bool true := (hd 19 (by kernel_rfl)).2
          rw [d19]
          clear d19
          have d20 : S 20 = .bool true := (hd 20 (by kernel_rfl)).2
          rw [d20]
          clear d20
          clear hd
          refine GH.st_eq (by rfl) ?_
          go_simp
          (try with_reducible rfl)
        | 22, _, hd =>
          simp only [GH.mkL, List.getD_cons_succ, List.getD_cons_zero]
          have d18 : S 18 = .bool true := (hd 18 (by kernel_rfl)).2
          rw [d18]
          clear d18
          have d21 : S 21 = .bool true := (hd 21 (by kernel_rfl)).2
          rw [d21]
          clear d21
          clear hd
          refine GH.st_eq (by rfl) ?_
          go_simp
          (try with_reducible rfl)
        | 23, _, hd =>
          simp only [GH.mkL, List.getD_cons_succ, List.getD_cons_zero]
          have d18 : S 18 = .bool true := (hd 18 (by kernel_rfl)).2
          rw [d18]
          clear d18
          have d22 : S 22 = .bool true := (hd 22 (by kernel_rfl)).2
          rw [d22]
          clear d22
          clear hd
          refine GH.st_eq (by rfl) ?_
          go_simp
          (try with_reducible rfl)
        | 24, _, hd =>
          simp only [GH.mkL, List.getD_cons_succ, List.getD_cons_zero]
          have d23 : S 23 = .bool true := (hd 23 (by kernel_rfl)).2
          rw [d23]
          clear d23
          clear hd
          refine GH.st_eq (by rfl) ?_
          go_simp
          (try with_reducible rfl)
        | 25, _, hd =>
          simp only [GH.mkL, List.getD_cons_succ, List.getD_cons_zero]
          have d23 : S 23 = .bool true := (hd 23 (by kernel_rfl)).2
          rw [d23]
          clear d23
          have d24 : S 24 = .slice MA mn mc := (hd 24 (by kernel_rfl)).2
          rw [d24]
          clear d24
          clear hd
          refine GH.st_call (by rfl) hb.below.size (by go_simp) ((splain_any MA mn mc ML w' (M8.out.into hb.below) (by omega)).mono ?_)
          rintro e w9 ⟨v, rfl, hB, hb9⟩
          exact ⟨_, rfl, hb9, hB.rd (HMN.out.symm)⟩
        | 26, _, hd =>
          simp only [GH.mkL, List.getD_cons_succ, List.getD_cons_zero]
          have d23 : S 23 = .bool true := (hd 23 (by kernel_rfl)).2
          rw [d23]
          clear d23
          clear hd
          refine GH.st_eq (by rfl) ?_
          go_simp
          (try with_reducible rfl)
        | 27, _, hd =>
          simp only [GH.mkL, List.getD_cons_succ, List.getD_cons_zero]
          have d23 : S 23 = .bool true := (hd 23 (by kernel_rfl)).2
          rw [d23]
          clear d23
          obtain ⟨A25, c25, d25, e25, H25⟩ := (hd 25 (by kernel_rfl)).2
          rw [d25]
          clear d25
          replace H25 := Lib.hid H25
          have d26 : S 26 = .slice NA mn nc := (hd 26 (by kernel_rfl)).2
          rw [d26]
          clear d26
          clear hd
          refine GH.st_call (by rfl) hb.below.size (by go_simp) ((ssame_true A25 NA mn c25 nc ML w' H25.out (N8.out.into hb.below) (by omega)).mono ?_)
          rintro e w9 ⟨rfl, hb9⟩
          exact ⟨_, rfl, hb9, rfl⟩
        | 28, _, hd =>
          simp only [GH.mkL, List.getD_cons_succ, List.getD_cons_zero]
          have d23 : S 23 = .bool true := (hd 23 (by kernel_rfl)).2
          rw [d23]
          clear d23
          have d27 : S 27 = .bool true := (hd 27 (by kernel_rfl)).2
          rw [d27]
          clear d27
          clear hd
          refine GH.st_eq (by rfl) ?_
          go_simp
          (try with_reducible rfl)
        | 29, _, hd =>
          simp only [GH.mkL, List.getD_cons_succ, List.getD_cons_zero]
          have d27 : S 27 = .bool true := (hd 27 (by kernel_rfl)).2
          rw [d27]
          clear d27
          have d28 : S 28 = .bool true := (hd 28 (by kernel_rfl)).2
          rw [d28]
          clear d28
          clear hd
          refine GH.st_eq (by rfl) ?_
          go_simp
          (try with_reducible rfl)
        | 30, _, hd =>
          simp only [GH.mkL, List.getD_cons_succ, List.getD_cons_zero]
          have d29 : S 29 = .bool true := (hd 29 (by kernel_rfl)).2
          rw [d29]
          clear d29
          clear hd
          refine GH.st_call (by rfl) hb.below.size (by go_simp) ((alive31_any w').mono ?_)
          rintro e w9 ⟨rfl, hb9⟩
          exact ⟨_, rfl, hb9, rfl⟩
        | 31, _, hd =>
          simp only [GH.mkL, List.getD_cons_succ, List.getD_cons_zero]
          have d29 : S 29 = .bool true := (hd 29 (by kernel_rfl)).2
          rw [d29]
          clear d29
          have d30 : S 30 = .bool true := (hd 30 (by kernel_rfl)).2
          rw [d30]
          clear d30
          clear hd
          refine GH.st_eq (by rfl) ?_
          go_simp
          (try with_reducible rfl)
        | 32, _, hd =>
          simp only [GH.mkL, List.getD_cons_succ, List.getD_cons_zero]
          have d0 : S 0 = .int .u32 wait := (hd 0 (by kernel_rfl)).2
          rw [d0]
          clear d0
          have d1 : S 1 = .slice A pn c := (hd 1 (by kernel_rfl)).2
          rw [d1]
          clear d1
          have d2 : S 2 = .bool b := (hd 2 (by kernel_rfl)).2
          rw [d2]
          clear d2
          have d3 : S 3 = .int .u32 wait := (hd 3 (by kernel_rfl)).2
          rw [d3]
          clear d3
          have d4 : S 4 = .slice A pn c := (hd 4 (by kernel_rfl)).2
          rw [d4]
          clear d4
          obtain ⟨A5, c5, d5, e5, H5⟩ := (hd 5 (by kernel_rfl)).2
          rw [d5]
          clear d5
          replace H5 := Lib.hid H5
          have d6 : S 6 = .bool b := (hd 6 (by kernel_rfl)).2
          rw [d6]
          clear d6
          have d7 : S 7 = .bool true := (hd 7 (by kernel_rfl)).2
          rw [d7]
          clear d7
          have d8 : S 8 = .bool true := (hd 8 (by kernel_rfl)).2
          rw [d8]
          clear d8
          have d9 : S 9 = .bool true := (hd 9 (by kernel_rfl)).2
          rw [d9]
          clear d9
          have d10 : S 10 = .bool true := (hd 10 (by kernel_rfl)).2
          rw [d10]
          clear d10
          have d11 : S 11 = .bool true := (hd 11 (by kernel_rfl)).2
          rw [d11]
          clear d11
          have d12 : S 12 = .bool true := (hd 12 (by kernel_rfl)).2
          rw [d12]
          clear d12
          have d13 : S 13 = .bool true := (hd 13 (by kernel_rfl)).2
          rw [d13]
          clear d13
          have d14 : S 14 = .agg #[.int .u8 9, .slice XA xn xc] := (hd 14 (by kernel_rfl)).2
          rw [d14]
          clear d14
          have d15 : S 15 = .agg #[.int .u8 9, .slice YA yn yc] := (hd 15 (by kernel_rfl)).2
          rw [d15]
          clear d15
          have d16 : S 16 = .bool true := (hd 16 (by kernel_rfl)).2
          rw [d16]
          clear d16
          have d17 : S 17 = .bool true := (hd 17 (by kernel_rfl)).2
          rw [d17]
          clear d17
          have d18 : S 18 = .bool true := (hd 18 (by kernel_rfl)).2
          rw [d18]
          clear d18
          have d19 : S 19 = .bool true := (hd 19 (by kernel_rfl)).2
          rw [d19]
          clear d19
          have d20 : S 20 = .bool true := (hd 20 (by kernel_rfl)).2
          rw [d20]
          clear d20
          have d21 : S 21 = .bool true := (hd 21 (by kernel_rfl)).2
          rw [d21]
          clear d21
          have d22 : S 22 = .bool true := (hd 22 (by kernel_rfl)).2
          rw [d22]
          clear d22
          have d23 : S 23 = .bool true := (hd 23 (by kernel_rfl)).2
          rw [d23]
          clear d23
          have d24 : S 24 = .slice MA mn mc := (hd 24 (by kernel_rfl)).2
          rw [d24]
          clear d24
          obtain ⟨A25, c25, d25, e25, H25⟩ := (hd 25 (by kernel_rfl)).2
          rw [d25]
          clear d25
          replace H25 := Lib.hid H25
          have d26 : S 26 = .slice NA mn nc := (hd 26 (by kernel_rfl)).2
          rw [d26]
          clear d26
          have d27 : S 27 = .bool true := (hd 27 (by kernel_rfl)).2
          rw [d27]
          clear d27
          have d28 : S 28 = .bool true := (hd 28 (by kernel_rfl)).2
          rw [d28]
          clear d28
          have d29 : S 29 = .bool true := (hd 29 (by kernel_rfl)).2
          rw [d29]
          clear d29
          have d30 : S 30 = .bool true := (hd 30 (by kernel_rfl)).2
          rw [d30]
          clear d30
          have d31 : S 31 = .bool true := (hd 31 (by kernel_rfl)).2
          rw [d31]
          clear d31
          clear hd
          refine GH.st_eq (by rfl) ?_
          go_simp
          (try with_reducible rfl)
        | nx + 33, hjx, _ => omega
      intro S w' hb hG
      simp only [GH.mkL, List.drop_succ_cons, List.drop_zero]
      have d32 : S 32 = .bool true := hG 32 (by omega)
      rw [d32]
      clear d32
      clear hG
      refine wpList_nil ?_
      have ZF := Lib.hid (Z8.out.trans (hb.below.mono Z8.out.size))
      go_wp2_with fail
      go_ret
      refine ⟨rfl, ?_⟩
      (try rw [HT.out])
      exact ZF.out
    · have HS := Lib.hid hS
      clear hS
      go_upto_region 8 with fail
      have hA := (Below.refl w5.heap.size w5).alloc (Nat.le_refl _) (.cells #[.int .u8 9, .slice YA yn yc] 26)
      have C6 := Lib.hid (Blk.new w5 26 #[.int .u8 9, .slice YA yn yc])
      have H6 := Lib.hid (H5.out.into hA)
      have O6 := Lib.hid (O5.out.into hA)
      have K6 := Lib.hid (K5.out.below hA K5.out.lt)
      have B6 := Lib.hid (B5.out.below hA B5.out.lt)
      have Z6 := Lib.hid (Z5.out.trans (hA.mono Z5.out.size))
      have X6 := Lib.hid (X5.out.into hA)
      have Y6 := Lib.hid (Y5.out.into hA)
      clear hA H5 O5 K5 B5 Z5 X5 Y5
      obtain ⟨T2, hT2⟩ : ∃ T2, T2 = w5.heap.size := ⟨_, rfl⟩
      rw [← hT2] at C6 ⊢
      clear hT2
      generalize w5.alloc (.cells #[.int .u8 9, .slice YA yn yc] 26) = w6 at *
      obtain ⟨c0, c1⟩ := ptc2 K6.out
      go_wp2_with fail
      refine (spparse_any wait kind OA on oc lb w6 O6.out hoc HBY.out (by omega) HW.out).mono ?_
      rintro e w7 ⟨hp, hb⟩
      have H7 := Lib.hid (H6.out.into hb)
      have O7 := Lib.hid (O6.out.into hb)
      have K7 := Lib.hid (K6.out.below hb K6.out.lt)
      have B7 := Lib.hid (B6.out.below hb B6.out.lt)
      have Z7 := Lib.hid (Z6.out.trans (hb.mono Z6.out.size))
      have X7 := Lib.hid (X6.out.into hb)
      have Y7 := Lib.hid (Y6.out.into hb)
      have C7 := Lib.hid (C6.out.below hb C6.out.lt)
      clear hb H6 O6 K6 B6 Z6 X6 Y6 C6
      clear c0 c1
      rcases hp with ⟨hok, _⟩ | ⟨_, rfl⟩
      case inl => exact absurd hok HS.out
      obtain ⟨c0, c1⟩ := ptc2 K7.out
      go_wp2_with fail
      refine (rsparse_any wait kind OA on oc lb w7 O7.out hoc HBY.out (by omega) HW.out).mono ?_
      rintro e w8 ⟨hp, hb⟩
      have H8 := Lib.hid (H7.out.into hb)
      have O8 := Lib.hid (O7.out.into hb)
      have K8 := Lib.hid (K7.out.below hb K7.out.lt)
      have B8 := Lib.hid (B7.out.below hb B7.out.lt)
      have Z8 := Lib.hid (Z7.out.trans (hb.mono Z7.out.size))
      have X8 := Lib.hid (X7.out.into hb)
      have Y8 := Lib.hid (Y7.out.into hb)
      have C8 := Lib.hid (C7.out.below hb C7.out.lt)
      clear hb H7 O7 K7 B7 Z7 X7 Y7 C7
      clear c0 c1
      rcases hp with ⟨hok, _⟩ | ⟨_, rfl⟩
      case inl => exact absurd hok HS.out
      go_upto_region 10 with fail
      obtain ⟨b, hbb⟩ : ∃ b : Bool, b = true ↔ bkR wait l := ⟨@decide _ (Classical.propDecidable _), @decide_eq_true_iff _ (Classical.propDecidable _)⟩
      have HBB := Lib.hid hbb
      clear hbb
      refine GH.wp_ghs (M := false) 33 ((GH.SP.eq (.int .u32 wait)) :: (GH.SP.eq (.slice A pn c)) :: (GH.SP.eq (.bool b)) :: (GH.SP.eq (.int .u32 wait)) :: (GH.SP.eq (.slice A pn c)) :: (GH.SP.rd 2 pn (bks l)) :: (GH.SP.eq (.bool b)) :: (GH.SP.eq (.bool true)) :: (GH.SP.eq (.bool true)) :: (GH.SP.eq (.bool true)) :: (GH.SP.eq (.bool true)) :: (GH.SP.eq (.bool true)) :: (GH.SP.eq (.bool true)) :: (GH.SP.eq (.bool true)) :: (GH.SP.eq (.agg #[.int .u8 9, .slice XA xn xc])) :: (GH.SP.eq (.agg #[.int .u8 9, .slice YA yn yc])) :: (GH.SP.eq (.bool true)) :: (GH.SP.eq (.bool true)) :: (GH.SP.eq (.bool true)) :: (GH.SP.eq (.bool false)) :: (GH.SP.eq (.bool false)) :: (GH.SP.eq (.bool true)) :: (GH.SP.eq (.bool true)) :: (GH.SP.eq (.bool true)) :: (GH.SP.eq (.slice none 0 0)) :: (GH.SP.rd 2 0 (bks [])) :: (GH.SP.eq (.slice none 0 0)) :: (GH.SP.eq (.bool true)) :: (GH.SP.eq (.bool true)) :: (GH.SP.eq (.bool true)) :: (GH.SP.eq (.bool true)) :: (GH.SP.eq (.bool true)) :: (GH.SP.eq (.bool true)) :: []) (none :: none :: none :: none :: none :: none :: (some 32) :: none :: none :: none :: none :: none :: none :: none :: none :: none :: none :: none :: none :: none :: none :: none :: none :: none :: none :: none :: none :: none :: none :: none :: none :: none :: none :: none :: none :: none :: none :: none :: none :: none :: none :: none :: none :: none :: none :: none :: none :: none :: none :: none :: none :: none :: none :: none :: (some 0) :: (some 1) :: (some 2) :: (some 3) :: (some 4) :: (some 5) :: (some 6) :: (some 7) :: (some 8) :: (some 9) :: (some 10) :: (some 11) :: (some 12) :: (some 13) :: (some 14) :: (some 15) :: (some 16) :: (some 17) :: (some 18) :: (some 19) :: (some 20) :: (some 21) :: (some 22) :: (some 23) :: (some 24) :: (some 25) :: (some 26) :: (some 27) :: (some 28) :: (some 29) :: (some 30) :: (some 31) :: []) [54, 55, 56, 57, 58, 59, 60, 61, 62, 63, 64, 65, 66, 67, 68, 69, 70, 71, 72, 73, 74, 75, 76, 77, 78, 79, 80, 81, 82, 83, 84, 85, 6] (by rfl) (by kernel_rfl) ?_ ?_ ?_
      · intro S jx v hjx
        match jx, hjx with
        | 0, _ => rfl
        | 1, _ => rfl
        | 2, _ => rfl
        | 3, _ => rfl
        | 4, _ => rfl
        | 5, _ => rfl
        | 6, _ => rfl
        | 7, _ => rfl
        | 8, _ => rfl
        | 9, _ => rfl
        | 10, _ => rfl
        | 11, _ => rfl
        | 12, _ => rfl
        | 13, _ => rfl
        | 14, _ => rfl
        | 15, _ => rfl
        | 16, _ => rfl
        | 17, _ => rfl
        | 18, _ => rfl
        | 19, _ => rfl
        | 20, _ => rfl
        | 21, _ => rfl
        | 22, _ => rfl
        | 23, _ => rfl
        | 24, _ => rfl
        | 25, _ => rfl
        | 26, _ => rfl
        | 27, _ => rfl
        | 28, _ => rfl
        | 29, _ => rfl
        | 30, _ => rfl
        | 31, _ => rfl
        | 32, _ => rfl
        | nx + 33, hjx => omega
      · intro jx hjx S w' hb hd
        match jx, hjx, hd with
        | 0, _, hd =>
          simp only [GH.mkL, List.getD_cons_succ, List.getD_cons_zero]
          clear hd
          refine GH.st_eq (by rfl) ?_
          go_simp
          (try with_reducible rfl)
        | 1, _, hd =>
          simp only [GH.mkL, List.getD_cons_succ, List.getD_cons_zero]
          clear hd
          refine GH.st_eq (by rfl) ?_
          go_simp
          (try with_reducible rfl)
        | 2, _, hd =>
          simp only [GH.mkL, List.getD_cons_succ, List.getD_cons_zero]
          have d0 : S 0 = .int .u32 wait := (hd 0 (by kernel_rfl)).2
          rw [d0]
          clear d0
          have d1 : S 1 = .slice A pn c := (hd 1 (by kernel_rfl)).2
          rw [d1]
          clear d1
          clear hd
          refine GH.st_call (by rfl) hb.below.size (by go_simp) ((sright_any wait A pn c l w' (H8.out.into hb.below)).mono ?_)
          rintro e w9 ⟨⟨b1, rfl, hb1⟩, hb9⟩
          exact ⟨_, rfl, hb9, congrArg Value.bool (Bool.eq_iff_iff.2 (hb1.trans HBB.out.symm))⟩
        | 3, _, hd =>
          simp only [GH.mkL, List.getD_cons_succ, List.getD_cons_zero]
          clear hd
          refine GH.st_eq (by rfl) ?_
          go_simp
          (try with_reducible rfl)
        | 4, _, hd =>
          simp only [GH.mkL, List.getD_cons_succ, List.getD_cons_zero]
          clear hd
          refine GH.st_eq (by rfl) ?_
          go_simp
          (try with_reducible rfl)
        | 5, _, hd =>
          simp only [GH.mkL, List.getD_cons_succ, List.getD_cons_zero]
          have d2 : S 2 = .bool b := (hd 2 (by kernel_rfl)).2
          rw [d2]
          clear d2
          have d4 : S 4 = .slice A pn c := (hd 4 (by kernel_rfl)).2
          rw [d4]
          clear d4
          clear hd
          refine GH.st_call (by rfl) hb.below.size (by go_simp) ((splain_any A pn c l w' (H8.out.into hb.below) (by omega)).mono ?_)
          rintro e w9 ⟨v, rfl, hB, hb9⟩
          exact ⟨_, rfl, hb9, hB.rd (HL.out)⟩
        | 6, _, hd =>
          simp only [GH.mkL, List.getD_cons_succ, List.getD_cons_zero]
          have d3 : S 3 = .int .u32 wait := (hd 3 (by kernel_rfl)).2
          rw [d3]
          clear d3
          obtain ⟨A5, c5, d5, e5, H5⟩ := (hd 5 (by kernel_rfl)).2
          rw [d5]
          clear d5
          replace H5 := Lib.hid H5
          clear hd
          refine GH.st_call (by rfl) hb.below.size (by go_simp) ((srright_any wait A5 pn c5 l w' H5.out (by omega) HU.out HW.out).mono ?_)
          rintro e w9 ⟨⟨b1, rfl, hb1⟩, hb9⟩
          exact ⟨_, rfl, hb9, congrArg Value.bool (Bool.eq_iff_iff.2 (hb1.trans HBB.out.symm))⟩
        | 7, _, hd =>
          simp only [GH.mkL, List.getD_cons_succ, List.getD_cons_zero]
          have d2 : S 2 = .bool b := (hd 2 (by kernel_rfl)).2
          rw [d2]
          clear d2
          have d6 : S 6 = .bool b := (hd 6 (by kernel_rfl)).2
          rw [d6]
          clear d6
          clear hd
          refine GH.st_eq (by rfl) ?_
          go_simp
          (try simp only [beq_self_eq_true])
          (try with_reducible rfl)
        | 8, _, hd =>
          simp only [GH.mkL, List.getD_cons_succ, List.getD_cons_zero]
          have d6 : S 6 = .bool b := (hd 6 (by kernel_rfl)).2
          rw [d6]
          clear d6
          have d7 : S 7 = .bool true := (hd 7 (by kernel_rfl)).2
          rw [d7]
          clear d7
          clear hd
          refine GH.st_eq (by rfl) ?_
          go_simp
          (try with_reducible rfl)
        | 9, _, hd =>
          simp only [GH.mkL, List.getD_cons_succ, List.getD_cons_zero]
          have d8 : S 8 = .bool true := (hd 8 (by kernel_rfl)).2
          rw [d8]
          clear d8
          clear hd
          refine GH.st_eq (by rfl) ?_
          go_simp
          (try with_reducible rfl)
        | 10, _, hd =>
          simp only [GH.mkL, List.getD_cons_succ, List.getD_cons_zero]
          have d8 : S 8 = .bool true := (hd 8 (by kernel_rfl)).2
          rw [d8]
          clear d8
          clear hd
          refine GH.st_eq (by rfl) ?_
          go_simp
          (try with_reducible rfl)
        | 11, _, hd =>
          simp only [GH.mkL, List.getD_cons_succ, List.getD_cons_zero]
          have d8 : S 8 = .bool true := (hd 8 (by kernel_rfl)).2
          rw [d8]
          clear d8
          have d9 : S 9 = .bool true := (hd 9 (by kernel_rfl)).2
          rw [d9]
          clear d9
          have d10 : S 10 = .bool true := (hd 10 (by kernel_rfl)).2
          rw [d10]
          clear d10
          clear hd
          refine GH.st_eq (by rfl) ?_
          go_simp
          (try with_reducible rfl)
        | 12, _, hd =>
          simp only [GH.mkL, List.getD_cons_succ, List.getD_cons_zero]
          have d8 : S 8 = .bool true := (hd 8 (by kernel_rfl)).2
          rw [d8]
          clear d8
          have d11 : S 11 = .bool true := (hd 11 (by kernel_rfl)).2
          rw [d11]
          clear d11
          clear hd
          refine GH.st_eq (by rfl) ?_
          go_simp
          (try with_reducible rfl)
        | 13, _, hd =>
          simp only [GH.mkL, List.getD_cons_succ, List.getD_cons_zero]
          have d8 : S 8 = .bool true := (hd 8 (by kernel_rfl)).2
          rw [d8]
          clear d8
          have d12 : S 12 = .bool true := (hd 12 (by kernel_rfl)).2
          rw [d12]
          clear d12
          clear hd
          refine GH.st_eq (by rfl) ?_
          go_simp
          (try with_reducible rfl)
        | 14, _, hd =>
          simp only [GH.mkL, List.getD_cons_succ, List.getD_cons_zero]
          have d13 : S 13 = .bool true := (hd 13 (by kernel_rfl)).2
          rw [d13]
          clear d13
          clear hd
          exact GH.st_loads _ [.int .u8 9, .slice XA xn xc] (by rfl) rfl rfl (((B8.out.below hb.below B8.out.lt)).loads 0 _ (by rfl)) (by kernel_rfl) (by kernel_rfl)
        | 15, _, hd =>
          simp only [GH.mkL, List.getD_cons_succ, List.getD_cons_zero]
          have d13 : S 13 = .bool true := (hd 13 (by kernel_rfl)).2
          rw [d13]
          clear d13
          clear hd
          exact GH.st_loads _ [.int .u8 9, .slice YA yn yc] (by rfl) rfl rfl (((C8.out.below hb.below C8.out.lt)).loads 0 _ (by rfl)) (by kernel_rfl) (by kernel_rfl)
        | 16, _, hd =>
          simp only [GH.mkL, List.getD_cons_succ, List.getD_cons_zero]
          have d13 : S 13 = .bool true := (hd 13 (by kernel_rfl)).2
          rw [d13]
          clear d13
          have d14 : S 14 = .agg #[.int .u8 9, .slice XA xn xc] := (hd 14 (by kernel_rfl)).2
          rw [d14]
          clear d14
          have d15 : S 15 = .agg #[.int .u8 9, .slice YA yn yc] := (hd 15 (by kernel_rfl)).2
          rw [d15]
          clear d15
          clear hd
          refine GH.st_call (by rfl) hb.below.size (by go_simp) ((sameo_any 9 XA YA xn xc yn yc (bksB wait l) w' (X8.out.into hb.below) (Y8.out.into hb.below)).mono ?_)
          rintro e w9 ⟨rfl, hb9⟩
          exact ⟨_, rfl, hb9, rfl⟩
        | 17, _, hd =>
          simp only [GH.mkL, List.getD_cons_succ, List.getD_cons_zero]
          have d13 : S 13 = .bool true := (hd 13 (by kernel_rfl)).2
          rw [d13]
          clear d13
          have d16 : S 16 = .bool true := (hd 16 (by kernel_rfl)).2
          rw [d16]
          clear d16
          clear hd
          refine GH.st_eq (by rfl) ?_
          go_simp
          (try with_reducible rfl)
        | 18, _, hd =>
          simp only [GH.mkL, List.getD_cons_succ, List.getD_cons_zero]
          have d16 : S 16 = .bool true := (hd 16 (by kernel_rfl)).2
          rw [d16]
          clear d16
          have d17 : S 17 = .bool true := (hd 17 (by kernel_rfl)).2
          rw [d17]
          clear d17
          clear hd
          refine GH.st_eq (by rfl) ?_
          go_simp
          (try with_reducible rfl)
        | 19, _, hd =>
          simp only [GH.mkL, List.getD_cons_succ, List.getD_cons_zero]
          have d18 : S 18 = .bool true := (hd 18 (by kernel_rfl)).2
          rw [d18]
          clear d18
          clear hd
          refine GH.st_eq (by rfl) ?_
          go_simp
          (try with_reducible rfl)
        | 20, _, hd =>
          simp only [GH.mkL, List.getD_cons_succ, List.getD_cons_zero]
          have d18 : S 18 = .bool true := (hd 18 (by kernel_rfl)).2
          rw [d18]
          clear d18
          clear hd
          refine GH.st_eq (by rfl) ?_
          go_simp
          (try with_reducible rfl)
        | 21, _, hd =>
          simp only [GH.mkL, List.getD_cons_succ, List.getD_cons_zero]
          have d18 : S 18 = .bool true := (hd 18 (by kernel_rfl)).2
          rw [d18]
          clear d18
          have d19 : S 19 = .bool false := (hd 19 (by kernel_rfl)).2
          rw [d19]
          clear d19
          have d20 : S 20 = .bool false := (hd 20 (by kernel_rfl)).2
          rw [d20]
          clear d20
          clear hd
          refine GH.st_eq (by rfl) ?_
          go_simp
          (try with_reducible rfl)
        | 22, _, hd =>
          simp only [GH.mkL, List.getD_cons_succ, List.getD_cons_zero]
          have d18 : S 18 = .bool true := (hd 18 (by kernel_rfl)).2
          rw [d18]
          clear d18
          have d21 : S 21 = .bool true := (hd 21 (by kernel_rfl)).2
          rw [d21]
          clear d21
          clear hd
          refine GH.st_eq (by rfl) ?_
          go_simp
          (try with_reducible rfl)
        | 23, _, hd =>
          simp only [GH.mkL, List.getD_cons_succ, List.getD_cons_zero]
          have d18 : S 18 = .bool true := (hd 18 (by kernel_rfl)).2
          rw [d18]
          clear d18
          have d22 : S 22 = .bool true := (hd 22 (by kernel_rfl)).2
          rw [d22]
          clear d22
          clear hd
          refine GH.st_eq (by rfl) ?_
          go_simp
          (try with_reducible rfl)
        | 24, _, hd =>
          simp only [GH.mkL, List.getD_cons_succ, List.getD_cons_zero]
          have d23 : S 23 = .bool true := (hd 23 (by kernel_rfl)).2
          rw [d23]
          clear d23
          clear hd
          refine GH.st_eq (by rfl) ?_
          go_simp
          (try with_reducible rfl)
        | 25, _, hd =>
          simp only [GH.mkL, List.getD_cons_succ, List.getD_cons_zero]
          have d23 : S 23 = .bool true := (hd 23 (by kernel_rfl)).2
          rw [d23]
          clear d23
          have d24 : S 24 = .slice none 0 0 := (hd 24 (by kernel_rfl)).2
          rw [d24]
          clear d24
          clear hd
          refine GH.st_call (by rfl) hb.below.size (by go_simp) ((splain_any none 0 0 [] w' (Rd.nil _ _ _ _) (by omega)).mono ?_)
          rintro e w9 ⟨v, rfl, hB, hb9⟩
          exact ⟨_, rfl, hb9, hB.rd (rfl)⟩
        | 26, _, hd =>
          simp only [GH.mkL, List.getD_cons_succ, List.getD_cons_zero]
          have d23 : S 23 = .bool true := (hd 23 (by kernel_rfl)).2
          rw [d23]
          clear d23
          clear hd
          refine GH.st_eq (by rfl) ?_
          go_simp
          (try with_reducible rfl)
        | 27, _, hd =>
          simp only [GH.mkL, List.getD_cons_succ, List.getD_cons_zero]
          have d23 : S 23 = .bool true := (hd 23 (by kernel_rfl)).2
          rw [d23]
          clear d23
          obtain ⟨A25, c25, d25, e25, H25⟩ := (hd 25 (by kernel_rfl)).2
          rw [d25]
          clear d25
          replace H25 := Lib.hid H25
          have d26 : S 26 = .slice none 0 0 := (hd 26 (by kernel_rfl)).2
          rw [d26]
          clear d26
          clear hd
          refine GH.st_call (by rfl) hb.below.size (by go_simp) ((ssame_true A25 none 0 c25 0 [] w' H25.out (Rd.nil _ _ _ _) (by omega)).mono ?_)
          rintro e w9 ⟨rfl, hb9⟩
          exact ⟨_, rfl, hb9, rfl⟩
        | 28, _, hd =>
          simp only [GH.mkL, List.getD_cons_succ, List.getD_cons_zero]
          have d23 : S 23 = .bool true := (hd 23 (by kernel_rfl)).2
          rw [d23]
          clear d23
          have d27 : S 27 = .bool true := (hd 27 (by kernel_rfl)).2
          rw [d27]
          clear d27
          clear hd
          refine GH.st_eq (by rfl) ?_
          go_simp
          (try with_reducible rfl)
        | 29, _, hd =>
          simp only [GH.mkL, List.getD_cons_succ, List.getD_cons_zero]
          have d27 : S 27 = .bool true := (hd 27 (by kernel_rfl)).2
          rw [d27]
          clear d27
          have d28 : S 28 = .bool true := (hd 28 (by kernel_rfl)).2
          rw [d28]
          clear d28
          clear hd
          refine GH.st_eq (by rfl) ?_
          go_simp
          (try with_reducible rfl)
        | 30, _, hd =>
          simp only [GH.mkL, List.getD_cons_succ, List.getD_cons_zero]
          have d29 : S 29 = .bool true := (hd 29 (by kernel_rfl)).2
          rw [d29]
          clear d29
          clear hd
          refine GH.st_call (by rfl) hb.below.size (by go_simp) ((alive31_any w').mono ?_)
          rintro e w9 ⟨rfl, hb9⟩
          exact ⟨_, rfl, hb9, rfl⟩
        | 31, _, hd =>
          simp only [GH.mkL, List.getD_cons_succ, List.getD_cons_zero]
          have d29 : S 29 = .bool true := (hd 29 (by kernel_rfl)).2
          rw [d29]
          clear d29
          have d30 : S 30 = .bool true := (hd 30 (by kernel_rfl)).2
          rw [d30]
          clear d30
          clear hd
          refine GH.st_eq (by rfl) ?_
          go_simp
          (try with_reducible rfl)
        | 32, _, hd =>
          simp only [GH.mkL, List.getD_cons_succ, List.getD_cons_zero]
          have d0 : S 0 = .int .u32 wait := (hd 0 (by kernel_rfl)).2
          rw [d0]
          clear d0
          have d1 : S 1 = .slice A pn c := (hd 1 (by kernel_rfl)).2
          rw [d1]
          clear d1
          have d2 : S 2 = .bool b := (hd 2 (by kernel_rfl)).2
          rw [d2]
          clear d2
          have d3 : S 3 = .int .u32 wait := (hd 3 (by kernel_rfl)).2
          rw [d3]
          clear d3
          have d4 : S 4 = .slice A pn c := (hd 4 (by kernel_rfl)).2
          rw [d4]
          clear d4
          obtain ⟨A5, c5, d5, e5, H5⟩ := (hd 5 (by kernel_rfl)).2
          rw [d5]
          clear d5
          replace H5 := Lib.hid H5
          have d6 : S 6 = .bool b := (hd 6 (by kernel_rfl)).2
          rw [d6]
          clear d6
          have d7 : S 7 = .bool true := (hd 7 (by kernel_rfl)).2
          rw [d7]
          clear d7
          have d8 : S 8 = .bool true := (hd 8 (by kernel_rfl)).2
          rw [d8]
          clear d8
          have d9 : S 9 = .bool true := (hd 9 (by kernel_rfl)).2
          rw [d9]
          clear d9
          have d10 : S 10 = .bool true := (hd 10 (by kernel_rfl)).2
          rw [d10]
          clear d10
          have d11 : S 11 = .bool true := (hd 11 (by kernel_rfl)).2
          rw [d11]
          clear d11
          have d12 : S 12 = .bool true := (hd 12 (by kernel_rfl)).2
          rw [d12]
          clear d12
          have d13 : S 13 = .bool true := (hd 13 (by kernel_rfl)).2
          rw [d13]
          clear d13
          have d14 : S 14 = .agg #[.int .u8 9, .slice XA xn xc] := (hd 14 (by kernel_rfl)).2
          rw [d14]
          clear d14
          have d15 : S 15 = .agg #[.int .u8 9, .slice YA yn yc] := (hd 15 (by kernel_rfl)).2
          rw [d15]
          clear d15
          have d16 : S 16 = .bool true := (hd 16 (by kernel_rfl)).2
          rw [d16]
          clear d16
          have d17 : S 17 = .bool true := (hd 17 (by kernel_rfl)).2
          rw [d17]
          clear d17
          have d18 : S 18 = .bool true := (hd 18 (by kernel_rfl)).2
          rw [d18]
          clear d18
          have d19 : S 19 = .bool false := (hd 19 (by kernel_rfl)).2
          rw [d19]
          clear d19
          have d20 : S 20 = .bool false := (hd 20 (by kernel_rfl)).2
          rw [d20]
          clear d20
          have d21 : S 21 = .bool true := (hd 21 (by kernel_rfl)).2
          rw [d21]
          clear d21
          have d22 : S 22 = .bool true := (hd 22 (by kernel_rfl)).2
          rw [d22]
          clear d22
          have d23 : S 23 = .bool true := (hd 23 (by kernel_rfl)).2
          rw [d23]
          clear d23
          have d24 : S 24 = .slice none 0 0 := (hd 24 (by kernel_rfl)).2
          rw [d24]
          clear d24
          obtain ⟨A25, c25, d25, e25, H25⟩ := (hd 25 (by kernel_rfl)).2
          rw [d25]
          clear d25
          replace H25 := Lib.hid H25
          have d26 : S 26 = .slice none 0 0 := (hd 26 (by kernel_rfl)).2
          rw [d26]
          clear d26
          have d27 : S 27 = .bool true := (hd 27 (by kernel_rfl)).2
          rw [d27]
          clear d27
          have d28 : S 28 = .bool true := (hd 28 (by kernel_rfl)).2
          rw [d28]
          clear d28
          have d29 : S 29 = .bool true := (hd 29 (by kernel_rfl)).2
          rw [d29]
          clear d29
          have d30 : S 30 = .bool true := (hd 30 (by kernel_rfl)).2
          rw [d30]
          clear d30
          have d31 : S 31 = .bool true := (hd 31 (by kernel_rfl)).2
          rw [d31]
          clear d31
          clear hd
          refine GH.st_eq (by rfl) ?_
          go_simp
          (try with_reducible rfl)
        | nx + 33, hjx, _ => omega
      intro S w' hb hG
      simp only [GH.mkL, List.drop_succ_cons, List.drop_zero]
      have d32 : S 32 = .bool true := hG 32 (by omega)
      rw [d32]
      clear d32
      clear hG
      refine wpList_nil ?_
      have ZF := Lib.hid (Z8.out.trans (hb.below.mono Z8.out.size))
      go_wp2_with fail
      go_ret
      refine ⟨rfl, ?_⟩
      (try rw [HT.out])
      exact ZF.out
  · have HR := Lib.hid hno
    clear hno
    go_wp2_with fail
    have hA := (Below.refl w2.heap.size w2).alloc (Nat.le_refl _) (.cells #[.int .u8 0, .slice none 0 0] 26)
    have B3 := Lib.hid (Blk.new w2 26 #[.int .u8 0, .slice none 0 0])
    have H3 := Lib.hid (H2.out.into hA)
    have O3 := Lib.hid (O2.out.into hA)
    have Z3 := Lib.hid (Z2.out.trans (hA.mono Z2.out.size))
    have K3 := Lib.hid (K2.out.below hA K2.out.lt)
    obtain ⟨T1, hT1⟩ : ∃ T1, T1 = w2.heap.size := ⟨_, rfl⟩
    have E1 := Lib.hid (show T < T1 by rw [hT1]; exact K2.out.lt)
    rw [← hT1] at B3 ⊢
    clear hA H2 O2 K2 S2 Z2 hT1
    generalize w2.alloc (.cells #[.int .u8 0, .slice none 0 0] 26) = w3 at * 
    refine (splain_any A n c l w3 H3.out (by omega)).mono ?_
    rintro e w4 ⟨v, rfl, hB, hb⟩
    obtain ⟨PA, pn, pc, rfl, _, hpn, hP⟩ := hB.out
    have hpn' : pn = n := by have := hpn.out; have := HL.out; omega
    subst hpn'
    have P4 := Lib.hid hP.out
    have H4 := Lib.hid (H3.out.into hb)
    have O4 := Lib.hid (O3.out.into hb)
    have Z4 := Lib.hid (Z3.out.trans (hb.mono Z3.out.size))
    have K4 := Lib.hid (K3.out.below hb K3.out.lt)
    have B4 := Lib.hid (B3.out.below hb B3.out.lt)
    clear hB hpn hP hb H3 O3 K3 B3 Z3
    go_wp2_with fail
    refine (rsoption_any wait PA pn pc l w4 P4.out (by omega) HU.out HW.out).mono ?_
    rintro e w5 ⟨hp, hb⟩
    have H5 := Lib.hid (H4.out.into hb)
    have O5 := Lib.hid (O4.out.into hb)
    have Z5 := Lib.hid (Z4.out.trans (hb.mono Z4.out.size))
    have K5 := Lib.hid (K4.out.below hb K4.out.lt)
    have B5 := Lib.hid (B4.out.below hb B4.out.lt)
    clear hb H4 O4 K4 B4 Z4 P4
    rcases hp with ⟨v, rfl, hne, hr, _⟩ | ⟨rfl, _⟩
    case inl => exact absurd (And.intro hne hr) HR.out
    by_cases hS : SPOk wait kind on lb
    · have HS := Lib.hid hS
      clear hS
      go_upto_region 8 with fail
      have hA := (Below.refl w5.heap.size w5).alloc (Nat.le_refl _) (.cells #[.int .u8 0, .slice none 0 0] 26)
      have C6 := Lib.hid (Blk.new w5 26 #[.int .u8 0, .slice none 0 0])
      have H6 := Lib.hid (H5.out.into hA)
      have O6 := Lib.hid (O5.out.into hA)
      have K6 := Lib.hid (K5.out.below hA K5.out.lt)
      have B6 := Lib.hid (B5.out.below hA B5.out.lt)
      have Z6 := Lib.hid (Z5.out.trans (hA.mono Z5.out.size))
      clear hA H5 O5 K5 B5 Z5
      obtain ⟨T2, hT2⟩ : ∃ T2, T2 = w5.heap.size := ⟨_, rfl⟩
      rw [← hT2] at C6 ⊢
      clear hT2
      generalize w5.alloc (.cells #[.int .u8 0, .slice none 0 0] 26) = w6 at *
      obtain ⟨c0, c1⟩ := ptc2 K6.out
      go_wp2_with fail
      refine (spparse_any wait kind OA on oc lb w6 O6.out hoc HBY.out (by omega) HW.out).mono ?_
      rintro e w7 ⟨hp, hb⟩
      have H7 := Lib.hid (H6.out.into hb)
      have O7 := Lib.hid (O6.out.into hb)
      have K7 := Lib.hid (K6.out.below hb K6.out.lt)
      have B7 := Lib.hid (B6.out.below hb B6.out.lt)
      have Z7 := Lib.hid (Z6.out.trans (hb.mono Z6.out.size))
      have C7 := Lib.hid (C6.out.below hb C6.out.lt)
      clear hb H6 O6 K6 B6 Z6 C6
      clear c0 c1
      rcases hp with ⟨hok, v, rfl, hM⟩ | ⟨hno, _⟩
      case inr => exact absurd HS.out hno
      obtain ⟨MA, mc, rfl, _, _, hM2⟩ := own_form hM
      obtain ⟨ML, hML⟩ : ∃ ML, ML = parB (on / 8) wait lb := ⟨_, rfl⟩
      obtain ⟨mn, hmn⟩ : ∃ mn, mn = ML.length := ⟨_, rfl⟩
      rw [← hML, ← hmn] at hM2
      rw [← hML, ← hmn]
      have M7 := Lib.hid hM2
      have HML := Lib.hid hML
      have HMN := Lib.hid hmn
      have hmn4 : mn ≤ 4 := by have h := HS.out.2.2.2.2.1; rw [← hML, ← hmn] at h; exact h
      clear hok hM hM2 hML hmn
      obtain ⟨c0, c1⟩ := ptc2 K7.out
      go_wp2_with fail
      refine (rsparse_any wait kind OA on oc lb w7 O7.out hoc HBY.out (by omega) HW.out).mono ?_
      rintro e w8 ⟨hp, hb⟩
      have H8 := Lib.hid (H7.out.into hb)
      have O8 := Lib.hid (O7.out.into hb)
      have K8 := Lib.hid (K7.out.below hb K7.out.lt)
      have B8 := Lib.hid (B7.out.below hb B7.out.lt)
      have Z8 := Lib.hid (Z7.out.trans (hb.mono Z7.out.size))
      have C8 := Lib.hid (C7.out.below hb C7.out.lt)
      have M8 := Lib.hid (M7.out.into hb)
      clear hb H7 O7 K7 B7 Z7 C7 M7
      clear c0 c1
      rcases hp with ⟨hok, v, rfl, hM⟩ | ⟨hno, _⟩
      case inr => exact absurd HS.out hno
      obtain ⟨NA, nc, rfl, _, _, hM2⟩ := own_form hM
      rw [← HML.out, ← HMN.out] at hM2
      rw [← HML.out, ← HMN.out]
      have N8 := Lib.hid hM2
      clear hok hM hM2
      go_upto_region 10 with fail
      obtain ⟨b, hbb⟩ : ∃ b : Bool, b = true ↔ bkR wait l := ⟨@decide _ (Classical.propDecidable _), @decide_eq_true_iff _ (Classical.propDecidable _)⟩
      have HBB := Lib.hid hbb
      clear hbb
      refine GH.wp_ghs (M := false) 33 ((GH.SP.eq (.int .u32 wait)) :: (GH.SP.eq (.slice A pn c)) :: (GH.SP.eq (.bool b)) :: (GH.SP.eq (.int .u32 wait)) :: (GH.SP.eq (.slice A pn c)) :: (GH.SP.rd 2 pn (bks l)) :: (GH.SP.eq (.bool b)) :: (GH.SP.eq (.bool true)) :: (GH.SP.eq (.bool true)) :: (GH.SP.eq (.bool false)) :: (GH.SP.eq (.bool false)) :: (GH.SP.eq (.bool true)) :: (GH.SP.eq (.bool true)) :: (GH.SP.eq (.bool true)) :: (GH.SP.eq (.agg #[.int .u8 0, .slice none 0 0])) :: (GH.SP.eq (.agg #[.int .u8 0, .slice none 0 0])) :: (GH.SP.eq (.bool true)) :: (GH.SP.eq (.bool true)) :: (GH.SP.eq (.bool true)) :: (GH.SP.eq (.bool true)) :: (GH.SP.eq (.bool true)) :: (GH.SP.eq (.bool true)) :: (GH.SP.eq (.bool true)) :: (GH.SP.eq (.bool true)) :: (GH.SP.eq (.slice MA mn mc)) :: (GH.SP.rd 2 mn (bks ML)) :: (GH.SP.eq (.slice NA mn nc)) :: (GH.SP.eq (.bool true)) :: (GH.SP.eq (.bool true)) :: (GH.SP.eq (.bool true)) :: (GH.SP.eq (.bool true)) :: (GH.SP.eq (.bool true)) :: (GH.SP.eq (.bool true)) :: []) (none :: none :: none :: none :: none :: none :: (some 32) :: none :: none :: none :: none :: none :: none :: none :: none :: none :: none :: none :: none :: none :: none :: none :: none :: none :: none :: none :: none :: none :: none :: none :: none :: none :: none :: none :: none :: none :: none :: none :: none :: none :: none :: none :: none :: none :: none :: none :: none :: none :: none :: none :: none :: none :: none :: none :: (some 0) :: (some 1) :: (some 2) :: (some 3) :: (some 4) :: (some 5) :: (some 6) :: (some 7) :: (some 8) :: (some 9) :: (some 10) :: (some 11) :: (some 12) :: (some 13) :: (some 14) :: (some 15) :: (some 16) :: (some 17) :: (some 18) :: (some 19) :: (some 20) :: (some 21) :: (some 22) :: (some 23) :: (some 24) :: (some 25) :: (some 26) :: (some 27) :: (some 28) :: (some 29) :: (some 30) :: (some 31) :: []) [54, 55, 56, 57, 58, 59, 60, 61, 62, 63, 64, 65, 66, 67, 68, 69, 70, 71, 72, 73, 74, 75, 76, 77, 78, 79, 80, 81, 82, 83, 84, 85, 6] (by rfl) (by kernel_rfl) ?_ ?_ ?_
      · intro S jx v hjx
        match jx, hjx with
        | 0, _ => rfl
        | 1, _ => rfl
        | 2, _ => rfl
        | 3, _ => rfl
        | 4, _ => rfl
        | 5, _ => rfl
        | 6, _ => rfl
        | 7, _ => rfl
        | 8, _ => rfl
        | 9, _ => rfl
        | 10, _ => rfl
        | 11, _ => rfl
        | 12, _ => rfl
        | 13, _ => rfl
        | 14, _ => rfl
        | 15, _ => rfl
        | 16, _ => rfl
        | 17, _ => rfl
        | 18, _ => rfl
        | 19, _ => rfl
        | 20, _ => rfl
        | 21, _ => rfl
        | 22, _ => rfl
        | 23, _ => rfl
        | 24, _ => rfl
        | 25, _ => rfl
        | 26, _ => rfl
        | 27, _ => rfl
        | 28, _ => rfl
        | 29, _ => rfl
        | 30, _ => rfl
        | 31, _ => rfl
        | 32, _ => rfl
        | nx + 33, hjx => omega
      · intro jx hjx S w' hb hd
        match jx, hjx, hd with
        | 0, _, hd =>
          simp only [GH.mkL, List.getD_cons_succ, List.getD_cons_zero]
          clear hd
          refine GH.st_eq (by rfl) ?_
          go_simp
          (try with_reducible rfl)
        | 1, _, hd =>
          simp only [GH.mkL, List.getD_cons_succ, List.getD_cons_zero]
          clear hd
          refine GH.st_eq (by rfl) ?_
          go_simp
          (try with_reducible rfl)
        | 2, _, hd =>
          simp only [GH.mkL, List.getD_cons_succ, List.getD_cons_zero]
          have d0 : S 0 = .int .u32 wait := (hd 0 (by kernel_rfl)).2
          rw [d0]
          clear d0
          have d1 : S 1 = .slice A pn c := (hd 1 (by kernel_rfl)).2
          rw [d1]
          clear d1
          clear hd
          refine GH.st_call (by rfl) hb.below.size (by go_simp) ((sright_any wait A pn c l w' (H8.out.into hb.below)).mono ?_)
          rintro e w9 ⟨⟨b1, rfl, hb1⟩, hb9⟩
          exact ⟨_, rfl, hb9, congrArg Value.bool (Bool.eq_iff_iff.2 (hb1.trans HBB.out.symm))⟩
        | 3, _, hd =>
          simp only [GH.mkL, List.getD_cons_succ, List.getD_cons_zero]
          clear hd
          refine GH.st_eq (by rfl) ?_
          go_simp
          (try with_reducible rfl)
        | 4, _, hd =>
          simp only [GH.mkL, List.getD_cons_succ, List.getD_cons_zero]
          clear hd
          refine GH.st_eq (by rfl) ?_
          go_simp
          (try with_reducible rfl)
        | 5, _, hd =>
          simp only [GH.mkL, List.getD_cons_succ, List.getD_cons_zero]
          have d2 : S 2 = .bool b := (hd 2 (by kernel_rfl)).2
          rw [d2]
          clear d2
          have d4 : S 4 = .slice A pn c := (hd 4 (by kernel_rfl)).2
          rw [d4]
          clear d4
          clear hd
          refine GH.st_call (by rfl) hb.below.size (by go_simp) ((splain_any A pn c l w' (H8.out.into hb.below) (by omega)).mono ?_)
          rintro e w9 ⟨v, rfl, hB, hb9⟩
          exact ⟨_, rfl, hb9, hB.rd (HL.out)⟩
        | 6, _, hd =>
          simp only [GH.mkL, List.getD_cons_succ, List.getD_cons_zero]
          have d3 : S 3 = .int .u32 wait := (hd 3 (by kernel_rfl)).2
          rw [d3]
          clear d3
          obtain ⟨A5, c5, d5, e5, H5⟩ := (hd 5 (by kernel_rfl)).2
          rw [d5]
          clear d5
          replace H5 := Lib.hid H5
          clear hd
          refine GH.st_call (by rfl) hb.below.size (by go_simp) ((srright_any wait A5 pn c5 l w' H5.out (by omega) HU.out HW.out).mono ?_)
          rintro e w9 ⟨⟨b1, rfl, hb1⟩, hb9⟩
          exact ⟨_, rfl, hb9, congrArg Value.bool (Bool.eq_iff_iff.2 (hb1.trans HBB.out.symm))⟩
        | 7, _, hd =>
          simp only [GH.mkL, List.getD_cons_succ, List.getD_cons_zero]
          have d2 : S 2 = .bool b := (hd 2 (by kernel_rfl)).2
          rw [d2]
          clear d2
          have d6 : S 6 = .bool b := (hd 6 (by kernel_rfl)).2
          rw [d6]
          clear d6
          clear hd
          refine GH.st_eq (by rfl) ?_
          go_simp
          (try simp only [beq_self_eq_true])
          (try with_reducible rfl)
        | 8, _, hd =>
          simp only [GH.mkL, List.getD_cons_succ, List.getD_cons_zero]
          have d6 : S 6 = .bool b := (hd 6 (by kernel_rfl)).2
          rw [d6]
          clear d6
          have d7 : S 7 = .bool true := (hd 7 (by kernel_rfl)).2
          rw [d7]
          clear d7
          clear hd
          refine GH.st_eq (by rfl) ?_
          go_simp
          (try with_reducible rfl)
        | 9, _, hd =>
          simp only [GH.mkL, List.getD_cons_succ, List.getD_cons_zero]
          have d8 : S 8 = .bool true := (hd 8 (by kernel_rfl)).2
          rw [d8]
          clear d8
          clear hd
          refine GH.st_eq (by rfl) ?_
          go_simp
          (try with_reducible rfl)
        | 10, _, hd =>
          simp only [GH.mkL, List.getD_cons_succ, List.getD_cons_zero]
          have d8 : S 8 = .bool true := (hd 8 (by kernel_rfl)).2
          rw [d8]
          clear d8
          clear hd
          refine GH.st_eq (by rfl) ?_
          go_simp
          (try with_reducible rfl)
        | 11, _, hd =>
          simp only [GH.mkL, List.getD_cons_succ, List.getD_cons_zero]
          have d8 : S 8 = .bool true := (hd 8 (by kernel_rfl)).2
          rw [d8]
          clear d8
          have d9 : S 9 = .bool false := (hd 9 (by kernel_rfl)).2
          rw [d9]
          clear d9
          have d10 : S 10 = .bool false := (hd 10 (by kernel_rfl)).2
          rw [d10]
          clear d10
          clear hd
          refine GH.st_eq (by rfl) ?_
          go_simp
          (try with_reducible rfl)
        | 12, _, hd =>
          simp only [GH.mkL, List.getD_cons_succ, List.getD_cons_zero]
          have d8 : S 8 = .bool true := (hd 8 (by kernel_rfl)).2
          rw [d8]
          clear d8
          have d11 : S 11 = .bool true := (hd 11 (by kernel_rfl)).2
          rw [d11]
          clear d11
          clear hd
          refine GH.st_eq (by rfl) ?_
          go_simp
          (try with_reducible rfl)
        | 13, _, hd =>
          simp only [GH.mkL, List.getD_cons_succ, List.getD_cons_zero]
          have d8 : S 8 = .bool true := (hd 8 (by kernel_rfl)).2
          rw [d8]
          clear d8
          have d12 : S 12 = .bool true := (hd 12 (by kernel_rfl)).2
          rw [d12]
          clear d12
          clear hd
          refine GH.st_eq (by rfl) ?_
          go_simp
          (try with_reducible rfl)
        | 14, _, hd =>
          simp only [GH.mkL, List.getD_cons_succ, List.getD_cons_zero]
          have d13 : S 13 = .bool true := (hd 13 (by kernel_rfl)).2
          rw [d13]
          clear d13
          clear hd
          exact GH.st_loads _ [.int .u8 0, .slice none 0 0] (by rfl) rfl rfl (((B8.out.below hb.below B8.out.lt)).loads 0 _ (by rfl)) (by kernel_rfl) (by kernel_rfl)
        | 15, _, hd =>
          simp only [GH.mkL, List.getD_cons_succ, List.getD_cons_zero]
          have d13 : S 13 = .bool true := (hd 13 (by kernel_rfl)).2
          rw [d13]
          clear d13
          clear hd
          exact GH.st_loads _ [.int .u8 0, .slice none 0 0] (by rfl) rfl rfl (((C8.out.below hb.below C8.out.lt)).loads 0 _ (by rfl)) (by kernel_rfl) (by kernel_rfl)
        | 16, _, hd =>
          simp only [GH.mkL, List.getD_cons_succ, List.getD_cons_zero]
          have d13 : S 13 = .bool true := (hd 13 (by kernel_rfl)).2
          rw [d13]
          clear d13
          have d14 : S 14 = .agg #[.int .u8 0, .slice none 0 0] := (hd 14 (by kernel_rfl)).2
          rw [d14]
          clear d14
          have d15 : S 15 = .agg #[.int .u8 0, .slice none 0 0] := (hd 15 (by kernel_rfl)).2
          rw [d15]
          clear d15
          clear hd
          refine GH.st_call (by rfl) hb.below.size (by go_simp) ((sameo_any 0 none none 0 0 0 0 [] w' (Rd.nil _ _ _ _) (Rd.nil _ _ _ _)).mono ?_)
          rintro e w9 ⟨rfl, hb9⟩
          exact ⟨_, rfl, hb9, rfl⟩
        | 17, _, hd =>
          simp only [GH.mkL, List.getD_cons_succ, List.getD_cons_zero]
          have d13 : S 13 = .bool true := (hd 13 (by kernel_rfl)).2
          rw [d13]
          clear d13
          have d16 : S 16 = .bool true := (hd 16 (by kernel_rfl)).2
          rw [d16]
          clear d16
          clear hd
          refine GH.st_eq (by rfl) ?_
          go_simp
          (try with_reducible rfl)
        | 18, _, hd =>
          simp only [GH.mkL, List.getD_cons_succ, List.getD_cons_zero]
          have d16 : S 16 = .bool true := (hd 16 (by kernel_rfl)).2
          rw [d16]
          clear d16
          have d17 : S 17 = .bool true := (hd 17 (by kernel_rfl)).2
          rw [d17]
          clear d17
          clear hd
          refine GH.st_eq (by rfl) ?_
          go_simp
          (try with_reducible rfl)
        | 19, _, hd =>
          simp only [GH.mkL, List.getD_cons_succ, List.getD_cons_zero]
          have d18 : S 18 = .bool true := (hd 18 (by kernel_rfl)).2
          rw [d18]
          clear d18
          clear hd
          refine GH.st_eq (by rfl) ?_
          go_simp
          (try with_reducible rfl)
        | 20, _, hd =>
          simp only [GH.mkL, List.getD_cons_succ, List.getD_cons_zero]
          have d18 : S 18 = .bool true := (hd 18 (by kernel_rfl)).2
          rw [d18]
          clear d18
          clear hd
          refine GH.st_eq (by rfl) ?_
          go_simp
          (try with_reducible rfl)
        | 21, _, hd =>
          simp only [GH.mkL, List.getD_cons_succ, List.getD_cons_zero]
          have d18 : S 18 = .bool true := (hd 18 (by kernel_rfl)).2
          rw [d18]
          clear d18
          have d19 : S 19 = .bool true := (hd 19 (by kernel_rfl)).2
          rw [d19]
          clear d19
          have d20 : S 20 = .bool true := (hd 20 (by kernel_rfl)).2
          rw [d20]
          clear d20
          clear hd
          refine GH.st_eq (by rfl) ?_
          go_simp
          (try with_reducible rfl)
        | 22, _, hd =>
          simp only [GH.mkL, List.getD_cons_succ, List.getD_cons_zero]
          have d18 : S 18 = .bool true := (hd 18 (by kernel_rfl)).2
          rw [d18]
          clear d18
          have d21 : S 21 = .bool true := (hd 21 (by kernel_rfl)).2
          rw [d21]
          clear d21
          clear hd
          refine GH.st_eq (by rfl) ?_
          go_simp
          (try with_reducible rfl)
        | 23, _, hd =>
          simp only [GH.mkL, List.getD_cons_succ, List.getD_cons_zero]
          have d18 : S 18 = .bool true := (hd 18 (by kernel_rfl)).2
          rw [d18]
          clear d18
          have d22 : S 22 = .bool true := (hd 22 (by kernel_rfl)).2
          rw [d22]
          clear d22
          clear hd
          refine GH.st_eq (by rfl) ?_
          go_simp
          (try with_reducible rfl)
        | 24, _, hd =>
          simp only [GH.mkL, List.getD_cons_succ, List.getD_cons_zero]
          have d23 : S 23 = .bool true := (hd 23 (by kernel_rfl)).2
          rw [d23]
          clear d23
          clear hd
          refine GH.st_eq (by rfl) ?_
          go_simp
          (try with_reducible rfl)
        | 25, _, hd =>
          simp only [GH.mkL, List.getD_cons_succ, List.getD_cons_zero]
          have d23 : S 23 = .bool true := (hd 23 (by kernel_rfl)).2
          rw [d23]
          clear d23
          have d24 : S 24 = .slice MA mn mc := (hd 24 (by kernel_rfl)).2
          rw [d24]
          clear d24
          clear hd
          refine GH.st_call (by rfl) hb.below.size (by go_simp) ((splain_any MA mn mc ML w' (M8.out.into hb.below) (by omega)).mono ?_)
          rintro e w9 ⟨v, rfl, hB, hb9⟩
          exact ⟨_, rfl, hb9, hB.rd (HMN.out.symm)⟩
        | 26, _, hd =>
          simp only [GH.mkL, List.getD_cons_succ, List.getD_cons_zero]
          have d23 : S 23 = .bool true := (hd 23 (by kernel_rfl)).2
          rw [d23]
          clear d23
          clear hd
          refine GH.st_eq (by rfl) ?_
          go_simp
          (try with_reducible rfl)
        | 27, _, hd =>
          simp only [GH.mkL, List.getD_cons_succ, List.getD_cons_zero]
          have d23 : S 23 = .bool true := (hd 23 (by kernel_rfl)).2
          rw [d23]
          clear d23
          obtain ⟨A25, c25, d25, e25, H25⟩ := (hd 25 (by kernel_rfl)).2
          rw [d25]
          clear d25
          replace H25 := Lib.hid H25
          have d26 : S 26 = .slice NA mn nc := (hd 26 (by kernel_rfl)).2
          rw [d26]
          clear d26
          clear hd
          refine GH.st_call (by rfl) hb.below.size (by go_simp) ((ssame_true A25 NA mn c25 nc ML w' H25.out (N8.out.into hb.below) (by omega)).mono ?_)
          rintro e w9 ⟨rfl, hb9⟩
          exact ⟨_, rfl, hb9, rfl⟩
        | 28, _, hd =>
          simp only [GH.mkL, List.getD_cons_succ, List.getD_cons_zero]
          have d23 : S 23 = .bool true := (hd 23 (by kernel_rfl)).2
          rw [d23]
          clear d23
          have d27 : S 27 = .bool true := (hd 27 (by kernel_rfl)).2
          rw [d27]
          clear d27
          clear hd
          refine GH.st_eq (by rfl) ?_
          go_simp
          (try with_reducible rfl)
        | 29, _, hd =>
          simp only [GH.mkL, List.getD_cons_succ, List.getD_cons_zero]
          have d27 : S 27 = .bool true := (hd 27 (by kernel_rfl)).2
          rw [d27]
          clear d27
          have d28 : S 28 = .bool true := (hd 28 (by kernel_rfl)).2
          rw [d28]
          clear d28
          clear hd
          refine GH.st_eq (by rfl) ?_
          go_simp
          (try with_reducible rfl)
        | 30, _, hd =>
          simp only [GH.mkL, List.getD_cons_succ, List.getD_cons_zero]
          have d29 : S 29 = .bool true := (hd 29 (by kernel_rfl)).2
          rw [d29]
          clear d29
          clear hd
          refine GH.st_call (by rfl) hb.below.size (by go_simp) ((alive31_any w').mono ?_)
          rintro e w9 ⟨rfl, hb9⟩
          exact ⟨_, rfl, hb9, rfl⟩
        | 31, _, hd =>
          simp only [GH.mkL, List.getD_cons_succ, List.getD_cons_zero]
          have d29 : S 29 = .bool true := (hd 29 (by kernel_rfl)).2
          rw [d29]
          clear d29
          have d30 : S 30 = .bool true := (hd 30 (by kernel_rfl)).2
          rw [d30]
          clear d30
          clear hd
          refine GH.st_eq (by rfl) ?_
          go_simp
          (try with_reducible rfl)
        | 32, _, hd =>
          simp only [GH.mkL, List.getD_cons_succ, List.getD_cons_zero]
          have d0 : S 0 = .int .u32 wait := (hd 0 (by kernel_rfl)).2
          rw [d0]
          clear d0
          have d1 : S 1 = .slice A pn c := (hd 1 (by kernel_rfl)).2
          rw [d1]
          clear d1
          have d2 : S 2 = .bool b := (hd 2 (by kernel_rfl)).2
          rw [d2]
          clear d2
          have d3 : S 3 = .int .u32 wait := (hd 3 (by kernel_rfl)).2
          rw [d3]
          clear d3
          have d4 : S 4 = .slice A pn c := (hd 4 (by kernel_rfl)).2
          rw [d4]
          clear d4
          obtain ⟨A5, c5, d5, e5, H5⟩ := (hd 5 (by kernel_rfl)).2
          rw [d5]
          clear d5
          replace H5 := Lib.hid H5
          have d6 : S 6 = .bool b := (hd 6 (by kernel_rfl)).2
          rw [d6]
          clear d6
          have d7 : S 7 = .bool true := (hd 7 (by kernel_rfl)).2
          rw [d7]
          clear d7
          have d8 : S 8 = .bool true := (hd 8 (by kernel_rfl)).2
          rw [d8]
          clear d8
          have d9 : S 9 = .bool false := (hd 9 (by kernel_rfl)).2
          rw [d9]
          clear d9
          have d10 : S 10 = .bool false := (hd 10 (by kernel_rfl)).2
          rw [d10]
          clear d10
          have d11 : S 11 = .bool true := (hd 11 (by kernel_rfl)).2
          rw [d11]
          clear d11
          have d12 : S 12 = .bool true := (hd 12 (by kernel_rfl)).2
          rw [d12]
          clear d12
          have d13 : S 13 = .bool true := (hd 13 (by kernel_rfl)).2
          rw [d13]
          clear d13
          have d14 : S 14 = .agg #[.int .u8 0, .slice none 0 0] := (hd 14 (by kernel_rfl)).2
          rw [d14]
          clear d14
          have d15 : S 15 = .agg #[.int .u8 0, .slice none 0 0] := (hd 15 (by kernel_rfl)).2
          rw [d15]
          clear d15
          have d16 : S 16 = .bool true := (hd 16 (by kernel_rfl)).2
          rw [d16]
          clear d16
          have d17 : S 17 = .bool true := (hd 17 (by kernel_rfl)).2
          rw [d17]
          clear d17
          have d18 : S 18 = .bool true := (hd 18 (by kernel_rfl)).2
          rw [d18]
          clear d18
          have d19 : S 19 = .bool true := (hd 19 (by kernel_rfl)).2
          rw [d19]
          clear d19
          have d20 : S 20 = .bool true := (hd 20 (by kernel_rfl)).2
          rw [d20]
          clear d20
          have d21 : S 21 = .bool true := (hd 21 (by kernel_rfl)).2
          rw [d21]
          clear d21
          have d22 : S 22 = .bool true := (hd 22 (by kernel_rfl)).2
          rw [d22]
          clear d22
          have d23 : S 23 = .bool true := (hd 23 (by kernel_rfl)).2
          rw [d23]
          clear d23
          have d24 : S 24 = .slice MA mn mc := (hd 24 (by kernel_rfl)).2
          rw [d24]
          clear d24
          obtain ⟨A25, c25, d25, e25, H25⟩ := (hd 25 (by kernel_rfl)).2
          rw [d25]
          clear d25
          replace H25 := Lib.hid H25
          have d26 : S 26 = .slice NA mn nc := (hd 26 (by kernel_rfl)).2
          rw [d26]
          clear d26
          have d27 : S 27 = .bool true := (hd 27 (by kernel_rfl)).2
          rw [d27]
          clear d27
          have d28 : S 28 = .bool true := (hd 28 (by kernel_rfl)).2
          rw [d28]
          clear d28
          have d29 : S 29 = .bool true := (hd 29 (by kernel_rfl)).2
          rw [d29]
          clear d29
          have d30 : S 30 = .bool true := (hd 30 (by kernel_rfl)).2
          rw [d30]
          clear d30
          have d31 : S 31 = .bool true := (hd 31 (by kernel_rfl)).2
          rw [d31]
          clear d31
          clear hd
          refine GH.st_eq (by rfl) ?_
          go_simp
          (try with_reducible rfl)
        | nx + 33, hjx, _ => omega
      intro S w' hb hG
      simp only [GH.mkL, List.drop_succ_cons, List.drop_zero]
      have d32 : S 32 = .bool true := hG 32 (by omega)
      rw [d32]
      clear d32
      clear hG
      refine wpList_nil ?_
      have ZF := Lib.hid (Z8.out.trans (hb.below.mono Z8.out.size))
      go_wp2_with fail
      go_ret
      refine ⟨rfl, ?_⟩
      (try rw [HT.out])
      exact ZF.out
    · have HS := Lib.hid hS
      clear hS
      go_upto_region 8 with fail
      have hA := (Below.refl w5.heap.size w5).alloc (Nat.le_refl _) (.cells #[.int .u8 0, .slice none 0 0] 26)
      have C6 := Lib.hid (Blk.new w5 26 #[.int .u8 0, .slice none 0 0])
      have H6 := Lib.hid (H5.out.into hA)
      have O6 := Lib.hid (O5.out.into hA)
      have K6 := Lib.hid (K5.out.below hA K5.out.lt)
      have B6 := Lib.hid (B5.out.below hA B5.out.lt)
      have Z6 := Lib.hid (Z5.out.trans (hA.mono Z5.out.size))
      clear hA H5 O5 K5 B5 Z5
      obtain ⟨T2, hT2⟩ : ∃ T2, T2 = w5.heap.size := ⟨_, rfl⟩
      rw [← hT2] at C6 ⊢
      clear hT2
      generalize w5.alloc (.cells #[.int .u8 0, .slice none 0 0] 26) = w6 at *
      obtain ⟨c0, c1⟩ := ptc2 K6.out
      go_wp2_with fail
      refine (spparse_any wait kind OA on oc lb w6 O6.out hoc HBY.out (by omega) HW.out).mono ?_
      rintro e w7 ⟨hp, hb⟩
      have H7 := Lib.hid (H6.out.into hb)
      have O7 := Lib.hid (O6.out.into hb)
      have K7 := Lib.hid (K6.out.below hb K6.out.lt)
      have B7 := Lib.hid (B6.out.below hb B6.out.lt)
      have Z7 := Lib.hid (Z6.out.trans (hb.mono Z6.out.size))
      have C7 := Lib.hid (C6.out.below hb C6.out.lt)
      clear hb H6 O6 K6 B6 Z6 C6
      clear c0 c1
      rcases hp with ⟨hok, _⟩ | ⟨_, rfl⟩
      case inl => exact absurd hok HS.out
      obtain ⟨c0, c1⟩ := ptc2 K7.out
      go_wp2_with fail
      refine (rsparse_any wait kind OA on oc lb w7 O7.out hoc HBY.out (by omega) HW.out).mono ?_
      rintro e w8 ⟨hp, hb⟩
      have H8 := Lib.hid (H7.out.into hb)
      have O8 := Lib.hid (O7.out.into hb)
      have K8 := Lib.hid (K7.out.below hb K7.out.lt)
      have B8 := Lib.hid (B7.out.below hb B7.out.lt)
      have Z8 := Lib.hid (Z7.out.trans (hb.mono Z7.out.size))
      have C8 := Lib.hid (C7.out.below hb C7.out.lt)
      clear hb H7 O7 K7 B7 Z7 C7
      clear c0 c1
      rcases hp with ⟨hok, _⟩ | ⟨_, rfl⟩
      case inl => exact absurd hok HS.out
      go_upto_region 10 with fail
      obtain ⟨b, hbb⟩ : ∃ b : Bool, b = true ↔ bkR wait l := ⟨@decide _ (Classical.propDecidable _), @decide_eq_true_iff _ (Classical.propDecidable _)⟩
      have HBB := Lib.hid hbb
      clear hbb
      refine GH.wp_ghs (M := false) 33 ((GH.SP.eq (.int .u32 wait)) :: (GH.SP.eq (.slice A pn c)) :: (GH.SP.eq (.bool b)) :: (GH.SP.eq (.int .u32 wait)) :: (GH.SP.eq (.slice A pn c)) :: (GH.SP.rd 2 pn (bks l)) :: (GH.SP.eq (.bool b)) :: (GH.SP.eq (.bool true)) :: (GH.SP.eq (.bool true)) :: (GH.SP.eq (.bool false)) :: (GH.SP.eq (.bool false)) :: (GH.SP.eq (.bool true)) :: (GH.SP.eq (.bool true)) :: (GH.SP.eq (.bool true)) :: (GH.SP.eq (.agg #[.int .u8 0, .slice none 0 0])) :: (GH.SP.eq (.agg #[.int .u8 0, .slice none 0 0])) :: (GH.SP.eq (.bool true)) :: (GH.SP.eq (.bool true)) :: (GH.SP.eq (.bool true)) :: (GH.SP.eq (.bool false)) :: (GH.SP.eq (.bool false)) :: (GH.SP.eq (.bool true)) :: (GH.SP.eq (.bool true)) :: (GH.SP.eq (.bool true)) :: (GH.SP.eq (.slice none 0 0)) :: (GH.SP.rd 2 0 (bks [])) :: (GH.SP.eq (.slice none 0 0)) :: (GH.SP.eq (.bool true)) :: (GH.SP.eq (.bool true)) :: (GH.SP.eq (.bool true)) :: (GH.SP.eq (.bool true)) :: (GH.SP.eq (.bool true)) :: (GH.SP.eq (.bool true)) :: []) (none :: none :: none :: none :: none :: none :: (some 32) :: none :: none :: none :: none :: none :: none :: none :: none :: none :: none :: none :: none :: none :: none :: none :: none :: none :: none :: none :: none :: none :: none :: none :: none :: none :: none :: none :: none :: none :: none :: none :: none :: none :: none :: none :: none :: none :: none :: none :: none :: none :: none :: none :: none :: none :: none :: none :: (some 0) :: (some 1) :: (some 2) :: (some 3) :: (some 4) :: (some 5) :: (some 6) :: (some 7) :: (some 8) :: (some 9) :: (some 10) :: (some 11) :: (some 12) :: (some 13) :: (some 14) :: (some 15) :: (some 16) :: (some 17) :: (some 18) :: (some 19) :: (some 20) :: (some 21) :: (some 22) :: (some 23) :: (some 24) :: (some 25) :: (some 26) :: (some 27) :: (some 28) :: (some 29) :: (some 30) :: (some 31) :: []) [54, 55, 56, 57, 58, 59, 60, 61, 62, 63, 64, 65, 66, 67, 68, 69, 70, 71, 72, 73, 74, 75, 76, 77, 78, 79, 80, 81, 82, 83, 84, 85, 6] (by rfl) (by kernel_rfl) ?_ ?_ ?_
      · intro S jx v hjx
        match jx, hjx with
        | 0, _ => rfl
        | 1, _ => rfl
        | 2, _ => rfl
        | 3, _ => rfl
        | 4, _ => rfl
        | 5, _ => rfl
        | 6, _ => rfl
        | 7, _ => rfl
        | 8, _ => rfl
        | 9, _ => rfl
        | 10, _ => rfl
        | 11, _ => rfl
        | 12, _ => rfl
        | 13, _ => rfl
        | 14, _ => rfl
        | 15, _ => rfl
        | 16, _ => rfl
        | 17, _ => rfl
        | 18, _ => rfl
        | 19, _ => rfl
        | 20, _ => rfl
        | 21, _ => rfl
        | 22, _ => rfl
        | 23, _ => rfl
        | 24, _ => rfl
        | 25, _ => rfl
        | 26, _ => rfl
        | 27, _ => rfl
        | 28, _ => rfl
        | 29, _ => rfl
        | 30, _ => rfl
        | 31, _ => rfl
        | 32, _ => rfl
        | nx + 33, hjx => omega
      · intro jx hjx S w' hb hd
        match jx, hjx, hd with
        | 0, _, hd =>
          simp only [GH.mkL, List.getD_cons_succ, List.getD_cons_zero]
          clear hd
          refine GH.st_eq (by rfl) ?_
          go_simp
          (try with_reducible rfl)
        | 1, _, hd =>
          simp only [GH.mkL, List.getD_cons_succ, List.getD_cons_zero]
          clear hd
          refine GH.st_eq (by rfl) ?_
          go_simp
          (try with_reducible rfl)
        | 2, _, hd =>
          simp only [GH.mkL, List.getD_cons_succ, List.getD_cons_zero]
          have d0 : S 0 = .int .u32 wait := (hd 0 (by kernel_rfl)).2
          rw [d0]
          clear d0
          have d1 : S 1 = .slice A pn c := (hd 1 (by kernel_rfl)).2
          rw [d1]
          clear d1
          clear hd
          refine GH.st_call (by rfl) hb.below.size (by go_simp) ((sright_any wait A pn c l w' (H8.out.into hb.below)).mono ?_)
          rintro e w9 ⟨⟨b1, rfl, hb1⟩, hb9⟩
          exact ⟨_, rfl, hb9, congrArg Value.bool (Bool.eq_iff_iff.2 (hb1.trans HBB.out.symm))⟩
        | 3, _, hd =>
          simp only [GH.mkL, List.getD_cons_succ, List.getD_cons_zero]
          clear hd
          refine GH.st_eq (by rfl) ?_
          go_simp
          (try with_reducible rfl)
        | 4, _, hd =>
          simp only [GH.mkL, List.getD_cons_succ, List.getD_cons_zero]
          clear hd
          refine GH.st_eq (by rfl) ?_
          go_simp
          (try with_reducible rfl)
        | 5, _, hd =>
          simp only [GH.mkL, List.getD_cons_succ, List.getD_cons_zero]
          have d2 : S 2 = .bool b := (hd 2 (by kernel_rfl)).2
          rw [d2]
          clear d2
          have d4 : S 4 = .slice A pn c := (hd 4 (by kernel_rfl)).2
          rw [d4]
          clear d4
          clear hd
          refine GH.st_call (by rfl) hb.below.size (by go_simp) ((splain_any A pn c l w' (H8.out.into hb.below) (by omega)).mono ?_)
          rintro e w9 ⟨v, rfl, hB, hb9⟩
          exact ⟨_, rfl, hb9, hB.rd (HL.out)⟩
        | 6, _, hd =>
          simp only [GH.mkL, List.getD_cons_succ, List.getD_cons_zero]
          have d3 : S 3 = .int .u32 wait := (hd 3 (by kernel_rfl)).2
          rw [d3]
          clear d3
          obtain ⟨A5, c5, d5, e5, H5⟩ := (hd 5 (by kernel_rfl)).2
          rw [d5]
          clear d5
          replace H5 := Lib.hid H5
          clear hd
          refine GH.st_call (by rfl) hb.below.size (by go_simp) ((srright_any wait A5 pn c5 l w' H5.out (by omega) HU.out HW.out).mono ?_)
          rintro e w9 ⟨⟨b1, rfl, hb1⟩, hb9⟩
          exact ⟨_, rfl, hb9, congrArg Value.bool (Bool.eq_iff_iff.2 (hb1.trans HBB.out.symm))⟩
        | 7, _, hd =>
          simp only [GH.mkL, List.getD_cons_succ, List.getD_cons_zero]
          have d2 : S 2 = .bool b := (hd 2 (by kernel_rfl)).2
          rw [d2]
          clear d2
          have d6 : S 6 = .bool b := (hd 6 (by kernel_rfl)).2
          rw [d6]
          clear d6
          clear hd
          refine GH.st_eq (by rfl) ?_
          go_simp
          (try simp only [beq_self_eq_true])
          (try with_reducible rfl)
        | 8, _, hd =>
          simp only [GH.mkL, List.getD_cons_succ, List.getD_cons_zero]
          have d6 : S 6 = .bool b := (hd 6 (by kernel_rfl)).2
          rw [d6]
          clear d6
          have d7 : S 7 = .bool true := (hd 7 (by kernel_rfl)).2
          rw [d7]
          clear d7
          clear hd
          refine GH.st_eq (by rfl) ?_
          go_simp
          (try with_reducible rfl)
        | 9, _, hd =>
          simp only [GH.mkL, List.getD_cons_succ, List.getD_cons_zero]
          have d8 : S 8 = .bool true := (hd 8 (by kernel_rfl)).2
          rw [d8]
          clear d8
          clear hd
          refine GH.st_eq (by rfl) ?_
          go_simp
          (try with_reducible rfl)
        | 10, _, hd =>
          simp only [GH.mkL, List.getD_cons_succ, List.getD_cons_zero]
          have d8 : S 8 = .bool true := (hd 8 (by kernel_rfl)).2
          rw [d8]
          clear d8
          clear hd
          refine GH.st_eq (by rfl) ?_
          go_simp
          (try with_reducible rfl)
        | 11, _, hd =>
          simp only [GH.mkL, List.getD_cons_succ, List.getD_cons_zero]
          have d8 : S 8 = .bool true := (hd 8 (by kernel_rfl)).2
          rw [d8]
          clear d8
          have d9 : S 9 = .bool false := (hd 9 (by kernel_rfl)).2
          rw [d9]
          clear d9
          have d10 : S 10 = .bool false := (hd 10 (by kernel_rfl)).2
          rw [d10]
          clear d10
          clear hd
          refine GH.st_eq (by rfl) ?_
          go_simp
          (try with_reducible rfl)
        | 12, _, hd =>
          simp only [GH.mkL, List.getD_cons_succ, List.getD_cons_zero]
          have d8 : S 8 = .bool true := (hd 8 (by kernel_rfl)).2
          rw [d8]
          clear d8
          have d11 : S 11 = .bool true := (hd 11 (by kernel_rfl)).2
          rw [d11]
          clear d11
          clear hd
          refine GH.st_eq (by rfl) ?_
          go_simp
          (try with_reducible rfl)
        | 13, _, hd =>
          simp only [GH.mkL, List.getD_cons_succ, List.getD_cons_zero]
          have d8 : S 8 = .bool true := (hd 8 (by kernel_rfl)).2
          rw [d8]
          clear d8
          have d12 : S 12 = .bool true := (hd 12 (by kernel_rfl)).2
          rw [d12]
          clear d12
          clear hd
          refine GH.st_eq (by rfl) ?_
          go_simp
          (try with_reducible rfl)
        | 14, _, hd =>
          simp only [GH.mkL, List.getD_cons_succ, List.getD_cons_zero]
          have d13 : S 13 = .bool true := (hd 13 (by kernel_rfl)).2
          rw [d13]
          clear d13
          clear hd
          exact GH.st_loads _ [.int .u8 0, .slice none 0 0] (by rfl) rfl rfl (((B8.out.below hb.below B8.out.lt)).loads 0 _ (by rfl)) (by kernel_rfl) (by kernel_rfl)
        | 15, _, hd =>
          simp only [GH.mkL, List.getD_cons_succ, List.getD_cons_zero]
          have d13 : S 13 = .bool true := (hd 13 (by kernel_rfl)).2
          rw [d13]
          clear d13
          clear hd
          exact GH.st_loads _ [.int .u8 0, .slice none 0 0] (by rfl) rfl rfl (((C8.out.below hb.below C8.out.lt)).loads 0 _ (by rfl)) (by kernel_rfl) (by kernel_rfl)
        | 16, _, hd =>
          simp only [GH.mkL, List.getD_cons_succ, List.getD_cons_zero]
          have d13 : S 13 = .bool true := (hd 13 (by kernel_rfl)).2
          rw [d13]
          clear d13
          have d14 : S 14 = .agg #[.int .u8 0, .slice none 0 0] := (hd 14 (by kernel_rfl)).2
          rw [d14]
          clear d14
          have d15 : S 15 = .agg #[.int .u8 0, .slice none 0 0] := (hd 15 (by kernel_rfl)).2
          rw [d15]
          clear d15
          clear hd
          refine GH.st_call (by rfl) hb.below.size (by go_simp) ((sameo_any 0 none none 0 0 0 0 [] w' (Rd.nil _ _ _ _) (Rd.nil _ _ _ _)).mono ?_)
          rintro e w9 ⟨rfl, hb9⟩
          exact ⟨_, rfl, hb9, rfl⟩
        | 17, _, hd =>
          simp only [GH.mkL, List.getD_cons_succ, List.getD_cons_zero]
          have d13 : S 13 = .bool true := (hd 13 (by kernel_rfl)).2
          rw [d13]
          clear d13
          have d16 : S 16 = .bool true := (hd 16 (by kernel_rfl)).2
          rw [d16]
          clear d16
          clear hd
          refine GH.st_eq (by rfl) ?_
          go_simp
          (try with_reducible rfl)
        | 18, _, hd =>
          simp only [GH.mkL, List.getD_cons_succ, List.getD_cons_zero]
          have d16 : S 16 = .bool true := (hd 16 (by kernel_rfl)).2
          rw [d16]
          clear d16
          have d17 : S 17 = .bool true := (hd 17 (by kernel_rfl)).2
          rw [d17]
          clear d17
          clear hd
          refine GH.st_eq (by rfl) ?_
          go_simp
          (try with_reducible rfl)
        | 19, _, hd =>
          simp only [GH.mkL, List.getD_cons_succ, List.getD_cons_zero]
          have d18 : S 18 = .bool true := (hd 18 (by kernel_rfl)).2
          rw [d18]
          clear d18
          clear hd
          refine GH.st_eq (by rfl) ?_
          go_simp
          (try with_reducible rfl)
        | 20, _, hd =>
          simp only [GH.mkL, List.getD_cons_succ, List.getD_cons_zero]
          have d18 : S 18 = .bool true := (hd 18 (by kernel_rfl)).2
          rw [d18]
          clear d18
          clear hd
          refine GH.st_eq (by rfl) ?_
          go_simp
          (try with_reducible rfl)
        | 21, _, hd =>
          simp only [GH.mkL, List.getD_cons_succ, List.getD_cons_zero]
          have d18 : S 18 = .bool true := (hd 18 (by kernel_rfl)).2
          rw [d18]
          clear d18
          have d19 : S 19 = .bool false := (hd 19 (by kernel_rfl)).2
          rw [d19]
          clear d19
          have d20 : S 20 = .bool false := (hd 20 (by kernel_rfl)).2
          rw [d20]
          clear d20
          clear hd
          refine GH.st_eq (by rfl) ?_
          go_simp
          (try with_reducible rfl)
        | 22, _, hd =>
          simp only [GH.mkL, List.getD_cons_succ, List.getD_cons_zero]
          have d18 : S 18 = .bool true := (hd 18 (by kernel_rfl)).2
          rw [d18]
          clear d18
          have d21 : S 21 = .bool true := (hd 21 (by kernel_rfl)).2
          rw [d21]
          clear d21
          clear hd
          refine GH.st_eq (by rfl) ?_
          go_simp
          (try with_reducible rfl)
        | 23, _, hd =>
          simp only [GH.mkL, List.getD_cons_succ, List.getD_cons_zero]
          have d18 : S 18 = .bool true := (hd 18 (by kernel_rfl)).2
          rw [d18]
          clear d18
          have d22 : S 22 = .bool true := (hd 22 (by kernel_rfl)).2
          rw [d22]
          clear d22
          clear hd
          refine GH.st_eq (by rfl) ?_
          go_simp
          (try with_reducible rfl)
        | 24, _, hd =>
          simp only [GH.mkL, List.getD_cons_succ, List.getD_cons_zero]
          have d23 : S 23 = .bool true := (hd 23 (by kernel_rfl)).2
          rw [d23]
          clear d23
          clear hd
          refine GH.st_eq (by rfl) ?_
          go_simp
          (try with_reducible rfl)
        | 25, _, hd =>
          simp only [GH.mkL, List.getD_cons_succ, List.getD_cons_zero]
          have d23 : S 23 = .bool true := (hd 23 (by kernel_rfl)).2
          rw [d23]
          clear d23
          have d24 : S 24 = .slice none 0 0 := (hd 24 (by kernel_rfl)).2
          rw [d24]
          clear d24
          clear hd
          refine GH.st_call (by rfl) hb.below.size (by go_simp) ((splain_any none 0 0 [] w' (Rd.nil _ _ _ _) (by omega)).mono ?_)
          rintro e w9 ⟨v, rfl, hB, hb9⟩
          exact ⟨_, rfl, hb9, hB.rd (rfl)⟩
        | 26, _, hd =>
          simp only [GH.mkL, List.getD_cons_succ, List.getD_cons_zero]
          have d23 : S 23 = .bool true := (hd 23 (by kernel_rfl)).2
          rw [d23]
          clear d23
          clear hd
          refine GH.st_eq (by rfl) ?_
          go_simp
          (try with_reducible rfl)
        | 27, _, hd =>
          simp only [GH.mkL, List.getD_cons_succ, List.getD_cons_zero]
          have d23 : S 23 = .bool true := (hd 23 (by kernel_rfl)).2
          rw [d23]
          clear d23
          obtain ⟨A25, c25, d25, e25, H25⟩ := (hd 25 (by kernel_rfl)).2
          rw [d25]
          clear d25
          replace H25 := Lib.hid H25
          have d26 : S 26 = .slice none 0 0 := (hd 26 (by kernel_rfl)).2
          rw [d26]
          clear d26
          clear hd
          refine GH.st_call (by rfl) hb.below.size (by go_simp) ((ssame_true A25 none 0 c25 0 [] w' H25.out (Rd.nil _ _ _ _) (by omega)).mono ?_)
          rintro e w9 ⟨rfl, hb9⟩
          exact ⟨_, rfl, hb9, rfl⟩
        | 28, _, hd =>
          simp only [GH.mkL, List.getD_cons_succ, List.getD_cons_zero]
          have d23 : S 23 = .bool true := (hd 23 (by kernel_rfl)).2
          rw [d23]
          clear d23
          have d27 : S 27 = .bool true := (hd 27 (by kernel_rfl)).2
          rw [d27]
          clear d27
          clear hd
          refine GH.st_eq (by rfl) ?_
          go_simp
          (try with_reducible rfl)
        | 29, _, hd =>
          simp only [GH.mkL, List.getD_cons_succ, List.getD_cons_zero]
          have d27 : S 27 = .bool true := (hd 27 (by kernel_rfl)).2
          rw [d27]
          clear d27
          have d28 : S 28 = .bool true := (hd 28 (by kernel_rfl)).2
          rw [d28]
          clear d28
          clear hd
          refine GH.st_eq (by rfl) ?_
          go_simp
          (try with_reducible rfl)
        | 30, _, hd =>
          simp only [GH.mkL, List.getD_cons_succ, List.getD_cons_zero]
          have d29 : S 29 = .bool true := (hd 29 (by kernel_rfl)).2
          rw [d29]
          clear d29
          clear hd
          refine GH.st_call (by rfl) hb.below.size (by go_simp) ((alive31_any w').mono ?_)
          rintro e w9 ⟨rfl, hb9⟩
          exact ⟨_, rfl, hb9, rfl⟩
        | 31, _, hd =>
          simp only [GH.mkL, List.getD_cons_succ, List.getD_cons_zero]
          have d29 : S 29 = .bool true := (hd 29 (by kernel_rfl)).2
          rw [d29]
          clear d29
          have d30 : S 30 = .bool true := (hd 30 (by kernel_rfl)).2
          rw [d30]
          clear d30
          clear hd
          refine GH.st_eq (by rfl) ?_
          go_simp
          (try with_reducible rfl)
        | 32, _, hd =>
          simp only [GH.mkL, List.getD_cons_succ, List.getD_cons_zero]
          have d0 : S 0 = .int .u32 wait := (hd 0 (by kernel_rfl)).2
          rw [d0]
          clear d0
          have d1 : S 1 = .slice A pn c := (hd 1 (by kernel_rfl)).2
          rw [d1]
          clear d1
          have d2 : S 2 = .bool b := (hd 2 (by kernel_rfl)).2
          rw [d2]
          clear d2
          have d3 : S 3 = .int .u32 wait := (hd 3 (by kernel_rfl)).2
          rw [d3]
          clear d3
          have d4 : S 4 = .slice A pn c := (hd 4 (by kernel_rfl)).2
          rw [d4]
          clear d4
          obtain ⟨A5, c5, d5, e5, H5⟩ := (hd 5 (by kernel_rfl)).2
          rw [d5]
          clear d5
          replace H5 := Lib.hid H5
          have d6 : S 6 = .bool b := (hd 6 (by kernel_rfl)).2
          rw [d6]
          clear d6
          have d7 : S 7 = .bool true := (hd 7 (by kernel_rfl)).2
          rw [d7]
          clear d7
          have d8 : S 8 = .bool true := (hd 8 (by kernel_rfl)).2
          rw [d8]
          clear d8
          have d9 : S 9 = .bool false := (hd 9 (by kernel_rfl)).2
          rw [d9]
          clear d9
          have d10 : S 10 = .bool false := (hd 10 (by kernel_rfl)).2
          rw [d10]
          clear d10
          have d11 : S 11 = .bool true := (hd 11 (by kernel_rfl)).2
          rw [d11]
          clear d11
          have d12 : S 12 = .bool true := (hd 12 (by kernel_rfl)).2
          rw [d12]
          clear d12
          have d13 : S 13 = .bool true := (hd 13 (by kernel_rfl)).2
          rw [d13]
          clear d13
          have d14 : S 14 = .agg #[.int .u8 0, .slice none 0 0] := (hd 14 (by kernel_rfl)).2
          rw [d14]
          clear d14
          have d15 : S 15 = .agg #[.int .u8 0, .slice none 0 0] := (hd 15 (by kernel_rfl)).2
          rw [d15]
          clear d15
          have d16 : S 16 = .bool true := (hd 16 (by kernel_rfl)).2
          rw [d16]
          clear d16
          have d17 : S 17 = .bool true := (hd 17 (by kernel_rfl)).2
          rw [d17]
          clear d17
          have d18 : S 18 = .bool true := (hd 18 (by kernel_rfl)).2
          rw [d18]
          clear d18
          have d19 : S 19 = .bool false := (hd 19 (by kernel_rfl)).2
          rw [d19]
          clear d19
          have d20 : S 20 = .bool false := (hd 20 (by kernel_rfl)).2
          rw [d20]
          clear d20
          have d21 : S 21 = .bool true := (hd 21 (by kernel_rfl)).2
          rw [d21]
          clear d21
          have d22 : S 22 = .bool true := (hd 22 (by kernel_rfl)).2
          rw [d22]
          clear d22
          have d23 : S 23 = .bool true := (hd 23 (by kernel_rfl)).2
          rw [d23]
          clear d23
          have d24 : S 24 = .slice none 0 0 := (hd 24 (by kernel_rfl)).2
          rw [d24]
          clear d24
          obtain ⟨A25, c25, d25, e25, H25⟩ := (hd 25 (by kernel_rfl)).2
          rw [d25]
          clear d25
          replace H25 := Lib.hid H25
          have d26 : S 26 = .slice none 0 0 := (hd 26 (by kernel_rfl)).2
          rw [d26]
          clear d26
          have d27 : S 27 = .bool true := (hd 27 (by kernel_rfl)).2
          rw [d27]
          clear d27
          have d28 : S 28 = .bool true := (hd 28 (by kernel_rfl)).2
          rw [d28]
          clear d28
          have d29 : S 29 = .bool true := (hd 29 (by kernel_rfl)).2
          rw [d29]
          clear d29
          have d30 : S 30 = .bool true := (hd 30 (by kernel_rfl)).2
          rw [d30]
          clear d30
          have d31 : S 31 = .bool true := (hd 31 (by kernel_rfl)).2
          rw [d31]
          clear d31
          clear hd
          refine GH.st_eq (by rfl) ?_
          go_simp
          (try with_reducible rfl)
        | nx + 33, hjx, _ => omega
      intro S w' hb hG
      simp only [GH.mkL, List.drop_succ_cons, List.drop_zero]
      have d32 : S 32 = .bool true := hG 32 (by omega)
      rw [d32]
      clear d32
      clear hG
      refine wpList_nil ?_
      have ZF := Lib.hid (Z8.out.trans (hb.below.mono Z8.out.size))
      go_wp2_with fail
      go_ret
      refine ⟨rfl, ?_⟩
      (try rw [HT.out])
      exact ZF.out
end Go.Proofs.Ytpnnadnmkiobcaa
