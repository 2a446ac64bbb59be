/- Layer 31: the law SackBack answers true. -/
import Derived.Test.YtpnnadnmkiobcaaG48SackBack
import Derived.Test.YtpnnadnmkiobcaaG49SackBack
import Derived.Test.YtpnnadnmkiobcaaG27SackBack
import Derived.Test.YtpnnadnmkiobcaaG43SackBack
import Derived.Test.YtpnnadnmkiobcaaG16SackBack
import Derived.Test.YtpnnadnmkiobcaaG47SackBack
import Derived.Test.YtpnnadnmkiobcaaG10SackBack
import Derived.Test.YtpnnadnmkiobcaaG40SackBack
import Derived.Test.YtpnnadnmkiobcaaG38SackBack
import Derived.RegionTactic

namespace Go.Proofs.Ytpnnadnmkiobcaa
open Go.RowKit
set_option linter.unusedVariables false
set_option linter.unusedSimpArgs false
theorem BS.out {w : World} {B : Nat} {v : Value} {l : List Bk} (h : BS w B v l) : ∃ (A : Option Addr) (n c : Nat), v = .slice A n c ∧ n ≤ c ∧ Hid (l.length = n) ∧ Hid (Rd w w.heap.size 2 A n (bks l)) := by
  obtain ⟨A, c, e, h1, _, h2⟩ := own_form h
  exact ⟨A, l.length, c, e, h1, rfl, h2⟩
set_option maxRecDepth 20000 in
set_option maxHeartbeats 8000000 in
theorem sackBack_core (wait kind : Int) (A OA : Option Addr) (n c on oc : Nat) (l : List Bk) (lb : List Nat) (w : World) (h : Rd w w.heap.size 2 A n (bks l)) (hu : U32s l) (hw : U32 wait) (ho : Rd w w.heap.size 1 OA on (ns .u8 lb)) (hoc : on ≤ oc) (hb : ∀ x ∈ lb, x < 256) :
    Calls Try.prog 4 #[.int .u32 wait, .slice A n c, .agg #[.int .u8 kind, .slice OA on oc]] w fun e w' => e = .returned (.bool true) ∧ Below w.heap.size w w' := by
  have hA0 : Below w.heap.size w (w.alloc (.cells #[.int .u8 kind, .slice OA on oc] 26)) := (Below.refl _ _).alloc (Nat.le_refl _) _
  have K0 := Lib.hid (Blk.new w 26 #[.int .u8 kind, .slice OA on oc])
  have H1 := Lib.hid (h.into hA0)
  have O1 := Lib.hid (ho.into hA0)
  have HU := Lib.hid hu; have HW := Lib.hid hw; have HBY := Lib.hid hb; have HL := Lib.hid h.bkLen
  go_enter Try.func4, Try.ntmps4
  go_upto_region 1 with fail
  have Z1 := Lib.hid hA0
  obtain ⟨T, hT⟩ : ∃ T, T = w.heap.size := ⟨_, rfl⟩
  rw [← hT] at K0 hA0
  try rw [← hT]
  clear h ho hu hw hb hA0
  generalize (w.alloc (.cells #[.int .u8 kind, .slice OA on oc] 26)) = w1 at K0 H1 O1 Z1 ⊢
  have HT := Lib.hid hT
  clear hT
  obtain ⟨c0, c1⟩ := ptc2 K0.out
  by_cases hn : 60 < n
  · have hni : (60 : Int) < (n : Int) := by omega
    go_wp2_with fail
    go_ret
    refine ⟨rfl, ?_⟩
    (try rw [HT.out])
    exact Z1.out
  have hni : ¬ (60 : Int) < (n : Int) := by omega
  by_cases hon : 300 < on
  · have hoi : (300 : Int) < (on : Int) := by omega
    go_wp2_with fail
    go_ret
    refine ⟨rfl, ?_⟩
    (try rw [HT.out])
    exact Z1.out
  have hoi : ¬ (300 : Int) < (on : Int) := by omega
  have KT := Lib.hid K0.out.lt
  go_wp2_with fail
  refine (soption_any wait A n c l w1 H1.out HU.out HW.out).mono ?_
  rintro e w2 ⟨hp, hb⟩
  have H2 := Lib.hid (H1.out.into hb)
  have O2 := Lib.hid (O1.out.into hb)
  have K2 := Lib.hid (K0.out.below hb K0.out.lt)
  have S2 := Lib.hid hb.size
  have Z2 := Lib.hid (Z1.out.trans (hb.mono Z1.out.size))
  clear c0 c1 hb H1 O1 K0 Z1
  rcases hp with ⟨v, rfl, hne, hr, hN⟩ | ⟨rfl, hno⟩
  · have HR := Lib.hid (And.intro hne hr)
    obtain ⟨XA, xn, xc, rfl, hxc, hxn, hX⟩ := hN.out
    have X2 := Lib.hid hX.out
    have HXC := Lib.hid hxc
    have HXN := Lib.hid hxn.out
    clear hne hr hN hX hxc hxn
    by_cases hS : SPOk wait kind on lb
    · have HS := Lib.hid hS
      clear hS
      go_upto_region 4 with fail
      have hA := (Below.refl w2.heap.size w2).alloc (Nat.le_refl _) (.cells #[.int .u8 9, .slice XA xn xc] 26)
      have B3 := Lib.hid (Blk.new w2 26 #[.int .u8 9, .slice XA xn xc])
      have H3 := Lib.hid (H2.out.into hA)
      have O3 := Lib.hid (O2.out.into hA)
      have K3 := Lib.hid (K2.out.below hA K2.out.lt)
      have Z3 := Lib.hid (Z2.out.trans (hA.mono Z2.out.size))
      have X3 := Lib.hid (X2.out.into hA)
      clear S2 hA H2 O2 K2 Z2 X2
      obtain ⟨T1, hT1⟩ : ∃ T1, T1 = w2.heap.size := ⟨_, rfl⟩
      rw [← hT1] at B3 ⊢
      clear hT1
      generalize w2.alloc (.cells #[.int .u8 9, .slice XA xn xc] 26) = w3 at *
      obtain ⟨b0, b1⟩ := ptc2 B3.out
      go_wp2_with fail
      refine (spparse_any wait 9 XA xn xc (bksB wait l) w3 X3.out HXC.out (bksB_byte l wait) (by have := HXN.out; have := HR.out.2.1; rw [bksB_len] at *; omega) HW.out).mono ?_
      rintro e w4 ⟨hp, hb⟩
      have H4 := Lib.hid (H3.out.into hb)
      have O4 := Lib.hid (O3.out.into hb)
      have K4 := Lib.hid (K3.out.below hb K3.out.lt)
      have Z4 := Lib.hid (Z3.out.trans (hb.mono Z3.out.size))
      clear hb H3 O3 K3 Z3
      clear b0 b1 B3 X3
      have hsp := spok_back HR.out.1 HR.out.2 HU.out
      rw [HXN.out] at hsp
      rcases hp with ⟨_, v, rfl, hM⟩ | ⟨hno, _⟩
      case inr => exact absurd hsp hno
      have hpb := par_back (wait := wait) HU.out
      rw [HXN.out] at hpb
      rw [hpb] at hM
      obtain ⟨MA, mn, mc, rfl, hmc, hmn, hM2⟩ := hM.out
      have hml : mn = n := by have h1 := hmn.out; have h2 := HL.out; omega
      subst hml
      have M4 := Lib.hid hM2.out
      clear hM hM2 hpb hsp hmn hmc
      go_upto_region 5 with fail
      refine GH.wp_ghs (M := false) 13 ((GH.SP.eq (.bool true)) :: (GH.SP.eq (.bool true)) :: (GH.SP.eq (.bool true)) :: (GH.SP.eq (.bool false)) :: (GH.SP.eq (.bool false)) :: (GH.SP.eq (.slice A mn c)) :: (GH.SP.rd 2 mn (bks l)) :: (GH.SP.eq (.slice MA mn mc)) :: (GH.SP.rd 2 mn (bks l)) :: (GH.SP.eq (.bool true)) :: (GH.SP.eq (.bool false)) :: (GH.SP.eq (.bool false)) :: (GH.SP.eq (.bool false)) :: []) (none :: none :: none :: none :: none :: none :: none :: none :: none :: none :: none :: none :: none :: none :: none :: none :: none :: none :: none :: none :: none :: none :: none :: none :: none :: none :: none :: none :: none :: none :: none :: none :: none :: none :: none :: none :: (some 0) :: (some 1) :: (some 2) :: (some 3) :: (some 4) :: (some 5) :: (some 6) :: (some 7) :: (some 8) :: (some 9) :: (some 10) :: (some 11) :: (some 12) :: none :: none :: none :: none :: none :: none :: none :: none :: none :: none :: none :: none :: none :: none :: none :: none :: none :: none :: none :: none :: none :: none :: none :: none :: none :: []) [36, 37, 38, 39, 40, 41, 42, 43, 44, 45, 46, 47, 48] (by rfl) (by kernel_rfl) ?_ ?_ ?_
      · intro S jx v hjx
        match jx, hjx with
        | 0, _ => rfl
        | 1, _ => rfl
        | 2, _ => rfl
        | 3, _ => rfl
        | 4, _ => rfl
        | 5, _ => rfl
        | 6, _ => rfl
        | 7, _ => rfl
        | 8, _ => rfl
        | 9, _ => rfl
        | 10, _ => rfl
        | 11, _ => rfl
        | 12, _ => rfl
        | nx + 13, hjx => omega
      · intro jx hjx S w' hb hd
        match jx, hjx, hd with
        | 0, _, hd =>
          simp only [GH.mkL, List.getD_cons_succ, List.getD_cons_zero]
          clear hd
          refine GH.st_eq (by rfl) ?_
          go_simp
          (try with_reducible rfl)
        | 1, _, hd =>
          simp only [GH.mkL, List.getD_cons_succ, List.getD_cons_zero]
          have d0 : S 0 = .bool true := (hd 0 (by kernel_rfl)).2
          rw [d0]
          clear d0
          clear hd
          refine GH.st_eq (by rfl) ?_
          go_simp
          (try with_reducible rfl)
        | 2, _, hd =>
          simp only [GH.mkL, List.getD_cons_succ, List.getD_cons_zero]
          have d1 : S 1 = .bool true := (hd 1 (by kernel_rfl)).2
          rw [d1]
          clear d1
          clear hd
          refine GH.st_eq (by rfl) ?_
          go_simp
          (try with_reducible rfl)
        | 3, _, hd =>
          simp only [GH.mkL, List.getD_cons_succ, List.getD_cons_zero]
          have d1 : S 1 = .bool true := (hd 1 (by kernel_rfl)).2
          rw [d1]
          clear d1
          have d2 : S 2 = .bool true := (hd 2 (by kernel_rfl)).2
          rw [d2]
          clear d2
          clear hd
          refine GH.st_eq (by rfl) ?_
          go_simp
          (try with_reducible rfl)
        | 4, _, hd =>
          simp only [GH.mkL, List.getD_cons_succ, List.getD_cons_zero]
          have d1 : S 1 = .bool true := (hd 1 (by kernel_rfl)).2
          rw [d1]
          clear d1
          have d3 : S 3 = .bool false := (hd 3 (by kernel_rfl)).2
          rw [d3]
          clear d3
          clear hd
          refine GH.st_eq (by rfl) ?_
          go_simp
          (try with_reducible rfl)
        | 5, _, hd =>
          simp only [GH.mkL, List.getD_cons_succ, List.getD_cons_zero]
          have d4 : S 4 = .bool false := (hd 4 (by kernel_rfl)).2
          rw [d4]
          clear d4
          clear hd
          refine GH.st_eq (by rfl) ?_
          go_simp
          (try with_reducible rfl)
        | 6, _, hd =>
          simp only [GH.mkL, List.getD_cons_succ, List.getD_cons_zero]
          have d4 : S 4 = .bool false := (hd 4 (by kernel_rfl)).2
          rw [d4]
          clear d4
          have d5 : S 5 = .slice A mn c := (hd 5 (by kernel_rfl)).2
          rw [d5]
          clear d5
          clear hd
          refine GH.st_call (by rfl) hb.below.size (by go_simp) ((splain_any A mn c l w' (H4.out.into hb.below) (by omega)).mono ?_)
          rintro e w9 ⟨v, rfl, hB, hb9⟩
          exact ⟨_, rfl, hb9, hB.rd (HL.out)⟩
        | 7, _, hd =>
          simp only [GH.mkL, List.getD_cons_succ, List.getD_cons_zero]
          have d4 : S 4 = .bool false := (hd 4 (by kernel_rfl)).2
          rw [d4]
          clear d4
          clear hd
          refine GH.st_eq (by rfl) ?_
          go_simp
          (try with_reducible rfl)
        | 8, _, hd =>
          simp only [GH.mkL, List.getD_cons_succ, List.getD_cons_zero]
          have d4 : S 4 = .bool false := (hd 4 (by kernel_rfl)).2
          rw [d4]
          clear d4
          obtain ⟨A6, c6, d6, e6, H6⟩ := (hd 6 (by kernel_rfl)).2
          rw [d6]
          clear d6
          replace H6 := Lib.hid H6
          have d7 : S 7 = .slice MA mn mc := (hd 7 (by kernel_rfl)).2
          rw [d7]
          clear d7
          clear hd
          refine GH.st_call (by rfl) hb.below.size (by go_simp) ((splain_any MA mn mc l w' (M4.out.into hb.below) (by omega)).mono ?_)
          rintro e w9 ⟨v, rfl, hB, hb9⟩
          exact ⟨_, rfl, hb9, hB.rd (HL.out)⟩
        | 9, _, hd =>
          simp only [GH.mkL, List.getD_cons_succ, List.getD_cons_zero]
          have d4 : S 4 = .bool false := (hd 4 (by kernel_rfl)).2
          rw [d4]
          clear d4
          obtain ⟨A6, c6, d6, e6, H6⟩ := (hd 6 (by kernel_rfl)).2
          rw [d6]
          clear d6
          replace H6 := Lib.hid H6
          obtain ⟨A8, c8, d8, e8, H8⟩ := (hd 8 (by kernel_rfl)).2
          rw [d8]
          clear d8
          replace H8 := Lib.hid H8
          clear hd
          refine GH.st_call (by rfl) hb.below.size (by go_simp) ((ssame_true A6 A8 mn c6 c8 l w' H6.out H8.out (by omega)).mono ?_)
          rintro e w9 ⟨rfl, hb9⟩
          exact ⟨_, rfl, hb9, rfl⟩
        | 10, _, hd =>
          simp only [GH.mkL, List.getD_cons_succ, List.getD_cons_zero]
          have d4 : S 4 = .bool false := (hd 4 (by kernel_rfl)).2
          rw [d4]
          clear d4
          have d9 : S 9 = .bool true := (hd 9 (by kernel_rfl)).2
          rw [d9]
          clear d9
          clear hd
          refine GH.st_eq (by rfl) ?_
          go_simp
          (try with_reducible rfl)
        | 11, _, hd =>
          simp only [GH.mkL, List.getD_cons_succ, List.getD_cons_zero]
          have d1 : S 1 = .bool true := (hd 1 (by kernel_rfl)).2
          rw [d1]
          clear d1
          have d4 : S 4 = .bool false := (hd 4 (by kernel_rfl)).2
          rw [d4]
          clear d4
          have d10 : S 10 = .bool false := (hd 10 (by kernel_rfl)).2
          rw [d10]
          clear d10
          clear hd
          refine GH.st_eq (by rfl) ?_
          go_simp
          (try with_reducible rfl)
        | 12, _, hd =>
          simp only [GH.mkL, List.getD_cons_succ, List.getD_cons_zero]
          have d1 : S 1 = .bool true := (hd 1 (by kernel_rfl)).2
          rw [d1]
          clear d1
          have d11 : S 11 = .bool false := (hd 11 (by kernel_rfl)).2
          rw [d11]
          clear d11
          clear hd
          refine GH.st_eq (by rfl) ?_
          go_simp
          (try with_reducible rfl)
        | nx + 13, hjx, _ => omega
      intro S w' hb hG
      simp only [GH.mkL, List.drop_succ_cons, List.drop_zero]
      have d12 : S 12 = .bool false := hG 12 (by omega)
      rw [d12]
      clear d12
      clear hG
      refine wpList_nil ?_
      have H5 := Lib.hid (H4.out.into hb.below)
      have O5 := Lib.hid (O4.out.into hb.below)
      have K5 := Lib.hid (K4.out.below hb.below K4.out.lt)
      have Z5 := Lib.hid (Z4.out.trans (hb.below.mono Z4.out.size))
      clear hb H4 O4 K4 Z4 M4
      generalize w' = w5 at *
      obtain ⟨c0, c1⟩ := ptc2 K5.out
      go_wp2_with fail
      refine (spparse_any wait kind OA on oc lb w5 O5.out hoc HBY.out (by omega) HW.out).mono ?_
      rintro e w6 ⟨hp, hb⟩
      have O6 := Lib.hid (O5.out.into hb)
      have K6 := Lib.hid (K5.out.below hb K5.out.lt)
      have Z6 := Lib.hid (Z5.out.trans (hb.mono Z5.out.size))
      clear hb O5 K5 Z5
      clear c0 c1 H5
      rcases hp with ⟨_, v, rfl, hM⟩ | ⟨hno, _⟩
      case inr => exact absurd HS.out hno
      obtain ⟨NA, nn, nc, rfl, _, hnn, hM2⟩ := hM.out
      have N6 := Lib.hid hM2.out
      have HNU := Lib.hid (parB_u32 (on / 8) wait lb)
      obtain ⟨hq1, hq2⟩ := bks_back HS.out O6.out.natLen HBY.out
      have HQ := Lib.hid hq1
      have HQ2 := Lib.hid hq2
      have HQR := Lib.hid HS.out.2.2.2.2
      obtain ⟨ML, hML⟩ : ∃ ML, ML = parB (on / 8) wait lb := ⟨_, rfl⟩
      rw [← hML] at N6 HNU HQ HQ2 HQR
      clear hM hM2 hnn hML hq1 hq2
      obtain rfl : kind = 9 := HS.out.1
      go_wp2_with fail
      refine (soption_any wait NA nn nc ML w6 N6.out HNU.out HW.out).mono ?_
      rintro e w7 ⟨hp, hb⟩
      have O7 := Lib.hid (O6.out.into hb)
      have K7 := Lib.hid (K6.out.below hb K6.out.lt)
      have Z7 := Lib.hid (Z6.out.trans (hb.mono Z6.out.size))
      clear hb O6 K6 Z6
      clear N6
      rcases hp with ⟨v, rfl, _, _, hY⟩ | ⟨rfl, hno⟩
      case inr => exact absurd ⟨HQ2.out, HQR.out⟩ hno
      rw [HQ.out] at hY
      obtain ⟨YA, yn, yc, rfl, _, _, hY2⟩ := hY.out
      have Y7 := Lib.hid hY2.out
      clear hY hY2
      go_upto_region 9 with fail
      have hA := (Below.refl w7.heap.size w7).alloc (Nat.le_refl _) (.cells #[.int .u8 9, .slice YA yn yc] 26)
      have C8 := Lib.hid (Blk.new w7 26 #[.int .u8 9, .slice YA yn yc])
      have O8 := Lib.hid (O7.out.into hA)
      have K8 := Lib.hid (K7.out.below hA K7.out.lt)
      have Z8 := Lib.hid (Z7.out.trans (hA.mono Z7.out.size))
      have Y8 := Lib.hid (Y7.out.into hA)
      clear hA O7 K7 Z7 Y7
      obtain ⟨T2, hT2⟩ : ∃ T2, T2 = w7.heap.size := ⟨_, rfl⟩
      rw [← hT2] at C8 ⊢
      clear hT2
      generalize w7.alloc (.cells #[.int .u8 9, .slice YA yn yc] 26) = w8 at *
      refine GH.wp_ghs (M := false) 14 ((GH.SP.eq (.bool true)) :: (GH.SP.eq (.bool false)) :: (GH.SP.eq (.bool false)) :: (GH.SP.eq (.bool true)) :: (GH.SP.eq (.bool true)) :: (GH.SP.eq (.agg #[.int .u8 9, .slice YA yn yc])) :: (GH.SP.eq (.agg #[.int .u8 9, .slice OA on oc])) :: (GH.SP.eq (.bool true)) :: (GH.SP.eq (.bool true)) :: (GH.SP.eq (.bool true)) :: (GH.SP.eq (.bool true)) :: (GH.SP.eq (.bool true)) :: (GH.SP.eq (.bool true)) :: (GH.SP.eq (.bool true)) :: []) (none :: none :: none :: none :: none :: none :: (some 13) :: none :: none :: none :: none :: none :: none :: none :: none :: none :: none :: none :: none :: none :: none :: none :: none :: none :: none :: none :: none :: none :: none :: none :: none :: none :: none :: none :: none :: none :: none :: none :: none :: none :: none :: none :: none :: none :: none :: none :: none :: none :: none :: none :: none :: none :: none :: none :: none :: none :: none :: none :: none :: none :: none :: (some 0) :: (some 1) :: (some 2) :: (some 3) :: (some 4) :: (some 5) :: (some 6) :: (some 7) :: (some 8) :: (some 9) :: (some 10) :: (some 11) :: (some 12) :: []) [61, 62, 63, 64, 65, 66, 67, 68, 69, 70, 71, 72, 73, 6] (by rfl) (by kernel_rfl) ?_ ?_ ?_
      · intro S jx v hjx
        match jx, hjx with
        | 0, _ => rfl
        | 1, _ => rfl
        | 2, _ => rfl
        | 3, _ => rfl
        | 4, _ => rfl
        | 5, _ => rfl
        | 6, _ => rfl
        | 7, _ => rfl
        | 8, _ => rfl
        | 9, _ => rfl
        | 10, _ => rfl
        | 11, _ => rfl
        | 12, _ => rfl
        | 13, _ => rfl
        | nx + 14, hjx => omega
      · intro jx hjx S w' hb hd
        match jx, hjx, hd with
        | 0, _, hd =>
          simp only [GH.mkL, List.getD_cons_succ, List.getD_cons_zero]
          clear hd
          refine GH.st_eq (by rfl) ?_
          go_simp
          (try with_reducible rfl)
        | 1, _, hd =>
          simp only [GH.mkL, List.getD_cons_succ, List.getD_cons_zero]
          have d0 : S 0 = .bool true := (hd 0 (by kernel_rfl)).2
          rw [d0]
          clear d0
          clear hd
          refine GH.st_eq (by rfl) ?_
          go_simp
          (try with_reducible rfl)
        | 2, _, hd =>
          simp only [GH.mkL, List.getD_cons_succ, List.getD_cons_zero]
          have d1 : S 1 = .bool false := (hd 1 (by kernel_rfl)).2
          rw [d1]
          clear d1
          clear hd
          refine GH.st_eq (by rfl) ?_
          go_simp
          (try with_reducible rfl)
        | 3, _, hd =>
          simp only [GH.mkL, List.getD_cons_succ, List.getD_cons_zero]
          have d2 : S 2 = .bool false := (hd 2 (by kernel_rfl)).2
          rw [d2]
          clear d2
          clear hd
          refine GH.st_eq (by rfl) ?_
          go_simp
          (try with_reducible rfl)
        | 4, _, hd =>
          simp only [GH.mkL, List.getD_cons_succ, List.getD_cons_zero]
          have d2 : S 2 = .bool false := (hd 2 (by kernel_rfl)).2
          rw [d2]
          clear d2
          have d3 : S 3 = .bool true := (hd 3 (by kernel_rfl)).2
          rw [d3]
          clear d3
          clear hd
          refine GH.st_eq (by rfl) ?_
          go_simp
          (try with_reducible rfl)
        | 5, _, hd =>
          simp only [GH.mkL, List.getD_cons_succ, List.getD_cons_zero]
          have d4 : S 4 = .bool true := (hd 4 (by kernel_rfl)).2
          rw [d4]
          clear d4
          clear hd
          exact GH.st_loads _ [.int .u8 9, .slice YA yn yc] (by rfl) rfl rfl (((C8.out.below hb.below C8.out.lt)).loads 0 _ (by rfl)) (by kernel_rfl) (by kernel_rfl)
        | 6, _, hd =>
          simp only [GH.mkL, List.getD_cons_succ, List.getD_cons_zero]
          have d4 : S 4 = .bool true := (hd 4 (by kernel_rfl)).2
          rw [d4]
          clear d4
          clear hd
          exact GH.st_loads _ [.int .u8 9, .slice OA on oc] (by rfl) rfl rfl (((K8.out.below hb.below K8.out.lt)).loads 0 _ (by rfl)) (by kernel_rfl) (by kernel_rfl)
        | 7, _, hd =>
          simp only [GH.mkL, List.getD_cons_succ, List.getD_cons_zero]
          have d4 : S 4 = .bool true := (hd 4 (by kernel_rfl)).2
          rw [d4]
          clear d4
          have d5 : S 5 = .agg #[.int .u8 9, .slice YA yn yc] := (hd 5 (by kernel_rfl)).2
          rw [d5]
          clear d5
          have d6 : S 6 = .agg #[.int .u8 9, .slice OA on oc] := (hd 6 (by kernel_rfl)).2
          rw [d6]
          clear d6
          clear hd
          refine GH.st_call (by rfl) hb.below.size (by go_simp) ((sameo_any 9 YA OA yn yc on oc lb w' (Y8.out.into hb.below) (O8.out.into hb.below)).mono ?_)
          rintro e w9 ⟨rfl, hb9⟩
          exact ⟨_, rfl, hb9, rfl⟩
        | 8, _, hd =>
          simp only [GH.mkL, List.getD_cons_succ, List.getD_cons_zero]
          have d2 : S 2 = .bool false := (hd 2 (by kernel_rfl)).2
          rw [d2]
          clear d2
          have d4 : S 4 = .bool true := (hd 4 (by kernel_rfl)).2
          rw [d4]
          clear d4
          have d7 : S 7 = .bool true := (hd 7 (by kernel_rfl)).2
          rw [d7]
          clear d7
          clear hd
          refine GH.st_eq (by rfl) ?_
          go_simp
          (try with_reducible rfl)
        | 9, _, hd =>
          simp only [GH.mkL, List.getD_cons_succ, List.getD_cons_zero]
          have d2 : S 2 = .bool false := (hd 2 (by kernel_rfl)).2
          rw [d2]
          clear d2
          have d8 : S 8 = .bool true := (hd 8 (by kernel_rfl)).2
          rw [d8]
          clear d8
          clear hd
          refine GH.st_eq (by rfl) ?_
          go_simp
          (try with_reducible rfl)
        | 10, _, hd =>
          simp only [GH.mkL, List.getD_cons_succ, List.getD_cons_zero]
          have d7 : S 7 = .bool true := (hd 7 (by kernel_rfl)).2
          rw [d7]
          clear d7
          have d9 : S 9 = .bool true := (hd 9 (by kernel_rfl)).2
          rw [d9]
          clear d9
          clear hd
          refine GH.st_eq (by rfl) ?_
          go_simp
          (try with_reducible rfl)
        | 11, _, hd =>
          simp only [GH.mkL, List.getD_cons_succ, List.getD_cons_zero]
          have d10 : S 10 = .bool true := (hd 10 (by kernel_rfl)).2
          rw [d10]
          clear d10
          clear hd
          refine GH.st_call (by rfl) hb.below.size (by go_simp) ((alive31_any w').mono ?_)
          rintro e w9 ⟨rfl, hb9⟩
          exact ⟨_, rfl, hb9, rfl⟩
        | 12, _, hd =>
          simp only [GH.mkL, List.getD_cons_succ, List.getD_cons_zero]
          have d10 : S 10 = .bool true := (hd 10 (by kernel_rfl)).2
          rw [d10]
          clear d10
          have d11 : S 11 = .bool true := (hd 11 (by kernel_rfl)).2
          rw [d11]
          clear d11
          clear hd
          refine GH.st_eq (by rfl) ?_
          go_simp
          (try with_reducible rfl)
        | 13, _, hd =>
          simp only [GH.mkL, List.getD_cons_succ, List.getD_cons_zero]
          have d0 : S 0 = .bool true := (hd 0 (by kernel_rfl)).2
          rw [d0]
          clear d0
          have d1 : S 1 = .bool false := (hd 1 (by kernel_rfl)).2
          rw [d1]
          clear d1
          have d2 : S 2 = .bool false := (hd 2 (by kernel_rfl)).2
          rw [d2]
          clear d2
          have d3 : S 3 = .bool true := (hd 3 (by kernel_rfl)).2
          rw [d3]
          clear d3
          have d4 : S 4 = .bool true := (hd 4 (by kernel_rfl)).2
          rw [d4]
          clear d4
          have d5 : S 5 = .agg #[.int .u8 9, .slice YA yn yc] := (hd 5 (by kernel_rfl)).2
          rw [d5]
          clear d5
          have d6 : S 6 = .agg #[.int .u8 9, .slice OA on oc] := (hd 6 (by kernel_rfl)).2
          rw [d6]
          clear d6
          have d7 : S 7 = .bool true := (hd 7 (by kernel_rfl)).2
          rw [d7]
          clear d7
          have d8 : S 8 = .bool true := (hd 8 (by kernel_rfl)).2
          rw [d8]
          clear d8
          have d9 : S 9 = .bool true := (hd 9 (by kernel_rfl)).2
          rw [d9]
          clear d9
          have d10 : S 10 = .bool true := (hd 10 (by kernel_rfl)).2
          rw [d10]
          clear d10
          have d11 : S 11 = .bool true := (hd 11 (by kernel_rfl)).2
          rw [d11]
          clear d11
          have d12 : S 12 = .bool true := (hd 12 (by kernel_rfl)).2
          rw [d12]
          clear d12
          clear hd
          refine GH.st_eq (by rfl) ?_
          go_simp
          (try with_reducible rfl)
        | nx + 14, hjx, _ => omega
      intro S w' hb hG
      simp only [GH.mkL, List.drop_succ_cons, List.drop_zero]
      have d13 : S 13 = .bool true := hG 13 (by omega)
      rw [d13]
      clear d13
      clear hG
      refine wpList_nil ?_
      have ZF := Lib.hid (Z8.out.trans (hb.below.mono Z8.out.size))
      go_wp2_with fail
      go_ret
      refine ⟨rfl, ?_⟩
      (try rw [HT.out])
      exact ZF.out
    · have HS := Lib.hid hS
      clear hS
      go_upto_region 4 with fail
      have hA := (Below.refl w2.heap.size w2).alloc (Nat.le_refl _) (.cells #[.int .u8 9, .slice XA xn xc] 26)
      have B3 := Lib.hid (Blk.new w2 26 #[.int .u8 9, .slice XA xn xc])
      have H3 := Lib.hid (H2.out.into hA)
      have O3 := Lib.hid (O2.out.into hA)
      have K3 := Lib.hid (K2.out.below hA K2.out.lt)
      have Z3 := Lib.hid (Z2.out.trans (hA.mono Z2.out.size))
      have X3 := Lib.hid (X2.out.into hA)
      clear S2 hA H2 O2 K2 Z2 X2
      obtain ⟨T1, hT1⟩ : ∃ T1, T1 = w2.heap.size := ⟨_, rfl⟩
      rw [← hT1] at B3 ⊢
      clear hT1
      generalize w2.alloc (.cells #[.int .u8 9, .slice XA xn xc] 26) = w3 at *
      obtain ⟨b0, b1⟩ := ptc2 B3.out
      go_wp2_with fail
      refine (spparse_any wait 9 XA xn xc (bksB wait l) w3 X3.out HXC.out (bksB_byte l wait) (by have := HXN.out; have := HR.out.2.1; rw [bksB_len] at *; omega) HW.out).mono ?_
      rintro e w4 ⟨hp, hb⟩
      have H4 := Lib.hid (H3.out.into hb)
      have O4 := Lib.hid (O3.out.into hb)
      have K4 := Lib.hid (K3.out.below hb K3.out.lt)
      have Z4 := Lib.hid (Z3.out.trans (hb.mono Z3.out.size))
      clear hb H3 O3 K3 Z3
      clear b0 b1 B3 X3
      have hsp := spok_back HR.out.1 HR.out.2 HU.out
      rw [HXN.out] at hsp
      rcases hp with ⟨_, v, rfl, hM⟩ | ⟨hno, _⟩
      case inr => exact absurd hsp hno
      have hpb := par_back (wait := wait) HU.out
      rw [HXN.out] at hpb
      rw [hpb] at hM
      obtain ⟨MA, mn, mc, rfl, hmc, hmn, hM2⟩ := hM.out
      have hml : mn = n := by have h1 := hmn.out; have h2 := HL.out; omega
      subst hml
      have M4 := Lib.hid hM2.out
      clear hM hM2 hpb hsp hmn hmc
      go_upto_region 5 with fail
      refine GH.wp_ghs (M := false) 13 ((GH.SP.eq (.bool true)) :: (GH.SP.eq (.bool true)) :: (GH.SP.eq (.bool true)) :: (GH.SP.eq (.bool false)) :: (GH.SP.eq (.bool false)) :: (GH.SP.eq (.slice A mn c)) :: (GH.SP.rd 2 mn (bks l)) :: (GH.SP.eq (.slice MA mn mc)) :: (GH.SP.rd 2 mn (bks l)) :: (GH.SP.eq (.bool true)) :: (GH.SP.eq (.bool false)) :: (GH.SP.eq (.bool false)) :: (GH.SP.eq (.bool false)) :: []) (none :: none :: none :: none :: none :: none :: none :: none :: none :: none :: none :: none :: none :: none :: none :: none :: none :: none :: none :: none :: none :: none :: none :: none :: none :: none :: none :: none :: none :: none :: none :: none :: none :: none :: none :: none :: (some 0) :: (some 1) :: (some 2) :: (some 3) :: (some 4) :: (some 5) :: (some 6) :: (some 7) :: (some 8) :: (some 9) :: (some 10) :: (some 11) :: (some 12) :: none :: none :: none :: none :: none :: none :: none :: none :: none :: none :: none :: none :: none :: none :: none :: none :: none :: none :: none :: none :: none :: none :: none :: none :: none :: []) [36, 37, 38, 39, 40, 41, 42, 43, 44, 45, 46, 47, 48] (by rfl) (by kernel_rfl) ?_ ?_ ?_
      · intro S jx v hjx
        match jx, hjx with
        | 0, _ => rfl
        | 1, _ => rfl
        | 2, _ => rfl
        | 3, _ => rfl
        | 4, _ => rfl
        | 5, _ => rfl
        | 6, _ => rfl
        | 7, _ => rfl
        | 8, _ => rfl
        | 9, _ => rfl
        | 10, _ => rfl
        | 11, _ => rfl
        | 12, _ => rfl
        | nx + 13, hjx => omega
      · intro jx hjx S w' hb hd
        match jx, hjx, hd with
        | 0, _, hd =>
          simp only [GH.mkL, List.getD_cons_succ, List.getD_cons_zero]
          clear hd
          refine GH.st_eq (by rfl) ?_
          go_simp
          (try with_reducible rfl)
        | 1, _, hd =>
          simp only [GH.mkL, List.getD_cons_succ, List.getD_cons_zero]
          have d0 : S 0 = .bool true := (hd 0 (by kernel_rfl)).2
          rw [d0]
          clear d0
          clear hd
          refine GH.st_eq (by rfl) ?_
          go_simp
          (try with_reducible rfl)
        | 2, _, hd =>
          simp only [GH.mkL, List.getD_cons_succ, List.getD_cons_zero]
          have d1 : S 1 = .bool true := (hd 1 (by kernel_rfl)).2
          rw [d1]
          clear d1
          clear hd
          refine GH.st_eq (by rfl) ?_
          go_simp
          (try with_reducible rfl)
        | 3, _, hd =>
          simp only [GH.mkL, List.getD_cons_succ, List.getD_cons_zero]
          have d1 : S 1 = .bool true := (hd 1 (by kernel_rfl)).2
          rw [d1]
          clear d1
          have d2 : S 2 = .bool true := (hd 2 (by kernel_rfl)).2
          rw [d2]
          clear d2
          clear hd
          refine GH.st_eq (by rfl) ?_
          go_simp
          (try with_reducible rfl)
        | 4, _, hd =>
          simp only [GH.mkL, List.getD_cons_succ, List.getD_cons_zero]
          have d1 : S 1 = .bool true := (hd 1 (by kernel_rfl)).2
          rw [d1]
          clear d1
          have d3 : S 3 = .bool false := (hd 3 (by kernel_rfl)).2
          rw [d3]
          clear d3
          clear hd
          refine GH.st_eq (by rfl) ?_
          go_simp
          (try with_reducible rfl)
        | 5, _, hd =>
          simp only [GH.mkL, List.getD_cons_succ, List.getD_cons_zero]
          have d4 : S 4 = .bool false := (hd 4 (by kernel_rfl)).2
          rw [d4]
          clear d4
          clear hd
          refine GH.st_eq (by rfl) ?_
          go_simp
          (try with_reducible rfl)
        | 6, _, hd =>
          simp only [GH.mkL, List.getD_cons_succ, List.getD_cons_zero]
          have d4 : S 4 = .bool false := (hd 4 (by kernel_rfl)).2
          rw [d4]
          clear d4
          have d5 : S 5 = .slice A mn c := (hd 5 (by kernel_rfl)).2
          rw [d5]
          clear d5
          clear hd
          refine GH.st_call (by rfl) hb.below.size (by go_simp) ((splain_any A mn c l w' (H4.out.into hb.below) (by omega)).mono ?_)
          rintro e w9 ⟨v, rfl, hB, hb9⟩
          exact ⟨_, rfl, hb9, hB.rd (HL.out)⟩
        | 7, _, hd =>
          simp only [GH.mkL, List.getD_cons_succ, List.getD_cons_zero]
          have d4 : S 4 = .bool false := (hd 4 (by kernel_rfl)).2
          rw [d4]
          clear d4
          clear hd
          refine GH.st_eq (by rfl) ?_
          go_simp
          (try with_reducible rfl)
        | 8, _, hd =>
          simp only [GH.mkL, List.getD_cons_succ, List.getD_cons_zero]
          have d4 : S 4 = .bool false := (hd 4 (by kernel_rfl)).2
          rw [d4]
          clear d4
          obtain ⟨A6, c6, d6, e6, H6⟩ := (hd 6 (by kernel_rfl)).2
          rw [d6]
          clear d6
          replace H6 := Lib.hid H6
          have d7 : S 7 = .slice MA mn mc := (hd 7 (by kernel_rfl)).2
          rw [d7]
          clear d7
          clear hd
          refine GH.st_call (by rfl) hb.below.size (by go_simp) ((splain_any MA mn mc l w' (M4.out.into hb.below) (by omega)).mono ?_)
          rintro e w9 ⟨v, rfl, hB, hb9⟩
          exact ⟨_, rfl, hb9, hB.rd (HL.out)⟩
        | 9, _, hd =>
          simp only [GH.mkL, List.getD_cons_succ, List.getD_cons_zero]
          have d4 : S 4 = .bool false := (hd 4 (by kernel_rfl)).2
          rw [d4]
          clear d4
          obtain ⟨A6, c6, d6, e6, H6⟩ := (hd 6 (by kernel_rfl)).2
          rw [d6]
          clear d6
          replace H6 := Lib.hid H6
          obtain ⟨A8, c8, d8, e8, H8⟩ := (hd 8 (by kernel_rfl)).2
          rw [d8]
          clear d8
          replace H8 := Lib.hid H8
          clear hd
          refine GH.st_call (by rfl) hb.below.size (by go_simp) ((ssame_true A6 A8 mn c6 c8 l w' H6.out H8.out (by omega)).mono ?_)
          rintro e w9 ⟨rfl, hb9⟩
          exact ⟨_, rfl, hb9, rfl⟩
        | 10, _, hd =>
          simp only [GH.mkL, List.getD_cons_succ, List.getD_cons_zero]
          have d4 : S 4 = .bool false := (hd 4 (by kernel_rfl)).2
          rw [d4]
          clear d4
          have d9 : S 9 = .bool true := (hd 9 (by kernel_rfl)).2
          rw [d9]
          clear d9
          clear hd
          refine GH.st_eq (by rfl) ?_
          go_simp
          (try with_reducible rfl)
        | 11, _, hd =>
          simp only [GH.mkL, List.getD_cons_succ, List.getD_cons_zero]
          have d1 : S 1 = .bool true := (hd 1 (by kernel_rfl)).2
          rw [d1]
          clear d1
          have d4 : S 4 = .bool false := (hd 4 (by kernel_rfl)).2
          rw [d4]
          clear d4
          have d10 : S 10 = .bool false := (hd 10 (by kernel_rfl)).2
          rw [d10]
          clear d10
          clear hd
          refine GH.st_eq (by rfl) ?_
          go_simp
          (try with_reducible rfl)
        | 12, _, hd =>
          simp only [GH.mkL, List.getD_cons_succ, List.getD_cons_zero]
          have d1 : S 1 = .bool true := (hd 1 (by kernel_rfl)).2
          rw [d1]
          clear d1
          have d11 : S 11 = .bool false := (hd 11 (by kernel_rfl)).2
          rw [d11]
          clear d11
          clear hd
          refine GH.st_eq (by rfl) ?_
          go_simp
          (try with_reducible rfl)
        | nx + 13, hjx, _ => omega
      intro S w' hb hG
      simp only [GH.mkL, List.drop_succ_cons, List.drop_zero]
      have d12 : S 12 = .bool false := hG 12 (by omega)
      rw [d12]
      clear d12
      clear hG
      refine wpList_nil ?_
      have H5 := Lib.hid (H4.out.into hb.below)
      have O5 := Lib.hid (O4.out.into hb.below)
      have K5 := Lib.hid (K4.out.below hb.below K4.out.lt)
      have Z5 := Lib.hid (Z4.out.trans (hb.below.mono Z4.out.size))
      clear hb H4 O4 K4 Z4 M4
      generalize w' = w5 at *
      obtain ⟨c0, c1⟩ := ptc2 K5.out
      go_wp2_with fail
      refine (spparse_any wait kind OA on oc lb w5 O5.out hoc HBY.out (by omega) HW.out).mono ?_
      rintro e w6 ⟨hp, hb⟩
      have O6 := Lib.hid (O5.out.into hb)
      have K6 := Lib.hid (K5.out.below hb K5.out.lt)
      have Z6 := Lib.hid (Z5.out.trans (hb.mono Z5.out.size))
      clear hb O5 K5 Z5
      clear c0 c1 H5
      rcases hp with ⟨hok, _⟩ | ⟨_, rfl⟩
      case inl => exact absurd hok HS.out
      go_wp2_with fail
      refine (soption_any wait none 0 0 [] w6 (Rd.nil _ _ _ _) (by intro p hp; cases hp) HW.out).mono ?_
      rintro e w7 ⟨hp, hb⟩
      have O7 := Lib.hid (O6.out.into hb)
      have K7 := Lib.hid (K6.out.below hb K6.out.lt)
      have Z7 := Lib.hid (Z6.out.trans (hb.mono Z6.out.size))
      clear hb O6 K6 Z6
      rcases hp with ⟨v, rfl, hne, _⟩ | ⟨rfl, _⟩
      case inl => exact absurd rfl hne
      go_upto_region 9 with fail
      have hA := (Below.refl w7.heap.size w7).alloc (Nat.le_refl _) (.cells #[.int .u8 0, .slice none 0 0] 26)
      have C8 := Lib.hid (Blk.new w7 26 #[.int .u8 0, .slice none 0 0])
      have O8 := Lib.hid (O7.out.into hA)
      have K8 := Lib.hid (K7.out.below hA K7.out.lt)
      have Z8 := Lib.hid (Z7.out.trans (hA.mono Z7.out.size))
      clear hA O7 K7 Z7
      obtain ⟨T2, hT2⟩ : ∃ T2, T2 = w7.heap.size := ⟨_, rfl⟩
      rw [← hT2] at C8 ⊢
      clear hT2
      generalize w7.alloc (.cells #[.int .u8 0, .slice none 0 0] 26) = w8 at *
      refine GH.wp_ghs (M := false) 14 ((GH.SP.eq (.bool false)) :: (GH.SP.eq (.bool true)) :: (GH.SP.eq (.bool true)) :: (GH.SP.eq (undef)) :: (GH.SP.eq (undef)) :: (GH.SP.eq (undef)) :: (GH.SP.eq (undef)) :: (GH.SP.eq (undef)) :: (GH.SP.eq (undef)) :: (GH.SP.eq (.bool true)) :: (GH.SP.eq (.bool true)) :: (GH.SP.eq (.bool true)) :: (GH.SP.eq (.bool true)) :: (GH.SP.eq (.bool true)) :: []) (none :: none :: none :: none :: none :: none :: (some 13) :: none :: none :: none :: none :: none :: none :: none :: none :: none :: none :: none :: none :: none :: none :: none :: none :: none :: none :: none :: none :: none :: none :: none :: none :: none :: none :: none :: none :: none :: none :: none :: none :: none :: none :: none :: none :: none :: none :: none :: none :: none :: none :: none :: none :: none :: none :: none :: none :: none :: none :: none :: none :: none :: none :: (some 0) :: (some 1) :: (some 2) :: (some 3) :: (some 4) :: (some 5) :: (some 6) :: (some 7) :: (some 8) :: (some 9) :: (some 10) :: (some 11) :: (some 12) :: []) [61, 62, 63, 64, 65, 66, 67, 68, 69, 70, 71, 72, 73, 6] (by rfl) (by kernel_rfl) ?_ ?_ ?_
      · intro S jx v hjx
        match jx, hjx with
        | 0, _ => rfl
        | 1, _ => rfl
        | 2, _ => rfl
        | 3, _ => rfl
        | 4, _ => rfl
        | 5, _ => rfl
        | 6, _ => rfl
        | 7, _ => rfl
        | 8, _ => rfl
        | 9, _ => rfl
        | 10, _ => rfl
        | 11, _ => rfl
        | 12, _ => rfl
        | 13, _ => rfl
        | nx + 14, hjx => omega
      · intro jx hjx S w' hb hd
        match jx, hjx, hd with
        | 0, _, hd =>
          simp only [GH.mkL, List.getD_cons_succ, List.getD_cons_zero]
          clear hd
          refine GH.st_eq (by rfl) ?_
          go_simp
          (try with_reducible rfl)
        | 1, _, hd =>
          simp only [GH.mkL, List.getD_cons_succ, List.getD_cons_zero]
          have d0 : S 0 = .bool false := (hd 0 (by kernel_rfl)).2
          rw [d0]
          clear d0
          clear hd
          refine GH.st_eq (by rfl) ?_
          go_simp
          (try with_reducible rfl)
        | 2, _, hd =>
          simp only [GH.mkL, List.getD_cons_succ, List.getD_cons_zero]
          have d1 : S 1 = .bool true := (hd 1 (by kernel_rfl)).2
          rw [d1]
          clear d1
          clear hd
          refine GH.st_eq (by rfl) ?_
          go_simp
          (try with_reducible rfl)
        | 3, _, hd =>
          simp only [GH.mkL, List.getD_cons_succ, List.getD_cons_zero]
          have d2 : S 2 = .bool true := (hd 2 (by kernel_rfl)).2
          rw [d2]
          clear d2
          clear hd
          exact GH.st_skip (by rfl) rfl
        | 4, _, hd =>
          simp only [GH.mkL, List.getD_cons_succ, List.getD_cons_zero]
          have d2 : S 2 = .bool true := (hd 2 (by kernel_rfl)).2
          rw [d2]
          clear d2
          have d3 : S 3 = undef := (hd 3 (by kernel_rfl)).2
          rw [d3]
          clear d3
          clear hd
          exact GH.st_skip (by rfl) rfl
        | 5, _, hd =>
          simp only [GH.mkL, List.getD_cons_succ, List.getD_cons_zero]
          have d4 : S 4 = undef := (hd 4 (by kernel_rfl)).2
          rw [d4]
          clear d4
          clear hd
          exact GH.st_skip (by rfl) rfl
        | 6, _, hd =>
          simp only [GH.mkL, List.getD_cons_succ, List.getD_cons_zero]
          have d4 : S 4 = undef := (hd 4 (by kernel_rfl)).2
          rw [d4]
          clear d4
          clear hd
          exact GH.st_skip (by rfl) rfl
        | 7, _, hd =>
          simp only [GH.mkL, List.getD_cons_succ, List.getD_cons_zero]
          have d4 : S 4 = undef := (hd 4 (by kernel_rfl)).2
          rw [d4]
          clear d4
          have d5 : S 5 = undef := (hd 5 (by kernel_rfl)).2
          rw [d5]
          clear d5
          have d6 : S 6 = undef := (hd 6 (by kernel_rfl)).2
          rw [d6]
          clear d6
          clear hd
          exact GH.st_skip (by rfl) rfl
        | 8, _, hd =>
          simp only [GH.mkL, List.getD_cons_succ, List.getD_cons_zero]
          have d2 : S 2 = .bool true := (hd 2 (by kernel_rfl)).2
          rw [d2]
          clear d2
          have d4 : S 4 = undef := (hd 4 (by kernel_rfl)).2
          rw [d4]
          clear d4
          have d7 : S 7 = undef := (hd 7 (by kernel_rfl)).2
          rw [d7]
          clear d7
          clear hd
          exact GH.st_skip (by rfl) rfl
        | 9, _, hd =>
          simp only [GH.mkL, List.getD_cons_succ, List.getD_cons_zero]
          have d2 : S 2 = .bool true := (hd 2 (by kernel_rfl)).2
          rw [d2]
          clear d2
          have d8 : S 8 = undef := (hd 8 (by kernel_rfl)).2
          rw [d8]
          clear d8
          clear hd
          refine GH.st_eq (by rfl) ?_
          go_simp
          (try with_reducible rfl)
        | 10, _, hd =>
          simp only [GH.mkL, List.getD_cons_succ, List.getD_cons_zero]
          have d7 : S 7 = undef := (hd 7 (by kernel_rfl)).2
          rw [d7]
          clear d7
          have d9 : S 9 = .bool true := (hd 9 (by kernel_rfl)).2
          rw [d9]
          clear d9
          clear hd
          refine GH.st_eq (by rfl) ?_
          go_simp
          (try with_reducible rfl)
        | 11, _, hd =>
          simp only [GH.mkL, List.getD_cons_succ, List.getD_cons_zero]
          have d10 : S 10 = .bool true := (hd 10 (by kernel_rfl)).2
          rw [d10]
          clear d10
          clear hd
          refine GH.st_call (by rfl) hb.below.size (by go_simp) ((alive31_any w').mono ?_)
          rintro e w9 ⟨rfl, hb9⟩
          exact ⟨_, rfl, hb9, rfl⟩
        | 12, _, hd =>
          simp only [GH.mkL, List.getD_cons_succ, List.getD_cons_zero]
          have d10 : S 10 = .bool true := (hd 10 (by kernel_rfl)).2
          rw [d10]
          clear d10
          have d11 : S 11 = .bool true := (hd 11 (by kernel_rfl)).2
          rw [d11]
          clear d11
          clear hd
          refine GH.st_eq (by rfl) ?_
          go_simp
          (try with_reducible rfl)
        | 13, _, hd =>
          simp only [GH.mkL, List.getD_cons_succ, List.getD_cons_zero]
          have d0 : S 0 = .bool false := (hd 0 (by kernel_rfl)).2
          rw [d0]
          clear d0
          have d1 : S 1 = .bool true := (hd 1 (by kernel_rfl)).2
          rw [d1]
          clear d1
          have d2 : S 2 = .bool true := (hd 2 (by kernel_rfl)).2
          rw [d2]
          clear d2
          have d3 : S 3 = undef := (hd 3 (by kernel_rfl)).2
          rw [d3]
          clear d3
          have d4 : S 4 = undef := (hd 4 (by kernel_rfl)).2
          rw [d4]
          clear d4
          have d5 : S 5 = undef := (hd 5 (by kernel_rfl)).2
          rw [d5]
          clear d5
          have d6 : S 6 = undef := (hd 6 (by kernel_rfl)).2
          rw [d6]
          clear d6
          have d7 : S 7 = undef := (hd 7 (by kernel_rfl)).2
          rw [d7]
          clear d7
          have d8 : S 8 = undef := (hd 8 (by kernel_rfl)).2
          rw [d8]
          clear d8
          have d9 : S 9 = .bool true := (hd 9 (by kernel_rfl)).2
          rw [d9]
          clear d9
          have d10 : S 10 = .bool true := (hd 10 (by kernel_rfl)).2
          rw [d10]
          clear d10
          have d11 : S 11 = .bool true := (hd 11 (by kernel_rfl)).2
          rw [d11]
          clear d11
          have d12 : S 12 = .bool true := (hd 12 (by kernel_rfl)).2
          rw [d12]
          clear d12
          clear hd
          refine GH.st_eq (by rfl) ?_
          go_simp
          (try with_reducible rfl)
        | nx + 14, hjx, _ => omega
      intro S w' hb hG
      simp only [GH.mkL, List.drop_succ_cons, List.drop_zero]
      have d13 : S 13 = .bool true := hG 13 (by omega)
      rw [d13]
      clear d13
      clear hG
      refine wpList_nil ?_
      have ZF := Lib.hid (Z8.out.trans (hb.below.mono Z8.out.size))
      go_wp2_with fail
      go_ret
      refine ⟨rfl, ?_⟩
      (try rw [HT.out])
      exact ZF.out
  · have HR := Lib.hid hno
    clear hno
    by_cases hS : SPOk wait kind on lb
    · have HS := Lib.hid hS
      clear hS
      go_upto_region 4 with fail
      have hA := (Below.refl w2.heap.size w2).alloc (Nat.le_refl _) (.cells #[.int .u8 0, .slice none 0 0] 26)
      have B3 := Lib.hid (Blk.new w2 26 #[.int .u8 0, .slice none 0 0])
      have H3 := Lib.hid (H2.out.into hA)
      have O3 := Lib.hid (O2.out.into hA)
      have K3 := Lib.hid (K2.out.below hA K2.out.lt)
      have Z3 := Lib.hid (Z2.out.trans (hA.mono Z2.out.size))
      clear S2 hA H2 O2 K2 Z2
      obtain ⟨T1, hT1⟩ : ∃ T1, T1 = w2.heap.size := ⟨_, rfl⟩
      rw [← hT1] at B3 ⊢
      clear hT1
      generalize w2.alloc (.cells #[.int .u8 0, .slice none 0 0] 26) = w3 at *
      obtain ⟨b0, b1⟩ := ptc2 B3.out
      go_wp2_with fail
      refine (spparse_any wait 0 none 0 0 [] w3 (Rd.nil _ _ _ _) (Nat.le_refl _) (by simp) (by omega) HW.out).mono ?_
      rintro e w4 ⟨hp, hb⟩
      have H4 := Lib.hid (H3.out.into hb)
      have O4 := Lib.hid (O3.out.into hb)
      have K4 := Lib.hid (K3.out.below hb K3.out.lt)
      have Z4 := Lib.hid (Z3.out.trans (hb.mono Z3.out.size))
      clear hb H3 O3 K3 Z3
      clear b0 b1 B3
      rcases hp with ⟨hok, _⟩ | ⟨_, rfl⟩
      case inl => exact absurd hok.1 (by decide)
      have H5 := H4
      have O5 := O4
      have K5 := K4
      have Z5 := Z4
      clear H4 O4 K4 Z4
      generalize w4 = w5 at *
      obtain ⟨c0, c1⟩ := ptc2 K5.out
      go_wp2_with fail
      refine (spparse_any wait kind OA on oc lb w5 O5.out hoc HBY.out (by omega) HW.out).mono ?_
      rintro e w6 ⟨hp, hb⟩
      have O6 := Lib.hid (O5.out.into hb)
      have K6 := Lib.hid (K5.out.below hb K5.out.lt)
      have Z6 := Lib.hid (Z5.out.trans (hb.mono Z5.out.size))
      clear hb O5 K5 Z5
      clear c0 c1 H5
      rcases hp with ⟨_, v, rfl, hM⟩ | ⟨hno, _⟩
      case inr => exact absurd HS.out hno
      obtain ⟨NA, nn, nc, rfl, _, hnn, hM2⟩ := hM.out
      have N6 := Lib.hid hM2.out
      have HNU := Lib.hid (parB_u32 (on / 8) wait lb)
      obtain ⟨hq1, hq2⟩ := bks_back HS.out O6.out.natLen HBY.out
      have HQ := Lib.hid hq1
      have HQ2 := Lib.hid hq2
      have HQR := Lib.hid HS.out.2.2.2.2
      obtain ⟨ML, hML⟩ : ∃ ML, ML = parB (on / 8) wait lb := ⟨_, rfl⟩
      rw [← hML] at N6 HNU HQ HQ2 HQR
      clear hM hM2 hnn hML hq1 hq2
      obtain rfl : kind = 9 := HS.out.1
      go_wp2_with fail
      refine (soption_any wait NA nn nc ML w6 N6.out HNU.out HW.out).mono ?_
      rintro e w7 ⟨hp, hb⟩
      have O7 := Lib.hid (O6.out.into hb)
      have K7 := Lib.hid (K6.out.below hb K6.out.lt)
      have Z7 := Lib.hid (Z6.out.trans (hb.mono Z6.out.size))
      clear hb O6 K6 Z6
      clear N6
      rcases hp with ⟨v, rfl, _, _, hY⟩ | ⟨rfl, hno⟩
      case inr => exact absurd ⟨HQ2.out, HQR.out⟩ hno
      rw [HQ.out] at hY
      obtain ⟨YA, yn, yc, rfl, _, _, hY2⟩ := hY.out
      have Y7 := Lib.hid hY2.out
      clear hY hY2
      go_upto_region 9 with fail
      have hA := (Below.refl w7.heap.size w7).alloc (Nat.le_refl _) (.cells #[.int .u8 9, .slice YA yn yc] 26)
      have C8 := Lib.hid (Blk.new w7 26 #[.int .u8 9, .slice YA yn yc])
      have O8 := Lib.hid (O7.out.into hA)
      have K8 := Lib.hid (K7.out.below hA K7.out.lt)
      have Z8 := Lib.hid (Z7.out.trans (hA.mono Z7.out.size))
      have Y8 := Lib.hid (Y7.out.into hA)
      clear hA O7 K7 Z7 Y7
      obtain ⟨T2, hT2⟩ : ∃ T2, T2 = w7.heap.size := ⟨_, rfl⟩
      rw [← hT2] at C8 ⊢
      clear hT2
      generalize w7.alloc (.cells #[.int .u8 9, .slice YA yn yc] 26) = w8 at *
      refine GH.wp_ghs (M := false) 14 ((GH.SP.eq (.bool true)) :: (GH.SP.eq (.bool false)) :: (GH.SP.eq (.bool false)) :: (GH.SP.eq (.bool true)) :: (GH.SP.eq (.bool true)) :: (GH.SP.eq (.agg #[.int .u8 9, .slice YA yn yc])) :: (GH.SP.eq (.agg #[.int .u8 9, .slice OA on oc])) :: (GH.SP.eq (.bool true)) :: (GH.SP.eq (.bool true)) :: (GH.SP.eq (.bool true)) :: (GH.SP.eq (.bool true)) :: (GH.SP.eq (.bool true)) :: (GH.SP.eq (.bool true)) :: (GH.SP.eq (.bool true)) :: []) (none :: none :: none :: none :: none :: none :: (some 13) :: none :: none :: none :: none :: none :: none :: none :: none :: none :: none :: none :: none :: none :: none :: none :: none :: none :: none :: none :: none :: none :: none :: none :: none :: none :: none :: none :: none :: none :: none :: none :: none :: none :: none :: none :: none :: none :: none :: none :: none :: none :: none :: none :: none :: none :: none :: none :: none :: none :: none :: none :: none :: none :: none :: (some 0) :: (some 1) :: (some 2) :: (some 3) :: (some 4) :: (some 5) :: (some 6) :: (some 7) :: (some 8) :: (some 9) :: (some 10) :: (some 11) :: (some 12) :: []) [61, 62, 63, 64, 65, 66, 67, 68, 69, 70, 71, 72, 73, 6] (by rfl) (by kernel_rfl) ?_ ?_ ?_
      · intro S jx v hjx
        match jx, hjx with
        | 0, _ => rfl
        | 1, _ => rfl
        | 2, _ => rfl
        | 3, _ => rfl
        | 4, _ => rfl
        | 5, _ => rfl
        | 6, _ => rfl
        | 7, _ => rfl
        | 8, _ => rfl
        | 9, _ => rfl
        | 10, _ => rfl
        | 11, _ => rfl
        | 12, _ => rfl
        | 13, _ => rfl
        | nx + 14, hjx => omega
      · intro jx hjx S w' hb hd
        match jx, hjx, hd with
        | 0, _, hd =>
          simp only [GH.mkL, List.getD_cons_succ, List.getD_cons_zero]
          clear hd
          refine GH.st_eq (by rfl) ?_
          go_simp
          (try with_reducible rfl)
        | 1, _, hd =>
          simp only [GH.mkL, List.getD_cons_succ, List.getD_cons_zero]
          have d0 : S 0 = .bool true := (hd 0 (by kernel_rfl)).2
          rw [d0]
          clear d0
          clear hd
          refine GH.st_eq (by rfl) ?_
          go_simp
          (try with_reducible rfl)
        | 2, _, hd =>
          simp only [GH.mkL, List.getD_cons_succ, List.getD_cons_zero]
          have d1 : S 1 = .bool false := (hd 1 (by kernel_rfl)).2
          rw [d1]
          clear d1
          clear hd
          refine GH.st_eq (by rfl) ?_
          go_simp
          (try with_reducible rfl)
        | 3, _, hd =>
          simp only [GH.mkL, List.getD_cons_succ, List.getD_cons_zero]
          have d2 : S 2 = .bool false := (hd 2 (by kernel_rfl)).2
          rw [d2]
          clear d2
          clear hd
          refine GH.st_eq (by rfl) ?_
          go_simp
          (try with_reducible rfl)
        | 4, _, hd =>
          simp only [GH.mkL, List.getD_cons_succ, List.getD_cons_zero]
          have d2 : S 2 = .bool false := (hd 2 (by kernel_rfl)).2
          rw [d2]
          clear d2
          have d3 : S 3 = .bool true := (hd 3 (by kernel_rfl)).2
          rw [d3]
          clear d3
          clear hd
          refine GH.st_eq (by rfl) ?_
          go_simp
          (try with_reducible rfl)
        | 5, _, hd =>
          simp only [GH.mkL, List.getD_cons_succ, List.getD_cons_zero]
          have d4 : S 4 = .bool true := (hd 4 (by kernel_rfl)).2
          rw [d4]
          clear d4
          clear hd
          exact GH.st_loads _ [.int .u8 9, .slice YA yn yc] (by rfl) rfl rfl (((C8.out.below hb.below C8.out.lt)).loads 0 _ (by rfl)) (by kernel_rfl) (by kernel_rfl)
        | 6, _, hd =>
          simp only [GH.mkL, List.getD_cons_succ, List.getD_cons_zero]
          have d4 : S 4 = .bool true := (hd 4 (by kernel_rfl)).2
          rw [d4]
          clear d4
          clear hd
          exact GH.st_loads _ [.int .u8 9, .slice OA on oc] (by rfl) rfl rfl (((K8.out.below hb.below K8.out.lt)).loads 0 _ (by rfl)) (by kernel_rfl) (by kernel_rfl)
        | 7, _, hd =>
          simp only [GH.mkL, List.getD_cons_succ, List.getD_cons_zero]
          have d4 : S 4 = .bool true := (hd 4 (by kernel_rfl)).2
          rw [d4]
          clear d4
          have d5 : S 5 = .agg #[.int .u8 9, .slice YA yn yc] := (hd 5 (by kernel_rfl)).2
          rw [d5]
          clear d5
          have d6 : S 6 = .agg #[.int .u8 9, .slice OA on oc] := (hd 6 (by kernel_rfl)).2
          rw [d6]
          clear d6
          clear hd
          refine GH.st_call (by rfl) hb.below.size (by go_simp) ((sameo_any 9 YA OA yn yc on oc lb w' (Y8.out.into hb.below) (O8.out.into hb.below)).mono ?_)
          rintro e w9 ⟨rfl, hb9⟩
          exact ⟨_, rfl, hb9, rfl⟩
        | 8, _, hd =>
          simp only [GH.mkL, List.getD_cons_succ, List.getD_cons_zero]
          have d2 : S 2 = .bool false := (hd 2 (by kernel_rfl)).2
          rw [d2]
          clear d2
          have d4 : S 4 = .bool true := (hd 4 (by kernel_rfl)).2
          rw [d4]
          clear d4
          have d7 : S 7 = .bool true := (hd 7 (by kernel_rfl)).2
          rw [d7]
          clear d7
          clear hd
          refine GH.st_eq (by rfl) ?_
          go_simp
          (try with_reducible rfl)
        | 9, _, hd =>
          simp only [GH.mkL, List.getD_cons_succ, List.getD_cons_zero]
          have d2 : S 2 = .bool false := (hd 2 (by kernel_rfl)).2
          rw [d2]
          clear d2
          have d8 : S 8 = .bool true := (hd 8 (by kernel_rfl)).2
          rw [d8]
          clear d8
          clear hd
          refine GH.st_eq (by rfl) ?_
          go_simp
          (try with_reducible rfl)
        | 10, _, hd =>
          simp only [GH.mkL, List.getD_cons_succ, List.getD_cons_zero]
          have d7 : S 7 = .bool true := (hd 7 (by kernel_rfl)).2
          rw [d7]
          clear d7
          have d9 : S 9 = .bool true := (hd 9 (by kernel_rfl)).2
          rw [d9]
          clear d9
          clear hd
          refine GH.st_eq (by rfl) ?_
          go_simp
          (try with_reducible rfl)
        | 11, _, hd =>
          simp only [GH.mkL, List.getD_cons_succ, List.getD_cons_zero]
          have d10 : S 10 = .bool true := (hd 10 (by kernel_rfl)).2
          rw [d10]
          clear d10
          clear hd
          refine GH.st_call (by rfl) hb.below.size (by go_simp) ((alive31_any w').mono ?_)
          rintro e w9 ⟨rfl, hb9⟩
          exact ⟨_, rfl, hb9, rfl⟩
        | 12, _, hd =>
          simp only [GH.mkL, List.getD_cons_succ, List.getD_cons_zero]
          have d10 : S 10 = .bool true := (hd 10 (by kernel_rfl)).2
          rw [d10]
          clear d10
          have d11 : S 11 = .bool true := (hd 11 (by kernel_rfl)).2
          rw [d11]
          clear d11
          clear hd
          refine GH.st_eq (by rfl) ?_
          go_simp
          (try with_reducible rfl)
        | 13, _, hd =>
          simp only [GH.mkL, List.getD_cons_succ, List.getD_cons_zero]
          have d0 : S 0 = .bool true := (hd 0 (by kernel_rfl)).2
          rw [d0]
          clear d0
          have d1 : S 1 = .bool false := (hd 1 (by kernel_rfl)).2
          rw [d1]
          clear d1
          have d2 : S 2 = .bool false := (hd 2 (by kernel_rfl)).2
          rw [d2]
          clear d2
          have d3 : S 3 = .bool true := (hd 3 (by kernel_rfl)).2
          rw [d3]
          clear d3
          have d4 : S 4 = .bool true := (hd 4 (by kernel_rfl)).2
          rw [d4]
          clear d4
          have d5 : S 5 = .agg #[.int .u8 9, .slice YA yn yc] := (hd 5 (by kernel_rfl)).2
          rw [d5]
          clear d5
          have d6 : S 6 = .agg #[.int .u8 9, .slice OA on oc] := (hd 6 (by kernel_rfl)).2
          rw [d6]
          clear d6
          have d7 : S 7 = .bool true := (hd 7 (by kernel_rfl)).2
          rw [d7]
          clear d7
          have d8 : S 8 = .bool true := (hd 8 (by kernel_rfl)).2
          rw [d8]
          clear d8
          have d9 : S 9 = .bool true := (hd 9 (by kernel_rfl)).2
          rw [d9]
          clear d9
          have d10 : S 10 = .bool true := (hd 10 (by kernel_rfl)).2
          rw [d10]
          clear d10
          have d11 : S 11 = .bool true := (hd 11 (by kernel_rfl)).2
          rw [d11]
          clear d11
          have d12 : S 12 = .bool true := (hd 12 (by kernel_rfl)).2
          rw [d12]
          clear d12
          clear hd
          refine GH.st_eq (by rfl) ?_
          go_simp
          (try with_reducible rfl)
        | nx + 14, hjx, _ => omega
      intro S w' hb hG
      simp only [GH.mkL, List.drop_succ_cons, List.drop_zero]
      have d13 : S 13 = .bool true := hG 13 (by omega)
      rw [d13]
      clear d13
      clear hG
      refine wpList_nil ?_
      have ZF := Lib.hid (Z8.out.trans (hb.below.mono Z8.out.size))
      go_wp2_with fail
      go_ret
      refine ⟨rfl, ?_⟩
      (try rw [HT.out])
      exact ZF.out
    · have HS := Lib.hid hS
      clear hS
      go_upto_region 4 with fail
      have hA := (Below.refl w2.heap.size w2).alloc (Nat.le_refl _) (.cells #[.int .u8 0, .slice none 0 0] 26)
      have B3 := Lib.hid (Blk.new w2 26 #[.int .u8 0, .slice none 0 0])
      have H3 := Lib.hid (H2.out.into hA)
      have O3 := Lib.hid (O2.out.into hA)
      have K3 := Lib.hid (K2.out.below hA K2.out.lt)
      have Z3 := Lib.hid (Z2.out.trans (hA.mono Z2.out.size))
      clear S2 hA H2 O2 K2 Z2
      obtain ⟨T1, hT1⟩ : ∃ T1, T1 = w2.heap.size := ⟨_, rfl⟩
      rw [← hT1] at B3 ⊢
      clear hT1
      generalize w2.alloc (.cells #[.int .u8 0, .slice none 0 0] 26) = w3 at *
      obtain ⟨b0, b1⟩ := ptc2 B3.out
      go_wp2_with fail
      refine (spparse_any wait 0 none 0 0 [] w3 (Rd.nil _ _ _ _) (Nat.le_refl _) (by simp) (by omega) HW.out).mono ?_
      rintro e w4 ⟨hp, hb⟩
      have H4 := Lib.hid (H3.out.into hb)
      have O4 := Lib.hid (O3.out.into hb)
      have K4 := Lib.hid (K3.out.below hb K3.out.lt)
      have Z4 := Lib.hid (Z3.out.trans (hb.mono Z3.out.size))
      clear hb H3 O3 K3 Z3
      clear b0 b1 B3
      rcases hp with ⟨hok, _⟩ | ⟨_, rfl⟩
      case inl => exact absurd hok.1 (by decide)
      have H5 := H4
      have O5 := O4
      have K5 := K4
      have Z5 := Z4
      clear H4 O4 K4 Z4
      generalize w4 = w5 at *
      obtain ⟨c0, c1⟩ := ptc2 K5.out
      go_wp2_with fail
      refine (spparse_any wait kind OA on oc lb w5 O5.out hoc HBY.out (by omega) HW.out).mono ?_
      rintro e w6 ⟨hp, hb⟩
      have O6 := Lib.hid (O5.out.into hb)
      have K6 := Lib.hid (K5.out.below hb K5.out.lt)
      have Z6 := Lib.hid (Z5.out.trans (hb.mono Z5.out.size))
      clear hb O5 K5 Z5
      clear c0 c1 H5
      rcases hp with ⟨hok, _⟩ | ⟨_, rfl⟩
      case inl => exact absurd hok HS.out
      go_wp2_with fail
      refine (soption_any wait none 0 0 [] w6 (Rd.nil _ _ _ _) (by intro p hp; cases hp) HW.out).mono ?_
      rintro e w7 ⟨hp, hb⟩
      have O7 := Lib.hid (O6.out.into hb)
      have K7 := Lib.hid (K6.out.below hb K6.out.lt)
      have Z7 := Lib.hid (Z6.out.trans (hb.mono Z6.out.size))
      clear hb O6 K6 Z6
      rcases hp with ⟨v, rfl, hne, _⟩ | ⟨rfl, _⟩
      case inl => exact absurd rfl hne
      go_upto_region 9 with fail
      have hA := (Below.refl w7.heap.size w7).alloc (Nat.le_refl _) (.cells #[.int .u8 0, .slice none 0 0] 26)
      have C8 := Lib.hid (Blk.new w7 26 #[.int .u8 0, .slice none 0 0])
      have O8 := Lib.hid (O7.out.into hA)
      have K8 := Lib.hid (K7.out.below hA K7.out.lt)
      have Z8 := Lib.hid (Z7.out.trans (hA.mono Z7.out.size))
      clear hA O7 K7 Z7
      obtain ⟨T2, hT2⟩ : ∃ T2, T2 = w7.heap.size := ⟨_, rfl⟩
      rw [← hT2] at C8 ⊢
      clear hT2
      generalize w7.alloc (.cells #[.int .u8 0, .slice none 0 0] 26) = w8 at *
      refine GH.wp_ghs (M := false) 14 ((GH.SP.eq (.bool false)) :: (GH.SP.eq (.bool true)) :: (GH.SP.eq (.bool true)) :: (GH.SP.eq (undef)) :: (GH.SP.eq (undef)) :: (GH.SP.eq (undef)) :: (GH.SP.eq (undef)) :: (GH.SP.eq (undef)) :: (GH.SP.eq (undef)) :: (GH.SP.eq (.bool true)) :: (GH.SP.eq (.bool true)) :: (GH.SP.eq (.bool true)) :: (GH.SP.eq (.bool true)) :: (GH.SP.eq (.bool true)) :: []) (none :: none :: none :: none :: none :: none :: (some 13) :: none :: none :: none :: none :: none :: none :: none :: none :: none :: none :: none :: none :: none :: none :: none :: none :: none :: none :: none :: none :: none :: none :: none :: none :: none :: none :: none :: none :: none :: none :: none :: none :: none :: none :: none :: none :: none :: none :: none :: none :: none :: none :: none :: none :: none :: none :: none :: none :: none :: none :: none :: none :: none :: none :: (some 0) :: (some 1) :: (some 2) :: (some 3) :: (some 4) :: (some 5) :: (some 6) :: (some 7) :: (some 8) :: (some 9) :: (some 10) :: (some 11) :: (some 12) :: []) [61, 62, 63, 64, 65, 66, 67, 68, 69, 70, 71, 72, 73, 6] (by rfl) (by kernel_rfl) ?_ ?_ ?_
      · intro S jx v hjx
        match jx, hjx with
        | 0, _ => rfl
        | 1, _ => rfl
        | 2, _ => rfl
        | 3, _ => rfl
        | 4, _ => rfl
        | 5, _ => rfl
        | 6, _ => rfl
        | 7, _ => rfl
        | 8, _ => rfl
        | 9, _ => rfl
        | 10, _ => rfl
        | 11, _ => rfl
        | 12, _ => rfl
        | 13, _ => rfl
        | nx + 14, hjx => omega
      · intro jx hjx S w' hb hd
        match jx, hjx, hd with
        | 0, _, hd =>
          simp only [GH.mkL, List.getD_cons_succ, List.getD_cons_zero]
          clear hd
          refine GH.st_eq (by rfl) ?_
          go_simp
          (try with_reducible rfl)
        | 1, _, hd =>
          simp only [GH.mkL, List.getD_cons_succ, List.getD_cons_zero]
          have d0 : S 0 = .bool false := (hd 0 (by kernel_rfl)).2
          rw [d0]
          clear d0
          clear hd
          refine GH.st_eq (by rfl) ?_
          go_simp
          (try with_reducible rfl)
        | 2, _, hd =>
          simp only [GH.mkL, List.getD_cons_succ, List.getD_cons_zero]
          have d1 : S 1 = .bool true := (hd 1 (by kernel_rfl)).2
          rw [d1]
          clear d1
          clear hd
          refine GH.st_eq (by rfl) ?_
          go_simp
          (try with_reducible rfl)
        | 3, _, hd =>
          simp only [GH.mkL, List.getD_cons_succ, List.getD_cons_zero]
          have d2 : S 2 = .bool true := (hd 2 (by kernel_rfl)).2
          rw [d2]
          clear d2
          clear hd
          exact GH.st_skip (by rfl) rfl
        | 4, _, hd =>
          simp only [GH.mkL, List.getD_cons_succ, List.getD_cons_zero]
          have d2 : S 2 = .bool true := (hd 2 (by kernel_rfl)).2
          rw [d2]
          clear d2
          have d3 : S 3 = undef := (hd 3 (by kernel_rfl)).2
          rw [d3]
          clear d3
          clear hd
          exact GH.st_skip (by rfl) rfl
        | 5, _, hd =>
          simp only [GH.mkL, List.getD_cons_succ, List.getD_cons_zero]
          have d4 : S 4 = undef := (hd 4 (by kernel_rfl)).2
          rw [d4]
          clear d4
          clear hd
          exact GH.st_skip (by rfl) rfl
        | 6, _, hd =>
          simp only [GH.mkL, List.getD_cons_succ, List.getD_cons_zero]
          have d4 : S 4 = undef := (hd 4 (by kernel_rfl)).2
          rw [d4]
          clear d4
          clear hd
          exact GH.st_skip (by rfl) rfl
        | 7, _, hd =>
          simp only [GH.mkL, List.getD_cons_succ, List.getD_cons_zero]
          have d4 : S 4 = undef := (hd 4 (by kernel_rfl)).2
          rw [d4]
          clear d4
          have d5 : S 5 = undef := (hd 5 (by kernel_rfl)).2
          rw [d5]
          clear d5
          have d6 : S 6 = undef := (hd 6 (by kernel_rfl)).2
          rw [d6]
          clear d6
          clear hd
          exact GH.st_skip (by rfl) rfl
        | 8, _, hd =>
          simp only [GH.mkL, List.getD_cons_succ, List.getD_cons_zero]
          have d2 : S 2 = .bool true := (hd 2 (by kernel_rfl)).2
          rw [d2]
          clear d2
          have d4 : S 4 = undef := (hd 4 (by kernel_rfl)).2
          rw [d4]
          clear d4
          have d7 : S 7 = undef := (hd 7 (by kernel_rfl)).2
          rw [d7]
          clear d7
          clear hd
          exact GH.st_skip (by rfl) rfl
        | 9, _, hd =>
          simp only [GH.mkL, List.getD_cons_succ, List.getD_cons_zero]
          have d2 : S 2 = .bool true := (hd 2 (by kernel_rfl)).2
          rw [d2]
          clear d2
          have d8 : S 8 = undef := (hd 8 (by kernel_rfl)).2
          rw [d8]
          clear d8
          clear hd
          refine GH.st_eq (by rfl) ?_
          go_simp
          (try with_reducible rfl)
        | 10, _, hd =>
          simp only [GH.mkL, List.getD_cons_succ, List.getD_cons_zero]
          have d7 : S 7 = undef := (hd 7 (by kernel_rfl)).2
          rw [d7]
          clear d7
          have d9 : S 9 = .bool true := (hd 9 (by kernel_rfl)).2
          rw [d9]
          clear d9
          clear hd
          refine GH.st_eq (by rfl) ?_
          go_simp
          (try with_reducible rfl)
        | 11, _, hd =>
          simp only [GH.mkL, List.getD_cons_succ, List.getD_cons_zero]
          have d10 : S 10 = .bool true := (hd 10 (by kernel_rfl)).2
          rw [d10]
          clear d10
          clear hd
          refine GH.st_call (by rfl) hb.below.size (by go_simp) ((alive31_any w').mono ?_)
          rintro e w9 ⟨rfl, hb9⟩
          exact ⟨_, rfl, hb9, rfl⟩
        | 12, _, hd =>
          simp only [GH.mkL, List.getD_cons_succ, List.getD_cons_zero]
          have d10 : S 10 = .bool true := (hd 10 (by kernel_rfl)).2
          rw [d10]
          clear d10
          have d11 : S 11 = .bool true := (hd 11 (by kernel_rfl)).2
          rw [d11]
          clear d11
          clear hd
          refine GH.st_eq (by rfl) ?_
          go_simp
          (try with_reducible rfl)
        | 13, _, hd =>
          simp only [GH.mkL, List.getD_cons_succ, List.getD_cons_zero]
          have d0 : S 0 = .bool false := (hd 0 (by kernel_rfl)).2
          rw [d0]
          clear d0
          have d1 : S 1 = .bool true := (hd 1 (by kernel_rfl)).2
          rw [d1]
          clear d1
          have d2 : S 2 = .bool true := (hd 2 (by kernel_rfl)).2
          rw [d2]
          clear d2
          have d3 : S 3 = undef := (hd 3 (by kernel_rfl)).2
          rw [d3]
          clear d3
          have d4 : S 4 = undef := (hd 4 (by kernel_rfl)).2
          rw [d4]
          clear d4
          have d5 : S 5 = undef := (hd 5 (by kernel_rfl)).2
          rw [d5]
          clear d5
          have d6 : S 6 = undef := (hd 6 (by kernel_rfl)).2
          rw [d6]
          clear d6
          have d7 : S 7 = undef := (hd 7 (by kernel_rfl)).2
          rw [d7]
          clear d7
          have d8 : S 8 = undef := (hd 8 (by kernel_rfl)).2
          rw [d8]
          clear d8
          have d9 : S 9 = .bool true := (hd 9 (by kernel_rfl)).2
          rw [d9]
          clear d9
          have d10 : S 10 = .bool true := (hd 10 (by kernel_rfl)).2
          rw [d10]
          clear d10
          have d11 : S 11 = .bool true := (hd 11 (by kernel_rfl)).2
          rw [d11]
          clear d11
          have d12 : S 12 = .bool true := (hd 12 (by kernel_rfl)).2
          rw [d12]
          clear d12
          clear hd
          refine GH.st_eq (by rfl) ?_
          go_simp
          (try with_reducible rfl)
        | nx + 14, hjx, _ => omega
      intro S w' hb hG
      simp only [GH.mkL, List.drop_succ_cons, List.drop_zero]
      have d13 : S 13 = .bool true := hG 13 (by omega)
      rw [d13]
      clear d13
      clear hG
      refine wpList_nil ?_
      have ZF := Lib.hid (Z8.out.trans (hb.below.mono Z8.out.size))
      go_wp2_with fail
      go_ret
      refine ⟨rfl, ?_⟩
      (try rw [HT.out])
      exact ZF.out
end Go.Proofs.Ytpnnadnmkiobcaa
