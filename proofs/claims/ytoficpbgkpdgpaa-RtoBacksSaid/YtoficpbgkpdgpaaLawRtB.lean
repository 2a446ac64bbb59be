/- Layer 12: the law RtoBacks answers true, and nothing that was there has turned. -/
import Derived.Test.YtoficpbgkpdgpaaRto1
import Derived.Test.YtoficpbgkpdgpaaOpen
namespace Go.Proofs.Ytoficpbgkpdgpaa
open Go.RowKit
set_option linter.unusedVariables false
set_option linter.unusedSimpArgs false
theorem EstW.into {w w' : World} {g m d s : Nat} {kn : Bool} (h : EstW w g kn m d s) (hb : Below w.heap.size w w') : EstW w' g kn m d s := Blk.below h hb (Blk.lt h)
set_option maxRecDepth 20000 in
set_option maxHeartbeats 2000000 in
theorem alive12 (w : World) : Calls Try.prog 8 #[] w fun e w' => e = .returned (.bool true) ∧ Below w.heap.size w w' := by
  go_enter Try.func8, Try.ntmps8
  go_wp2_with fail
  have h0 : EstW (w.alloc (.cells #[.bool false, .int .i64 0, .int .i64 0, .int .i64 0] 24)) w.heap.size false 0 0 0 := Blk.new _ _ _
  have hb0 := (Below.refl w.heap.size w).alloc (Nat.le_refl _) (.cells #[.bool false, .int .i64 0, .int .i64 0, .int .i64 0] 24)
  have hk0 : EstOk 0 0 0 := ⟨by omega, by omega, by omega⟩
  refine (rto_patience w.heap.size 0 0 0 false _ h0 hk0).mono ?_
  rintro e w1 ⟨rfl, hb1⟩
  have H1 := Lib.hid (h0.into hb1)
  have B1 := Lib.hid (hb0.trans (hb1.mono (by simp)))
  clear h0 hb0 hb1
  go_wp2_with fail
  refine (rto_sample w.heap.size 0 0 0 false 10 w1 H1.out hk0 (by decide)).mono ?_
  rintro e w2 ⟨rfl, m2, d2, hm2, hd2, hk2, h2, ht2⟩
  obtain rfl : m2 = 80 := hm2.trans (by decide)
  obtain rfl : d2 = 20 := hd2.trans (by decide)
  have H2 := Lib.hid h2
  have B2 := Lib.hid (B1.out.trans ht2.1)
  clear h2 ht2 hm2 hd2 H1
  go_wp2_with fail
  refine (rto_patience w.heap.size 80 20 0 true w2 H2.out hk2).mono ?_
  rintro e w3 ⟨rfl, hb3⟩
  have H3 := Lib.hid (H2.out.into hb3)
  have B3 := Lib.hid (B2.out.trans (hb3.mono B2.out.size))
  clear hb3 H2
  go_wp2_with fail
  refine (rto_back w.heap.size 80 20 0 true w3 H3.out hk2).mono ?_
  rintro e w4 ⟨rfl, h4, ht4⟩
  have H4 := Lib.hid (show EstW w4 w.heap.size true 80 20 1 from h4)
  have B4 := Lib.hid (B3.out.trans ht4.1)
  have hk4 : EstOk 80 20 1 := ⟨by omega, by omega, by omega⟩
  clear h4 ht4 H3
  go_wp2_with fail
  refine (rto_patience w.heap.size 80 20 1 true w4 H4.out hk4).mono ?_
  rintro e w5 ⟨rfl, hb5⟩
  have H5 := Lib.hid (H4.out.into hb5)
  have B5 := Lib.hid (B4.out.trans (hb5.mono B4.out.size))
  clear hb5 H4
  go_wp2_with fail
  refine (rto_backs w.heap.size 80 20 1 true w5 H5.out).mono ?_
  rintro e w6 ⟨rfl, rfl⟩
  go_wp2_with fail
  go_ret
  exact ⟨rfl, B5.out⟩
/-- Behind so many times: how long one waits. -/
theorem rto_twice (W i : Nat) (h : 2 ≤ W) : min (W * 2 ^ (min (i + 1) 8)) 256 = min (if 8 ≤ i then 2 * min (W * 2 ^ (min i 8)) 256 / 2 else 2 * min (W * 2 ^ (min i 8)) 256) 256 := by
  by_cases h8 : 8 ≤ i
  · rw [if_pos h8, show min (i + 1) 8 = 8 by omega, show min i 8 = 8 by omega]
    omega
  · rw [if_neg h8, show min (i + 1) 8 = i + 1 by omega, show min i 8 = i by omega, Nat.pow_succ]
    generalize 2 ^ i = p
    rw [← Nat.mul_assoc]
    omega
set_option maxRecDepth 20000 in
set_option maxHeartbeats 4000000 in
theorem rtoBacks_walk (A : Option Addr) (n c : Nat) (l : List Int) (b : Int) (w : World) (hr : Rd w w.heap.size 1 A n (zs .i64 l)) (hnc : n ≤ c) (hmax : c ≤ maxLen) (hl : ∀ x ∈ l, -9223372036854775808 ≤ x ∧ x < 9223372036854775808) (hb : (Lit.int .i64 b).wf = true) :
    Calls Try.prog 3 #[.slice A n c, .int .i64 b] w fun e w' => e = .returned (.bool true) ∧ Below w.heap.size w w' := by
  have HR := Lib.hid hr
  have HL := Lib.hid hl
  unfold maxLen at hmax
  clear hr hl
  by_cases h1 : 100 < n
  · have h1' : (100 : Int) < (n : Int) := by omega
    go_enter Try.func3, Try.ntmps3
    go_wp2_with fail
    go_ret
    exact ⟨rfl, Below.refl _ _⟩
  have g1 : ¬ (100 : Int) < (n : Int) := by omega
  by_cases h2 : b < 0
  · go_enter Try.func3, Try.ntmps3
    go_wp2_with fail
    go_ret
    exact ⟨rfl, Below.refl _ _⟩
  by_cases h3 : 20 < b
  · go_enter Try.func3, Try.ntmps3
    go_wp2_with fail
    go_ret
    exact ⟨rfl, Below.refl _ _⟩
  obtain ⟨k, rfl⟩ : ∃ k : Nat, b = (k : Int) := ⟨b.toNat, by omega⟩
  have hk : k ≤ 20 := by omega
  have g2 : ¬ (k : Int) < 0 := by omega
  have g3 : ¬ (20 : Int) < (k : Int) := by omega
  clear h1 h2 h3 hb
  go_enter Try.func3, Try.ntmps3
  go_wp2_with fail
  have h0 : EstW (w.alloc (.cells #[.bool false, .int .i64 0, .int .i64 0, .int .i64 0] 24)) w.heap.size false 0 0 0 := Blk.new _ _ _
  have H0 := Lib.hid h0
  have B0 := Lib.hid ((Below.refl w.heap.size w).alloc (Nat.le_refl _) (.cells #[.bool false, .int .i64 0, .int .i64 0, .int .i64 0] 24))
  clear h0 g1 g2 g3
  generalize w.alloc (.cells #[.bool false, .int .i64 0, .int .i64 0, .int .i64 0] 24) = w0 at H0 B0 ⊢
  go_loopw [6] (fun iv wr => ∃ (i m d : Nat) (kn : Bool), i ≤ n ∧ iv = .int .i64 (i : Nat) ∧ Hid (EstW wr w.heap.size kn m d 0) ∧ Hid (EstOk m d 0) ∧ Hid (Below w.heap.size w wr)) (fun iv _ => n - (intOf iv).toNat)
  case atStart => exact ⟨0, 0, 0, false, Nat.zero_le _, rfl, H0, Lib.hid ⟨by omega, by omega, by omega⟩, B0⟩
  case round =>
    clear H0 B0
    obtain ⟨i, m, d, kn, hi, rfl, HE, HK, BB⟩ := hrel
    by_cases hlt : i < n
    · have hlt' : (i : Int) < (n : Int) := by omega
      obtain ⟨ab, ao, x, hA, hab, q0, hx⟩ := HR.out.nthz hlt
      subst hA
      have hxb := HL.out x (List.mem_of_getElem? hx)
      have hxw := WalkArith.wf_i64 ⟨hxb.1, by omega⟩
      have q0 := (BB.out.cell (p := ⟨ab, ao + i, none⟩) hab).trans q0
      clear hx hab hxb
      go_wp2_with fail
      refine (rto_sample w.heap.size m d 0 kn x wr HE.out HK.out hxw).mono ?_
      rintro e w2 ⟨rfl, m2, d2, _, _, hk2, h2, ht2⟩
      have H2 := Lib.hid h2
      have K2 := Lib.hid hk2
      have B2 := Lib.hid (BB.out.trans ht2.1)
      clear h2 ht2 hk2 q0 HE HK BB
      go_wp2_with fail
      go_roundw
      case rel => exact ⟨i + 1, m2, d2, true, by omega, by go_num, H2, K2, B2⟩
      case measure => simp [intOf]; omega
    · have hie : i = n := by omega
      subst hie
      go_wp2_with fail
      refine (rto_patience w.heap.size m d 0 kn wr HE.out HK.out).mono ?_
      rintro e w2 ⟨rfl, hb2⟩
      have H2 := Lib.hid (HE.out.into hb2)
      have B2 := Lib.hid (BB.out.trans (hb2.mono BB.out.size))
      clear hb2 HE BB
      obtain ⟨W, hW⟩ : ∃ W, W = rWt kn m d := ⟨_, rfl⟩
      have hW2 : 2 ≤ W := by rw [hW]; unfold rWt; omega
      have HW := Lib.hid hW
      rw [← hW]
      clear hW
      obtain ⟨x0, hx0⟩ : ∃ x0, x0 = min (W * 2 ^ 0) 256 := ⟨_, rfl⟩
      rw [← hx0]
      have HX0 := Lib.hid (show x0 = min (W * 2 ^ (min 0 8)) 256 from hx0)
      clear hx0
      go_wp2_with fail
      go_loopw [7, 8] (fun nv jv wk => ∃ (j x : Nat), j ≤ k ∧ jv = .int .i64 (j : Nat) ∧ nv = .int .i64 (x : Nat) ∧ Hid (x = min (W * 2 ^ (min j 8)) 256) ∧ Hid (EstW wk w.heap.size kn m d (min j 8)) ∧ Hid (Below w.heap.size w wk)) (fun _ jv _ => k - (intOf jv).toNat)
      case atStart => exact ⟨0, x0, Nat.zero_le _, rfl, rfl, HX0, H2, B2⟩
      case round =>
        clear H2 B2 HX0
        obtain ⟨j, x, hj, rfl, rfl, HX, HE, BB⟩ := hrel
        have hok : EstOk m d (min j 8) := ⟨HK.out.m, HK.out.d, by omega⟩
        have HOK := Lib.hid hok
        clear hok
        have hx256 : x ≤ 256 := by rw [HX.out]; omega
        by_cases hjk : j < k
        · have hjk' : (j : Int) < (k : Int) := by omega
          obtain ⟨s2, hs2⟩ : ∃ s2, s2 = min (j + 1) 8 := ⟨_, rfl⟩
          have hok2 : EstOk m d s2 := ⟨HK.out.m, HK.out.d, by omega⟩
          have HOK2 := Lib.hid hok2
          have hstep := rto_twice W j hW2
          rw [← HX.out, ← hs2] at hstep
          obtain ⟨y, hy⟩ : ∃ y, y = min (W * 2 ^ s2) 256 := ⟨_, rfl⟩
          have hyy := hy
          rw [hstep] at hyy
          have HY := Lib.hid hy
          have hs2e : min (min j 8 + 1) 8 = s2 := by omega
          have HS2 := Lib.hid hs2
          have HS2E := Lib.hid hs2e
          have HYY := Lib.hid hyy
          clear hok2 hstep hy hyy hs2e hs2
          go_wp2_with fail
          refine (rto_back w.heap.size m d (min j 8) kn _ HE.out HOK.out).mono ?_
          rintro e w2 ⟨rfl, h2, ht2⟩
          rw [HS2E.out] at h2
          have H2 := Lib.hid h2
          have B2 := Lib.hid (BB.out.trans ht2.1)
          clear h2 ht2 HE BB
          have HP := Lib.hid (rto_patience w.heap.size m d s2 kn w2 H2.out HOK2.out)
          rw [← HW.out, ← HY.out] at HP
          by_cases h8 : 8 ≤ j
          · have h8' : (8 : Int) ≤ (j : Int) := by omega
            have hyx : y = x := by have := HYY.out; rw [if_pos h8] at this; omega
            subst hyx
            have hn2 : (2 * (y : Int)) / 2 = (y : Int) := by omega
            have hn3 : ¬ (256 : Int) < (y : Int) := by omega
            go_wp2_with fail
            refine HP.out.mono ?_
            rintro e w3 ⟨rfl, hb3⟩
            have H3 := Lib.hid (H2.out.into hb3)
            have B3 := Lib.hid (B2.out.trans (hb3.mono B2.out.size))
            clear hb3 hn2 hn3
            go_wp2_with fail
            go_roundw
            case rel => exact ⟨j + 1, y, by omega, by go_num, rfl, Lib.hid (by rw [← HS2.out]; exact HY.out), by rw [← HS2.out]; exact H3, B3⟩
            case measure => simp [intOf]; omega
          · have h8' : ¬ (8 : Int) ≤ (j : Int) := by omega
            have hyx : y = min (2 * x) 256 := by have := HYY.out; rw [if_neg h8] at this; exact this
            by_cases h5 : 256 < 2 * x
            · have h5' : (256 : Int) < 2 * (x : Int) := by omega
              obtain rfl : y = 256 := by omega
              go_wp2_with fail
              refine HP.out.mono ?_
              rintro e w3 ⟨rfl, hb3⟩
              have H3 := Lib.hid (H2.out.into hb3)
              have B3 := Lib.hid (B2.out.trans (hb3.mono B2.out.size))
              clear hb3 hyx
              go_wp2_with fail
              go_roundw
              case rel => exact ⟨j + 1, 256, by omega, by go_num, rfl, Lib.hid (by rw [← HS2.out]; exact HY.out), by rw [← HS2.out]; exact H3, B3⟩
              case measure => simp [intOf]; omega
            · have h5' : ¬ (256 : Int) < 2 * (x : Int) := by omega
              have hyi : (y : Int) = 2 * (x : Int) := by omega
              rw [hyi] at HP
              have HYI := Lib.hid hyi
              clear hyx hyi
              go_wp2_with fail
              refine HP.out.mono ?_
              rintro e w3 ⟨rfl, hb3⟩
              have H3 := Lib.hid (H2.out.into hb3)
              have B3 := Lib.hid (B2.out.trans (hb3.mono B2.out.size))
              clear hb3
              go_wp2_with fail
              go_roundw
              case rel => exact ⟨j + 1, y, by omega, by go_num, by rw [HYI.out], Lib.hid (by rw [← HS2.out]; exact HY.out), by rw [← HS2.out]; exact H3, B3⟩
              case measure => simp [intOf]; omega
        · have hje : j = k := by omega
          subst hje
          go_wp2_with fail
          refine (rto_sample w.heap.size m d (min j 8) kn 1 _ HE.out HOK.out (by decide)).mono ?_
          rintro e w2 ⟨rfl, m2, d2, _, _, hk2, h2, ht2⟩
          have H2 := Lib.hid h2
          have B2 := Lib.hid (BB.out.trans ht2.1)
          clear h2 ht2 HE BB
          go_wp2_with fail
          refine (rto_backs w.heap.size m2 d2 0 true w2 H2.out).mono ?_
          rintro e w3 ⟨rfl, rfl⟩
          go_wp2_with fail
          refine (alive12 w3).mono ?_
          rintro e w4 ⟨rfl, hb4⟩
          have B4 := Lib.hid (B2.out.trans (hb4.mono B2.out.size))
          clear hb4
          go_wp2_with fail
          go_ret
          exact ⟨rfl, B4.out⟩
end Go.Proofs.Ytoficpbgkpdgpaa
