/- Layer 14: the law QuarForgets answers true, and nothing that was there has turned. -/
import Derived.Test.YtaoiihfppmconaaQr1
import Derived.Test.YtaoiihfppmconaaOpen
namespace Go.Proofs.Ytaoiihfppmconaa
open Go.RowKit
set_option linter.unusedVariables false
set_option linter.unusedSimpArgs false
set_option maxRecDepth 20000 in
set_option maxHeartbeats 2000000 in
theorem alive14 (w : World) : Calls Try.prog 9 #[] w fun e w' => e = .returned (.bool true) ∧ Below w.heap.size w w' := by
  go_enter Try.func9, Try.ntmps9
  go_wp2_with fail
  refine (q_new 4 w (by decide)).mono ?_
  rintro e w1 ⟨rfl, h1, b1⟩
  rw [show limN 4 = 4 by decide] at h1
  have H1 := Lib.hid h1
  have B1 := Lib.hid b1
  clear h1 b1
  go_wp2_with fail
  refine (q_add w.heap.size 4 0 0 4 w1 H1.out (by omega) (by omega) (by decide)).mono ?_
  rintro e w2 ⟨rfl, ⟨p2, hp2, h2⟩, t2⟩
  obtain rfl : p2 = 4 := hp2.trans (by decide)
  have H2 := Lib.hid h2
  have B2 := Lib.hid (B1.out.trans t2.1)
  clear h2 t2 hp2 H1 B1
  go_wp2_with fail
  refine (q_bad w.heap.size 4 4 0 w2 H2.out).mono ?_
  rintro e w3 ⟨rfl, b3⟩
  have H3 := Lib.hid (H2.out.into b3)
  have B3 := Lib.hid (B2.out.trans (b3.mono B2.out.size))
  clear b3 H2 B2
  go_wp2_with fail
  refine (q_tick w.heap.size 4 4 0 8 w3 H3.out (by omega) (by omega) (by decide)).mono ?_
  rintro e w4 ⟨rfl, ⟨p4, r4, hp4, hr4, h4⟩, t4⟩
  obtain rfl : p4 = 3 := hp4.trans (by decide)
  obtain rfl : r4 = 0 := hr4.trans (by decide)
  have H4 := Lib.hid h4
  have B4 := Lib.hid (B3.out.trans t4.1)
  clear h4 t4 hp4 hr4 H3 B3
  go_wp2_with fail
  refine (q_points w.heap.size 4 3 0 w4 H4.out).mono ?_
  rintro e w5 ⟨rfl, rfl⟩
  go_wp2_with fail
  refine (q_bad w.heap.size 4 3 0 w5 H4.out).mono ?_
  rintro e w6 ⟨rfl, b6⟩
  have B6 := Lib.hid (B4.out.trans (b6.mono B4.out.size))
  clear b6
  go_wp2_with fail
  go_ret
  exact ⟨rfl, B6.out⟩
set_option maxRecDepth 20000 in
set_option maxHeartbeats 4000000 in
theorem quarForgets_walk (b : Int) (A : Option Addr) (n c : Nat) (l : List Int) (w : World) (hb : (Lit.int .i64 b).wf = true) (hr : Rd w w.heap.size 1 A n (zs .i64 l)) (hnc : n ≤ c) (hmax : c ≤ maxLen) (hl : ∀ x ∈ l, -9223372036854775808 ≤ x ∧ x < 9223372036854775808) :
    Calls Try.prog 3 #[.int .i64 b, .slice A n c] w fun e w' => e = .returned (.bool true) ∧ Below w.heap.size w w' := by
  have HR := Lib.hid hr
  have HL := Lib.hid hl
  unfold maxLen at hmax
  clear hr hl
  by_cases h0 : b < 1
  · go_enter Try.func3, Try.ntmps3
    go_wp2_with fail
    go_ret
    exact ⟨rfl, Below.refl _ _⟩
  by_cases h1 : 100 < b
  · go_enter Try.func3, Try.ntmps3
    go_wp2_with fail
    go_ret
    exact ⟨rfl, Below.refl _ _⟩
  by_cases h2 : 100 < n
  · have h2' : (100 : Int) < (n : Int) := by omega
    go_enter Try.func3, Try.ntmps3
    go_wp2_with fail
    go_ret
    exact ⟨rfl, Below.refl _ _⟩
  obtain ⟨L, rfl⟩ : ∃ k : Nat, b = (k : Int) := ⟨b.toNat, by omega⟩
  have hL1 : 1 ≤ L := by omega
  have hL2 : L ≤ 100 := by omega
  have hn : n ≤ 100 := by omega
  have g1 : ¬ (L : Int) < 1 := by omega
  have g2 : ¬ (100 : Int) < (L : Int) := by omega
  have g3 : ¬ (100 : Int) < (n : Int) := by omega
  have HN := Lib.hid (q_new L w hb)
  rw [limN_of hL1 (by omega)] at HN
  obtain ⟨m4, hm4⟩ : ∃ m, m = 4 * L := ⟨_, rfl⟩
  obtain ⟨m32, hm32⟩ : ∃ m, m = 32 * L := ⟨_, rfl⟩
  have e4 : 4 * (L : Int) = (m4 : Nat) := by omega
  have e32 : 32 * (L : Int) = (m32 : Nat) := by omega
  have M4 := Lib.hid hm4
  have M32 := Lib.hid hm32
  have hm4b : m4 ≤ 400 := by omega
  have hm32b : m32 ≤ 3200 := by omega
  clear h0 h1 h2 hb hm4 hm32
  go_enter Try.func3, Try.ntmps3
  go_wp2_with fail
  refine HN.out.mono ?_
  rintro e w1 ⟨rfl, h1, b1⟩
  have H1 := Lib.hid h1
  have B1 := Lib.hid b1
  clear h1 b1 g1 g2 g3 HN
  go_wp2_with fail
  go_loopw [6] (fun iv wr => ∃ (i p : Nat), i ≤ n ∧ iv = .int .i64 (i : Nat) ∧ Hid (p ≤ 4 * L) ∧ Hid (ScW wr w.heap.size L p 0) ∧ Hid (Below w.heap.size w wr)) (fun iv _ => n - (intOf iv).toNat)
  case atStart => exact ⟨0, 0, Nat.zero_le _, rfl, Lib.hid (by omega), H1, B1⟩
  case round =>
    clear H1 B1
    obtain ⟨i, p, hi, rfl, HP, HS, BB⟩ := hrel
    by_cases hlt : i < n
    · have hlt' : (i : Int) < (n : Int) := by omega
      obtain ⟨ab, ao, x, hA, hab, q0, hx⟩ := HR.out.nthz hlt
      subst hA
      have hxb := HL.out x (List.mem_of_getElem? hx.out)
      have hxw := Lib.hid (WalkArith.wf_i64 ⟨hxb.1, by omega⟩)
      have q0 := (BB.out.cell (p := ⟨ab, ao + i, none⟩) hab).trans q0
      clear hx hab hxb
      go_wp2_with fail
      refine (q_add w.heap.size L p 0 x wr HS.out (by omega) HP.out hxw.out).mono ?_
      rintro e w2 ⟨rfl, ⟨p2, hp2, h2⟩, t2⟩
      have P2 := Lib.hid (show p2 ≤ 4 * L by omega)
      have hp2b : p2 ≤ m4 := by rw [M4.out]; exact P2.out
      have hp2' : ¬ (m4 : Int) < (p2 : Int) := by omega
      have H2 := Lib.hid h2
      have B2 := Lib.hid (BB.out.trans t2.1)
      clear h2 t2 hp2 q0 HS BB HP
      go_wp2_with fail
      refine (q_points w.heap.size L p2 0 w2 H2.out).mono ?_
      rintro e w3 ⟨rfl, rfl⟩
      go_wp2_with fail
      refine (q_points w.heap.size L p2 0 w3 H2.out).mono ?_
      rintro e w4 ⟨rfl, rfl⟩
      go_wp2_with fail
      go_roundw
      case rel => exact ⟨i + 1, p2, by omega, by go_num, P2, H2, B2⟩
      case measure => simp [intOf]; omega
    · obtain rfl : i = n := by omega
      clear hlt
      go_wp2_with fail
      go_loopw [7, 8] (fun iv pv wk => ∃ (j q z : Nat), j ≤ m32 ∧ iv = .int .i64 (j : Nat) ∧ Hid (q = p - j / 8) ∧ Hid (z = j % 8) ∧ Hid (ScW wk w.heap.size L q z) ∧ Hid (Below w.heap.size w wk)) (fun iv _ _ => m32 - (intOf iv).toNat)
      case atStart => exact ⟨0, p, 0, Nat.zero_le _, rfl, Lib.hid (by omega), Lib.hid rfl, HS, BB⟩
      case round =>
        clear HS BB
        obtain ⟨j, q, z, hj, rfl, HQ, HZ, HS, BB⟩ := hrel
        by_cases hjl : j < m32
        · have hjl' : (j : Int) < (m32 : Int) := by omega
          go_wp2_with fail
          refine (q_points w.heap.size L q z wr HS.out).mono ?_
          rintro e w2 ⟨rfl, rfl⟩
          go_wp2_with fail
          refine (q_tick w.heap.size L q z 1 w2 HS.out (by have := HQ.out; have := HP.out; omega) (by have := HZ.out; omega) (by decide)).mono ?_
          rintro e w3 ⟨rfl, ⟨q3, z3, hq3, hz3, h3⟩, t3⟩
          rw [show clN 0 4096 1 = 1 by decide] at hq3 hz3
          have Q3 := Lib.hid (show q3 = p - (j + 1) / 8 by have := HQ.out; have := HZ.out; omega)
          have Z3 := Lib.hid (show z3 = (j + 1) % 8 by have := HZ.out; omega)
          have hle : q3 ≤ q := by omega
          have hle' : ¬ (q : Int) < (q3 : Int) := by omega
          have H3 := Lib.hid h3
          have B3 := Lib.hid (BB.out.trans t3.1)
          clear h3 t3 hq3 hz3 HS BB HQ HZ
          go_wp2_with fail
          refine (q_points w.heap.size L q3 z3 w3 H3.out).mono ?_
          rintro e w4 ⟨rfl, rfl⟩
          go_wp2_with fail
          go_roundw
          case rel => exact ⟨j + 1, q3, z3, by omega, by go_num, Q3, Z3, H3, B3⟩
          case measure => simp [intOf]; omega
        · obtain rfl : j = m32 := by omega
          obtain rfl : q = 0 := by have := HQ.out; have := HP.out; have := M32.out; omega
          clear hjl HQ
          go_wp2_with fail
          refine (q_points w.heap.size L 0 z wr HS.out).mono ?_
          rintro e w2 ⟨rfl, rfl⟩
          go_wp2_with fail
          refine (q_bad w.heap.size L 0 z w2 HS.out).mono ?_
          rintro e w3 ⟨rfl, b3⟩
          rw [decide_eq_false (by omega : ¬ L ≤ 0)]
          have B3 := Lib.hid (BB.out.trans (b3.mono BB.out.size))
          clear b3
          go_wp2_with fail
          refine (alive14 w3).mono ?_
          rintro e w9 ⟨rfl, hb9⟩
          have B9 := Lib.hid (B3.out.trans (hb9.mono B3.out.size))
          go_wp2_with fail
          go_ret
          exact ⟨rfl, B9.out⟩
end Go.Proofs.Ytaoiihfppmconaa
