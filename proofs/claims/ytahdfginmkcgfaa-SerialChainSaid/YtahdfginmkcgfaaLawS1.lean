/- Layer 4: the laws SerialOrders, SerialWide, SerialMoves, SerialHome answer true, and nothing that was there has turned. -/
import Derived.Test.YtahdfginmkcgfaaSer2
import Derived.Test.YtahdfginmkcgfaaOpen
namespace Go.Proofs.Ytahdfginmkcgfaa
open Go.RowKit Go.ChangeShapes Go.WideShapes Go.ChangeAt
set_option linter.unusedVariables false

theorem alive04 (w : World) : Calls Try.prog 26 #[] w fun e w' => e = .returned (.bool true) ∧ w' = w := by
  go_enter Try.func26, Try.ntmps26
  go_wp2_with fail
  refine (less_any 4294967295 0 w).mono ?_
  rintro e w1 ⟨rfl, rfl⟩
  rw [show decide (sd 4294967295 0 < 0) = true by decide +kernel]
  go_wp2_with fail
  refine (less_any 0 4294967295 w1).mono ?_
  rintro e w2 ⟨rfl, rfl⟩
  rw [show decide (sd 0 4294967295 < 0) = false by decide +kernel]
  go_wp2_with fail
  refine (wide_any 4294967296 4294967295 w2 (by unfold U64; omega) (by unfold U32; omega)).mono ?_
  rintro e w3 ⟨rfl, rfl⟩
  rw [show wd 4294967296 4294967295 = 4294967295 by decide +kernel]
  go_wp2_with fail
  refine (max_any 3 5 w3).mono ?_
  rintro e w4 ⟨rfl, rfl⟩
  rw [show mx 3 5 = 5 by decide +kernel]
  go_wp2_with fail
  refine (between_any 2 1 2 w4).mono ?_
  rintro e w5 ⟨rfl, rfl⟩
  rw [show btw 2 1 2 = true by decide +kernel]
  go_wp2_with fail
  go_ret
  exact ⟨rfl, rfl⟩

theorem serialWide_walk (n l : Int) (w : World) (hn : (Lit.int .u64 n).wf = true) (hl : (Lit.int .u32 l).wf = true) :
    Calls Try.prog 6 #[.int .u64 n, .int .u32 l] w fun e w' => e = .returned (.bool true) ∧ Below w.heap.size w w' := by
  have hn : U64 n := by have := bounds_u64 hn; unfold U64; omega
  have hl : U32 l := by have := bounds_u32 hl; unfold U32; omega
  go_enter Try.func6, Try.ntmps6
  go_wp2_with fail
  refine (wide_any n l w hn hl).mono ?_
  rintro e w1 ⟨rfl, rfl⟩
  have hw : wd n l % 4294967296 = l := by
    obtain ⟨l0, l1⟩ := hl
    unfold wd
    (repeat' split) <;> omega
  go_wp2_with fail
  refine (rwide_any n l w1 hn hl).mono ?_
  rintro e w2 ⟨rfl, rfl⟩
  go_wp2_with fail
  refine (alive04 w2).mono ?_
  rintro e w3 ⟨rfl, rfl⟩
  go_wp2_with fail
  go_ret
  exact ⟨rfl, Below.refl _ _⟩

theorem wd_home (x o : Int) (hx : U64 x) (h1 : o < 2147483648) (h2 : -2147483648 < o) (h3 : 0 ≤ x + o) (h4 : x + o < 18446744073709551616) : wd (x + o) (x % 4294967296) = x := by
  obtain ⟨x0, x1⟩ := hx
  unfold wd
  (repeat' split) <;> omega
set_option maxRecDepth 20000 in
theorem serialHome_walk (x o : Int) (w : World) (hn : (Lit.int .u64 x).wf = true) (hl : (Lit.int .i64 o).wf = true) :
    Calls Try.prog 8 #[.int .u64 x, .int .i64 o] w fun e w' => e = .returned (.bool true) ∧ Below w.heap.size w w' := by
  have hx := bounds_u64 hn
  have ho := bounds_i64 hl
  clear hn hl
  by_cases h1 : 2147483648 ≤ o
  · go_enter Try.func8, Try.ntmps8
    go_wp2_with fail
    go_ret
    exact ⟨rfl, Below.refl _ _⟩
  by_cases h2 : o ≤ -2147483648
  · go_enter Try.func8, Try.ntmps8
    go_wp2_with fail
    go_ret
    exact ⟨rfl, Below.refl _ _⟩
  have core : ∀ y, y = x + o → 0 ≤ y → y < 18446744073709551616 → wd y (x % 4294967296) = x := fun y hy h3 h4 => by
    subst hy
    exact wd_home x o ⟨hx.1, by omega⟩ (by omega) (by omega) h3 h4
  have HC := Lib.hid core
  clear core
  by_cases h3 : o < 0
  · by_cases h4 : x < -o
    · go_enter Try.func8, Try.ntmps8
      go_wp2_with fail
      go_ret
      exact ⟨rfl, Below.refl _ _⟩
    · go_enter Try.func8, Try.ntmps8
      go_wp2_with fail
      rw [show IntKind.u64.wrap (x + IntKind.u64.wrap o) = x + o by simp only [IntKind.wrap_u64]; omega]
      go_wp2_with fail
      refine (wide_any (x + o) (x % 4294967296) w ⟨by omega, by omega⟩ ⟨by omega, by omega⟩).mono ?_
      rintro e w1 ⟨rfl, rfl⟩
      rw [HC.out (x + o) (by omega) (by omega) (by omega)]
      go_wp2_with fail
      refine (alive04 w1).mono ?_
      rintro e w3 ⟨rfl, rfl⟩
      go_wp2_with fail
      go_ret
      exact ⟨rfl, Below.refl _ _⟩
  · by_cases h4 : o = 0
    · subst h4
      go_enter Try.func8, Try.ntmps8
      go_wp2_with fail
      refine (wide_any (x) (x % 4294967296) w ⟨by omega, by omega⟩ ⟨by omega, by omega⟩).mono ?_
      rintro e w1 ⟨rfl, rfl⟩
      rw [HC.out (x) (by omega) (by omega) (by omega)]
      go_wp2_with fail
      refine (alive04 w1).mono ?_
      rintro e w3 ⟨rfl, rfl⟩
      go_wp2_with fail
      go_ret
      exact ⟨rfl, Below.refl _ _⟩
    · have h5 : 0 < o := by omega
      by_cases h6 : x + o < 18446744073709551616
      · go_enter Try.func8, Try.ntmps8
        go_wp2_with fail
        go_wp2_with fail
        refine (wide_any (x + o) (x % 4294967296) w ⟨by omega, by omega⟩ ⟨by omega, by omega⟩).mono ?_
        rintro e w1 ⟨rfl, rfl⟩
        rw [HC.out (x + o) (by omega) (by omega) (by omega)]
        go_wp2_with fail
        refine (alive04 w1).mono ?_
        rintro e w3 ⟨rfl, rfl⟩
        go_wp2_with fail
        go_ret
        exact ⟨rfl, Below.refl _ _⟩
      · have h7 : IntKind.u64.wrap (x + o) < x := by rw [IntKind.wrap_u64]; omega
        go_enter Try.func8, Try.ntmps8
        go_wp2_with fail
        go_ret
        exact ⟨rfl, Below.refl _ _⟩

set_option maxRecDepth 20000 in
theorem serialOrders_walk (a b c : Int) (w : World) (ha : (Lit.int .u32 a).wf = true) (hb : (Lit.int .u32 b).wf = true) (hc : (Lit.int .u32 c).wf = true) :
    Calls Try.prog 5 #[.int .u32 a, .int .u32 b, .int .u32 c] w fun e w' => e = .returned (.bool true) ∧ Below w.heap.size w w' := by
  have ha : U32 a := by have := bounds_u32 ha; unfold U32; omega
  have hb : U32 b := by have := bounds_u32 hb; unfold U32; omega
  have hc : U32 c := by have := bounds_u32 hc; unfold U32; omega
  go_enter Try.func5, Try.ntmps5
  go_wp2_with fail
  refine (rdiff_any a b w ha hb).mono ?_
  rintro e w1 ⟨rfl, rfl⟩
  by_cases h : sd a b < 0
  · have HM := Lib.hid (show mx a b = b by unfold mx; rw [if_pos h])
    go_wp2_with fail
    refine (rwithin_any a b c w1 ha hb hc).mono ?_
    rintro e w2 ⟨rfl, rfl⟩
    cases hw : wi a b c
    · go_wp2_with fail
      refine (rwithin_any b a c w2 hb ha hc).mono ?_
      rintro e w3 ⟨rfl, rfl⟩
      go_wp2_with fail
      refine (diff_any a b w3 ).mono ?_
      rintro e w4 ⟨rfl, rfl⟩
      go_wp2_with fail
      refine (less_any a b w4 ).mono ?_
      rintro e w5 ⟨rfl, rfl⟩
      go_wp2_with fail
      refine (max_any a b w5 ).mono ?_
      rintro e w6 ⟨rfl, rfl⟩
      rw [HM.out]
      go_wp2_with fail
      refine (within_any a b c w6 ).mono ?_
      rintro e w7 ⟨rfl, rfl⟩
      go_wp2_with fail
      refine (rwithin_any a b c w7 ha hb hc ).mono ?_
      rintro e w8 ⟨rfl, rfl⟩
      go_wp2_with fail
      refine (near_any a b c w8 ).mono ?_
      rintro e w9 ⟨rfl, rfl⟩
      rw [hw, Bool.false_or]
      go_wp2_with fail
      refine (between_any a b c w9 ).mono ?_
      rintro e w10 ⟨rfl, rfl⟩
      go_wp2_with fail
      refine (rbetween_any a b c w10 ha hb hc ).mono ?_
      rintro e w11 ⟨rfl, rfl⟩
      go_wp2_with fail
      refine (alive04 w11 ).mono ?_
      rintro e w12 ⟨rfl, rfl⟩
      go_wp2_with fail
      go_ret
      exact ⟨rfl, Below.refl _ _⟩
    · go_wp2_with fail
      refine (diff_any a b w2 ).mono ?_
      rintro e w3 ⟨rfl, rfl⟩
      go_wp2_with fail
      refine (less_any a b w3 ).mono ?_
      rintro e w4 ⟨rfl, rfl⟩
      go_wp2_with fail
      refine (max_any a b w4 ).mono ?_
      rintro e w5 ⟨rfl, rfl⟩
      rw [HM.out]
      go_wp2_with fail
      refine (within_any a b c w5 ).mono ?_
      rintro e w6 ⟨rfl, rfl⟩
      go_wp2_with fail
      refine (rwithin_any a b c w6 ha hb hc ).mono ?_
      rintro e w7 ⟨rfl, rfl⟩
      go_wp2_with fail
      refine (near_any a b c w7 ).mono ?_
      rintro e w8 ⟨rfl, rfl⟩
      go_wp2_with fail
      refine (between_any a b c w8 ).mono ?_
      rintro e w9 ⟨rfl, rfl⟩
      go_wp2_with fail
      refine (rbetween_any a b c w9 ha hb hc ).mono ?_
      rintro e w10 ⟨rfl, rfl⟩
      go_wp2_with fail
      refine (alive04 w10 ).mono ?_
      rintro e w11 ⟨rfl, rfl⟩
      go_wp2_with fail
      go_ret
      exact ⟨rfl, Below.refl _ _⟩
  · have HM := Lib.hid (show mx a b = a by unfold mx; rw [if_neg h])
    go_wp2_with fail
    refine (rwithin_any a b c w1 ha hb hc).mono ?_
    rintro e w2 ⟨rfl, rfl⟩
    cases hw : wi a b c
    · go_wp2_with fail
      refine (rwithin_any b a c w2 hb ha hc).mono ?_
      rintro e w3 ⟨rfl, rfl⟩
      go_wp2_with fail
      refine (diff_any a b w3 ).mono ?_
      rintro e w4 ⟨rfl, rfl⟩
      go_wp2_with fail
      refine (less_any a b w4 ).mono ?_
      rintro e w5 ⟨rfl, rfl⟩
      go_wp2_with fail
      refine (max_any a b w5 ).mono ?_
      rintro e w6 ⟨rfl, rfl⟩
      rw [HM.out]
      go_wp2_with fail
      refine (within_any a b c w6 ).mono ?_
      rintro e w7 ⟨rfl, rfl⟩
      go_wp2_with fail
      refine (rwithin_any a b c w7 ha hb hc ).mono ?_
      rintro e w8 ⟨rfl, rfl⟩
      go_wp2_with fail
      refine (near_any a b c w8 ).mono ?_
      rintro e w9 ⟨rfl, rfl⟩
      rw [hw, Bool.false_or]
      go_wp2_with fail
      refine (between_any a b c w9 ).mono ?_
      rintro e w10 ⟨rfl, rfl⟩
      go_wp2_with fail
      refine (rbetween_any a b c w10 ha hb hc ).mono ?_
      rintro e w11 ⟨rfl, rfl⟩
      go_wp2_with fail
      refine (alive04 w11 ).mono ?_
      rintro e w12 ⟨rfl, rfl⟩
      go_wp2_with fail
      go_ret
      exact ⟨rfl, Below.refl _ _⟩
    · go_wp2_with fail
      refine (diff_any a b w2 ).mono ?_
      rintro e w3 ⟨rfl, rfl⟩
      go_wp2_with fail
      refine (less_any a b w3 ).mono ?_
      rintro e w4 ⟨rfl, rfl⟩
      go_wp2_with fail
      refine (max_any a b w4 ).mono ?_
      rintro e w5 ⟨rfl, rfl⟩
      rw [HM.out]
      go_wp2_with fail
      refine (within_any a b c w5 ).mono ?_
      rintro e w6 ⟨rfl, rfl⟩
      go_wp2_with fail
      refine (rwithin_any a b c w6 ha hb hc ).mono ?_
      rintro e w7 ⟨rfl, rfl⟩
      go_wp2_with fail
      refine (near_any a b c w7 ).mono ?_
      rintro e w8 ⟨rfl, rfl⟩
      go_wp2_with fail
      refine (between_any a b c w8 ).mono ?_
      rintro e w9 ⟨rfl, rfl⟩
      go_wp2_with fail
      refine (rbetween_any a b c w9 ha hb hc ).mono ?_
      rintro e w10 ⟨rfl, rfl⟩
      go_wp2_with fail
      refine (alive04 w10 ).mono ?_
      rintro e w11 ⟨rfl, rfl⟩
      go_wp2_with fail
      go_ret
      exact ⟨rfl, Below.refl _ _⟩

theorem sd_move (a b y : Int) : sd ((a + y) % 4294967296) ((b + y) % 4294967296) = sd a b := by unfold sd; omega
theorem wi_move (a b y s : Int) : wi ((a + y) % 4294967296) ((b + y) % 4294967296) s = wi a b s := by
  have : rd ((b + y) % 4294967296) ((a + y) % 4294967296) = rd b a := by unfold rd; omega
  unfold wi
  rw [this]
theorem mx_move (a b y : Int) : mx ((a + y) % 4294967296) ((b + y) % 4294967296) = (mx a b + y) % 4294967296 := by
  unfold mx
  rw [sd_move]
  split <;> rfl
set_option maxRecDepth 20000 in
set_option maxHeartbeats 1000000 in
theorem serialMoves_walk (a b y : Int) (w : World) (ha : (Lit.int .u32 a).wf = true) (hb : (Lit.int .u32 b).wf = true) (hc : (Lit.int .u32 y).wf = true) :
    Calls Try.prog 7 #[.int .u32 a, .int .u32 b, .int .u32 y] w fun e w' => e = .returned (.bool true) ∧ Below w.heap.size w w' := by
  have ha := bounds_u32 ha
  have hb := bounds_u32 hb
  have hc := bounds_u32 hc
  have hs : (-2147483648 ≤ sd a b ∧ sd a b < 2147483648) ∧ (-2147483648 ≤ sd b a ∧ sd b a < 2147483648) := by unfold sd; omega
  have hd : sd a b = - sd b a ∨ (a - b) % 4294967296 = 2147483648 := by unfold sd; omega
  have HD := Lib.hid hd
  clear hd
  go_enter Try.func7, Try.ntmps7
  go_wp2_with fail
  refine (diff_any ((a + y) % 4294967296) ((b + y) % 4294967296) w).mono ?_
  rintro e w1 ⟨rfl, rfl⟩
  rw [sd_move]
  go_wp2_with fail
  refine (diff_any a b w1).mono ?_
  rintro e w2 ⟨rfl, rfl⟩
  go_wp2_with fail
  refine (less_any ((a + y) % 4294967296) ((b + y) % 4294967296) w2).mono ?_
  rintro e w3 ⟨rfl, rfl⟩
  rw [sd_move]
  go_wp2_with fail
  refine (less_any a b w3).mono ?_
  rintro e w4 ⟨rfl, rfl⟩
  go_wp2_with fail
  refine (max_any ((a + y) % 4294967296) ((b + y) % 4294967296) w4).mono ?_
  rintro e w5 ⟨rfl, rfl⟩
  rw [mx_move]
  go_wp2_with fail
  refine (max_any a b w5).mono ?_
  rintro e w6 ⟨rfl, rfl⟩
  go_wp2_with fail
  refine (within_any ((a + y) % 4294967296) ((b + y) % 4294967296) 1000 w6).mono ?_
  rintro e w7 ⟨rfl, rfl⟩
  rw [wi_move]
  go_wp2_with fail
  refine (within_any a b 1000 w7).mono ?_
  rintro e w8 ⟨rfl, rfl⟩
  go_wp2_with fail
  refine (diff_any a b w8).mono ?_
  rintro e w9 ⟨rfl, rfl⟩
  go_wp2_with fail
  refine (diff_any b a w9).mono ?_
  rintro e w10 ⟨rfl, rfl⟩
  by_cases he : sd a b = - sd b a
  · go_wp2_with fail
    refine (alive04 w10).mono ?_
    rintro e w11 ⟨rfl, rfl⟩
    go_wp2_with fail
    go_ret
    exact ⟨rfl, Below.refl _ _⟩
  · have h2 : (a - b) % 4294967296 = 2147483648 := by
      rcases HD.out with h | h
      · exact absurd h he
      · exact h
    go_wp2_with fail
    refine (alive04 w10).mono ?_
    rintro e w11 ⟨rfl, rfl⟩
    go_wp2_with fail
    go_ret
    exact ⟨rfl, Below.refl _ _⟩
end Go.Proofs.Ytahdfginmkcgfaa
