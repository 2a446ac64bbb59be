/- Contracts of package replay that count; the law's example. -/
import Derived.Test.YtahdfginmkcgfaaRep
import Derived.Test.YtahdfginmkcgfaaCnt
namespace Go.Proofs.Ytahdfginmkcgfaa
open Go.RowKit
set_option linter.unusedVariables false

/-- The bits of the first k words. -/
def msum (cw : List Nat) : Nat → Nat
  | 0 => 0
  | k + 1 => msum cw k + pop (wo cw k)
theorem msum_le (cw : List Nat) (k : Nat) : msum cw k ≤ 64 * k := by
  induction k with
  | zero => simp [msum]
  | succ k ih => have := pop_le (wo cw k); simp only [msum]; omega
theorem run_idx (a b c d : Int) (w : World) (k : Nat) (hk : k < 4) : (Instr.index 45 (.agg #[.int .u64 a, .int .u64 b, .int .u64 c, .int .u64 d]) (.int .i64 (k : Int))).run Try.prog w = .ok (#[Value.int .u64 a, .int .u64 b, .int .u64 c, .int .u64 d].getD k undef) w := by
  rcases (show k = 0 ∨ k = 1 ∨ k = 2 ∨ k = 3 by omega) with rfl | rfl | rfl | rfl <;> rfl
set_option maxRecDepth 20000 in
theorem many_any (g top : Nat) (cw : List Nat) (w : World) (hw : Win w g top cw) (h4 : Ok4 cw) :
    Calls Try.prog 35 #[.pointer (some ⟨g, 0, none⟩)] w fun e w' => e = .returned (.int .i64 ((msum cw 4 : Nat) : Int)) ∧ w' = w := by
  have c0 := hw.word h4 (i := 0) (by omega)
  have c1 := hw.word h4 (i := 1) (by omega)
  have c2 := hw.word h4 (i := 2) (by omega)
  have c3 := hw.word h4 (i := 3) (by omega)
  have HW := Lib.hid hw
  have H4 := Lib.hid h4
  clear hw h4
  have k0 : w.cell? ⟨g, 1, none⟩ = some (.int .u64 ((wo cw 0 : Nat) : Int)) := c0
  have k1 : w.cell? ⟨g, 2, none⟩ = some (.int .u64 ((wo cw 1 : Nat) : Int)) := c1
  have k2 : w.cell? ⟨g, 3, none⟩ = some (.int .u64 ((wo cw 2 : Nat) : Int)) := c2
  have k3 : w.cell? ⟨g, 4, none⟩ = some (.int .u64 ((wo cw 3 : Nat) : Int)) := c3
  clear c0 c1 c2 c3
  go_enter Try.func35, Try.ntmps35
  go_wp2_with fail
  go_loopw [3, 10] (fun nv iv wr => ∃ k : Nat, k ≤ 4 ∧ iv = .int .i64 k ∧ nv = .int .i64 ((msum cw k : Nat) : Int) ∧ wr = w) (fun _ iv _ => 4 - (intOf iv).toNat)
  case atStart => exact ⟨0, by omega, rfl, rfl, rfl⟩
  case round =>
    obtain ⟨k, hk, rfl, rfl, rfl⟩ := hrel
    have hm := msum_le cw k
    have hp := pop_le (wo cw k)
    have hsum : (((msum cw k : Nat) : Int) + ((pop (wo cw k) : Nat) : Int)) = ((msum cw (k + 1) : Nat) : Int) := by simp [msum]
    rcases (show k = 4 ∨ k = 0 ∨ k = 1 ∨ k = 2 ∨ k = 3 by omega) with rfl | rfl | rfl | rfl | rfl
    · go_wp2_with fail
      go_ret
      exact ⟨rfl, rfl⟩
    · go_wp2_with fail
      have hx := run_idx ((wo cw 0 : Nat) : Int) ((wo cw 1 : Nat) : Int) ((wo cw 2 : Nat) : Int) ((wo cw 3 : Nat) : Int) wr 0 (by omega)
      simp only [Int.cast_ofNat_Int] at hx
      rw [hx]
      go_wp2_with fail
      refine (onesCount_any (wo cw 0) wr (wo_lt H4.out _)).mono ?_
      rintro e w1 ⟨rfl, rfl⟩
      go_wp2_with fail
      exact ⟨⟨1, by omega, rfl, congrArg (Value.int .i64) (by have := msum_le cw 1; unfold wrap64; omega), by trivial⟩, by simp [intOf]⟩
    · go_wp2_with fail
      have hx := run_idx ((wo cw 0 : Nat) : Int) ((wo cw 1 : Nat) : Int) ((wo cw 2 : Nat) : Int) ((wo cw 3 : Nat) : Int) wr 1 (by omega)
      simp only [Int.cast_ofNat_Int] at hx
      rw [hx]
      go_wp2_with fail
      refine (onesCount_any (wo cw 1) wr (wo_lt H4.out _)).mono ?_
      rintro e w1 ⟨rfl, rfl⟩
      go_wp2_with fail
      exact ⟨⟨2, by omega, rfl, congrArg (Value.int .i64) (by have := msum_le cw 2; unfold wrap64; omega), by trivial⟩, by simp [intOf]⟩
    · go_wp2_with fail
      have hx := run_idx ((wo cw 0 : Nat) : Int) ((wo cw 1 : Nat) : Int) ((wo cw 2 : Nat) : Int) ((wo cw 3 : Nat) : Int) wr 2 (by omega)
      simp only [Int.cast_ofNat_Int] at hx
      rw [hx]
      go_wp2_with fail
      refine (onesCount_any (wo cw 2) wr (wo_lt H4.out _)).mono ?_
      rintro e w1 ⟨rfl, rfl⟩
      go_wp2_with fail
      exact ⟨⟨3, by omega, rfl, congrArg (Value.int .i64) (by have := msum_le cw 3; unfold wrap64; omega), by trivial⟩, by simp [intOf]⟩
    · go_wp2_with fail
      have hx := run_idx ((wo cw 0 : Nat) : Int) ((wo cw 1 : Nat) : Int) ((wo cw 2 : Nat) : Int) ((wo cw 3 : Nat) : Int) wr 3 (by omega)
      simp only [Int.cast_ofNat_Int] at hx
      rw [hx]
      go_wp2_with fail
      refine (onesCount_any (wo cw 3) wr (wo_lt H4.out _)).mono ?_
      rintro e w1 ⟨rfl, rfl⟩
      go_wp2_with fail
      exact ⟨⟨4, by omega, rfl, congrArg (Value.int .i64) (by have := msum_le cw 4; unfold wrap64; omega), by trivial⟩, by simp [intOf]⟩
theorem take_win (g top n : Nat) (r cw : List Nat) (w : World) (hw : Win w g top cw) (hc : Came r top cw) (hn : n < 18446744073709551616) (ht : top < 18446744073709551616) :
    Calls Try.prog 31 #[.pointer (some ⟨g, 0, none⟩), .int .u64 n] w fun e w' => e = .returned (.bool (freshB top cw n)) ∧ Solo g w w' ∧
      ((freshB top cw n = false ∧ Win w' g top cw) ∨ (freshB top cw n = true ∧ ∃ cw', Win w' g (max top n) cw' ∧ Came (r ++ [n]) (max top n) cw')) := by
  refine (take_any g top n cw w hw hc.1 hn ht).mono ?_
  rintro e w' ⟨rfl, hs, h | ⟨h, cw', hr, hw'⟩⟩
  · exact ⟨rfl, hs, Or.inl h⟩
  · refine ⟨rfl, hs, Or.inr ⟨h, _, hw', hc.take ?_ hr⟩⟩
    rcases hc.fresh.1 h with h1 | h1
    · omega
    · omega
set_option maxRecDepth 20000 in
theorem alive41 (w : World) : Calls Try.prog 37 #[] w fun e w' => e = .returned (.bool true) ∧ Below w.heap.size w w' := by
  go_enter Try.func37, Try.ntmps37
  go_wp2_with fail
  have hw0 : Win (w.alloc (.cells #[.int .u64 0, .int .u64 0, .int .u64 0, .int .u64 0, .int .u64 0] 47)) w.heap.size 0 [0, 0, 0, 0] := Blk.new w _ _
  have hb0 : Below w.heap.size w (w.alloc (.cells #[.int .u64 0, .int .u64 0, .int .u64 0, .int .u64 0, .int .u64 0] 47)) := (Below.refl _ _).alloc (Nat.le_refl _) _
  generalize (w.alloc (.cells #[.int .u64 0, .int .u64 0, .int .u64 0, .int .u64 0, .int .u64 0] 47)) = wa at hw0 hb0 ⊢
  refine (take_win w.heap.size 0 5 [] [0, 0, 0, 0] wa hw0 Came.zero (by omega) (by omega)).mono ?_
  rintro e w1 ⟨rfl, hs1, h | ⟨h1, c1, hw1, hc1⟩⟩
  · rw [Came.zero.none] at h
    cases h.1
  rw [h1]
  have H1 := Lib.hid h1
  clear h1
  have W1 := Lib.hid hw1
  have C1 := Lib.hid hc1
  clear hw1 hc1 hw0
  go_wp2_with fail
  refine (take_win w.heap.size (max 0 5) 5 ([] ++ [5]) c1 w1 W1.out C1.out (by omega) (by omega)).mono ?_
  rintro e w2 ⟨rfl, hs2, ⟨h1, hw2⟩ | ⟨h1, _⟩⟩
  rotate_left
  · exact absurd (C1.out.fresh.1 h1) (by decide)
  rw [h1]
  have H2 := Lib.hid h1
  have W2 := Lib.hid hw2
  clear h1 hw2
  go_wp2_with fail
  refine (take_win w.heap.size (max 0 5) 300 ([] ++ [5]) c1 w2 W2.out C1.out (by omega) (by omega)).mono ?_
  rintro e w3 ⟨rfl, hs3, h | ⟨h1, c3, hw3, hc3⟩⟩
  · rw [C1.out.fresh.2 (by decide)] at h
    cases h.1
  rw [h1]
  have H3 := Lib.hid h1
  have W3 := Lib.hid hw3
  have C3 := Lib.hid hc3
  clear h1 hw3 hc3
  go_wp2_with fail
  refine (take_win w.heap.size (max (max 0 5) 300) 5 ([] ++ [5] ++ [300]) c3 w3 W3.out C3.out (by omega) (by omega)).mono ?_
  rintro e w4 ⟨rfl, hs4, ⟨h1, hw4⟩ | ⟨h1, _⟩⟩
  rotate_left
  · exact absurd (C3.out.fresh.1 h1) (by decide)
  rw [h1]
  have H4 := Lib.hid h1
  have W4 := Lib.hid hw4
  clear h1 hw4
  go_wp2_with fail
  refine (take_win w.heap.size (max (max 0 5) 300) 45 ([] ++ [5] ++ [300]) c3 w4 W4.out C3.out (by omega) (by omega)).mono ?_
  rintro e w5 ⟨rfl, hs5, h | ⟨h1, c5, hw5, hc5⟩⟩
  · rw [C3.out.fresh.2 (by decide)] at h
    cases h.1
  rw [h1]
  have H5 := Lib.hid h1
  have W5 := Lib.hid hw5
  have C5 := Lib.hid hc5
  clear h1 hw5 hc5
  go_wp2_with fail
  have hm : msum c5 4 = 2 := by
    have e : msum c5 4 = cnt (bitp c5) 256 := by
      rw [cnt_words]
      simp only [msum]
      omega
    rw [e, C5.out.count]
    decide +kernel
  refine (many_any w.heap.size _ c5 w5 W5.out C5.out.1).mono ?_
  rintro e w6 ⟨rfl, rfl⟩
  rw [hm]
  go_wp2_with fail
  go_ret
  exact ⟨rfl, hb0.trans (hs1.1.trans (hs2.1.trans (hs3.1.trans (hs4.1.trans hs5.1))))⟩
end Go.Proofs.Ytahdfginmkcgfaa
