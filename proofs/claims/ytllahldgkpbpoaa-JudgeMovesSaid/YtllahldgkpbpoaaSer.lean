/- Contracts of package serial and of its reference (without Wide). -/
import Derived.Test.YtllahldgkpbpoaaRows
import Derived.Test.YtllahldgkpbpoaaLib
namespace Go.Proofs.Ytllahldgkpbpoaa
open Go.RowKit
set_option linter.unusedVariables false

/-- How far ahead, going round. -/
def sd (a b : Int) : Int := (a - b + 2147483648) % 4294967296 - 2147483648
/-- How far one goes from a number to another one. -/
def rd (f x : Int) : Int := (x - f) % 4294967296
def U32 (a : Int) : Prop := 0 ≤ a ∧ a < 4294967296
def mx (a b : Int) : Int := if sd a b < 0 then b else a
def wi (x f s : Int) : Bool := decide (rd f x < s)
def btw (x f t : Int) : Bool := decide (0 ≤ sd t f) && decide (rd ((f + 1) % 4294967296) x < rd f t)

theorem diff_any (a b : Int) (w : World) : Calls Try.prog 27 #[.int .u32 a, .int .u32 b] w fun e w' => e = .returned (.int .i64 (sd a b)) ∧ w' = w := by
  go_enter Try.func27, Try.ntmps27
  go_wp2
  go_ret
  exact ⟨ret_int (by unfold wrap64 wrap32 sd; omega), rfl⟩
theorem rdiff_any (a b : Int) (w : World) (ha : U32 a) (hb : U32 b) : Calls Try.prog 24 #[.int .u32 a, .int .u32 b] w fun e w' => e = .returned (.int .i64 (sd a b)) ∧ w' = w := by
  obtain ⟨a0, a1⟩ := ha
  obtain ⟨b0, b1⟩ := hb
  by_cases h : a - b < -2147483648
  · go_enter Try.func24, Try.ntmps24
    go_wp2
    go_ret
    exact ⟨ret_int (by unfold sd; omega), rfl⟩
  · by_cases h2 : a - b < 2147483648
    · go_enter Try.func24, Try.ntmps24
      go_wp2
      go_ret
      exact ⟨ret_int (by unfold sd; omega), rfl⟩
    · go_enter Try.func24, Try.ntmps24
      go_wp2
      go_ret
      exact ⟨ret_int (by unfold sd; omega), rfl⟩
theorem less_any (a b : Int) (w : World) : Calls Try.prog 26 #[.int .u32 a, .int .u32 b] w fun e w' => e = .returned (.bool (decide (sd a b < 0))) ∧ w' = w := by
  go_enter Try.func26, Try.ntmps26
  go_wp2_with fail
  refine (diff_any a b w).mono ?_
  rintro e w1 ⟨rfl, rfl⟩
  go_wp2_with fail
  go_ret
  exact ⟨rfl, rfl⟩
theorem within_any (x f s : Int) (w : World) : Calls Try.prog 19 #[.int .u32 x, .int .u32 f, .int .u32 s] w fun e w' => e = .returned (.bool (wi x f s)) ∧ w' = w := by
  go_enter Try.func19, Try.ntmps19
  go_wp2_with fail
  go_ret
  exact ⟨rfl, rfl⟩
theorem near_any (x t s : Int) (w : World) : Calls Try.prog 22 #[.int .u32 x, .int .u32 t, .int .u32 s] w fun e w' => e = .returned (.bool (wi x t s || wi t x s)) ∧ w' = w := by
  go_enter Try.func22, Try.ntmps22
  go_wp2_with fail
  refine (within_any x t s w).mono ?_
  rintro e w1 ⟨rfl, rfl⟩
  cases h : wi x t s
  · go_wp2_with fail
    refine (within_any t x s w1).mono ?_
    rintro e w2 ⟨rfl, rfl⟩
    go_wp2_with fail
    go_ret
    exact ⟨ret_bool (by rw [h]; rfl), rfl⟩
  · go_wp2_with fail
    go_ret
    exact ⟨ret_bool (by rw [h]; rfl), rfl⟩
theorem between_any (x f t : Int) (w : World) : Calls Try.prog 25 #[.int .u32 x, .int .u32 f, .int .u32 t] w fun e w' => e = .returned (.bool (btw x f t)) ∧ w' = w := by
  go_enter Try.func25, Try.ntmps25
  go_wp2_with fail
  refine (less_any t f w).mono ?_
  rintro e w1 ⟨rfl, rfl⟩
  by_cases h : sd t f < 0
  · go_wp2_with fail
    go_ret
    exact ⟨ret_bool (by unfold btw; simp [show ¬ 0 ≤ sd t f by omega]), rfl⟩
  · go_wp2_with fail
    refine (within_any x ((f + 1) % 4294967296) ((t - f) % 4294967296) w1).mono ?_
    rintro e w2 ⟨rfl, rfl⟩
    go_wp2_with fail
    go_ret
    exact ⟨ret_bool (by unfold btw wi; simp [show 0 ≤ sd t f by omega, rd]), rfl⟩
theorem ahead_any (f x : Int) (w : World) (hf : U32 f) (hx : U32 x) : Calls Try.prog 20 #[.int .u32 f, .int .u32 x] w fun e w' => e = .returned (.int .i64 (rd f x)) ∧ w' = w := by
  obtain ⟨a0, a1⟩ := hf
  obtain ⟨b0, b1⟩ := hx
  by_cases h : x - f < 0
  · go_enter Try.func20, Try.ntmps20
    go_wp2
    go_ret
    exact ⟨ret_int (by unfold rd; omega), rfl⟩
  · go_enter Try.func20, Try.ntmps20
    go_wp2
    go_ret
    exact ⟨ret_int (by unfold rd; omega), rfl⟩
theorem rwithin_any (x f s : Int) (w : World) (hx : U32 x) (hf : U32 f) (hs : U32 s) : Calls Try.prog 14 #[.int .u32 x, .int .u32 f, .int .u32 s] w fun e w' => e = .returned (.bool (wi x f s)) ∧ w' = w := by
  have HS := Lib.hid hs
  go_enter Try.func14, Try.ntmps14
  go_wp2_with fail
  refine (ahead_any f x w hf hx).mono ?_
  rintro e w1 ⟨rfl, rfl⟩
  obtain ⟨s0, s1⟩ := hs
  go_wp2_with fail
  go_ret
  exact ⟨rfl, rfl⟩
theorem rbetween_any (x f t : Int) (w : World) (hx : U32 x) (hf : U32 f) (ht : U32 t) : Calls Try.prog 21 #[.int .u32 x, .int .u32 f, .int .u32 t] w fun e w' => e = .returned (.bool (btw x f t)) ∧ w' = w := by
  go_enter Try.func21, Try.ntmps21
  go_wp2_with fail
  refine (rdiff_any t f w ht hf).mono ?_
  rintro e w1 ⟨rfl, rfl⟩
  by_cases h : 0 ≤ sd t f
  · by_cases h2 : x = f
    · subst h2
      go_wp2_with fail
      go_ret
      refine ⟨ret_bool ?_, rfl⟩
      unfold btw
      have : ¬ rd ((x + 1) % 4294967296) x < rd x t := by unfold rd; omega
      simp [this]
    · go_wp2_with fail
      refine (ahead_any f x w1 hf hx).mono ?_
      rintro e w2 ⟨rfl, rfl⟩
      go_wp2_with fail
      refine (ahead_any f t w2 hf ht).mono ?_
      rintro e w3 ⟨rfl, rfl⟩
      go_wp2_with fail
      go_ret
      refine ⟨ret_bool ?_, rfl⟩
      obtain ⟨a0, a1⟩ := hx
      obtain ⟨b0, b1⟩ := hf
      obtain ⟨c0, c1⟩ := ht
      have : (rd f x ≤ rd f t) ↔ (rd ((f + 1) % 4294967296) x < rd f t) := by unfold rd; omega
      unfold btw
      simp only [h, decide_true, Bool.true_and, this, show (x != f) = true by simp [h2]]
  · go_wp2_with fail
    go_ret
    refine ⟨ret_bool ?_, rfl⟩
    unfold btw
    simp [show ¬ 0 ≤ sd t f by omega]
end Go.Proofs.Ytllahldgkpbpoaa
