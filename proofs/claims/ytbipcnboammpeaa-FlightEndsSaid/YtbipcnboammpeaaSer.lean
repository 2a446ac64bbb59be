/- Contracts of package serial and of its reference (without Wide). -/
import Derived.Test.YtbipcnboammpeaaRows
import Derived.Test.YtbipcnboammpeaaLib
namespace Go.Proofs.Ytbipcnboammpeaa
open Go.RowKit
set_option linter.unusedVariables false

/-- How far ahead, going round. -/
def sd (a b : Int) : Int := (a - b + 2147483648) % 4294967296 - 2147483648
/-- How far one goes from a number to another one. -/
def rd (f x : Int) : Int := (x - f) % 4294967296
def U32 (a : Int) : Prop := 0 ≤ a ∧ a < 4294967296
def mx (a b : Int) : Int := if sd a b < 0 then b else a
def wi (x f s : Int) : Bool := decide (rd f x < s)
def btw (x f t : Int) : Bool := decide (0 ≤ sd t f) && decide (rd ((f + 1) % 4294967296) x < rd f t)

theorem diff_any (a b : Int) (w : World) : Calls Try.prog 44 #[.int .u32 a, .int .u32 b] w fun e w' => e = .returned (.int .i64 (sd a b)) ∧ w' = w := by
  go_enter Try.func44, Try.ntmps44
  go_wp2
  go_ret
  exact ⟨ret_int (by unfold wrap64 wrap32 sd; omega), rfl⟩
theorem rdiff_any (a b : Int) (w : World) (ha : U32 a) (hb : U32 b) : Calls Try.prog 37 #[.int .u32 a, .int .u32 b] w fun e w' => e = .returned (.int .i64 (sd a b)) ∧ w' = w := by
  obtain ⟨a0, a1⟩ := ha
  obtain ⟨b0, b1⟩ := hb
  by_cases h : a - b < -2147483648
  · go_enter Try.func37, Try.ntmps37
    go_wp2
    go_ret
    exact ⟨ret_int (by unfold sd; omega), rfl⟩
  · by_cases h2 : a - b < 2147483648
    · go_enter Try.func37, Try.ntmps37
      go_wp2
      go_ret
      exact ⟨ret_int (by unfold sd; omega), rfl⟩
    · go_enter Try.func37, Try.ntmps37
      go_wp2
      go_ret
      exact ⟨ret_int (by unfold sd; omega), rfl⟩
theorem less_any (a b : Int) (w : World) : Calls Try.prog 39 #[.int .u32 a, .int .u32 b] w fun e w' => e = .returned (.bool (decide (sd a b < 0))) ∧ w' = w := by
  go_enter Try.func39, Try.ntmps39
  go_wp2_with fail
  refine (diff_any a b w).mono ?_
  rintro e w1 ⟨rfl, rfl⟩
  go_wp2_with fail
  go_ret
  exact ⟨rfl, rfl⟩
end Go.Proofs.Ytbipcnboammpeaa
