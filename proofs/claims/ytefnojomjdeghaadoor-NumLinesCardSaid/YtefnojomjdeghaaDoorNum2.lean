/- Package num: the digits' values. -/
import Derived.Test.YtefnojomjdeghaaDoorNum
namespace Go.Proofs.YtefnojomjdeghaaDoor
open Go.RowKit
set_option linter.unusedVariables false

/-- Whether it is a digit, and what it stands for. -/
def hok (c : Nat) : Bool := decide (48 ≤ c ∧ c ≤ 57 ∨ 97 ≤ c ∧ c ≤ 102)
def hd (c : Nat) : Nat := if c ≤ 57 then c - 48 else c - 87
theorem hd_lt {c : Nat} (h : hok c = true) : hd c < 16 := by
  simp only [hok, decide_eq_true_eq] at h
  unfold hd; split <;> omega

set_option maxRecDepth 20000 in
theorem digit_any (r : Nat) (w : World) (hr : r < 2147483648) :
    Calls Tryd.prog 21 #[.int .i32 (r : Int)] w fun e w' => e = .returned (.tuple #[.int .u8 ((if hok r then hd r else 0 : Nat) : Int), .bool (hok r)]) ∧ w' = w := by
  rcases (show r < 48 ∨ (48 ≤ r ∧ r ≤ 57) ∨ (57 < r ∧ r < 97) ∨ (97 ≤ r ∧ r ≤ 102) ∨ 102 < r by omega) with h | ⟨h, h'⟩ | ⟨h, h'⟩ | ⟨h, h'⟩ | h
  · have e1 : hok r = false := by simp only [hok, decide_eq_false_iff_not]; omega
    rw [e1]
    go_enter Tryd.func21, Tryd.ntmps21
    go_wp2_with fail
    go_ret2
    exact ⟨rfl, rfl⟩
  · have e1 : hok r = true := by simp only [hok, decide_eq_true_eq]; omega
    have e2 : hd r = r - 48 := by unfold hd; rw [if_pos h']
    rw [e1, e2]
    go_enter Tryd.func21, Tryd.ntmps21
    go_wp2_with fail
    go_ret2
    refine ⟨?_, rfl⟩
    exact congrArg (fun z : Int => Ending.returned (.tuple #[.int .u8 z, .bool true])) (show (r : Int) - 48 = ((r - 48 : Nat) : Int) by omega)
  · have e1 : hok r = false := by simp only [hok, decide_eq_false_iff_not]; omega
    rw [e1]
    go_enter Tryd.func21, Tryd.ntmps21
    go_wp2_with fail
    go_ret2
    exact ⟨rfl, rfl⟩
  · have e1 : hok r = true := by simp only [hok, decide_eq_true_eq]; omega
    have e2 : hd r = r - 87 := by unfold hd; rw [if_neg (by omega)]
    rw [e1, e2]
    go_enter Tryd.func21, Tryd.ntmps21
    go_wp2_with fail
    go_ret2
    refine ⟨?_, rfl⟩
    exact congrArg (fun z : Int => Ending.returned (.tuple #[.int .u8 z, .bool true])) (show (r : Int) - 97 + 10 = ((r - 87 : Nat) : Int) by omega)
  · have e1 : hok r = false := by simp only [hok, decide_eq_false_iff_not]; omega
    rw [e1]
    go_enter Tryd.func21, Tryd.ntmps21
    go_wp2_with fail
    go_ret2
    exact ⟨rfl, rfl⟩

set_option maxRecDepth 20000 in
theorem rdigit_any (r : Nat) (w : World) (hr : r < 256) :
    Calls Tryd.prog 22 #[.int .u8 (r : Int)] w fun e w' => e = .returned (.int .i64 (if hok r then ((hd r : Nat) : Int) else -1)) ∧ w' = w := by
  rcases (show r < 48 ∨ (48 ≤ r ∧ r ≤ 57) ∨ (57 < r ∧ r < 97) ∨ (97 ≤ r ∧ r ≤ 102) ∨ 102 < r by omega) with h | ⟨h, h'⟩ | ⟨h, h'⟩ | ⟨h, h'⟩ | h
  · have e1 : hok r = false := by simp only [hok, decide_eq_false_iff_not]; omega
    rw [e1]
    go_enter Tryd.func22, Tryd.ntmps22
    go_wp2_with fail
    go_ret
    exact ⟨rfl, rfl⟩
  · have e1 : hok r = true := by simp only [hok, decide_eq_true_eq]; omega
    have e2 : hd r = r - 48 := by unfold hd; rw [if_pos h']
    rw [e1, e2]
    go_enter Tryd.func22, Tryd.ntmps22
    go_wp2_with fail
    go_ret
    exact ⟨ret_int (by omega), rfl⟩
  · have e1 : hok r = false := by simp only [hok, decide_eq_false_iff_not]; omega
    rw [e1]
    go_enter Tryd.func22, Tryd.ntmps22
    go_wp2_with fail
    go_ret
    exact ⟨rfl, rfl⟩
  · have e1 : hok r = true := by simp only [hok, decide_eq_true_eq]; omega
    have e2 : hd r = r - 87 := by unfold hd; rw [if_neg (by omega)]
    rw [e1, e2]
    go_enter Tryd.func22, Tryd.ntmps22
    go_wp2_with fail
    go_ret
    exact ⟨ret_int (by omega), rfl⟩
  · have e1 : hok r = false := by simp only [hok, decide_eq_false_iff_not]; omega
    rw [e1]
    go_enter Tryd.func22, Tryd.ntmps22
    go_wp2_with fail
    go_ret
    exact ⟨rfl, rfl⟩
end Go.Proofs.YtefnojomjdeghaaDoor
