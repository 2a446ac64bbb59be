/- Contracts of package sip: one round. -/
import Derived.Test.YtbiimgfocgbdaaaDoorRows
import Derived.Test.YtbiimgfocgbdaaaDoorLib
import Derived.Test.YtbiimgfocgbdaaaDoorBlkS
import Derived.Laws.BitsAll
import Derived.StillTailTactics
import Derived.RegionTactic
import Derived.ChangeAlike
namespace Go.Proofs.YtbiimgfocgbdaaaDoor
open Go.RowKit
set_option linter.unusedVariables false

def M64 : Nat := 18446744073709551616
def rotl (x k : Nat) : Nat := (x * 2 ^ k % M64) ||| (x / 2 ^ (64 - k))
def ad64 (a b : Nat) : Nat := (a + b) % M64
theorem ad64_lt (a b : Nat) : ad64 a b < 18446744073709551616 := Nat.mod_lt _ (by decide)
theorem rotl_lt (x k : Nat) (hk : k ≤ 64) (hx : x < 18446744073709551616) : rotl x k < 18446744073709551616 := by
  unfold rotl
  have h1 : x * 2 ^ k % M64 < 2 ^ 64 := Nat.mod_lt _ (by decide)
  have h2 : x / 2 ^ (64 - k) < 2 ^ 64 := Nat.lt_of_le_of_lt (Nat.div_le_self _ _) hx
  exact Nat.or_lt_two_pow h1 h2
theorem xor_lt {a b : Nat} (ha : a < 18446744073709551616) (hb : b < 18446744073709551616) : a ^^^ b < 18446744073709551616 := Nat.xor_lt_two_pow (n := 64) ha hb
theorem or_nat (a b : Nat) (ha : a < 18446744073709551616) (hb : b < 18446744073709551616) : bits .or .u64 (a : Int) (b : Int) = ((a ||| b : Nat) : Int) := u64_or_nat a b ha hb
set_option maxRecDepth 20000 in
theorem rotl13 (x : Nat) (w : World) (hx : x < 18446744073709551616) : Calls Tryd.prog 23 #[.int .u64 x, .int .i64 13] w fun e w' => e = .returned (.int .u64 ((rotl x 13 : Nat) : Int)) ∧ w' = w := by
  have h0 : bits .and .u64 13 63 = 13 := by rfl
  go_enter Tryd.func23, Tryd.ntmps23
  go_wp2
  go_ret
  refine ⟨ret_int ?_, rfl⟩
  rw [IntKind.wrap_u64]
  unfold rotl M64
  rw [← or_nat _ _ (Nat.mod_lt _ (by decide)) (Nat.lt_of_le_of_lt (Nat.div_le_self _ _) hx)]
  rfl
set_option maxRecDepth 20000 in
theorem rotl16 (x : Nat) (w : World) (hx : x < 18446744073709551616) : Calls Tryd.prog 23 #[.int .u64 x, .int .i64 16] w fun e w' => e = .returned (.int .u64 ((rotl x 16 : Nat) : Int)) ∧ w' = w := by
  have h0 : bits .and .u64 16 63 = 16 := by rfl
  go_enter Tryd.func23, Tryd.ntmps23
  go_wp2
  go_ret
  refine ⟨ret_int ?_, rfl⟩
  rw [IntKind.wrap_u64]
  unfold rotl M64
  rw [← or_nat _ _ (Nat.mod_lt _ (by decide)) (Nat.lt_of_le_of_lt (Nat.div_le_self _ _) hx)]
  rfl
set_option maxRecDepth 20000 in
theorem rotl17 (x : Nat) (w : World) (hx : x < 18446744073709551616) : Calls Tryd.prog 23 #[.int .u64 x, .int .i64 17] w fun e w' => e = .returned (.int .u64 ((rotl x 17 : Nat) : Int)) ∧ w' = w := by
  have h0 : bits .and .u64 17 63 = 17 := by rfl
  go_enter Tryd.func23, Tryd.ntmps23
  go_wp2
  go_ret
  refine ⟨ret_int ?_, rfl⟩
  rw [IntKind.wrap_u64]
  unfold rotl M64
  rw [← or_nat _ _ (Nat.mod_lt _ (by decide)) (Nat.lt_of_le_of_lt (Nat.div_le_self _ _) hx)]
  rfl
set_option maxRecDepth 20000 in
theorem rotl21 (x : Nat) (w : World) (hx : x < 18446744073709551616) : Calls Tryd.prog 23 #[.int .u64 x, .int .i64 21] w fun e w' => e = .returned (.int .u64 ((rotl x 21 : Nat) : Int)) ∧ w' = w := by
  have h0 : bits .and .u64 21 63 = 21 := by rfl
  go_enter Tryd.func23, Tryd.ntmps23
  go_wp2
  go_ret
  refine ⟨ret_int ?_, rfl⟩
  rw [IntKind.wrap_u64]
  unfold rotl M64
  rw [← or_nat _ _ (Nat.mod_lt _ (by decide)) (Nat.lt_of_le_of_lt (Nat.div_le_self _ _) hx)]
  rfl
set_option maxRecDepth 20000 in
theorem rotl32 (x : Nat) (w : World) (hx : x < 18446744073709551616) : Calls Tryd.prog 23 #[.int .u64 x, .int .i64 32] w fun e w' => e = .returned (.int .u64 ((rotl x 32 : Nat) : Int)) ∧ w' = w := by
  have h0 : bits .and .u64 32 63 = 32 := by rfl
  go_enter Tryd.func23, Tryd.ntmps23
  go_wp2
  go_ret
  refine ⟨ret_int ?_, rfl⟩
  rw [IntKind.wrap_u64]
  unfold rotl M64
  rw [← or_nat _ _ (Nat.mod_lt _ (by decide)) (Nat.lt_of_le_of_lt (Nat.div_le_self _ _) hx)]
  rfl
end Go.Proofs.YtbiimgfocgbdaaaDoor
