/- Contracts of package pack: fields that are handed back. -/
import Derived.Test.YtpnnadnmkiobcaaG8SackBack
import Derived.Test.YtpnnadnmkiobcaaG1SackBack

namespace Go.Proofs.Ytpnnadnmkiobcaa
open Go.RowKit
set_option linter.unusedVariables false
theorem pW_any (x : Int) (w : World) (h0 : 0 ≤ x) (h : x < 4294967296) : Calls Try.prog 16 #[.int .u32 x] w fun e w' => e = .returned (.agg #[.int .i64 4, .int .u64 x]) ∧ Below w.heap.size w w' := by
  go_enter Try.func16, Try.ntmps16
  go_wp2
  exact bodyPost_ret (v := .agg #[.int .i64 4, .int .u64 x]) (by simp [results, Try.results16, go_sem]) rfl ⟨rfl, (Below.refl _ _).alloc (Nat.le_refl _) _⟩
end Go.Proofs.Ytpnnadnmkiobcaa

/- Contracts of package pack: numbers of bytes. -/
namespace Go.Proofs.Ytpnnadnmkiobcaa
open Go.RowKit
set_option linter.unusedVariables false

/-- What bytes are, the highest ahead. -/
def ub (l : List Nat) : Nat := l.foldl (fun a x => a * 256 + x) 0
theorem ub_snoc (l : List Nat) (x : Nat) : ub (l ++ [x]) = ub l * 256 + x := by simp [ub]
theorem ub_lt : ∀ (k : Nat) (l : List Nat), l.length = k → (∀ x ∈ l, x < 256) → ub l < 256 ^ k := by
  intro k
  induction k with
  | zero => intro l hl _; obtain rfl := List.eq_nil_of_length_eq_zero hl; simp [ub]
  | succ k ih =>
    intro l hl hb
    have hne : l ≠ [] := by intro h; subst h; simp at hl
    rw [← List.dropLast_concat_getLast hne, ub_snoc, Nat.pow_succ]
    have h1 := ih l.dropLast (by simp [hl]) fun x hx => hb x (List.dropLast_subset l hx)
    have h2 := hb _ (List.getLast_mem hne)
    omega
theorem ub_be (k : Nat) : ∀ n, ub (be n k) = n % 256 ^ k := by
  induction k with
  | zero => intro n; simp [be, ub, Nat.mod_one]
  | succ k ih =>
    intro n
    rw [be, ub_snoc, ih, Nat.pow_succ', Nat.mod_mul]
    omega
set_option maxRecDepth 20000 in
theorem nacc (m x : Nat) (hm : m < 256 ^ 7) (hx : x < 256) : bits .or .u64 (IntKind.u64.wrap ((m : Int) * 256)) ((x : Nat) : Int) = ((m * 256 + x : Nat) : Int) := by
  rw [show (m : Int) * 256 = ((m * 256 : Nat) : Int) from (Int.natCast_mul m 256).symm, wrap64_nat, Nat.mod_eq_of_lt (by omega), u64_or_nat _ _ (by omega) (by omega), Nat.or_comm]
  have := or_above x m 8 (by omega) (by omega)
  rw [show (2 : Nat) ^ 8 = 256 by rfl, Nat.mod_eq_of_lt (by omega), Nat.mod_eq_of_lt (by omega)] at this
  rw [this, Nat.add_comm]

set_option maxRecDepth 20000 in
theorem pnumber_any (A : Option Addr) (n c : Nat) (l : List Nat) (w : World) (hr : Rd w w.heap.size 1 A n (ns .u8 l)) (hb : ∀ x ∈ l, x < 256) (hn : n ≤ 8) :
    Calls Try.prog 39 #[.slice A n c] w fun e w' => e = .returned (.int .u64 (ub l : Nat)) ∧ w = w' := by
  have HR := Lib.hid hr; have HB := Lib.hid hb; have HL := Lib.hid hr.natLen
  clear hr hb
  go_enter Try.func39, Try.ntmps39
  go_wp2
  go_loop [3, 5, 8] (fun s _ i => ∃ k : Nat, k ≤ n ∧ i = .int .i64 k ∧ s = .int .u64 (ub (l.take k) : Nat)) (fun _ _ i => n - (intOf i).toNat)
  case atStart => exact ⟨0, Nat.zero_le _, rfl, rfl⟩
  case round =>
    obtain ⟨k, hk, rfl, rfl⟩ := hrel
    by_cases hlt : k < n
    · obtain ⟨b, off, x, rfl, hbk, hcell, hx⟩ := HR.out.nth hlt
      have hx8 := HB.out _ (nth_mem hx)
      have hlen : (l.take k).length = k := by rw [List.length_take, HL.out]; omega
      have hub := ub_lt k (l.take k) hlen fun y hy => HB.out y (List.mem_of_mem_take hy)
      have hub7 : ub (l.take k) < 256 ^ 7 := Nat.lt_of_lt_of_le hub (Nat.pow_le_pow_right (by omega) (by omega))
      have hacc := nacc (ub (l.take k)) x hub7 hx8
      have hs : ub (l.take (k + 1)) = ub (l.take k) * 256 + x := by rw [nth_take hx, ub_snoc]
      rw [← hs] at hacc
      clear hub hub7 hlen hs
      go_wp2_with fail
      go_round
      case rel => exact ⟨k + 1, by omega, by go_num, rfl⟩
      case measure => simp [intOf]; omega
    · have hk : k = n := by omega
      subst hk
      rw [List.take_of_length_le (by have := HL.out; omega)]
      go_wp2
      go_ret
      exact ⟨rfl, rfl⟩
end Go.Proofs.Ytpnnadnmkiobcaa
