/- Contracts of package serial and of its reference (without Wide). -/
import Derived.Test.YtpnnadnmkiobcaaRows
import Derived.Test.YtpnnadnmkiobcaaLib

namespace Go.Proofs.Ytpnnadnmkiobcaa
open Go.RowKit
set_option linter.unusedVariables false

/-- How far ahead, going round. -/
def sd (a b : Int) : Int := (a - b + 2147483648) % 4294967296 - 2147483648
/-- How far one goes from a number to another one. -/
def rd (f x : Int) : Int := (x - f) % 4294967296
def U32 (a : Int) : Prop := 0 ≤ a ∧ a < 4294967296
def mx (a b : Int) : Int := if sd a b < 0 then b else a
def wi (x f s : Int) : Bool := decide (rd f x < s)
def btw (x f t : Int) : Bool := decide (0 ≤ sd t f) && decide (rd ((f + 1) % 4294967296) x < rd f t)

theorem diff_any (a b : Int) (w : World) : Calls Try.prog 34 #[.int .u32 a, .int .u32 b] w fun e w' => e = .returned (.int .i64 (sd a b)) ∧ w' = w := by
  go_enter Try.func34, Try.ntmps34
  go_wp2
  go_ret
  exact ⟨ret_int (by unfold wrap64 wrap32 sd; omega), rfl⟩
theorem rdiff_any (a b : Int) (w : World) (ha : U32 a) (hb : U32 b) : Calls Try.prog 23 #[.int .u32 a, .int .u32 b] w fun e w' => e = .returned (.int .i64 (sd a b)) ∧ w' = w := by
  obtain ⟨a0, a1⟩ := ha
  obtain ⟨b0, b1⟩ := hb
  by_cases h : a - b < -2147483648
  · go_enter Try.func23, Try.ntmps23
    go_wp2
    go_ret
    exact ⟨ret_int (by unfold sd; omega), rfl⟩
  · by_cases h2 : a - b < 2147483648
    · go_enter Try.func23, Try.ntmps23
      go_wp2
      go_ret
      exact ⟨ret_int (by unfold sd; omega), rfl⟩
    · go_enter Try.func23, Try.ntmps23
      go_wp2
      go_ret
      exact ⟨ret_int (by unfold sd; omega), rfl⟩
theorem less_any (a b : Int) (w : World) : Calls Try.prog 46 #[.int .u32 a, .int .u32 b] w fun e w' => e = .returned (.bool (decide (sd a b < 0))) ∧ w' = w := by
  go_enter Try.func46, Try.ntmps46
  go_wp2_with fail
  refine (diff_any a b w).mono ?_
  rintro e w1 ⟨rfl, rfl⟩
  go_wp2_with fail
  go_ret
  exact ⟨rfl, rfl⟩
theorem max_any (a b : Int) (w : World) : Calls Try.prog 37 #[.int .u32 a, .int .u32 b] w fun e w' => e = .returned (.int .u32 (mx a b)) ∧ w' = w := by
  go_enter Try.func37, Try.ntmps37
  go_wp2_with fail
  refine (less_any a b w).mono ?_
  rintro e w1 ⟨rfl, rfl⟩
  by_cases h : sd a b < 0
  · go_wp2_with fail
    go_ret
    exact ⟨ret_int (by unfold mx; rw [if_pos h]), rfl⟩
  · go_wp2_with fail
    go_ret
    exact ⟨ret_int (by unfold mx; rw [if_neg (by omega)]), rfl⟩
theorem within_any (x f s : Int) (w : World) : Calls Try.prog 42 #[.int .u32 x, .int .u32 f, .int .u32 s] w fun e w' => e = .returned (.bool (wi x f s)) ∧ w' = w := by
  go_enter Try.func42, Try.ntmps42
  go_wp2_with fail
  go_ret
  exact ⟨rfl, rfl⟩
theorem near_any (x t s : Int) (w : World) : Calls Try.prog 35 #[.int .u32 x, .int .u32 t, .int .u32 s] w fun e w' => e = .returned (.bool (wi x t s || wi t x s)) ∧ w' = w := by
  go_enter Try.func35, Try.ntmps35
  go_wp2_with fail
  refine (within_any x t s w).mono ?_
  rintro e w1 ⟨rfl, rfl⟩
  cases h : wi x t s
  · go_wp2_with fail
    refine (within_any t x s w1).mono ?_
    rintro e w2 ⟨rfl, rfl⟩
    go_wp2_with fail
    go_ret
    exact ⟨ret_bool (by rw [h]; rfl), rfl⟩
  · go_wp2_with fail
    go_ret
    exact ⟨ret_bool (by rw [h]; rfl), rfl⟩
end Go.Proofs.Ytpnnadnmkiobcaa

/- A cell of a block is written. No program. -/
namespace Go.Proofs.Ytpnnadnmkiobcaa
open Go.RowKit
theorem Blk.set {w : World} {g : Nat} {t : TypeId} {cs : Array Value} (h : Blk w g t cs) (i : Nat) (v : Value) : Blk (w.setCell ⟨g, i, none⟩ v) g t (cs.setIfInBounds i v) := by
  have hl := h.lt
  unfold Blk at h ⊢
  have h' : w.heap[g] = .cells cs t := by simpa [Array.getElem?_eq_getElem hl] using h
  show (w.heap.modify g _)[g]? = _
  rw [Array.getElem?_eq_getElem (by simpa using hl), Array.getElem_modify_self, h']
  rfl
/-- Nothing has turned but this block. -/
def Solo (g : Nat) (w w' : World) : Prop := Below g w w' ∧ w'.heap.size = w.heap.size ∧ ∀ k, k ≠ g → w'.heap[k]? = w.heap[k]?
section
variable {g : Nat} {w w' w2 : World}
theorem Solo.refl : Solo g w w := ⟨Below.refl _ _, rfl, fun _ _ => rfl⟩
theorem Solo.trans (h : Solo g w w') (k : Solo g w' w2) : Solo g w w2 := ⟨h.1.trans k.1, k.2.1.trans h.2.1, fun i hi => (k.2.2 i hi).trans (h.2.2 i hi)⟩
theorem Solo.drew (h : Solo g w w') : Solo g w w'.drew := ⟨h.1.drew, h.2.1, h.2.2⟩
theorem Solo.setCell (h : Solo g w w') (o : Nat) (v : Value) : Solo g w (w'.setCell ⟨g, o, none⟩ v) :=
  ⟨h.1.setCell (Nat.le_refl _) v, by rw [← h.2.1]; simp [World.setCell], fun k hk => (Below.heap_setCell w' ⟨g, o, none⟩ v k hk).trans (h.2.2 k hk)⟩
theorem Solo.blk {k : Nat} {t : TypeId} {cs : Array Value} (h : Solo g w w') (hb : Blk w k t cs) (hk : k ≠ g) : Blk w' k t cs := (h.2.2 k hk).trans hb
end
end Go.Proofs.Ytpnnadnmkiobcaa
