/- Package keys: keys of two drawn numbers. -/
import Derived.Test.YtbiimgfocgbdaaaDoorGhoP
import Derived.Test.YtbiimgfocgbdaaaDoorSip5
import Derived.Test.YtbiimgfocgbdaaaDoorUnd
import Derived.Test.YtbiimgfocgbdaaaDoorStm
namespace Go.Proofs.YtbiimgfocgbdaaaDoor
open Go.RowKit
set_option linter.unusedVariables false
set_option linter.unusedSimpArgs false
/-- A key that is made of bytes. -/
def kvA (k0 k1 : Nat) (l : List Nat) : Nat := sumB k0 k1 (1 :: l)
def kvB (k0 k1 : Nat) (l : List Nat) : Nat := sumB k0 k1 (2 :: l)
theorem sum_one (k0 k1 n c : Nat) (A : Option Addr) (l : List Nat) (w : World) (h0 : k0 < 18446744073709551616) (h1 : k1 < 18446744073709551616) (hp : Pts w w.heap.size A n [l]) (hnc : n ≤ c) (hn : [l].length = n) (hb : (l.all fun x => decide (x < 256)) = true) (hl : l.length ≤ 1000) :
    Calls Tryd.prog 11 #[.agg #[.int .u64 k0, .int .u64 k1], .slice A n c] w fun e w' => e = .returned (.int .u64 (sumB k0 k1 l : Nat)) ∧ Below w.heap.size w w' := by
  have hb' : ∀ bs ∈ [l], ∀ x ∈ bs, x < 256 := fun bs hbs x hx => by
    obtain rfl : bs = l := by simpa using hbs
    simpa using List.all_eq_true.1 hb x hx
  refine (sum_any k0 k1 n c A [l] w h0 h1 hp hnc (by simp at hn; omega) hb' (by simp; omega)).mono ?_
  rintro e w' ⟨rfl, hbl⟩
  rw [show [l].flatten = l by simp]
  exact ⟨rfl, hbl⟩
def tkn (c s : Nat) : Nat := sumB c s [116, 111, 107, 101, 110] % 4294967296
/-- The cells of a connection's keys. -/
def keyC (c s : Nat) : List Value := [.int .u64 (kvA c s [105, 100] : Nat), .int .u64 (kvB c s [105, 100] : Nat), .int .u64 (kvA c s [99, 108, 105, 101, 110, 116] : Nat), .int .u64 (kvB c s [99, 108, 105, 101, 110, 116] : Nat), .int .u64 (kvA c s [115, 101, 114, 118, 101, 114] : Nat), .int .u64 (kvB c s [115, 101, 114, 118, 101, 114] : Nat), .int .u64 (kvA c s [106, 111, 105, 110] : Nat), .int .u64 (kvB c s [106, 111, 105, 110] : Nat), .int .u32 (tkn c s : Nat)]
def keyV (c s : Nat) : Value := .agg (keyC c s).toArray
end Go.Proofs.YtbiimgfocgbdaaaDoor
