/- Package outlet: an outlet in memory; its calls. -/
import Derived.Test.YtflmnhibjgehnaaRng6
import Derived.Test.YtflmnhibjgehnaaStm
import Derived.Test.YtflmnhibjgehnaaOwnNt
import Derived.Test.YtflmnhibjgehnaaGhoP
import Derived.Test.YtflmnhibjgehnaaSpn4
import Derived.Test.YtflmnhibjgehnaaSpm2

namespace Go.Proofs.Ytflmnhibjgehnaa
open Go.RowKit
set_option linter.unusedVariables false
set_option linter.unusedSimpArgs false
/-- How many bytes a stream may have. -/
def qLim : Nat := 4611686018427387904
/-- Nothing but these three blocks has turned. -/
def Tri (o g p : Nat) (w w' : World) : Prop := Below (min o (min g p)) w w' ∧ w'.heap.size = w.heap.size ∧ ∀ k, k ≠ o → k ≠ g → k ≠ p → w'.heap[k]? = w.heap[k]?
section
variable {w w' w2 : World} {o g p size base : Nat} {cl dn : Bool} {bs : List Nat}
theorem Tri.refl : Tri o g p w w := ⟨Below.refl _ _, rfl, fun _ _ _ _ => rfl⟩
theorem Tri.trans (h : Tri o g p w w') (k : Tri o g p w' w2) : Tri o g p w w2 := ⟨h.1.trans k.1, k.2.1.trans h.2.1, fun i a b c => (k.2.2 i a b c).trans (h.2.2 i a b c)⟩
theorem Tri.of_duo (h : Duo g p w w') : Tri o g p w w' := ⟨h.1.mono (Nat.min_le_right _ _), h.2.1, fun k _ b c => h.2.2 k b c⟩
theorem Tri.of_o (h : Solo o w w') : Tri o g p w w' := ⟨h.1.mono (Nat.min_le_left _ _), h.2.1, fun k a _ _ => h.2.2 k a⟩
theorem Tri.drewN (h : Tri o g p w w') (n : Nat) : Tri o g p w (w'.drewN n) := ⟨below_drewN h.1 n, h.2.1, h.2.2⟩
theorem Tri.drew (h : Tri o g p w w') : Tri o g p w w'.drew := by rw [World.drew_is_drewN]; exact h.drewN 1
theorem Tri.below {B : Nat} (h : Tri o g p w w') (ho : B ≤ o) (hg : B ≤ g) (hp : B ≤ p) : Below B w w' := h.1.mono (by omega)
theorem Tri.nats {e : TypeId} {k : IntKind} {B : Nat} {v : Value} {l : List Nat} (h : Tri o g p w w') (hn : Nats w e k B v l) (ho : o < B) (hg : g < B) (hp : p < B) : Nats w' e k B v l :=
  hn.kept fun i hi => by
    have : B ≤ i := (hn.lt i hi).1
    exact h.2.2 i (by omega) (by omega) (by omega)
end
end Go.Proofs.Ytflmnhibjgehnaa

/- Package outlet: At, New, Bytes. -/
namespace Go.Proofs.Ytflmnhibjgehnaa
open Go.RowKit
set_option linter.unusedVariables false
set_option linter.unusedSimpArgs false
theorem ring_new_none (size : Int) (w : World) (h : size < 1 ∨ 65536 < size) : Calls Try.prog 19 #[.int .i64 size] w fun e w' => e = .returned (.tuple #[.pointer none, .int .i64 50]) ∧ Below w.heap.size w w' := by
  rcases h with h | h
  · go_enter Try.func19, Try.ntmps19
    go_wp2_with fail
    go_ret2
    exact ⟨rfl, Below.refl _ _⟩
  · by_cases h0 : size < 1
    · omega
    · have h1 : (1 : Int) ≤ size := by omega
      clear h0
      go_enter Try.func19, Try.ntmps19
      go_wp2_with fail
      go_ret2
      exact ⟨rfl, Below.refl _ _⟩
/-- The bytes that Bytes gives. -/
def byL (base : Nat) (bs : List Nat) (from_ : Nat) (many : Int) : List Nat := if from_ < base ∨ base + bs.length < from_ then [] else (bs.drop (from_ - base)).take many.toNat
end Go.Proofs.Ytflmnhibjgehnaa

/- Package spans: List, Many. -/
namespace Go.Proofs.Ytflmnhibjgehnaa
open Go.RowKit
set_option linter.unusedVariables false
theorem list_any (g B most : Nat) (v : Value) (l : List Sp) (w : World) (h : SetI w g B most v l) :
    Calls Try.prog 29 #[.pointer (some ⟨g, 0, none⟩)] w fun e w' => ∃ v', e = .returned v' ∧ w'.ownsRow w.heap.size 68 2 v' l.length (cels l) ∧ Below w.heap.size w w' := by
  obtain ⟨A, c, rfl, hnc, hcm, hr⟩ := own_form h.own
  have hms := h.ms
  have hl := h.len
  have HC := Lib.hid (spnClone A l.length c w.heap.size (cels l) w hr (Nat.le_refl _) (cels_one l) (by omega))
  have c1 := h.c1
  clear h hr
  generalize l.length = n at *
  go_enter Try.func29, Try.ntmps29
  go_wp2_with fail
  refine HC.out.mono ?_
  rintro e w1 ⟨v', rfl, ho, hb⟩
  have HO := Lib.hid ho
  clear ho HC c1
  go_wp2_with fail
  go_ret
  exact ⟨_, rfl, HO.out, hb⟩
theorem wrap_u64_sub {x y : Nat} (h : x ≤ y) (hy : y < pmax) : IntKind.u64.wrap ((y : Int) - (x : Int)) = ((y - x : Nat) : Int) := by
  unfold pmax at hy
  rw [IntKind.wrap_u64]
  omega
theorem wrap_u64_lt {x : Nat} (hx : x < pmax) : IntKind.u64.wrap (x : Int) = (x : Int) := by
  unfold pmax at hx
  rw [IntKind.wrap_u64]
  omega
end Go.Proofs.Ytflmnhibjgehnaa
