/- Package spans: Cut. -/
import Derived.Test.YtohehnlbknaflaaG24SackPlays
import Derived.Laws.StructEq

namespace Go.Proofs.Ytohehnlbknaflaa
open Go.RowKit
set_option linter.unusedVariables false
/-- A cell of an owned row is written. -/
theorem own_setCell {w : World} {B sz n g c i : Nat} {e : TypeId} {u : Value} {xs : List Value} (h : w.ownsRow B e sz (.slice (some ⟨g, 0, none⟩) n c) n xs) (hi : i < n * sz) :
    (w.setCell ⟨g, i, none⟩ u).ownsRow B e sz (.slice (some ⟨g, 0, none⟩) n c) n (xs.set i u) := by
  rcases own_open h with ⟨hv, _⟩ | ⟨g', c', L, hv, hBg, hb, hnc, hcm, hl, hx⟩
  · cases hv
  · injection hv with h1 _ h3
    injection h1 with h1
    injection h1 with h1 _ _
    subst h1 h3
    have hb2 := hb.set i u
    rw [List.setIfInBounds_toArray] at hb2
    refine own_shut hBg hb2 hnc hcm (by simpa using hl) ?_
    rw [← hx, List.take_set]
theorem cels_cutR (p : Sp) (r : List Sp) (b : Nat) : cels (cutR (p :: r) b) = (cels (p :: r)).set 0 (.int .u64 ((max p.1 b : Nat) : Int)) := rfl
theorem ifmax2 (x b : Nat) : (if x < b then (b : Int) else (x : Int)) = ((max x b : Nat) : Int) := by split <;> omega
theorem KeptS.cut {g : Nat} {v v' u : Value} {w w1 w2 : World} (h1 : Below w.heap.size w w1) (hg : w1.grownBy w2 v.ownBlock) (hv : v'.ownBlock = v.ownBlock) (hs : w2.heap.size = w1.heap.size) : KeptS g v v' w (w2.setCell ⟨g, 1, none⟩ u) :=
  ⟨fun k hk hkg hkv => (Below.heap_setCell _ _ _ _ hkg).trans ((hg.block k (Nat.lt_of_lt_of_le hk h1.size) (fun e => hkv e.symm)).trans (h1.block k hk)), NewOr.same hv, by have := h1.size; simp [World.setCell]; omega⟩
theorem KeptS.set {g g' : Nat} {v v' u : Value} {w w3 : World} {i : Nat} (h : KeptS g v v' w w3) (hv : v'.ownBlock = some g') : KeptS g v v' w (w3.setCell ⟨g', i, none⟩ u) :=
  ⟨fun k hk hkg hkv => (Below.heap_setCell _ _ _ _ (by
    rintro rfl
    rcases h.2.1 _ hv with h1 | h1
    · exact hkv h1
    · omega)).trans (h.1 k hk hkg hkv), h.2.1, by have := h.2.2; simpa [World.setCell] using this⟩
theorem KeptS.drew {g : Nat} {v v' : Value} {w w3 : World} (h : KeptS g v v' w w3) : KeptS g v v' w w3.drew := h
end Go.Proofs.Ytohehnlbknaflaa

/- Layer 6's law: Plain, Same, most. -/
namespace Go.Proofs.Ytohehnlbknaflaa
open Go.RowKit
set_option linter.unusedVariables false
theorem prfEl : El Try.prog 46 85 (.agg #[.int .u64 0, .int .u64 0]) 2 16 := ⟨Try.underlying46, by kernel_rfl, rfl, by omega, by omega⟩
theorem same_at {l m : List Sp} {i : Nat} {p q : Sp} (hp : l[i]? = some p) (hq : m[i]? = some q) (h : p ≠ q) : decide (l = m) = false := by
  rw [decide_eq_false_iff_not]
  intro e
  subst e
  rw [hp] at hq
  injection hq with hq
  exact h hq
theorem same_step {l m : List Sp} {i : Nat} {p : Sp} (hp : Hid (l[i]? = some p)) (hq : Hid (m[i]? = some p)) (h : l.take i = m.take i) : l.take (i + 1) = m.take (i + 1) := by
  rw [nth_take hp, nth_take hq, h]
end Go.Proofs.Ytohehnlbknaflaa
