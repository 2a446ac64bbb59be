/- Layer 8: the numbers of a handshake; which kinds are of word. -/
import Derived.Test.YtpnnadnmkiobcaaG12SackBack
import Derived.Test.YtpnnadnmkiobcaaG14SackBack
import Derived.Test.YtpnnadnmkiobcaaG2SackBack

namespace Go.Proofs.Ytpnnadnmkiobcaa
open Go.RowKit
set_option linter.unusedVariables false

theorem pel64i : El Try.prog 55 3 (.int .i64 0) 1 8 := ⟨Try.underlying55, by kernel_rfl, rfl, by omega, by omega⟩
theorem Zats.lit {w : World} {e : TypeId} {k : IntKind} {ss : List Int} {n : Nat} (cs : Array Value) (hc : cs.toList = zs k ss) (hn : ss.length = n) (hm : n ≤ maxLen) : Zats (w.alloc (.cells cs e)) e k w.heap.size (.slice (some ⟨w.heap.size, 0, none⟩) n n) ss := by
  subst hn
  have hl : cs.size = ss.length := by rw [← Array.length_toList, hc, zs_len]
  refine ⟨by rw [zs_len, Nat.mul_one], .inr ⟨w.heap.size, ss.length, cs, rfl, Nat.le_refl _, heap_alloc_new w _, Nat.le_refl _, hm, by rw [hl, Nat.mul_one], ?_⟩⟩
  rw [hc, Nat.mul_one, List.take_of_length_le (by rw [zs_len]; omega)]
/-- A row of numbers of its own, its cells. -/
theorem nats_open {w : World} {e : TypeId} {k : IntKind} {B : Nat} {v : Value} {l : List Nat} (h : Nats w e k B v l) (h0 : 0 < l.length) :
    ∃ g c, v = .slice (some ⟨g, 0, none⟩) l.length c ∧ B ≤ g ∧ g < w.heap.size ∧ l.length ≤ c ∧ ∀ (i x : Nat), l[i]? = some x → w.cell? ⟨g, i, none⟩ = some (.int k (x : Int)) := by
  rcases own_open (show w.ownsRow B e 1 v l.length (ns k l) from h) with ⟨_, h1, _⟩ | ⟨g, c, L, e, hB, hb, hnc, _, _, hx⟩
  · omega
  · refine ⟨g, c, e, hB, hb.lt, hnc, fun i x hi => ?_⟩
    have hil : i < l.length := (List.getElem?_eq_some_iff.1 hi).1
    have h2 : (ns k l)[i]? = some (.int k (x : Int)) := by unfold ns; rw [List.getElem?_map, hi]; rfl
    rw [hb.cell, ← h2, ← hx, List.getElem?_take_of_lt (by omega)]
    simp
/-- What a handshake's numbers are; a the answer. -/
def HsSays (lb : List Nat) (ss : List Int) (xs : List Nat) : Bool → Prop
  | false => ∃ ys, xs = ys ++ [0] ∧ cut lb ss = some (ys, [])
  | true => cut lb (ss ++ [8]) = some (xs, [])
def HsPost (lb : List Nat) (ss : List Int) (B : Nat) (w' : World) (e : Ending) : Prop :=
  (∃ (xs : List Nat) (v : Value) (a : Bool), e = .returned (.tuple #[v, .bool a, .bool true]) ∧ HsSays lb ss xs a ∧ Nats w' 46 .u64 B v xs) ∨
  ((∀ xs, cut lb ss ≠ some (xs, [])) ∧ (∀ xs, cut lb (ss ++ [8]) ≠ some (xs, [])) ∧ e = .returned (.tuple #[.slice none 0 0, .bool false, .bool false]))
def wordK (kd : Nat) : Bool := decide (4 ≤ kd) && decide (kd ≤ 7)
theorem wordK_yes {kd : Nat} (h : 4 ≤ kd ∧ kd ≤ 7) : wordK kd = true := by unfold wordK; simp [h]
theorem wordK_iff (kd : Nat) : wordK kd = true ↔ 4 ≤ kd ∧ kd ≤ 7 := by unfold wordK; simp
end Go.Proofs.Ytpnnadnmkiobcaa
