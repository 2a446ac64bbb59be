/- Package spans: the comparison, the search, find. -/
import Derived.Test.YtflmnhibjgehnaaSpm
import Derived.Test.YtflmnhibjgehnaaSz
import Derived.Test.YtflmnhibjgehnaaQx
import Derived.Test.YtflmnhibjgehnaaRows
import Derived.OwnWalk
import Derived.RegionTactic
import Derived.LoopTactic
namespace Go.Proofs.Ytflmnhibjgehnaa
open Go.RowKit
set_option linter.unusedVariables false

/-- Pieces as cells. -/
def cels (l : List Sp) : List Value := l.flatMap fun p => [.int .u64 (p.1 : Int), .int .u64 (p.2 : Int)]
theorem cels_cons (p : Sp) (l : List Sp) : cels (p :: l) = .int .u64 (p.1 : Int) :: .int .u64 (p.2 : Int) :: cels l := rfl
theorem cels_append (l m : List Sp) : cels (l ++ m) = cels l ++ cels m := by simp [cels]
theorem cels_len (l : List Sp) : (cels l).length = l.length * 2 := by
  induction l with
  | nil => rfl
  | cons p l ih => rw [cels_cons, List.length_cons, List.length_cons, ih, List.length_cons]; omega
theorem cels_take (l : List Sp) (k : Nat) : (cels l).take (k * 2) = cels (l.take k) := by
  induction l generalizing k with
  | nil => simp [cels]
  | cons p l ih =>
    cases k with
    | zero => simp [cels]
    | succ k => rw [show (k + 1) * 2 = k * 2 + 1 + 1 by omega, cels_cons, List.take_succ_cons, List.take_succ_cons, ih, List.take_succ_cons, cels_cons]
theorem cels_drop (l : List Sp) (k : Nat) : (cels l).drop (k * 2) = cels (l.drop k) := by
  induction l generalizing k with
  | nil => simp [cels]
  | cons p l ih =>
    cases k with
    | zero => simp
    | succ k => rw [show (k + 1) * 2 = k * 2 + 1 + 1 by omega, cels_cons, List.drop_succ_cons, List.drop_succ_cons, ih, List.drop_succ_cons]
theorem cels_get {l : List Sp} {i : Nat} {p : Sp} (h : l[i]? = some p) : (cels l)[i * 2]? = some (.int .u64 (p.1 : Int)) ∧ (cels l)[i * 2 + 1]? = some (.int .u64 (p.2 : Int)) := by
  induction l generalizing i with
  | nil => simp at h
  | cons q l ih =>
    cases i with
    | zero => simp at h; subst h; exact ⟨rfl, rfl⟩
    | succ i =>
      have := ih (i := i) (by simpa using h)
      rw [show (i + 1) * 2 = i * 2 + 1 + 1 by omega, cels_cons, List.getElem?_cons_succ, List.getElem?_cons_succ, List.getElem?_cons_succ, List.getElem?_cons_succ]
      exact this
theorem cels_one (l : List Sp) : ∀ v ∈ cels l, v.oneCell' = true := by
  intro v hv
  simp only [cels, List.mem_flatMap] at hv
  obtain ⟨p, _, hv⟩ := hv
  simp at hv
  rcases hv with rfl | rfl <;> rfl
/-- A piece of a row, by a name of its own. -/
theorem Rd.pc {w : World} {B n : Nat} {A : Option Addr} {l : List Sp} (h : Rd w B 2 A n (cels l)) {i : Nat} (hi : i < n) :
    ∃ (b off x y : Nat), A = some ⟨b, off, none⟩ ∧ b < B ∧ w.cell? ⟨b, off + i * 2, none⟩ = some (.int .u64 (x : Int)) ∧ w.cell? ⟨b, off + i * 2 + 1, none⟩ = some (.int .u64 (y : Int)) ∧ Hid (l[i]? = some (x, y)) := by
  obtain ⟨b, off, e, hb, hc⟩ := h.2 (by omega)
  have hl : l.length = n := by have := h.1; rw [cels_len] at this; omega
  have hg : l[i]? = some l[i] := by rw [List.getElem?_eq_getElem (by omega)]
  obtain ⟨g1, g2⟩ := cels_get hg
  exact ⟨b, off, _, _, e, hb, (hc (i * 2) (by omega)).trans g1, (Nat.add_assoc off (i * 2) 1 ▸ hc (i * 2 + 1) (by omega)).trans g2, Lib.hid hg⟩
theorem Rd.pcLen {w : World} {B n : Nat} {A : Option Addr} {l : List Sp} (h : Rd w B 2 A n (cels l)) : l.length = n := by have := h.1; rw [cels_len] at this; omega

def cmpS (p x : Sp) : Int := if p.2 < x.1 then -1 else if x.2 < p.1 then 1 else 0
theorem cmp_any (a b f t : Nat) (w : World) : Calls Try.prog 52 #[.agg #[.int .u64 (a : Int), .int .u64 (b : Int)], .agg #[.int .u64 (f : Int), .int .u64 (t : Int)]] w fun e w' =>
    e = .returned (.int .i64 (cmpS (a, b) (f, t))) ∧ Below w.heap.size w w' := by
  unfold cmpS
  dsimp only
  by_cases h1 : b < f
  · have h1' : (b : Int) < (f : Int) := by omega
    rw [if_pos h1]
    go_enter Try.func52, Try.ntmps52
    go_wp2_with fail
    go_ret
    exact ⟨rfl, ((Below.refl _ _).alloc (Nat.le_refl _) _).alloc (by simp) _⟩
  · have h1' : ¬ (b : Int) < (f : Int) := by omega
    rw [if_neg h1]
    by_cases h2 : t < a
    · have h2' : (t : Int) < (a : Int) := by omega
      rw [if_pos h2]
      go_enter Try.func52, Try.ntmps52
      go_wp2_with fail
      go_ret
      exact ⟨rfl, ((Below.refl _ _).alloc (Nat.le_refl _) _).alloc (by simp) _⟩
    · have h2' : ¬ (t : Int) < (a : Int) := by omega
      rw [if_neg h2]
      go_enter Try.func52, Try.ntmps52
      go_wp2_with fail
      go_ret
      exact ⟨rfl, ((Below.refl _ _).alloc (Nat.le_refl _) _).alloc (by simp) _⟩
end Go.Proofs.Ytflmnhibjgehnaa
