/- Package spans: the comparison, the search, find. -/
import Derived.Test.YtpnnadnmkiobcaaSpm
import Derived.Test.YtpnnadnmkiobcaaG2SackBack
import Derived.Test.YtpnnadnmkiobcaaG4SackBack
import Derived.Test.YtpnnadnmkiobcaaRows
import Derived.OwnWalk
import Derived.RegionTactic
import Derived.LoopTactic

namespace Go.Proofs.Ytpnnadnmkiobcaa
open Go.RowKit
set_option linter.unusedVariables false

/-- Pieces as cells. -/
def cels (l : List Sp) : List Value := l.flatMap fun p => [.int .u64 (p.1 : Int), .int .u64 (p.2 : Int)]
theorem cels_cons (p : Sp) (l : List Sp) : cels (p :: l) = .int .u64 (p.1 : Int) :: .int .u64 (p.2 : Int) :: cels l := rfl
theorem cels_append (l m : List Sp) : cels (l ++ m) = cels l ++ cels m := by simp [cels]
theorem cels_len (l : List Sp) : (cels l).length = l.length * 2 := by
  induction l with
  | nil => rfl
  | cons p l ih => rw [cels_cons, List.length_cons, List.length_cons, ih, List.length_cons]; omega
theorem cels_take (l : List Sp) (k : Nat) : (cels l).take (k * 2) = cels (l.take k) := by
  induction l generalizing k with
  | nil => simp [cels]
  | cons p l ih =>
    cases k with
    | zero => simp [cels]
    | succ k => rw [show (k + 1) * 2 = k * 2 + 1 + 1 by omega, cels_cons, List.take_succ_cons, List.take_succ_cons, ih, List.take_succ_cons, cels_cons]
theorem cels_drop (l : List Sp) (k : Nat) : (cels l).drop (k * 2) = cels (l.drop k) := by
  induction l generalizing k with
  | nil => simp [cels]
  | cons p l ih =>
    cases k with
    | zero => simp
    | succ k => rw [show (k + 1) * 2 = k * 2 + 1 + 1 by omega, cels_cons, List.drop_succ_cons, List.drop_succ_cons, ih, List.drop_succ_cons]
theorem cels_get {l : List Sp} {i : Nat} {p : Sp} (h : l[i]? = some p) : (cels l)[i * 2]? = some (.int .u64 (p.1 : Int)) ∧ (cels l)[i * 2 + 1]? = some (.int .u64 (p.2 : Int)) := by
  induction l generalizing i with
  | nil => simp at h
  | cons q l ih =>
    cases i with
    | zero => simp at h; subst h; exact ⟨rfl, rfl⟩
    | succ i =>
      have := ih (i := i) (by simpa using h)
      rw [show (i + 1) * 2 = i * 2 + 1 + 1 by omega, cels_cons, List.getElem?_cons_succ, List.getElem?_cons_succ, List.getElem?_cons_succ, List.getElem?_cons_succ]
      exact this
theorem cels_one (l : List Sp) : ∀ v ∈ cels l, v.oneCell' = true := by
  intro v hv
  simp only [cels, List.mem_flatMap] at hv
  obtain ⟨p, _, hv⟩ := hv
  simp at hv
  rcases hv with rfl | rfl <;> rfl
/-- A piece of a row, by a name of its own. -/
theorem Rd.pc {w : World} {B n : Nat} {A : Option Addr} {l : List Sp} (h : Rd w B 2 A n (cels l)) {i : Nat} (hi : i < n) :
    ∃ (b off x y : Nat), A = some ⟨b, off, none⟩ ∧ b < B ∧ w.cell? ⟨b, off + i * 2, none⟩ = some (.int .u64 (x : Int)) ∧ w.cell? ⟨b, off + i * 2 + 1, none⟩ = some (.int .u64 (y : Int)) ∧ Hid (l[i]? = some (x, y)) := by
  obtain ⟨b, off, e, hb, hc⟩ := h.2 (by omega)
  have hl : l.length = n := by have := h.1; rw [cels_len] at this; omega
  have hg : l[i]? = some l[i] := by rw [List.getElem?_eq_getElem (by omega)]
  obtain ⟨g1, g2⟩ := cels_get hg
  exact ⟨b, off, _, _, e, hb, (hc (i * 2) (by omega)).trans g1, (Nat.add_assoc off (i * 2) 1 ▸ hc (i * 2 + 1) (by omega)).trans g2, Lib.hid hg⟩
theorem Rd.pcLen {w : World} {B n : Nat} {A : Option Addr} {l : List Sp} (h : Rd w B 2 A n (cels l)) : l.length = n := by have := h.1; rw [cels_len] at this; omega

def cmpS (p x : Sp) : Int := if p.2 < x.1 then -1 else if x.2 < p.1 then 1 else 0
end Go.Proofs.Ytpnnadnmkiobcaa

/- Package spans: the binary search, find. -/
namespace Go.Proofs.Ytpnnadnmkiobcaa
open Go.RowKit
set_option linter.unusedVariables false
def spTouch (l : List Sp) (f t : Nat) : Bool := match (spRest l f).head? with | some p => decide (p.1 ≤ t) | none => false
theorem spPre_take (l : List Sp) (f : Nat) : spPre l f = l.take (spAt l f) := by
  have h : (spPre l f ++ spRest l f).take (spPre l f).length = spPre l f := List.take_left
  rw [pre_rest] at h
  exact h.symm
theorem spRest_drop (l : List Sp) (f : Nat) : spRest l f = l.drop (spAt l f) := by
  have h : (spPre l f ++ spRest l f).drop (spPre l f).length = spRest l f := List.drop_left
  rw [pre_rest] at h
  exact h.symm
theorem spAt_le (l : List Sp) (f : Nat) : spAt l f ≤ l.length := by
  have h := congrArg List.length (pre_rest l f)
  rw [List.length_append] at h
  unfold spAt
  omega
theorem spAt_of {l : List Sp} {f i : Nat} (hi : i ≤ l.length) (h1 : ∀ k p, k < i → l[k]? = some p → p.2 < f) (h2 : ∀ p, l[i]? = some p → f ≤ p.2) : spAt l f = i := by
  induction l generalizing i with
  | nil => simp at hi; subst hi; rfl
  | cons q l ih =>
    unfold spAt spPre
    rw [List.takeWhile_cons]
    cases i with
    | zero =>
      have := h2 q rfl
      rw [if_neg (by simp; omega)]
      rfl
    | succ i =>
      have h0 := h1 0 q (by omega) rfl
      rw [if_pos (by simpa using h0), List.length_cons]
      congr 1
      exact ih (by simpa using hi) (fun k p hk hp => h1 (k + 1) p (by omega) (by simpa using hp)) (fun p hp => h2 p (by simpa using hp))
theorem rise_get {l : List Sp} (h : Rise l) {i j : Nat} {p q : Sp} (hij : i < j) (hp : l[i]? = some p) (hq : l[j]? = some q) : p.2 < q.1 := by
  induction l generalizing i j with
  | nil => simp at hp
  | cons a l ih =>
    obtain ⟨j', rfl⟩ : ∃ j', j = j' + 1 := ⟨j - 1, by omega⟩
    rw [List.getElem?_cons_succ] at hq
    cases i with
    | zero =>
      simp at hp
      subst hp
      exact h.2.1 q (List.mem_of_getElem? hq)
    | succ i => exact ih h.2.2 (i := i) (j := j') (by omega) (by simpa using hp) hq
theorem rise_pos {l : List Sp} (h : Rise l) {i : Nat} {p : Sp} (hp : l[i]? = some p) : p.1 < p.2 := h.pos p (List.mem_of_getElem? hp)
theorem spTouch_of {l : List Sp} {f t i : Nat} (e : spAt l f = i) : (∀ p, l[i]? = some p → spTouch l f t = decide (p.1 ≤ t)) ∧ (l.length ≤ i → spTouch l f t = false) := by
  subst e
  unfold spTouch
  rw [spRest_drop, List.head?_drop]
  exact ⟨fun p hp => by rw [hp], fun h => by rw [List.getElem?_eq_none h]⟩
/-- What the search holds of its bounds. -/
def Srch (l : List Sp) (f i j : Nat) : Prop := (∀ k p, k < i → l[k]? = some p → p.2 < f) ∧ ∀ k p, j ≤ k → l[k]? = some p → f ≤ p.2
theorem Srch.up {l : List Sp} {f i j h x y : Nat} (hr : Rise l) (s : Srch l f i j) (hx : l[h]? = some (x, y)) (hy : y < f) : Srch l f (h + 1) j := by
  refine ⟨fun k p hk hp => ?_, s.2⟩
  by_cases e : k = h
  · subst e
    rw [hx] at hp
    injection hp with hp
    subst hp
    exact hy
  · have h1 := rise_get hr (show k < h by omega) hp hx
    have h2 := rise_pos hr hx
    dsimp only at h1 h2
    omega
theorem Srch.down {l : List Sp} {f i j h x y : Nat} (hr : Rise l) (s : Srch l f i j) (hx : l[h]? = some (x, y)) (hy : ¬ y < f) : Srch l f i h := by
  refine ⟨s.1, fun k p hk hp => ?_⟩
  by_cases e : k = h
  · subst e
    rw [hx] at hp
    injection hp with hp
    subst hp
    dsimp only
    omega
  · have h1 := rise_get hr (show h < k by omega) hx hp
    have h2 := rise_pos hr hp
    dsimp only at h1
    omega
theorem Srch.at_ {l : List Sp} {f i : Nat} (s : Srch l f i i) (hi : i ≤ l.length) : spAt l f = i := spAt_of hi s.1 fun p hp => s.2 i p (Nat.le_refl _) hp
theorem cells2 {w : World} {b off u v : Nat} (h1 : w.cell? ⟨b, off, none⟩ = some (.int .u64 (u : Int))) (h2 : w.cell? ⟨b, off + 1, none⟩ = some (.int .u64 (v : Int))) :
    ∀ j x, [Value.int .u64 (u : Int), .int .u64 (v : Int)][j]? = some x → w.cell? ⟨b, off + j, none⟩ = some x := by
  intro j x hj
  match j with
  | 0 => simp at hj; subst hj; exact h1
  | 1 => simp at hj; subst hj; exact h2
  | j + 2 => simp at hj
end Go.Proofs.Ytpnnadnmkiobcaa
