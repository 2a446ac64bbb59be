/- Package num: Unhex, the mathematics. -/
import Derived.Test.YtefnojomjdeghaaDoorNum2
import Derived.Test.YtefnojomjdeghaaDoorOwnB
import Derived.Test.YtefnojomjdeghaaDoorStr
namespace Go.Proofs.YtefnojomjdeghaaDoor
open Go.RowKit
set_option linter.unusedVariables false

/-- What digits stand for. -/
def unh : List Nat → Option (List Nat)
  | [] => some []
  | [_] => none
  | a :: b :: l => if hok a && hok b then (unh l).map (fun r => (hd a * 16 + hd b) :: r) else none
def unhex (s : List Nat) : Option (List Nat) := if s = [45] then some [] else if s = [] then none else unh s
/-- The bytes, when i digits have been read. -/
def at_ (l : List Nat) (i j : Nat) : Nat := if 2 * j + 1 < i then hd (l.getD (2 * j) 0) * 16 + hd (l.getD (2 * j + 1) 0) else if 2 * j < i then hd (l.getD (2 * j) 0) else 0
def row (l : List Nat) (m i : Nat) : List Nat := (List.range m).map (at_ l i)
theorem row_len (l : List Nat) (m i : Nat) : (row l m i).length = m := by simp [row]
theorem row_nth (l : List Nat) (m i j : Nat) (h : j < m) : (row l m i)[j]? = some (at_ l i j) := by simp [row, h]
theorem row_zero (l : List Nat) (m : Nat) : row l m 0 = List.replicate m 0 := by
  apply List.ext_getElem (by simp [row])
  intro j h1 h2
  simp [row, at_]
/-- One digit more. -/
theorem or16_fin : ∀ a b : Fin 16, (a.val * 16) ||| b.val = a.val * 16 + b.val := by decide +kernel
theorem or16 (a b : Nat) (ha : a < 16) (hb : b < 16) : (a * 16) ||| b = a * 16 + b := or16_fin ⟨a, ha⟩ ⟨b, hb⟩
theorem row_step (l : List Nat) (m i : Nat) (hi : i < 2 * m) (hok' : ∀ k, k < i + 1 → hok (l.getD k 0) = true) :
    row l m (i + 1) = (row l m i).set (i / 2) ((at_ l i (i / 2) * 16 % 256) ||| hd (l.getD i 0)) := by
  apply List.ext_getElem (by simp [row])
  intro j h1 h2
  have hj : j < m := by simpa [row] using h1
  rw [List.getElem_set]
  have e1 : (row l m (i + 1))[j]'h1 = at_ l (i + 1) j := by simp [row]
  have e2 : (row l m i)[j]'(by simpa [row] using hj) = at_ l i j := by simp [row]
  rw [e1, e2]
  have hdi := hd_lt (hok' i (by omega))
  split
  · rename_i h
    subst h
    rcases Nat.mod_two_eq_zero_or_one i with h2 | h2
    · have a1 : 2 * (i / 2) = i := by omega
      unfold at_
      rw [if_neg (by omega), if_pos (by omega), if_neg (by omega), if_neg (by omega), a1]
      simp
    · have a1 : 2 * (i / 2) + 1 = i := by omega
      have a2 : 2 * (i / 2) = i - 1 := by omega
      have hd1 := hd_lt (hok' (i - 1) (by omega))
      unfold at_
      rw [if_pos (by omega), if_neg (by omega), if_pos (by omega), a2]
      rw [show i - 1 + 1 = i by omega, Nat.mod_eq_of_lt (by omega), or16 _ _ hd1 hdi]
  · rename_i h
    unfold at_
    have hne : i ≠ 2 * j := by omega
    have hne' : i ≠ 2 * j + 1 := by omega
    by_cases q1 : 2 * j + 1 < i
    · rw [if_pos (by omega), if_pos q1]
    · rw [if_neg (by omega), if_neg q1]
      by_cases q2 : 2 * j < i
      · rw [if_pos (by omega), if_pos q2]
      · rw [if_neg (by omega), if_neg q2]
theorem unh_row : ∀ (m : Nat) (l : List Nat), l.length = 2 * m → (∀ k, k < 2 * m → hok (l.getD k 0) = true) → unh l = some (row l m (2 * m))
  | 0, l, h, _ => by
    have : l = [] := List.eq_nil_of_length_eq_zero (by omega)
    subst this
    rfl
  | m + 1, [], h, _ => by simp at h
  | m + 1, [_], h, _ => by simp at h; omega
  | m + 1, a :: b :: l, h, ho => by
    have h0 := ho 0 (by omega)
    have h1 := ho 1 (by omega)
    simp at h0 h1
    have ih := unh_row m l (by simp at h; omega) (fun k hk => by have := ho (k + 2) (by omega); simpa using this)
    rw [unh, h0, h1, ih]
    simp only [Bool.and_self, if_true, Option.map_some, Option.some.injEq]
    unfold row
    rw [List.range_succ_eq_map, List.map_cons, List.map_map]
    congr 1
    apply List.map_congr_left
    intro j hj
    have hj' : j < m := by simpa using hj
    show at_ l (2 * m) j = at_ (a :: b :: l) (2 * (m + 1)) (j + 1)
    unfold at_
    rw [if_pos (by omega), if_pos (by omega)]
    rw [show 2 * (j + 1) = 2 * j + 1 + 1 by omega, show 2 * j + 1 + 1 + 1 = (2 * j + 1) + 1 + 1 by omega]
    simp only [List.getD_cons_succ]
theorem unh_bad : ∀ (m : Nat) (l : List Nat), l.length = 2 * m → ∀ k, k < 2 * m → hok (l.getD k 0) = false → unh l = none
  | 0, l, h, k, hk, _ => by omega
  | m + 1, [], h, _, _, _ => by simp at h
  | m + 1, [_], h, _, _, _ => by simp at h; omega
  | m + 1, a :: b :: l, h, k, hk, hb => by
    rw [unh]
    match k, hb with
    | 0, hb => simp at hb; simp [hb]
    | 1, hb => simp at hb; simp [hb]
    | k + 2, hb =>
      have ih := unh_bad m l (by simp at h; omega) k (by omega) (by simpa using hb)
      rw [ih]
      simp
theorem unh_odd : ∀ (m : Nat) (l : List Nat), l.length = 2 * m + 1 → unh l = none
  | 0, [_], _ => rfl
  | 0, [], h => by simp at h
  | 0, _ :: _ :: _, h => by simp at h
  | m + 1, [], h => by simp at h
  | m + 1, [_], h => by simp at h
  | m + 1, a :: b :: l, h => by
    have ih := unh_odd m l (by simp at h; omega)
    rw [unh, ih]
    simp
end Go.Proofs.YtefnojomjdeghaaDoor
