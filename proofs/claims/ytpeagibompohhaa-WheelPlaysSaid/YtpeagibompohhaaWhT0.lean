/- A tick of a wheel: mathematics. No program. -/
import Derived.Test.YtpeagibompohhaaWhL
namespace Go.Proofs.Ytpeagibompohhaa
set_option linter.unusedVariables false
/-- Where what is due at t stands while the rounds below r have gone on. -/
def plT (n r t : Nat) : Nat := if rdW n t < r then plW (n + 1) t else plW n t
theorem plT_one {n t : Nat} (h : n < t) : plT n 1 t = plW n t := by
  unfold plT
  split
  · exact plW_zero h (by omega)
  · rfl
theorem plT_four (n t : Nat) : plT n 4 t = plW (n + 1) t := by
  have := rdW_le n t
  exact if_pos (by omega)
theorem plT_stay {n t r : Nat} (h : n < t) (h1 : 1 ≤ r) (hg : (n + 1) % p16 r = 0) (hp : plT n r t ≠ 16 * r + slW r (n + 1)) : plT n (r + 1) t = plT n r t := by
  unfold plT at hp ⊢
  by_cases h2 : rdW n t < r
  · rw [if_pos h2, if_pos (by omega)]
  · rw [if_neg h2] at hp ⊢
    by_cases h3 : rdW n t = r
    · rw [if_pos (by omega)]
      refine plW_stay h h3 h1 hg fun e => hp ?_
      unfold plW
      rw [h3, e]
    · rw [if_neg (by omega)]
theorem plT_here {n t r s : Nat} (h : n < t) (hs : s < 16) (hp : plT n r t = 16 * r + s) : plT n (r + 1) t = plW (n + 1) t := by
  unfold plT at hp ⊢
  by_cases h2 : rdW n t < r
  · rw [if_pos (by omega)]
  · rw [if_neg h2] at hp
    have := (plW_eq hs hp).1
    rw [if_pos (by omega)]
theorem plT_rest {n t r : Nat} (h : n < t) (h1 : 1 ≤ r) (h3 : r ≤ 3) (hg : (n + 1) % p16 r ≠ 0) : plT n r t = plW (n + 1) t := by
  unfold plT
  by_cases h2 : rdW n t < r
  · rw [if_pos h2]
  · rw [if_neg h2]
    exact (plW_rest h h1 h3 (by omega) hg).symm
theorem nodup_drop {l : List Int} {i : Nat} {x : Int} (h : l.Nodup) (hx : l[i]? = some x) : x ∉ l.drop (i + 1) := fun hm => by
  have hi := get_lt hx
  have h2 := (List.drop_sublist i l).nodup h
  rw [List.drop_eq_getElem_cons hi] at h2
  have e : l[i] = x := by rw [List.getElem?_eq_getElem hi] at hx; injection hx
  rw [e] at h2
  exact (List.nodup_cons.1 h2).1 hm
theorem drop_at {l : List Int} {i : Nat} {x : Int} (hx : l[i]? = some x) : l.drop i = x :: l.drop (i + 1) := by
  have hi := get_lt hx
  have e : l[i] = x := by rw [List.getElem?_eq_getElem hi] at hx; injection hx
  rw [List.drop_eq_getElem_cons hi, e]
end Go.Proofs.Ytpeagibompohhaa
