/- Pieces: addition with a bound on how many. No program. -/
import Derived.Test.YtflmnhibjgehnaaSpm
import Derived.Test.YtflmnhibjgehnaaSpm2
import Derived.Test.YtflmnhibjgehnaaSpm3
import Derived.Test.YtflmnhibjgehnaaSpm4
import Derived.Test.YtflmnhibjgehnaaSpn4
namespace Go.Proofs.Ytflmnhibjgehnaa
set_option linter.unusedVariables false
theorem runLt {l : List Sp} {b : Nat} (hb : ∀ p ∈ l, p.2 < b) (x : Nat) (hx : x < b) : runL l x < b := by
  unfold runL
  split
  · rename_i p hp
    exact hb p (List.mem_of_find?_eq_some hp)
  · exact hx
theorem addS_okM {most : Nat} {l : List Sp} {f t b : Nat} (h : Rise l) (hl : l.length ≤ most) (hb : ∀ p ∈ l, p.2 < b) (ht : t < b) : Rise (addS most l f t).1 ∧ (∀ p ∈ (addS most l f t).1, p.2 < b) ∧ (addS most l f t).1.length ≤ most := by
  unfold addS
  split
  · exact ⟨h, hb, hl⟩
  · rename_i h0
    split
    · exact ⟨h, hb, hl⟩
    · rename_i h1
      refine ⟨addL_rise h (by omega), addL_bd hb ht, ?_⟩
      rcases mid_zero l f t with h3 | ⟨h3, h4⟩
      · exact Nat.le_trans h3 hl
      · have h5 := mid_nil.2 h4
        have h6 : l.length < most := Nat.lt_of_not_le fun h7 => h1 ⟨h5, h7⟩
        show (addL l f t).length ≤ most
        omega
end Go.Proofs.Ytflmnhibjgehnaa
