/- Rows and blocks of unlike types; a fact that no word looks into. No program. -/
import Derived.Test.YtdcpmfodkggpeaaSz2
namespace Go.Proofs.Ytdcpmfodkggpeaa
open Go.RowKit
set_option linter.unusedVariables false
theorem own_nt {w : World} {B sz n g : Nat} {e t : TypeId} {v : Value} {xs : List Value} {cs : Array Value} (h : w.ownsRow B e sz v n xs) (hb : Blk w g t cs) (hne : e ≠ t) : v.ownBlock ≠ some g := fun hk => by
  rcases own_open h with ⟨rfl, _, _⟩ | ⟨rb, c, L, rfl, _, hr, _⟩
  · simp [Value.ownBlock] at hk
  · simp [Value.ownBlock] at hk
    subst hk
    unfold Blk at hb hr
    rw [hb] at hr
    injection hr with hr
    injection hr with _ ht
    exact hne ht.symm
theorem own_fr {w w' : World} {B B' sz sz' n n' : Nat} {e e' : TypeId} {v v' : Value} {xs xs' : List Value} (h : w.ownsRow B e sz v n xs) (ho : w.ownsRow B' e' sz' v' n' xs') (hne : e ≠ e') (hg : w.grownBy w' v'.ownBlock) : w'.ownsRow B e sz v n xs :=
  own_kept h fun k hk => hg.block k (h.lt k hk).2 fun he => by
    rcases own_open ho with ⟨rfl, _, _⟩ | ⟨rb, c, L, rfl, _, hr, _⟩
    · simp [Value.ownBlock] at he
    · simp [Value.ownBlock] at he
      subst he
      exact own_nt h hr hne hk
theorem blk_nt {w : World} {a b : Nat} {t u : TypeId} {cs ds : Array Value} (h : Blk w a t cs) (k : Blk w b u ds) (hne : t ≠ u) : a ≠ b := by
  rintro rfl
  unfold Blk at h k
  rw [h] at k
  injection k with k
  injection k with _ k
  exact hne k
/-- A fact that no word looks into. -/
structure Sh (p : Prop) : Prop where
  out : p
end Go.Proofs.Ytdcpmfodkggpeaa
