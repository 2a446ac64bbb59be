/- A region walked in pieces: a sole operation that is passed over. No program. -/
import Derived.Test.YtefnojomjdeghaaUnd
namespace Go.Proofs.Ytefnojomjdeghaa
open Go.RowKit
set_option linter.unusedVariables false
section
variable {P : Program}
/-- A sole operation that is passed over. -/
theorem walkS_pass {L : List Oper} {Q : Act → World → Prop} {q : List Nat} {i : Nat} {rest : List (List Nat × Option Nat)} {a : Act} {w : World}
    (h : ∀ R : Act → World → Prop, Hid (∀ a w, walkS P L.toArray Q rest a w → R a w) → wpQuiet P L.toArray (Ext w) (fun a' => Region.wanted (L.getD i default) (yielded L.toArray a'.tmps) = false ∧ R (a'.put (L.getD i default).dst undef) w) (q.map fun i => L.getD i default) a) :
    walkS P L.toArray Q ((q, some i) :: rest) a w := by
  refine walkS_sole fun R hR => ?_
  have mono : ∀ (l : List Oper) (a : Act) {R R' : Act → Prop}, (∀ a, R a → R' a) → wpQuiet P L.toArray (Ext w) R l a → wpQuiet P L.toArray (Ext w) R' l a := by
    intro l
    induction l with
    | nil => intro a R R' h hh; exact h a hh
    | cons o l ih =>
      intro a R R' h hh
      simp only [wpQuiet] at hh ⊢
      split
      · rename_i hw; simp only [hw, if_true] at hh; exact Oper.quiet_mono (fun a => ih a h) hh
      · rename_i hw; simp only [hw] at hh; exact ih _ h hh
  refine mono _ a (fun a' ha K hK => ?_) (h R hR)
  exact wpList_skip ha.1 (hK _ _ (Ext.refl _) ha.2)
end
end Go.Proofs.Ytefnojomjdeghaa
