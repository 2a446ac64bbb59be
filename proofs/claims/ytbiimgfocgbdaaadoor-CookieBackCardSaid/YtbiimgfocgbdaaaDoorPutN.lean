/- pack.Put of no bytes. -/
import Derived.Test.YtbiimgfocgbdaaaDoorGhoP
import Derived.Test.YtbiimgfocgbdaaaDoorPk2
namespace Go.Proofs.YtbiimgfocgbdaaaDoor
open Go.RowKit
set_option linter.unusedVariables false
set_option linter.unusedSimpArgs false
/-- pack.Put of no bytes. -/
theorem put_nil (n c : Nat) (A : Option Addr) (l : List (Int × Nat)) (w : World) (hs : Rd w w.heap.size 2 A n (fs l)) (hn : n ≤ 100) (h64 : ∀ p ∈ l, p.2 < 18446744073709551616) :
    Calls Tryd.prog 12 #[.slice none 0 0, .slice A n c] w fun e w' => ∃ v, e = .returned v ∧ Below w.heap.size w w' ∧ ∀ M, (GH.SP.ns (M := M) .u8 (fbs l)).G v w' := by
  refine (pput_any none A 0 n 0 c [] l w (Rd.nil _ _ _ _) hs (by omega) h64).mono ?_
  rintro e w' ⟨v, rfl, h1, h2⟩
  exact ⟨v, rfl, h2, fun M => GH.ns_of_own h1⟩
end Go.Proofs.YtbiimgfocgbdaaaDoor
