/- Contracts of package pack: Q, Flag. -/
import Derived.Test.YtohehnlbknaflaaG37SackPlays
import Derived.Test.YtohehnlbknaflaaG39SackPlays
import Derived.Test.YtohehnlbknaflaaG18SackPlays

namespace Go.Proofs.Ytohehnlbknaflaa
open Go.RowKit
set_option linter.unusedVariables false
end Go.Proofs.Ytohehnlbknaflaa

/- Layer 8: the bytes of numbers with a sum behind them; a sum is set. -/
namespace Go.Proofs.Ytohehnlbknaflaa
open Go.RowKit
set_option linter.unusedVariables false

theorem fbs_one (s : Int) (n : Nat) (h : okS s = true) : fbs [(s, n)] = be n s.toNat := by
  unfold fbs
  rw [List.flatMap_cons, List.flatMap_nil, if_pos h, List.append_nil]
/-- What stands behind the block T. -/
theorem nats_past {w : World} {B T : Nat} {e : TypeId} {k : IntKind} {v : Value} {l : List Nat} {w' : World} (h : Nats w e k B v l) (hT : T < B) (hs : Solo T w w') : Nats w' e k B v l :=
  h.kept fun g hg => hs.2.2 g (by have := (h.lt g hg).1; omega)
end Go.Proofs.Ytohehnlbknaflaa
