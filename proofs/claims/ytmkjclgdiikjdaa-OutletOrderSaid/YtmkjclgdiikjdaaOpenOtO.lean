/- Layer 17: OutletOrder, its arguments as they are opened. -/
import Derived.Test.YtmkjclgdiikjdaaLawOtO
import Derived.Test.YtmkjclgdiikjdaaOpenM
import Derived.Test.YtmkjclgdiikjdaaOpen
namespace Go.Proofs.Ytmkjclgdiikjdaa
open Go.RowKit Go.ChangeShapes Go.WideShapes Go.ChangeAt
set_option linter.unusedVariables false
theorem outletOrder_any (size : Int) (A : Option Addr) (n c : Nat) (bss : List (List Nat)) (A2 : Option Addr) (n2 c2 : Nat) (rs : List Int) (w : World) (hs : (Lit.int .i64 size).wf = true) (hp : Pts w w.heap.size A n bss) (hnc : n ≤ c) (hmax : c ≤ maxLen) (hb : ∀ bs ∈ bss, ∀ x ∈ bs, x < 256) (hmx : ∀ bs ∈ bss, bs.length ≤ maxLen)
    (hr : Rd w w.heap.size 1 A2 n2 (zs .i64 rs)) (hnc2 : n2 ≤ c2) (hmax2 : c2 ≤ maxLen) (hrs : ∀ x ∈ rs, -9223372036854775808 ≤ x ∧ x < 9223372036854775808) :
    Calls Try.prog 4 #[.int .i64 size, .slice A n c, .slice A2 n2 c2] w fun e w' => e = .returned (.bool true) ∧ Below w.heap.size w w' :=
  outletOrder_walk size A A2 n c n2 c2 bss rs w (by have := bounds_i64 hs; omega) hp hnc hmax hb hmx hr hnc2 hmax2 hrs
end Go.Proofs.Ytmkjclgdiikjdaa
