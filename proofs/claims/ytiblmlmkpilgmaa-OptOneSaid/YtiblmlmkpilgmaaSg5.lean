/- Two segments held against each other: they are the same. -/
import Derived.Test.YtiblmlmkpilgmaaSg1
import Derived.Test.YtiblmlmkpilgmaaOrd
namespace Go.Proofs.Ytiblmlmkpilgmaa
open Go.RowKit
set_option linter.unusedVariables false
theorem cells2v {w : World} {b off : Nat} {u v : Value} (h1 : w.cell? ⟨b, off, none⟩ = some u) (h2 : w.cell? ⟨b, off + 1, none⟩ = some v) :
    ∀ j x, [u, v][j]? = some x → w.cell? ⟨b, off + j, none⟩ = some x := by
  intro j x hx
  match j, hx with
  | 0, hx => simp at hx; subst hx; exact h1
  | 1, hx => simp at hx; subst hx; exact h2
set_option maxRecDepth 20000 in
set_option maxHeartbeats 1000000 in
theorem sameo_any (kd : Nat) (A B : Option Addr) (n c m d : Nat) (l : List Nat) (w : World) (h1 : Rd w w.heap.size 1 A n (ns .u8 l)) (h2 : Rd w w.heap.size 1 B m (ns .u8 l)) :
    Calls Try.prog 35 #[.agg #[.int .u8 (kd : Int), .slice A n c], .agg #[.int .u8 (kd : Int), .slice B m d]] w fun e w' => e = .returned (.bool true) ∧ Below w.heap.size w w' := by
  have hb : Below w.heap.size w ((w.alloc (.cells #[.int .u8 (kd : Int), .slice A n c] 39)).alloc (.cells #[.int .u8 (kd : Int), .slice B m d] 39)) := ((Below.refl _ _).alloc (Nat.le_refl _) _).alloc (by simp) _
  have H1 := Lib.hid (h1.below hb)
  have H2 := Lib.hid (h2.below hb)
  have HB := Lib.hid hb
  clear h1 h2 hb
  go_enter Try.func35, Try.ntmps35
  go_wp2_with (first | refine wpList_conv Try.underlying37 Try.underlying5 Try.underlying9 rfl _ rfl rfl H1.out ?_ | refine wpList_conv Try.underlying37 Try.underlying5 Try.underlying9 rfl _ rfl rfl H2.out ?_)
  go_ret
  exact ⟨ret_bool (by simp), HB.out⟩
end Go.Proofs.Ytiblmlmkpilgmaa
