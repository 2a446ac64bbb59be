/- A conversion of bytes to a string as a reading, in a region whose order is open. No program. -/
import Derived.Test.YtcgcglngjfijnaaOrd
import Derived.Test.YtcgcglngjfijnaaOrdB
namespace Go.Proofs.Ytcgcglngjfijnaa
open Go.RowKit
set_option linter.unusedVariables false
section
variable {P : Program} {ops : Array Oper} {wild : List Nat} {Q : Act → World → Prop} {rest : List (Oper × Nat × Kd)} {a : Act} {w : World} {o : Oper} {i : Nat}
/-- Bytes read as a string, ahead of the calls. -/
theorem o_conv {src dst e : TypeId} (hs : P.underlying src = some (.slice e)) (he : P.underlying e = some (.int .u8)) (hd : P.underlying dst = some .string) (x : Operand) (hw : Region.wanted o (yielded ops a.tmps) = true) (ho : o.op = .convert src dst x)
    {n c : Nat} {A : Option Addr} {l : List Nat} (hx : a.eval x = .slice A n c) (hr : Rd w w.heap.size 1 A n (ns .u8 l)) (h : WpO P ops wild Q rest (a.put o.dst (.string (strN l))) w) : WpO P ops wild Q ((o, i, .read) :: rest) a w := by
  refine o_read hw (fun w' hx' => ?_) h
  have hr' : Rd w' w.heap.size 1 A n (ns .u8 l) := ⟨hr.1, fun hn => by
    obtain ⟨b, off, e, hb, hc⟩ := hr.2 hn
    exact ⟨b, off, e, hb, fun j hj => by rw [hx'.cell hb]; exact hc j hj⟩⟩
  have := run_conv (c := c) hs he hd hr'
  simp [execOp, ho, hx, this, Result.andThen]
end
end Go.Proofs.Ytcgcglngjfijnaa
namespace Go.Proofs.Ytcgcglngjfijnaa.OB
open Go.RowKit
section
variable {P : Program} {ops : Array Oper} {wild : Bar} {Q : Act → World → Prop} {rest : List (Oper × Nat × Kd)} {a : Act} {w : World} {o : Oper} {i : Nat}
theorem o_conv {src dst e : TypeId} (hs : P.underlying src = some (.slice e)) (he : P.underlying e = some (.int .u8)) (hd : P.underlying dst = some .string) (x : Operand) (hw : Region.wanted o (yielded ops a.tmps) = true) (ho : o.op = .convert src dst x)
    {B n c : Nat} {A : Option Addr} {l : List Nat} (hx : a.eval x = .slice A n c) (hr : Rd w B 1 A n (ns .u8 l)) (hS : ∀ b, b < B → wild.S b) (h : WpO P ops wild Q rest (a.put o.dst (.string (strN l))) w) : WpO P ops wild Q ((o, i, .read) :: rest) a w := by
  refine o_read hw (fun w' hx' => ?_) h
  have hr' : Rd w' B 1 A n (ns .u8 l) := ⟨hr.1, fun hn => by
    obtain ⟨b, off, e, hb, hc⟩ := hr.2 hn
    exact ⟨b, off, e, hb, fun j hj => by rw [hx'.cell (hS b hb)]; exact hc j hj⟩⟩
  have := run_conv (c := c) hs he hd hr'
  simp [execOp, ho, hx, this, Result.andThen]
end
end Go.Proofs.Ytcgcglngjfijnaa.OB
