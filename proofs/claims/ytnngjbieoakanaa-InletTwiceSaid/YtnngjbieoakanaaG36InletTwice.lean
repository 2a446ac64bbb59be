/- Layer 18: calls of an inlet as arguments. -/
import Derived.Test.YtnngjbieoakanaaG33InletTwice
import Derived.Test.YtnngjbieoakanaaG34InletTwice
import Derived.Test.YtnngjbieoakanaaG35InletTwice
import Derived.ChangeSame
import Derived.Test.YtnngjbieoakanaaG26InletTwice
import Derived.Laws.StructEq

namespace Go.Proofs.Ytnngjbieoakanaa
open Go.RowKit Go.ChangeShapes Go.WideShapes Go.ChangeAt
set_option linter.unusedVariables false
set_option linter.unusedSimpArgs false
section
variable {H : Type} {enc : TypeId × Value → H} {P : Program} {w : World} {held : Bool} {t : TypeId}
theorem opens_z_1_1_1_1_1 {f0 f1 f2 f3 f4 : Field} {α0 : Type} {el0 : α0 → List Value} {ok0 : α0 → Prop} {α1 : Type} {el1 : α1 → List Value} {ok1 : α1 → Prop} {α2 : Type} {el2 : α2 → List Value} {ok2 : α2 → Prop} {α3 : Type} {el3 : α3 → List Value} {ok3 : α3 → Prop} {α4 : Type} {el4 : α4 → List Value} {ok4 : α4 → Prop} (ht : P.underlying t = some (.struct #[f0, f1, f2, f3, f4])) (hc : P.cellsOf t = 5) (o0 : f0.offset = 0) (c0 : P.cellsOf f0.type = 1) (h0 : Opens enc P w held f0.type el0 ok0) (o1 : f1.offset = 1) (c1 : P.cellsOf f1.type = 1) (h1 : Opens enc P w held f1.type el1 ok1) (o2 : f2.offset = 2) (c2 : P.cellsOf f2.type = 1) (h2 : Opens enc P w held f2.type el2 ok2) (o3 : f3.offset = 3) (c3 : P.cellsOf f3.type = 1) (h3 : Opens enc P w held f3.type el3 ok3) (o4 : f4.offset = 4) (c4 : P.cellsOf f4.type = 1) (h4 : Opens enc P w held f4.type el4 ok4) :
    Opens enc P w held t (fun p : α0 × α1 × α2 × α3 × α4 => el0 p.1 ++ (el1 p.2.1 ++ (el2 p.2.2.1 ++ (el3 p.2.2.2.1 ++ (el4 p.2.2.2.2))))) (fun p => ok0 p.1 ∧ ok1 p.2.1 ∧ ok2 p.2.2.1 ∧ ok3 p.2.2.2.1 ∧ ok4 p.2.2.2.2) := by
  intro fuel cs x h
  obtain ⟨xs, n, _, _, hl, hxs, hf⟩ := DataW.trod_struct ht h
  rw [hc] at hl
  have g0 := hf 0 f0 rfl
  have g1 := hf 1 f1 rfl
  have g2 := hf 2 f2 rfl
  have g3 := hf 3 f3 rfl
  have g4 := hf 4 f4 rfl
  have hall : ∃ x0 x1 x2 x3 x4, xs = [x0, x1, x2, x3, x4] := by
    match xs, (show xs.length = 5 from hxs) with
    | [x0, x1, x2, x3, x4], _ => exact ⟨_, _, _, _, _, rfl⟩
  obtain ⟨x0, x1, x2, x3, x4, rfl⟩ := hall
  rw [o0, c0] at g0
  obtain ⟨p0, e0, k0⟩ := h0 _ _ _ (show DataW.trod enc P w 0 (fun _ => true) held n f0.type ((cs.drop 0).take 1) = some x0 from g0)
  rw [o1, c1] at g1
  obtain ⟨p1, e1, k1⟩ := h1 _ _ _ (show DataW.trod enc P w 0 (fun _ => true) held n f1.type ((cs.drop 1).take 1) = some x1 from g1)
  rw [o2, c2] at g2
  obtain ⟨p2, e2, k2⟩ := h2 _ _ _ (show DataW.trod enc P w 0 (fun _ => true) held n f2.type ((cs.drop 2).take 1) = some x2 from g2)
  rw [o3, c3] at g3
  obtain ⟨p3, e3, k3⟩ := h3 _ _ _ (show DataW.trod enc P w 0 (fun _ => true) held n f3.type ((cs.drop 3).take 1) = some x3 from g3)
  rw [o4, c4] at g4
  obtain ⟨p4, e4, k4⟩ := h4 _ _ _ (show DataW.trod enc P w 0 (fun _ => true) held n f4.type ((cs.drop 4).take 1) = some x4 from g4)
  have hcs : cs.drop 0 = (cs.drop 0).take 1 ++ ((cs.drop 1).take 1 ++ ((cs.drop 2).take 1 ++ ((cs.drop 3).take 1 ++ ((cs.drop 4).take 1 ++ ([]))))) := (chop cs 0 1).trans (congrArg _ ((chop cs 1 1).trans (congrArg _ ((chop cs 2 1).trans (congrArg _ ((chop cs 3 1).trans (congrArg _ ((chop cs 4 1).trans (congrArg _ (List.drop_of_length_le (show cs.length ≤ 5 by omega)))))))))))
  rw [e0, e1, e2, e3, e4, List.append_nil, List.drop_zero] at hcs
  exact ⟨(p0, p1, p2, p3, p4), hcs, k0, k1, k2, k3, k4⟩
end
section
variable {H : Type} {enc : TypeId × Value → H} {w : World} {held : Bool}
theorem opens_inop : Opens enc Try.prog w held 26 InOp.el (InOp.ok w) := by
  have h := (opens_z_1_1_1_1_1 (enc := enc) (w := w) (held := held) Try.underlying26 (by kernel_rfl) rfl (by kernel_rfl) (opens_i64 Try.underlying3) rfl (by kernel_rfl) (opens_i64 Try.underlying3) rfl (by kernel_rfl) (opens_u64 Try.underlying23) rfl (by kernel_rfl) (opens_bool Try.underlying4) rfl (by kernel_rfl) (opens_bytes Try.underlying24 Try.underlying5 (by kernel_rfl)))
  intro fuel cs x hx
  obtain ⟨⟨k, nn, at_, far, ⟨A, m, c, l⟩⟩, hp, h1, h2, h3, _, h4⟩ := h fuel cs x hx
  exact ⟨⟨k, nn, at_, far, A, m, c, l⟩, hp, ⟨h1, h2, h3, h4.1, h4.2.1, h4.2.2.1, h4.2.2.2⟩⟩
theorem open_inops {A : Option Addr} {len cap : Nat} {d : DataW H} {ps : List MemPlace} (ht : Try.prog.underlying 22 = some (.slice 26))
    (h : DataW.Trod enc Try.prog w 0 (fun _ => true) held 22 (.slice A len cap) d ps) :
    ∃ l : List InOp, Rd w w.heap.size 5 A len (incs l) ∧ len ≤ cap ∧ cap ≤ maxLen ∧ ∀ o ∈ l, o.ok w := by
  obtain ⟨l, h1, h2, h3, _, h5⟩ := open_slices ht (by rw [show Try.prog.cellsOf 26 = 5 by kernel_rfl]; omega) opens_inop h
  rw [show Try.prog.cellsOf 26 = 5 by kernel_rfl] at h1
  exact ⟨l, h1, h2, h3, h5⟩
end
end Go.Proofs.Ytnngjbieoakanaa

/- Layer 6's law: Plain, Same, most. -/
namespace Go.Proofs.Ytnngjbieoakanaa
open Go.RowKit
set_option linter.unusedVariables false
theorem prfEl : El Try.prog 66 79 (.agg #[.int .u64 0, .int .u64 0]) 2 16 := ⟨Try.underlying66, by kernel_rfl, rfl, by omega, by omega⟩
theorem same_at {l m : List Sp} {i : Nat} {p q : Sp} (hp : l[i]? = some p) (hq : m[i]? = some q) (h : p ≠ q) : decide (l = m) = false := by
  rw [decide_eq_false_iff_not]
  intro e
  subst e
  rw [hp] at hq
  injection hq with hq
  exact h hq
theorem same_step {l m : List Sp} {i : Nat} {p : Sp} (hp : Hid (l[i]? = some p)) (hq : Hid (m[i]? = some p)) (h : l.take i = m.take i) : l.take (i + 1) = m.take (i + 1) := by
  rw [nth_take hp, nth_take hq, h]
end Go.Proofs.Ytnngjbieoakanaa
