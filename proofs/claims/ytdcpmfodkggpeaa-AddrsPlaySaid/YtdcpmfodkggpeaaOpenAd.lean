/- Layer 20: the arguments as they are opened. -/
import Derived.Test.YtdcpmfodkggpeaaQuad
import Derived.Test.YtdcpmfodkggpeaaOpenG
import Derived.Test.YtdcpmfodkggpeaaOpenN
import Derived.ChangeSame
import Derived.Test.YtdcpmfodkggpeaaProg
namespace Go.Proofs.Ytdcpmfodkggpeaa
open Go.RowKit Go.ChangeShapes Go.WideShapes Go.ChangeAt
set_option linter.unusedVariables false
set_option linter.unusedSimpArgs false
section
variable {H : Type} {enc : TypeId × Value → H} {P : Program} {w : World} {held : Bool} {t : TypeId}
theorem opens_z_1_1_2 {f0 f1 f2 : Field} {α0 : Type} {el0 : α0 → List Value} {ok0 : α0 → Prop} {α1 : Type} {el1 : α1 → List Value} {ok1 : α1 → Prop} {α2 : Type} {el2 : α2 → List Value} {ok2 : α2 → Prop} (ht : P.underlying t = some (.struct #[f0, f1, f2])) (hc : P.cellsOf t = 4) (o0 : f0.offset = 0) (c0 : P.cellsOf f0.type = 1) (h0 : Opens enc P w held f0.type el0 ok0) (o1 : f1.offset = 1) (c1 : P.cellsOf f1.type = 1) (h1 : Opens enc P w held f1.type el1 ok1) (o2 : f2.offset = 2) (c2 : P.cellsOf f2.type = 2) (h2 : Opens enc P w held f2.type el2 ok2) :
    Opens enc P w held t (fun p : α0 × α1 × α2 => el0 p.1 ++ (el1 p.2.1 ++ (el2 p.2.2))) (fun p => ok0 p.1 ∧ ok1 p.2.1 ∧ ok2 p.2.2) := by
  intro fuel cs x h
  obtain ⟨xs, n, _, _, hl, hxs, hf⟩ := DataW.trod_struct ht h
  rw [hc] at hl
  have g0 := hf 0 f0 rfl
  have g1 := hf 1 f1 rfl
  have g2 := hf 2 f2 rfl
  have hall : ∃ x0 x1 x2, xs = [x0, x1, x2] := by
    match xs, (show xs.length = 3 from hxs) with
    | [x0, x1, x2], _ => exact ⟨_, _, _, rfl⟩
  obtain ⟨x0, x1, x2, rfl⟩ := hall
  rw [o0, c0] at g0
  obtain ⟨p0, e0, k0⟩ := h0 _ _ _ (show DataW.trod enc P w 0 (fun _ => true) held n f0.type ((cs.drop 0).take 1) = some x0 from g0)
  rw [o1, c1] at g1
  obtain ⟨p1, e1, k1⟩ := h1 _ _ _ (show DataW.trod enc P w 0 (fun _ => true) held n f1.type ((cs.drop 1).take 1) = some x1 from g1)
  rw [o2, c2] at g2
  obtain ⟨p2, e2, k2⟩ := h2 _ _ _ (show DataW.trod enc P w 0 (fun _ => true) held n f2.type ((cs.drop 2).take 2) = some x2 from g2)
  have hcs : cs.drop 0 = (cs.drop 0).take 1 ++ ((cs.drop 1).take 1 ++ ((cs.drop 2).take 2 ++ ([]))) := (chop cs 0 1).trans (congrArg _ ((chop cs 1 1).trans (congrArg _ ((chop cs 2 2).trans (congrArg _ (List.drop_of_length_le (show cs.length ≤ 4 by omega)))))))
  rw [e0, e1, e2, List.append_nil, List.drop_zero] at hcs
  exact ⟨(p0, p1, p2), hcs, k0, k1, k2⟩
end
section
variable {H : Type} {enc : TypeId × Value → H} {w : World} {held : Bool}
theorem opens_aop : Opens enc Try.prog w held 38 Op4.el (fun p => (Lit.int .i64 p.a).wf = true) := by
  have h := (opens_z_1_1_2 (enc := enc) (w := w) (held := held) Try.underlying38 (by kernel_rfl) rfl (by kernel_rfl) (opens_i64 Try.underlying3) rfl (by kernel_rfl) (opens_i64 Try.underlying3) rfl (by kernel_rfl) (opens_z_1_1 (enc := enc) (w := w) (held := held) Try.underlying36 (by kernel_rfl) rfl (by kernel_rfl) (opens_i64 Try.underlying3) rfl (by kernel_rfl) (opens_i64 Try.underlying3)))
  intro fuel cs x hx
  obtain ⟨⟨a0, a1, a2, a3⟩, hp, h0, h1, h2⟩ := h fuel cs x hx
  exact ⟨⟨a0, a1, a2, a3⟩, hp, WalkArith.wf_i64 ⟨h1.1, by have := h1.2; dsimp only at this ⊢; omega⟩⟩
theorem open_aops {A : Option Addr} {len cap : Nat} {d : DataW H} {ps : List MemPlace} (ht : Try.prog.underlying 22 = some (.slice 38))
    (h : DataW.Trod enc Try.prog w 0 (fun _ => true) held 22 (.slice A len cap) d ps) :
    ∃ l : List Op4, Rd w w.heap.size 4 A len (op4s l) ∧ len ≤ cap ∧ cap ≤ maxLen ∧ ∀ p ∈ l, (Lit.int .i64 p.a).wf = true := by
  obtain ⟨l, h1, h2, h3, _, h5⟩ := open_slices ht (by rw [show Try.prog.cellsOf 38 = 4 by kernel_rfl]; omega) opens_aop h
  rw [show Try.prog.cellsOf 38 = 4 by kernel_rfl] at h1
  exact ⟨l, h1, h2, h3, h5⟩
theorem open_addr {cs : Array Value} {d : DataW H} {ps : List MemPlace} (h : DataW.Trod enc Try.prog w 0 (fun _ => true) held 36 (.agg cs) d ps) : ∃ q : Int × Int, cs = #[.int .i64 q.1, .int .i64 q.2] ∧ True := by
  obtain ⟨⟨a0, a1⟩, h1, h2⟩ := open_agg (opens_z_1_1 (enc := enc) (w := w) (held := held) Try.underlying36 (by kernel_rfl) rfl (by kernel_rfl) (opens_i64 Try.underlying3) rfl (by kernel_rfl) (opens_i64 Try.underlying3)) h
  refine ⟨(a0, a1), ?_, trivial⟩
  rw [← Array.toArray_toList (xs := cs), h1]
  rfl
end
end Go.Proofs.Ytdcpmfodkggpeaa
