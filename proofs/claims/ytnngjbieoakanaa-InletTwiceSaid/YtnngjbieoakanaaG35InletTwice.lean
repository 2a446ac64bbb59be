/- Structs as arguments, whatever cells their fields take. -/
import Derived.Test.YtnngjbieoakanaaG34InletTwice
import Derived.ChangeSame

namespace Go.Proofs.Ytnngjbieoakanaa
open Go.RowKit Go.ChangeShapes Go.WideShapes Go.ChangeAt
set_option linter.unusedVariables false
theorem chop {α : Type} (l : List α) (o k : Nat) : l.drop o = (l.drop o).take k ++ l.drop (o + k) := by
  rw [← List.drop_drop]
  exact (List.take_append_drop k (l.drop o)).symm
section
variable {H : Type} {enc : TypeId × Value → H} {P : Program} {w : World} {held : Bool} {t : TypeId}
theorem opens_bool (ht : P.underlying t = some .bool) : Opens enc P w held t (fun b : Bool => [.bool b]) (fun _ => True) := by
  intro fuel cs x h
  obtain ⟨b, h1, _⟩ := DataW.trod_bool ht h
  exact ⟨b, h1, trivial⟩
theorem opens_z_1 {f0 : Field} {α0 : Type} {el0 : α0 → List Value} {ok0 : α0 → Prop} (ht : P.underlying t = some (.struct #[f0])) (hc : P.cellsOf t = 1) (o0 : f0.offset = 0) (c0 : P.cellsOf f0.type = 1) (h0 : Opens enc P w held f0.type el0 ok0) :
    Opens enc P w held t (fun p : α0 => el0 p) (fun p => ok0 p) := by
  intro fuel cs x h
  obtain ⟨xs, n, _, _, hl, hxs, hf⟩ := DataW.trod_struct ht h
  rw [hc] at hl
  have g0 := hf 0 f0 rfl
  have hall : ∃ x0, xs = [x0] := by
    match xs, (show xs.length = 1 from hxs) with
    | [x0], _ => exact ⟨_, rfl⟩
  obtain ⟨x0, rfl⟩ := hall
  rw [o0, c0] at g0
  obtain ⟨p0, e0, k0⟩ := h0 _ _ _ (show DataW.trod enc P w 0 (fun _ => true) held n f0.type ((cs.drop 0).take 1) = some x0 from g0)
  have hcs : cs.drop 0 = (cs.drop 0).take 1 ++ ([]) := (chop cs 0 1).trans (congrArg _ (List.drop_of_length_le (show cs.length ≤ 1 by omega)))
  rw [e0, List.append_nil, List.drop_zero] at hcs
  exact ⟨p0, hcs, k0⟩
theorem opens_z_1_1_1 {f0 f1 f2 : Field} {α0 : Type} {el0 : α0 → List Value} {ok0 : α0 → Prop} {α1 : Type} {el1 : α1 → List Value} {ok1 : α1 → Prop} {α2 : Type} {el2 : α2 → List Value} {ok2 : α2 → Prop} (ht : P.underlying t = some (.struct #[f0, f1, f2])) (hc : P.cellsOf t = 3) (o0 : f0.offset = 0) (c0 : P.cellsOf f0.type = 1) (h0 : Opens enc P w held f0.type el0 ok0) (o1 : f1.offset = 1) (c1 : P.cellsOf f1.type = 1) (h1 : Opens enc P w held f1.type el1 ok1) (o2 : f2.offset = 2) (c2 : P.cellsOf f2.type = 1) (h2 : Opens enc P w held f2.type el2 ok2) :
    Opens enc P w held t (fun p : α0 × α1 × α2 => el0 p.1 ++ (el1 p.2.1 ++ (el2 p.2.2))) (fun p => ok0 p.1 ∧ ok1 p.2.1 ∧ ok2 p.2.2) := by
  intro fuel cs x h
  obtain ⟨xs, n, _, _, hl, hxs, hf⟩ := DataW.trod_struct ht h
  rw [hc] at hl
  have g0 := hf 0 f0 rfl
  have g1 := hf 1 f1 rfl
  have g2 := hf 2 f2 rfl
  have hall : ∃ x0 x1 x2, xs = [x0, x1, x2] := by
    match xs, (show xs.length = 3 from hxs) with
    | [x0, x1, x2], _ => exact ⟨_, _, _, rfl⟩
  obtain ⟨x0, x1, x2, rfl⟩ := hall
  rw [o0, c0] at g0
  obtain ⟨p0, e0, k0⟩ := h0 _ _ _ (show DataW.trod enc P w 0 (fun _ => true) held n f0.type ((cs.drop 0).take 1) = some x0 from g0)
  rw [o1, c1] at g1
  obtain ⟨p1, e1, k1⟩ := h1 _ _ _ (show DataW.trod enc P w 0 (fun _ => true) held n f1.type ((cs.drop 1).take 1) = some x1 from g1)
  rw [o2, c2] at g2
  obtain ⟨p2, e2, k2⟩ := h2 _ _ _ (show DataW.trod enc P w 0 (fun _ => true) held n f2.type ((cs.drop 2).take 1) = some x2 from g2)
  have hcs : cs.drop 0 = (cs.drop 0).take 1 ++ ((cs.drop 1).take 1 ++ ((cs.drop 2).take 1 ++ ([]))) := (chop cs 0 1).trans (congrArg _ ((chop cs 1 1).trans (congrArg _ ((chop cs 2 1).trans (congrArg _ (List.drop_of_length_le (show cs.length ≤ 3 by omega)))))))
  rw [e0, e1, e2, List.append_nil, List.drop_zero] at hcs
  exact ⟨(p0, p1, p2), hcs, k0, k1, k2⟩
theorem opens_z_1_1_1_1_1_1 {f0 f1 f2 f3 f4 f5 : Field} {α0 : Type} {el0 : α0 → List Value} {ok0 : α0 → Prop} {α1 : Type} {el1 : α1 → List Value} {ok1 : α1 → Prop} {α2 : Type} {el2 : α2 → List Value} {ok2 : α2 → Prop} {α3 : Type} {el3 : α3 → List Value} {ok3 : α3 → Prop} {α4 : Type} {el4 : α4 → List Value} {ok4 : α4 → Prop} {α5 : Type} {el5 : α5 → List Value} {ok5 : α5 → Prop} (ht : P.underlying t = some (.struct #[f0, f1, f2, f3, f4, f5])) (hc : P.cellsOf t = 6) (o0 : f0.offset = 0) (c0 : P.cellsOf f0.type = 1) (h0 : Opens enc P w held f0.type el0 ok0) (o1 : f1.offset = 1) (c1 : P.cellsOf f1.type = 1) (h1 : Opens enc P w held f1.type el1 ok1) (o2 : f2.offset = 2) (c2 : P.cellsOf f2.type = 1) (h2 : Opens enc P w held f2.type el2 ok2) (o3 : f3.offset = 3) (c3 : P.cellsOf f3.type = 1) (h3 : Opens enc P w held f3.type el3 ok3) (o4 : f4.offset = 4) (c4 : P.cellsOf f4.type = 1) (h4 : Opens enc P w held f4.type el4 ok4) (o5 : f5.offset = 5) (c5 : P.cellsOf f5.type = 1) (h5 : Opens enc P w held f5.type el5 ok5) :
    Opens enc P w held t (fun p : α0 × α1 × α2 × α3 × α4 × α5 => el0 p.1 ++ (el1 p.2.1 ++ (el2 p.2.2.1 ++ (el3 p.2.2.2.1 ++ (el4 p.2.2.2.2.1 ++ (el5 p.2.2.2.2.2)))))) (fun p => ok0 p.1 ∧ ok1 p.2.1 ∧ ok2 p.2.2.1 ∧ ok3 p.2.2.2.1 ∧ ok4 p.2.2.2.2.1 ∧ ok5 p.2.2.2.2.2) := by
  intro fuel cs x h
  obtain ⟨xs, n, _, _, hl, hxs, hf⟩ := DataW.trod_struct ht h
  rw [hc] at hl
  have g0 := hf 0 f0 rfl
  have g1 := hf 1 f1 rfl
  have g2 := hf 2 f2 rfl
  have g3 := hf 3 f3 rfl
  have g4 := hf 4 f4 rfl
  have g5 := hf 5 f5 rfl
  have hall : ∃ x0 x1 x2 x3 x4 x5, xs = [x0, x1, x2, x3, x4, x5] := by
    match xs, (show xs.length = 6 from hxs) with
    | [x0, x1, x2, x3, x4, x5], _ => exact ⟨_, _, _, _, _, _, rfl⟩
  obtain ⟨x0, x1, x2, x3, x4, x5, rfl⟩ := hall
  rw [o0, c0] at g0
  obtain ⟨p0, e0, k0⟩ := h0 _ _ _ (show DataW.trod enc P w 0 (fun _ => true) held n f0.type ((cs.drop 0).take 1) = some x0 from g0)
  rw [o1, c1] at g1
  obtain ⟨p1, e1, k1⟩ := h1 _ _ _ (show DataW.trod enc P w 0 (fun _ => true) held n f1.type ((cs.drop 1).take 1) = some x1 from g1)
  rw [o2, c2] at g2
  obtain ⟨p2, e2, k2⟩ := h2 _ _ _ (show DataW.trod enc P w 0 (fun _ => true) held n f2.type ((cs.drop 2).take 1) = some x2 from g2)
  rw [o3, c3] at g3
  obtain ⟨p3, e3, k3⟩ := h3 _ _ _ (show DataW.trod enc P w 0 (fun _ => true) held n f3.type ((cs.drop 3).take 1) = some x3 from g3)
  rw [o4, c4] at g4
  obtain ⟨p4, e4, k4⟩ := h4 _ _ _ (show DataW.trod enc P w 0 (fun _ => true) held n f4.type ((cs.drop 4).take 1) = some x4 from g4)
  rw [o5, c5] at g5
  obtain ⟨p5, e5, k5⟩ := h5 _ _ _ (show DataW.trod enc P w 0 (fun _ => true) held n f5.type ((cs.drop 5).take 1) = some x5 from g5)
  have hcs : cs.drop 0 = (cs.drop 0).take 1 ++ ((cs.drop 1).take 1 ++ ((cs.drop 2).take 1 ++ ((cs.drop 3).take 1 ++ ((cs.drop 4).take 1 ++ ((cs.drop 5).take 1 ++ ([])))))) := (chop cs 0 1).trans (congrArg _ ((chop cs 1 1).trans (congrArg _ ((chop cs 2 1).trans (congrArg _ ((chop cs 3 1).trans (congrArg _ ((chop cs 4 1).trans (congrArg _ ((chop cs 5 1).trans (congrArg _ (List.drop_of_length_le (show cs.length ≤ 6 by omega)))))))))))))
  rw [e0, e1, e2, e3, e4, e5, List.append_nil, List.drop_zero] at hcs
  exact ⟨(p0, p1, p2, p3, p4, p5), hcs, k0, k1, k2, k3, k4, k5⟩
theorem opens_z_3_6_6_6 {f0 f1 f2 f3 : Field} {α0 : Type} {el0 : α0 → List Value} {ok0 : α0 → Prop} {α1 : Type} {el1 : α1 → List Value} {ok1 : α1 → Prop} {α2 : Type} {el2 : α2 → List Value} {ok2 : α2 → Prop} {α3 : Type} {el3 : α3 → List Value} {ok3 : α3 → Prop} (ht : P.underlying t = some (.struct #[f0, f1, f2, f3])) (hc : P.cellsOf t = 21) (o0 : f0.offset = 0) (c0 : P.cellsOf f0.type = 3) (h0 : Opens enc P w held f0.type el0 ok0) (o1 : f1.offset = 3) (c1 : P.cellsOf f1.type = 6) (h1 : Opens enc P w held f1.type el1 ok1) (o2 : f2.offset = 9) (c2 : P.cellsOf f2.type = 6) (h2 : Opens enc P w held f2.type el2 ok2) (o3 : f3.offset = 15) (c3 : P.cellsOf f3.type = 6) (h3 : Opens enc P w held f3.type el3 ok3) :
    Opens enc P w held t (fun p : α0 × α1 × α2 × α3 => el0 p.1 ++ (el1 p.2.1 ++ (el2 p.2.2.1 ++ (el3 p.2.2.2)))) (fun p => ok0 p.1 ∧ ok1 p.2.1 ∧ ok2 p.2.2.1 ∧ ok3 p.2.2.2) := by
  intro fuel cs x h
  obtain ⟨xs, n, _, _, hl, hxs, hf⟩ := DataW.trod_struct ht h
  rw [hc] at hl
  have g0 := hf 0 f0 rfl
  have g1 := hf 1 f1 rfl
  have g2 := hf 2 f2 rfl
  have g3 := hf 3 f3 rfl
  have hall : ∃ x0 x1 x2 x3, xs = [x0, x1, x2, x3] := by
    match xs, (show xs.length = 4 from hxs) with
    | [x0, x1, x2, x3], _ => exact ⟨_, _, _, _, rfl⟩
  obtain ⟨x0, x1, x2, x3, rfl⟩ := hall
  rw [o0, c0] at g0
  obtain ⟨p0, e0, k0⟩ := h0 _ _ _ (show DataW.trod enc P w 0 (fun _ => true) held n f0.type ((cs.drop 0).take 3) = some x0 from g0)
  rw [o1, c1] at g1
  obtain ⟨p1, e1, k1⟩ := h1 _ _ _ (show DataW.trod enc P w 0 (fun _ => true) held n f1.type ((cs.drop 3).take 6) = some x1 from g1)
  rw [o2, c2] at g2
  obtain ⟨p2, e2, k2⟩ := h2 _ _ _ (show DataW.trod enc P w 0 (fun _ => true) held n f2.type ((cs.drop 9).take 6) = some x2 from g2)
  rw [o3, c3] at g3
  obtain ⟨p3, e3, k3⟩ := h3 _ _ _ (show DataW.trod enc P w 0 (fun _ => true) held n f3.type ((cs.drop 15).take 6) = some x3 from g3)
  have hcs : cs.drop 0 = (cs.drop 0).take 3 ++ ((cs.drop 3).take 6 ++ ((cs.drop 9).take 6 ++ ((cs.drop 15).take 6 ++ ([])))) := (chop cs 0 3).trans (congrArg _ ((chop cs 3 6).trans (congrArg _ ((chop cs 9 6).trans (congrArg _ ((chop cs 15 6).trans (congrArg _ (List.drop_of_length_le (show cs.length ≤ 21 by omega)))))))))
  rw [e0, e1, e2, e3, List.append_nil, List.drop_zero] at hcs
  exact ⟨(p0, p1, p2, p3), hcs, k0, k1, k2, k3⟩
theorem opens_z_1_1 {f0 f1 : Field} {α0 : Type} {el0 : α0 → List Value} {ok0 : α0 → Prop} {α1 : Type} {el1 : α1 → List Value} {ok1 : α1 → Prop} (ht : P.underlying t = some (.struct #[f0, f1])) (hc : P.cellsOf t = 2) (o0 : f0.offset = 0) (c0 : P.cellsOf f0.type = 1) (h0 : Opens enc P w held f0.type el0 ok0) (o1 : f1.offset = 1) (c1 : P.cellsOf f1.type = 1) (h1 : Opens enc P w held f1.type el1 ok1) :
    Opens enc P w held t (fun p : α0 × α1 => el0 p.1 ++ (el1 p.2)) (fun p => ok0 p.1 ∧ ok1 p.2) := by
  intro fuel cs x h
  obtain ⟨xs, n, _, _, hl, hxs, hf⟩ := DataW.trod_struct ht h
  rw [hc] at hl
  have g0 := hf 0 f0 rfl
  have g1 := hf 1 f1 rfl
  have hall : ∃ x0 x1, xs = [x0, x1] := by
    match xs, (show xs.length = 2 from hxs) with
    | [x0, x1], _ => exact ⟨_, _, rfl⟩
  obtain ⟨x0, x1, rfl⟩ := hall
  rw [o0, c0] at g0
  obtain ⟨p0, e0, k0⟩ := h0 _ _ _ (show DataW.trod enc P w 0 (fun _ => true) held n f0.type ((cs.drop 0).take 1) = some x0 from g0)
  rw [o1, c1] at g1
  obtain ⟨p1, e1, k1⟩ := h1 _ _ _ (show DataW.trod enc P w 0 (fun _ => true) held n f1.type ((cs.drop 1).take 1) = some x1 from g1)
  have hcs : cs.drop 0 = (cs.drop 0).take 1 ++ ((cs.drop 1).take 1 ++ ([])) := (chop cs 0 1).trans (congrArg _ ((chop cs 1 1).trans (congrArg _ (List.drop_of_length_le (show cs.length ≤ 2 by omega)))))
  rw [e0, e1, List.append_nil, List.drop_zero] at hcs
  exact ⟨(p0, p1), hcs, k0, k1⟩
end
end Go.Proofs.Ytnngjbieoakanaa
