/- Layer 38: the arguments as they are opened. -/
import Derived.Test.YtbimjacceocglaaLawPl
import Derived.Test.YtbimjacceocglaaOpenG
import Derived.Test.YtbimjacceocglaaOpenN
import Derived.ChangeSame
namespace Go.Proofs.Ytbimjacceocglaa
open Go.RowKit Go.ChangeShapes Go.WideShapes Go.ChangeAt
set_option linter.unusedVariables false
set_option linter.unusedSimpArgs false
section
variable {H : Type} {enc : TypeId × Value → H} {P : Program} {w : World} {held : Bool} {t : TypeId}
theorem opens_z_1_1_1_1_1_1_1 {f0 f1 f2 f3 f4 f5 f6 : Field} {α0 : Type} {el0 : α0 → List Value} {ok0 : α0 → Prop} {α1 : Type} {el1 : α1 → List Value} {ok1 : α1 → Prop} {α2 : Type} {el2 : α2 → List Value} {ok2 : α2 → Prop} {α3 : Type} {el3 : α3 → List Value} {ok3 : α3 → Prop} {α4 : Type} {el4 : α4 → List Value} {ok4 : α4 → Prop} {α5 : Type} {el5 : α5 → List Value} {ok5 : α5 → Prop} {α6 : Type} {el6 : α6 → List Value} {ok6 : α6 → Prop} (ht : P.underlying t = some (.struct #[f0, f1, f2, f3, f4, f5, f6])) (hc : P.cellsOf t = 7) (o0 : f0.offset = 0) (c0 : P.cellsOf f0.type = 1) (h0 : Opens enc P w held f0.type el0 ok0) (o1 : f1.offset = 1) (c1 : P.cellsOf f1.type = 1) (h1 : Opens enc P w held f1.type el1 ok1) (o2 : f2.offset = 2) (c2 : P.cellsOf f2.type = 1) (h2 : Opens enc P w held f2.type el2 ok2) (o3 : f3.offset = 3) (c3 : P.cellsOf f3.type = 1) (h3 : Opens enc P w held f3.type el3 ok3) (o4 : f4.offset = 4) (c4 : P.cellsOf f4.type = 1) (h4 : Opens enc P w held f4.type el4 ok4) (o5 : f5.offset = 5) (c5 : P.cellsOf f5.type = 1) (h5 : Opens enc P w held f5.type el5 ok5) (o6 : f6.offset = 6) (c6 : P.cellsOf f6.type = 1) (h6 : Opens enc P w held f6.type el6 ok6) :
    Opens enc P w held t (fun p : α0 × α1 × α2 × α3 × α4 × α5 × α6 => el0 p.1 ++ (el1 p.2.1 ++ (el2 p.2.2.1 ++ (el3 p.2.2.2.1 ++ (el4 p.2.2.2.2.1 ++ (el5 p.2.2.2.2.2.1 ++ (el6 p.2.2.2.2.2.2))))))) (fun p => ok0 p.1 ∧ ok1 p.2.1 ∧ ok2 p.2.2.1 ∧ ok3 p.2.2.2.1 ∧ ok4 p.2.2.2.2.1 ∧ ok5 p.2.2.2.2.2.1 ∧ ok6 p.2.2.2.2.2.2) := by
  intro fuel cs x h
  obtain ⟨xs, n, _, _, hl, hxs, hf⟩ := DataW.trod_struct ht h
  rw [hc] at hl
  have g0 := hf 0 f0 rfl
  have g1 := hf 1 f1 rfl
  have g2 := hf 2 f2 rfl
  have g3 := hf 3 f3 rfl
  have g4 := hf 4 f4 rfl
  have g5 := hf 5 f5 rfl
  have g6 := hf 6 f6 rfl
  have hall : ∃ x0 x1 x2 x3 x4 x5 x6, xs = [x0, x1, x2, x3, x4, x5, x6] := by
    match xs, (show xs.length = 7 from hxs) with
    | [x0, x1, x2, x3, x4, x5, x6], _ => exact ⟨_, _, _, _, _, _, _, rfl⟩
  obtain ⟨x0, x1, x2, x3, x4, x5, x6, rfl⟩ := hall
  rw [o0, c0] at g0
  obtain ⟨p0, e0, k0⟩ := h0 _ _ _ (show DataW.trod enc P w 0 (fun _ => true) held n f0.type ((cs.drop 0).take 1) = some x0 from g0)
  rw [o1, c1] at g1
  obtain ⟨p1, e1, k1⟩ := h1 _ _ _ (show DataW.trod enc P w 0 (fun _ => true) held n f1.type ((cs.drop 1).take 1) = some x1 from g1)
  rw [o2, c2] at g2
  obtain ⟨p2, e2, k2⟩ := h2 _ _ _ (show DataW.trod enc P w 0 (fun _ => true) held n f2.type ((cs.drop 2).take 1) = some x2 from g2)
  rw [o3, c3] at g3
  obtain ⟨p3, e3, k3⟩ := h3 _ _ _ (show DataW.trod enc P w 0 (fun _ => true) held n f3.type ((cs.drop 3).take 1) = some x3 from g3)
  rw [o4, c4] at g4
  obtain ⟨p4, e4, k4⟩ := h4 _ _ _ (show DataW.trod enc P w 0 (fun _ => true) held n f4.type ((cs.drop 4).take 1) = some x4 from g4)
  rw [o5, c5] at g5
  obtain ⟨p5, e5, k5⟩ := h5 _ _ _ (show DataW.trod enc P w 0 (fun _ => true) held n f5.type ((cs.drop 5).take 1) = some x5 from g5)
  rw [o6, c6] at g6
  obtain ⟨p6, e6, k6⟩ := h6 _ _ _ (show DataW.trod enc P w 0 (fun _ => true) held n f6.type ((cs.drop 6).take 1) = some x6 from g6)
  have hcs : cs.drop 0 = (cs.drop 0).take 1 ++ ((cs.drop 1).take 1 ++ ((cs.drop 2).take 1 ++ ((cs.drop 3).take 1 ++ ((cs.drop 4).take 1 ++ ((cs.drop 5).take 1 ++ ((cs.drop 6).take 1 ++ ([]))))))) := (chop cs 0 1).trans (congrArg _ ((chop cs 1 1).trans (congrArg _ ((chop cs 2 1).trans (congrArg _ ((chop cs 3 1).trans (congrArg _ ((chop cs 4 1).trans (congrArg _ ((chop cs 5 1).trans (congrArg _ ((chop cs 6 1).trans (congrArg _ (List.drop_of_length_le (show cs.length ≤ 7 by omega)))))))))))))))
  rw [e0, e1, e2, e3, e4, e5, e6, List.append_nil, List.drop_zero] at hcs
  exact ⟨(p0, p1, p2, p3, p4, p5, p6), hcs, k0, k1, k2, k3, k4, k5, k6⟩
end
section
variable {H : Type} {enc : TypeId × Value → H} {w : World} {held : Bool}
theorem opens_plp : Opens enc Try.prog w held 25 Plp.el (fun _ => True) := by
  have h := (opens_z_1_1_1_1_1_1_1 (enc := enc) (w := w) (held := held) Try.underlying25 (by kernel_rfl) rfl (by kernel_rfl) (opens_i64 Try.underlying3) rfl (by kernel_rfl) (opens_bool Try.underlying4) rfl (by kernel_rfl) (opens_bool Try.underlying4) rfl (by kernel_rfl) (opens_bool Try.underlying4) rfl (by kernel_rfl) (opens_bool Try.underlying4) rfl (by kernel_rfl) (opens_i64 Try.underlying3) rfl (by kernel_rfl) (opens_i64 Try.underlying3))
  intro fuel cs x hx
  obtain ⟨⟨a0, a1, a2, a3, a4, a5, a6⟩, hp, _⟩ := h fuel cs x hx
  exact ⟨⟨a0, a1, a2, a3, a4, a5, a6⟩, hp, trivial⟩
theorem open_plps {A : Option Addr} {len cap : Nat} {d : DataW H} {ps : List MemPlace} (ht : Try.prog.underlying 23 = some (.slice 25))
    (h : DataW.Trod enc Try.prog w 0 (fun _ => true) held 23 (.slice A len cap) d ps) :
    ∃ l : List Plp, Rd w w.heap.size 7 A len (plps l) ∧ len ≤ cap ∧ cap ≤ maxLen ∧ ∀ p ∈ l, True := by
  obtain ⟨l, h1, h2, h3, _, h5⟩ := open_slices ht (by rw [show Try.prog.cellsOf 25 = 7 by kernel_rfl]; omega) opens_plp h
  rw [show Try.prog.cellsOf 25 = 7 by kernel_rfl] at h1
  exact ⟨l, h1, h2, h3, h5⟩
end
theorem planBounds_walk (way most : Int) (A : Option Addr) (n c : Nat) (l : List Plp) (w : World) (h1 : (Lit.int .i64 way).wf = true) (h2 : (Lit.int .i64 most).wf = true) (hr : Rd w w.heap.size 7 A n (plps l)) (hnc : n ≤ c) (hc : c ≤ maxLen) (hl : ∀ p ∈ l, True) :
    Calls Try.prog 3 #[.int .i64 way, .int .i64 most, .slice A n c] w fun e w' => e = .returned (.bool true) ∧ Below w.heap.size w w' := planBounds_any way most A n c l w hr hnc
end Go.Proofs.Ytbimjacceocglaa
