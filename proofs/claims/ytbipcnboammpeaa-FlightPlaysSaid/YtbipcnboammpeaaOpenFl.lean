/- Layer 16: rows of calls as arguments. -/
import Derived.Test.YtbipcnboammpeaaLawFlP
import Derived.Test.YtbipcnboammpeaaOpenG
import Derived.Test.YtbipcnboammpeaaOpenN
import Derived.ChangeSame
namespace Go.Proofs.Ytbipcnboammpeaa
open Go.RowKit Go.ChangeShapes Go.WideShapes Go.ChangeAt
set_option linter.unusedVariables false
set_option linter.unusedSimpArgs false
section
variable {H : Type} {enc : TypeId × Value → H} {P : Program} {w : World} {held : Bool} {t : TypeId}
theorem opens_z_1_1_1_1_1_1_1_1_1 {f0 f1 f2 f3 f4 f5 f6 f7 f8 : Field} {α0 : Type} {el0 : α0 → List Value} {ok0 : α0 → Prop} {α1 : Type} {el1 : α1 → List Value} {ok1 : α1 → Prop} {α2 : Type} {el2 : α2 → List Value} {ok2 : α2 → Prop} {α3 : Type} {el3 : α3 → List Value} {ok3 : α3 → Prop} {α4 : Type} {el4 : α4 → List Value} {ok4 : α4 → Prop} {α5 : Type} {el5 : α5 → List Value} {ok5 : α5 → Prop} {α6 : Type} {el6 : α6 → List Value} {ok6 : α6 → Prop} {α7 : Type} {el7 : α7 → List Value} {ok7 : α7 → Prop} {α8 : Type} {el8 : α8 → List Value} {ok8 : α8 → Prop} (ht : P.underlying t = some (.struct #[f0, f1, f2, f3, f4, f5, f6, f7, f8])) (hc : P.cellsOf t = 9) (o0 : f0.offset = 0) (c0 : P.cellsOf f0.type = 1) (h0 : Opens enc P w held f0.type el0 ok0) (o1 : f1.offset = 1) (c1 : P.cellsOf f1.type = 1) (h1 : Opens enc P w held f1.type el1 ok1) (o2 : f2.offset = 2) (c2 : P.cellsOf f2.type = 1) (h2 : Opens enc P w held f2.type el2 ok2) (o3 : f3.offset = 3) (c3 : P.cellsOf f3.type = 1) (h3 : Opens enc P w held f3.type el3 ok3) (o4 : f4.offset = 4) (c4 : P.cellsOf f4.type = 1) (h4 : Opens enc P w held f4.type el4 ok4) (o5 : f5.offset = 5) (c5 : P.cellsOf f5.type = 1) (h5 : Opens enc P w held f5.type el5 ok5) (o6 : f6.offset = 6) (c6 : P.cellsOf f6.type = 1) (h6 : Opens enc P w held f6.type el6 ok6) (o7 : f7.offset = 7) (c7 : P.cellsOf f7.type = 1) (h7 : Opens enc P w held f7.type el7 ok7) (o8 : f8.offset = 8) (c8 : P.cellsOf f8.type = 1) (h8 : Opens enc P w held f8.type el8 ok8) :
    Opens enc P w held t (fun p : α0 × α1 × α2 × α3 × α4 × α5 × α6 × α7 × α8 => el0 p.1 ++ (el1 p.2.1 ++ (el2 p.2.2.1 ++ (el3 p.2.2.2.1 ++ (el4 p.2.2.2.2.1 ++ (el5 p.2.2.2.2.2.1 ++ (el6 p.2.2.2.2.2.2.1 ++ (el7 p.2.2.2.2.2.2.2.1 ++ (el8 p.2.2.2.2.2.2.2.2))))))))) (fun p => ok0 p.1 ∧ ok1 p.2.1 ∧ ok2 p.2.2.1 ∧ ok3 p.2.2.2.1 ∧ ok4 p.2.2.2.2.1 ∧ ok5 p.2.2.2.2.2.1 ∧ ok6 p.2.2.2.2.2.2.1 ∧ ok7 p.2.2.2.2.2.2.2.1 ∧ ok8 p.2.2.2.2.2.2.2.2) := by
  intro fuel cs x h
  obtain ⟨xs, n, _, _, hl, hxs, hf⟩ := DataW.trod_struct ht h
  rw [hc] at hl
  have g0 := hf 0 f0 rfl
  have g1 := hf 1 f1 rfl
  have g2 := hf 2 f2 rfl
  have g3 := hf 3 f3 rfl
  have g4 := hf 4 f4 rfl
  have g5 := hf 5 f5 rfl
  have g6 := hf 6 f6 rfl
  have g7 := hf 7 f7 rfl
  have g8 := hf 8 f8 rfl
  have hall : ∃ x0 x1 x2 x3 x4 x5 x6 x7 x8, xs = [x0, x1, x2, x3, x4, x5, x6, x7, x8] := by
    match xs, (show xs.length = 9 from hxs) with
    | [x0, x1, x2, x3, x4, x5, x6, x7, x8], _ => exact ⟨_, _, _, _, _, _, _, _, _, rfl⟩
  obtain ⟨x0, x1, x2, x3, x4, x5, x6, x7, x8, rfl⟩ := hall
  rw [o0, c0] at g0
  obtain ⟨p0, e0, k0⟩ := h0 _ _ _ (show DataW.trod enc P w 0 (fun _ => true) held n f0.type ((cs.drop 0).take 1) = some x0 from g0)
  rw [o1, c1] at g1
  obtain ⟨p1, e1, k1⟩ := h1 _ _ _ (show DataW.trod enc P w 0 (fun _ => true) held n f1.type ((cs.drop 1).take 1) = some x1 from g1)
  rw [o2, c2] at g2
  obtain ⟨p2, e2, k2⟩ := h2 _ _ _ (show DataW.trod enc P w 0 (fun _ => true) held n f2.type ((cs.drop 2).take 1) = some x2 from g2)
  rw [o3, c3] at g3
  obtain ⟨p3, e3, k3⟩ := h3 _ _ _ (show DataW.trod enc P w 0 (fun _ => true) held n f3.type ((cs.drop 3).take 1) = some x3 from g3)
  rw [o4, c4] at g4
  obtain ⟨p4, e4, k4⟩ := h4 _ _ _ (show DataW.trod enc P w 0 (fun _ => true) held n f4.type ((cs.drop 4).take 1) = some x4 from g4)
  rw [o5, c5] at g5
  obtain ⟨p5, e5, k5⟩ := h5 _ _ _ (show DataW.trod enc P w 0 (fun _ => true) held n f5.type ((cs.drop 5).take 1) = some x5 from g5)
  rw [o6, c6] at g6
  obtain ⟨p6, e6, k6⟩ := h6 _ _ _ (show DataW.trod enc P w 0 (fun _ => true) held n f6.type ((cs.drop 6).take 1) = some x6 from g6)
  rw [o7, c7] at g7
  obtain ⟨p7, e7, k7⟩ := h7 _ _ _ (show DataW.trod enc P w 0 (fun _ => true) held n f7.type ((cs.drop 7).take 1) = some x7 from g7)
  rw [o8, c8] at g8
  obtain ⟨p8, e8, k8⟩ := h8 _ _ _ (show DataW.trod enc P w 0 (fun _ => true) held n f8.type ((cs.drop 8).take 1) = some x8 from g8)
  have hcs : cs.drop 0 = (cs.drop 0).take 1 ++ ((cs.drop 1).take 1 ++ ((cs.drop 2).take 1 ++ ((cs.drop 3).take 1 ++ ((cs.drop 4).take 1 ++ ((cs.drop 5).take 1 ++ ((cs.drop 6).take 1 ++ ((cs.drop 7).take 1 ++ ((cs.drop 8).take 1 ++ ([]))))))))) := (chop cs 0 1).trans (congrArg _ ((chop cs 1 1).trans (congrArg _ ((chop cs 2 1).trans (congrArg _ ((chop cs 3 1).trans (congrArg _ ((chop cs 4 1).trans (congrArg _ ((chop cs 5 1).trans (congrArg _ ((chop cs 6 1).trans (congrArg _ ((chop cs 7 1).trans (congrArg _ ((chop cs 8 1).trans (congrArg _ (List.drop_of_length_le (show cs.length ≤ 9 by omega)))))))))))))))))))
  rw [e0, e1, e2, e3, e4, e5, e6, e7, e8, List.append_nil, List.drop_zero] at hcs
  exact ⟨(p0, p1, p2, p3, p4, p5, p6, p7, p8), hcs, k0, k1, k2, k3, k4, k5, k6, k7, k8⟩
theorem opens_z_1_9_1 {f0 f1 f2 : Field} {α0 : Type} {el0 : α0 → List Value} {ok0 : α0 → Prop} {α1 : Type} {el1 : α1 → List Value} {ok1 : α1 → Prop} {α2 : Type} {el2 : α2 → List Value} {ok2 : α2 → Prop} (ht : P.underlying t = some (.struct #[f0, f1, f2])) (hc : P.cellsOf t = 11) (o0 : f0.offset = 0) (c0 : P.cellsOf f0.type = 1) (h0 : Opens enc P w held f0.type el0 ok0) (o1 : f1.offset = 1) (c1 : P.cellsOf f1.type = 9) (h1 : Opens enc P w held f1.type el1 ok1) (o2 : f2.offset = 10) (c2 : P.cellsOf f2.type = 1) (h2 : Opens enc P w held f2.type el2 ok2) :
    Opens enc P w held t (fun p : α0 × α1 × α2 => el0 p.1 ++ (el1 p.2.1 ++ (el2 p.2.2))) (fun p => ok0 p.1 ∧ ok1 p.2.1 ∧ ok2 p.2.2) := by
  intro fuel cs x h
  obtain ⟨xs, n, _, _, hl, hxs, hf⟩ := DataW.trod_struct ht h
  rw [hc] at hl
  have g0 := hf 0 f0 rfl
  have g1 := hf 1 f1 rfl
  have g2 := hf 2 f2 rfl
  have hall : ∃ x0 x1 x2, xs = [x0, x1, x2] := by
    match xs, (show xs.length = 3 from hxs) with
    | [x0, x1, x2], _ => exact ⟨_, _, _, rfl⟩
  obtain ⟨x0, x1, x2, rfl⟩ := hall
  rw [o0, c0] at g0
  obtain ⟨p0, e0, k0⟩ := h0 _ _ _ (show DataW.trod enc P w 0 (fun _ => true) held n f0.type ((cs.drop 0).take 1) = some x0 from g0)
  rw [o1, c1] at g1
  obtain ⟨p1, e1, k1⟩ := h1 _ _ _ (show DataW.trod enc P w 0 (fun _ => true) held n f1.type ((cs.drop 1).take 9) = some x1 from g1)
  rw [o2, c2] at g2
  obtain ⟨p2, e2, k2⟩ := h2 _ _ _ (show DataW.trod enc P w 0 (fun _ => true) held n f2.type ((cs.drop 10).take 1) = some x2 from g2)
  have hcs : cs.drop 0 = (cs.drop 0).take 1 ++ ((cs.drop 1).take 9 ++ ((cs.drop 10).take 1 ++ ([]))) := (chop cs 0 1).trans (congrArg _ ((chop cs 1 9).trans (congrArg _ ((chop cs 10 1).trans (congrArg _ (List.drop_of_length_le (show cs.length ≤ 11 by omega)))))))
  rw [e0, e1, e2, List.append_nil, List.drop_zero] at hcs
  exact ⟨(p0, p1, p2), hcs, k0, k1, k2⟩
end
section
variable {H : Type} {enc : TypeId × Value → H} {w : World} {held : Bool}
theorem opens_opf : Opens enc Try.prog w held 32 OpF.el OpF.okay := by
  have h := (opens_z_1_9_1 (enc := enc) (w := w) (held := held) Try.underlying32 (by kernel_rfl) rfl (by kernel_rfl) (opens_i64 Try.underlying3) rfl (by kernel_rfl) (opens_z_1_1_1_1_1_1_1_1_1 (enc := enc) (w := w) (held := held) Try.underlying30 (by kernel_rfl) rfl (by kernel_rfl) (opens_u64 Try.underlying27) rfl (by kernel_rfl) (opens_i64 Try.underlying3) rfl (by kernel_rfl) (opens_bool Try.underlying4) rfl (by kernel_rfl) (opens_i64 Try.underlying3) rfl (by kernel_rfl) (opens_u32 Try.underlying28) rfl (by kernel_rfl) (opens_i64 Try.underlying3) rfl (by kernel_rfl) (opens_i64 Try.underlying3) rfl (by kernel_rfl) (opens_bool Try.underlying4) rfl (by kernel_rfl) (opens_bool Try.underlying4)) rfl (by kernel_rfl) (opens_i64 Try.underlying3))
  intro fuel cs x hx
  obtain ⟨⟨a0, ⟨a1, a2, a3, a4, a5, a6, a7, a8, a9⟩, a10⟩, hp, b0, ⟨b1, b2, b3, b4, b5, b6, b7, b8, b9⟩, b10⟩ := h fuel cs x hx
  have b5' : a5 < 4294967296 := b5
  exact ⟨⟨a0, ⟨a1, a2, a3, a4, (a5 : Nat), a6, a7, a8, a9⟩, a10⟩, hp, ⟨⟨b1, b2, b4, (show U32 (a5 : Int) from ⟨by omega, by omega⟩)⟩, b0⟩⟩
theorem open_opfs {A : Option Addr} {len cap : Nat} {d : DataW H} {ps : List MemPlace} (ht : Try.prog.underlying 22 = some (.slice 32))
    (h : DataW.Trod enc Try.prog w 0 (fun _ => true) held 22 (.slice A len cap) d ps) :
    ∃ l : List OpF, Rd w w.heap.size 11 A len (opfs l) ∧ len ≤ cap ∧ cap ≤ maxLen ∧ ∀ p ∈ l, p.okay := by
  obtain ⟨l, h1, h2, h3, _, h5⟩ := open_slices ht (by rw [show Try.prog.cellsOf 32 = 11 by kernel_rfl]; omega) opens_opf h
  rw [show Try.prog.cellsOf 32 = 11 by kernel_rfl] at h1
  exact ⟨l, h1, h2, h3, h5⟩
end
theorem flightPlays_any (mi : Int) (A : Option Addr) (n c : Nat) (l : List OpF) (w : World) (hmi : (Lit.int .i64 mi).wf = true) (hr : Rd w w.heap.size 11 A n (opfs l)) (hnc : n ≤ c) (hc : c ≤ maxLen) (hl : ∀ o ∈ l, o.okay) :
    Calls Try.prog 3 #[.int .i64 mi, .slice A n c] w fun e w' => e = .returned (.bool true) ∧ Below w.heap.size w w' := flightPlays_walk mi A n c l w hmi hr hnc hc hl
end Go.Proofs.Ytbipcnboammpeaa
