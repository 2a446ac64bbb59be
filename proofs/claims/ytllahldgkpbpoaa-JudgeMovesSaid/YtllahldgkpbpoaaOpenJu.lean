/- Layer 15: a path's numbers, a segment, moves as arguments. -/
import Derived.Test.YtllahldgkpbpoaaLawJu
import Derived.Test.YtllahldgkpbpoaaOpenG
import Derived.Test.YtllahldgkpbpoaaOpenN
import Derived.Test.YtllahldgkpbpoaaRows
import Derived.ChangeSame
namespace Go.Proofs.Ytllahldgkpbpoaa
open Go.RowKit Go.ChangeShapes Go.WideShapes Go.ChangeAt
set_option linter.unusedVariables false
section
variable {H : Type} {enc : TypeId × Value → H} {P : Program} {w : World} {held : Bool} {t : TypeId}
theorem opens_z_1_1_1_1_1 {f0 f1 f2 f3 f4 : Field} {α0 : Type} {el0 : α0 → List Value} {ok0 : α0 → Prop} {α1 : Type} {el1 : α1 → List Value} {ok1 : α1 → Prop} {α2 : Type} {el2 : α2 → List Value} {ok2 : α2 → Prop} {α3 : Type} {el3 : α3 → List Value} {ok3 : α3 → Prop} {α4 : Type} {el4 : α4 → List Value} {ok4 : α4 → Prop} (ht : P.underlying t = some (.struct #[f0, f1, f2, f3, f4])) (hc : P.cellsOf t = 5) (o0 : f0.offset = 0) (c0 : P.cellsOf f0.type = 1) (h0 : Opens enc P w held f0.type el0 ok0) (o1 : f1.offset = 1) (c1 : P.cellsOf f1.type = 1) (h1 : Opens enc P w held f1.type el1 ok1) (o2 : f2.offset = 2) (c2 : P.cellsOf f2.type = 1) (h2 : Opens enc P w held f2.type el2 ok2) (o3 : f3.offset = 3) (c3 : P.cellsOf f3.type = 1) (h3 : Opens enc P w held f3.type el3 ok3) (o4 : f4.offset = 4) (c4 : P.cellsOf f4.type = 1) (h4 : Opens enc P w held f4.type el4 ok4) :
    Opens enc P w held t (fun p : α0 × α1 × α2 × α3 × α4 => el0 p.1 ++ (el1 p.2.1 ++ (el2 p.2.2.1 ++ (el3 p.2.2.2.1 ++ (el4 p.2.2.2.2))))) (fun p => ok0 p.1 ∧ ok1 p.2.1 ∧ ok2 p.2.2.1 ∧ ok3 p.2.2.2.1 ∧ ok4 p.2.2.2.2) := by
  intro fuel cs x h
  obtain ⟨xs, n, _, _, hl, hxs, hf⟩ := DataW.trod_struct ht h
  rw [hc] at hl
  have g0 := hf 0 f0 rfl
  have g1 := hf 1 f1 rfl
  have g2 := hf 2 f2 rfl
  have g3 := hf 3 f3 rfl
  have g4 := hf 4 f4 rfl
  have hall : ∃ x0 x1 x2 x3 x4, xs = [x0, x1, x2, x3, x4] := by
    match xs, (show xs.length = 5 from hxs) with
    | [x0, x1, x2, x3, x4], _ => exact ⟨_, _, _, _, _, rfl⟩
  obtain ⟨x0, x1, x2, x3, x4, rfl⟩ := hall
  rw [o0, c0] at g0
  obtain ⟨p0, e0, k0⟩ := h0 _ _ _ (show DataW.trod enc P w 0 (fun _ => true) held n f0.type ((cs.drop 0).take 1) = some x0 from g0)
  rw [o1, c1] at g1
  obtain ⟨p1, e1, k1⟩ := h1 _ _ _ (show DataW.trod enc P w 0 (fun _ => true) held n f1.type ((cs.drop 1).take 1) = some x1 from g1)
  rw [o2, c2] at g2
  obtain ⟨p2, e2, k2⟩ := h2 _ _ _ (show DataW.trod enc P w 0 (fun _ => true) held n f2.type ((cs.drop 2).take 1) = some x2 from g2)
  rw [o3, c3] at g3
  obtain ⟨p3, e3, k3⟩ := h3 _ _ _ (show DataW.trod enc P w 0 (fun _ => true) held n f3.type ((cs.drop 3).take 1) = some x3 from g3)
  rw [o4, c4] at g4
  obtain ⟨p4, e4, k4⟩ := h4 _ _ _ (show DataW.trod enc P w 0 (fun _ => true) held n f4.type ((cs.drop 4).take 1) = some x4 from g4)
  have hcs : cs.drop 0 = (cs.drop 0).take 1 ++ ((cs.drop 1).take 1 ++ ((cs.drop 2).take 1 ++ ((cs.drop 3).take 1 ++ ((cs.drop 4).take 1 ++ ([]))))) := (chop cs 0 1).trans (congrArg _ ((chop cs 1 1).trans (congrArg _ ((chop cs 2 1).trans (congrArg _ ((chop cs 3 1).trans (congrArg _ ((chop cs 4 1).trans (congrArg _ (List.drop_of_length_le (show cs.length ≤ 5 by omega)))))))))))
  rw [e0, e1, e2, e3, e4, List.append_nil, List.drop_zero] at hcs
  exact ⟨(p0, p1, p2, p3, p4), hcs, k0, k1, k2, k3, k4⟩
end
theorem open_nums {H : Type} {enc : TypeId × Value → H} {w : World} {held : Bool} {cs : Array Value} {d : DataW H} {ps : List MemPlace} (h : DataW.Trod enc Try.prog w 0 (fun _ => true) held 25 (.agg cs) d ps) : ∃ q : Int × Nat × Nat × Nat × Nat, cs = #[.int .i64 q.1, .int .u32 (q.2.1 : Nat), .int .u32 (q.2.2.1 : Nat), .int .u32 (q.2.2.2.1 : Nat), .int .u32 (q.2.2.2.2 : Nat)] ∧ (-9223372036854775808 ≤ q.1 ∧ q.1 < 9223372036854775808) ∧ (q.2.1 < 4294967296) ∧ (q.2.2.1 < 4294967296) ∧ (q.2.2.2.1 < 4294967296) ∧ (q.2.2.2.2 < 4294967296) := by
  obtain ⟨⟨a0, a1, a2, a3, a4⟩, h1, h2⟩ := open_agg (opens_z_1_1_1_1_1 (enc := enc) (w := w) (held := held) Try.underlying25 (by kernel_rfl) rfl (by kernel_rfl) (opens_i64 Try.underlying22) rfl (by kernel_rfl) (opens_u32 Try.underlying23) rfl (by kernel_rfl) (opens_u32 Try.underlying23) rfl (by kernel_rfl) (opens_u32 Try.underlying23) rfl (by kernel_rfl) (opens_u32 Try.underlying23)) h
  obtain ⟨b0, b1, b2, b3, b4⟩ := h2
  refine ⟨(a0, a1, a2, a3, a4), ?_, b0, b1, b2, b3, b4⟩
  · rw [← Array.toArray_toList (xs := cs), h1]
    rfl
theorem open_moves {H : Type} {enc : TypeId × Value → H} {w : World} {held : Bool} {cs : Array Value} {d : DataW H} {ps : List MemPlace} (h : DataW.Trod enc Try.prog w 0 (fun _ => true) held 40 (.agg cs) d ps) : ∃ q : Nat × Nat × Bool, cs = #[.int .u32 (q.1 : Nat), .int .u32 (q.2.1 : Nat), .bool q.2.2] ∧ (q.1 < 4294967296) ∧ (q.2.1 < 4294967296) ∧ (True) := by
  obtain ⟨⟨a0, a1, a2⟩, h1, h2⟩ := open_agg (opens_z_1_1_1 (enc := enc) (w := w) (held := held) Try.underlying40 (by kernel_rfl) rfl (by kernel_rfl) (opens_u32 Try.underlying23) rfl (by kernel_rfl) (opens_u32 Try.underlying23) rfl (by kernel_rfl) (opens_bool Try.underlying4)) h
  obtain ⟨b0, b1, b2⟩ := h2
  refine ⟨(a0, a1, a2), ?_, b0, b1, trivial⟩
  · rw [← Array.toArray_toList (xs := cs), h1]
    rfl
theorem u32n {a : Nat} (h : a < 4294967296) : U32 (a : Int) := by unfold U32; omega
def oelJ (p : Nat × Body) : List Value := [.int .u8 (p.1 : Int), .slice p.2.A p.2.n p.2.c]
section
variable {H : Type} {enc : TypeId × Value → H} {w : World} {held : Bool}
theorem opens_optionJ : Opens enc Try.prog w held 68 oelJ (fun p : Nat × Body => p.1 < 256 ∧ Body.ok w p.2) := by
  have h := opens_struct2 (enc := enc) (w := w) (held := held) Try.underlying68 (by kernel_rfl) rfl (by kernel_rfl) (opens_u8 Try.underlying5) rfl (by kernel_rfl) (opens_bytes Try.underlying28 Try.underlying5 (by kernel_rfl))
  intro fuel cs x hx
  obtain ⟨p, hp, h1, h2⟩ := h fuel cs x hx
  exact ⟨p, hp, h1, h2⟩
theorem opens_optsJ : Opens enc Try.prog w held 27 (fun q : Option Addr × Nat × Nat => [.slice q.1 q.2.1 q.2.2]) (fun _ => True) := by
  intro fuel cs x h
  obtain ⟨A, n, c, l, e, _⟩ := opens_slice Try.underlying27 (by rw [show Try.prog.cellsOf 68 = 2 by kernel_rfl]; omega) opens_optionJ h
  exact ⟨(A, n, c), e, trivial⟩
end
theorem open_nm {H : Type} {enc : TypeId × Value → H} {w : World} {held : Bool} {cs : Array Value} {d : DataW H} {ps : List MemPlace} (h : DataW.Trod enc Try.prog w 0 (fun _ => true) held 25 (.agg cs) d ps) : ∃ q : Nm, cs = q.cs ∧ q.ok := by
  obtain ⟨⟨a, b, c, d, e⟩, h1, h2, h3, h4, h5, h6⟩ := open_nums h
  exact ⟨⟨a, b, c, d, e⟩, h1, ⟨by show (Lit.int .i64 a).wf = true; exact WalkArith.wf_i64 ⟨h2.1, by have := h2.2; omega⟩, u32n h3, u32n h4, u32n h5, u32n h6⟩⟩
theorem open_sj {H : Type} {enc : TypeId × Value → H} {w : World} {held : Bool} {cs : Array Value} {d : DataW H} {ps : List MemPlace} (h : DataW.Trod enc Try.prog w 0 (fun _ => true) held 30 (.agg cs) d ps) : ∃ q : Sj, cs = q.cs ∧ q.ok := by
  obtain ⟨p, h1, k0, k1, k2, k3, k4, _, _⟩ := open_agg (opens_struct7 (enc := enc) (w := w) (held := held) Try.underlying30 (by kernel_rfl) rfl (by kernel_rfl) (opens_u16 Try.underlying26) rfl (by kernel_rfl) (opens_u16 Try.underlying26) rfl (by kernel_rfl) (opens_u32 Try.underlying23) rfl (by kernel_rfl) (opens_u32 Try.underlying23) rfl (by kernel_rfl) (opens_u8 Try.underlying5) rfl (by kernel_rfl) opens_optsJ rfl (by kernel_rfl) (opens_bytes Try.underlying28 Try.underlying5 (by kernel_rfl))) h
  obtain ⟨src, dst, seq, ack, flags, ⟨A, n, c⟩, D⟩ := p
  refine ⟨⟨src, dst, seq, ack, flags, A, n, c, D.A, D.n, D.c⟩, ?_, ⟨u32n k2, u32n k3, k4⟩⟩
  rw [← Array.toArray_toList (xs := cs), h1]
  rfl
theorem judgeDecides_any (n : Nm) (s : Sj) (sd : Bool) (w : World) (hn : n.ok) (hs : s.ok) :
    Calls Try.prog 3 #[.agg n.cs, .agg s.cs, .bool sd] w fun e w' => e = .returned (.bool true) ∧ Below w.heap.size w w' := judgeDecides_walk n s sd w hn hs
theorem judgeBlind_any (n : Nm) (s : Sj) (w : World) (hn : n.ok) (hs : s.ok) :
    Calls Try.prog 4 #[.agg n.cs, .agg s.cs] w fun e w' => e = .returned (.bool true) ∧ Below w.heap.size w w' := judgeBlind_walk n s w hn hs
end Go.Proofs.Ytllahldgkpbpoaa
