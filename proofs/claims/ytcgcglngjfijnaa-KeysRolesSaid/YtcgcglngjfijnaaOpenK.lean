/- Layer 9: structs as arguments. -/
import Derived.Test.YtcgcglngjfijnaaOpenN
import Derived.Test.YtcgcglngjfijnaaRows
namespace Go.Proofs.Ytcgcglngjfijnaa
open Go.RowKit Go.ChangeShapes Go.WideShapes Go.ChangeAt
set_option linter.unusedVariables false
section
variable {H : Type} {enc : TypeId × Value → H} {P : Program} {w : World} {held : Bool} {t : TypeId}
theorem opens_z_2_2_2_2_1 {f0 f1 f2 f3 f4 : Field} {α0 : Type} {el0 : α0 → List Value} {ok0 : α0 → Prop} {α1 : Type} {el1 : α1 → List Value} {ok1 : α1 → Prop} {α2 : Type} {el2 : α2 → List Value} {ok2 : α2 → Prop} {α3 : Type} {el3 : α3 → List Value} {ok3 : α3 → Prop} {α4 : Type} {el4 : α4 → List Value} {ok4 : α4 → Prop} (ht : P.underlying t = some (.struct #[f0, f1, f2, f3, f4])) (hc : P.cellsOf t = 9) (o0 : f0.offset = 0) (c0 : P.cellsOf f0.type = 2) (h0 : Opens enc P w held f0.type el0 ok0) (o1 : f1.offset = 2) (c1 : P.cellsOf f1.type = 2) (h1 : Opens enc P w held f1.type el1 ok1) (o2 : f2.offset = 4) (c2 : P.cellsOf f2.type = 2) (h2 : Opens enc P w held f2.type el2 ok2) (o3 : f3.offset = 6) (c3 : P.cellsOf f3.type = 2) (h3 : Opens enc P w held f3.type el3 ok3) (o4 : f4.offset = 8) (c4 : P.cellsOf f4.type = 1) (h4 : Opens enc P w held f4.type el4 ok4) :
    Opens enc P w held t (fun p : α0 × α1 × α2 × α3 × α4 => el0 p.1 ++ (el1 p.2.1 ++ (el2 p.2.2.1 ++ (el3 p.2.2.2.1 ++ (el4 p.2.2.2.2))))) (fun p => ok0 p.1 ∧ ok1 p.2.1 ∧ ok2 p.2.2.1 ∧ ok3 p.2.2.2.1 ∧ ok4 p.2.2.2.2) := by
  intro fuel cs x h
  obtain ⟨xs, n, _, _, hl, hxs, hf⟩ := DataW.trod_struct ht h
  rw [hc] at hl
  have g0 := hf 0 f0 rfl
  have g1 := hf 1 f1 rfl
  have g2 := hf 2 f2 rfl
  have g3 := hf 3 f3 rfl
  have g4 := hf 4 f4 rfl
  have hall : ∃ x0 x1 x2 x3 x4, xs = [x0, x1, x2, x3, x4] := by
    match xs, (show xs.length = 5 from hxs) with
    | [x0, x1, x2, x3, x4], _ => exact ⟨_, _, _, _, _, rfl⟩
  obtain ⟨x0, x1, x2, x3, x4, rfl⟩ := hall
  rw [o0, c0] at g0
  obtain ⟨p0, e0, k0⟩ := h0 _ _ _ (show DataW.trod enc P w 0 (fun _ => true) held n f0.type ((cs.drop 0).take 2) = some x0 from g0)
  rw [o1, c1] at g1
  obtain ⟨p1, e1, k1⟩ := h1 _ _ _ (show DataW.trod enc P w 0 (fun _ => true) held n f1.type ((cs.drop 2).take 2) = some x1 from g1)
  rw [o2, c2] at g2
  obtain ⟨p2, e2, k2⟩ := h2 _ _ _ (show DataW.trod enc P w 0 (fun _ => true) held n f2.type ((cs.drop 4).take 2) = some x2 from g2)
  rw [o3, c3] at g3
  obtain ⟨p3, e3, k3⟩ := h3 _ _ _ (show DataW.trod enc P w 0 (fun _ => true) held n f3.type ((cs.drop 6).take 2) = some x3 from g3)
  rw [o4, c4] at g4
  obtain ⟨p4, e4, k4⟩ := h4 _ _ _ (show DataW.trod enc P w 0 (fun _ => true) held n f4.type ((cs.drop 8).take 1) = some x4 from g4)
  have hcs : cs.drop 0 = (cs.drop 0).take 2 ++ ((cs.drop 2).take 2 ++ ((cs.drop 4).take 2 ++ ((cs.drop 6).take 2 ++ ((cs.drop 8).take 1 ++ ([]))))) := (chop cs 0 2).trans (congrArg _ ((chop cs 2 2).trans (congrArg _ ((chop cs 4 2).trans (congrArg _ ((chop cs 6 2).trans (congrArg _ ((chop cs 8 1).trans (congrArg _ (List.drop_of_length_le (show cs.length ≤ 9 by omega)))))))))))
  rw [e0, e1, e2, e3, e4, List.append_nil, List.drop_zero] at hcs
  exact ⟨(p0, p1, p2, p3, p4), hcs, k0, k1, k2, k3, k4⟩
end
theorem open_pair2 {H : Type} {enc : TypeId × Value → H} {w : World} {held : Bool} {cs : Array Value} {d : DataW H} {ps : List MemPlace} (h : DataW.Trod enc Try.prog w 0 (fun _ => true) held 27 (.agg cs) d ps) : ∃ q : Nat × Nat, cs = #[.int .u64 (q.1 : Nat), .int .u64 (q.2 : Nat)] ∧ (q.1 < 18446744073709551616) ∧ (q.2 < 18446744073709551616) := by
  obtain ⟨⟨a0, a1⟩, h1, h2⟩ := open_agg (opens_z_1_1 (enc := enc) (w := w) (held := held) Try.underlying27 (by kernel_rfl) rfl (by kernel_rfl) (opens_u64 Try.underlying22) rfl (by kernel_rfl) (opens_u64 Try.underlying22)) h
  obtain ⟨b0, b1⟩ := h2
  refine ⟨(a0, a1), ?_, b0, b1⟩
  · rw [← Array.toArray_toList (xs := cs), h1]
    rfl
theorem open_nonces {H : Type} {enc : TypeId × Value → H} {w : World} {held : Bool} {cs : Array Value} {d : DataW H} {ps : List MemPlace} (h : DataW.Trod enc Try.prog w 0 (fun _ => true) held 25 (.agg cs) d ps) : ∃ q : Nat × Nat, cs = #[.int .u32 (q.1 : Nat), .int .u32 (q.2 : Nat)] ∧ (q.1 < 4294967296) ∧ (q.2 < 4294967296) := by
  obtain ⟨⟨a0, a1⟩, h1, h2⟩ := open_agg (opens_z_1_1 (enc := enc) (w := w) (held := held) Try.underlying25 (by kernel_rfl) rfl (by kernel_rfl) (opens_u32 Try.underlying23) rfl (by kernel_rfl) (opens_u32 Try.underlying23)) h
  obtain ⟨b0, b1⟩ := h2
  refine ⟨(a0, a1), ?_, b0, b1⟩
  · rw [← Array.toArray_toList (xs := cs), h1]
    rfl
theorem open_from {H : Type} {enc : TypeId × Value → H} {w : World} {held : Bool} {cs : Array Value} {d : DataW H} {ps : List MemPlace} (h : DataW.Trod enc Try.prog w 0 (fun _ => true) held 43 (.agg cs) d ps) : ∃ q : Nat × Int, cs = #[.int .u64 (q.1 : Nat), .int .i64 q.2] ∧ (q.1 < 18446744073709551616) ∧ (-9223372036854775808 ≤ q.2 ∧ q.2 < 9223372036854775808) := by
  obtain ⟨⟨a0, a1⟩, h1, h2⟩ := open_agg (opens_z_1_1 (enc := enc) (w := w) (held := held) Try.underlying43 (by kernel_rfl) rfl (by kernel_rfl) (opens_u64 Try.underlying22) rfl (by kernel_rfl) (opens_i64 Try.underlying3)) h
  obtain ⟨b0, b1⟩ := h2
  refine ⟨(a0, a1), ?_, b0, b1⟩
  · rw [← Array.toArray_toList (xs := cs), h1]
    rfl
theorem open_keys {H : Type} {enc : TypeId × Value → H} {w : World} {held : Bool} {cs : Array Value} {d : DataW H} {ps : List MemPlace} (h : DataW.Trod enc Try.prog w 0 (fun _ => true) held 29 (.agg cs) d ps) : ∃ q : Nat × Nat × Nat × Nat × Nat × Nat × Nat × Nat × Nat, cs = #[.int .u64 (q.1 : Nat), .int .u64 (q.2.1 : Nat), .int .u64 (q.2.2.1 : Nat), .int .u64 (q.2.2.2.1 : Nat), .int .u64 (q.2.2.2.2.1 : Nat), .int .u64 (q.2.2.2.2.2.1 : Nat), .int .u64 (q.2.2.2.2.2.2.1 : Nat), .int .u64 (q.2.2.2.2.2.2.2.1 : Nat), .int .u32 (q.2.2.2.2.2.2.2.2 : Nat)] ∧ (q.1 < 18446744073709551616) ∧ (q.2.1 < 18446744073709551616) ∧ (q.2.2.1 < 18446744073709551616) ∧ (q.2.2.2.1 < 18446744073709551616) ∧ (q.2.2.2.2.1 < 18446744073709551616) ∧ (q.2.2.2.2.2.1 < 18446744073709551616) ∧ (q.2.2.2.2.2.2.1 < 18446744073709551616) ∧ (q.2.2.2.2.2.2.2.1 < 18446744073709551616) ∧ (q.2.2.2.2.2.2.2.2 < 4294967296) := by
  obtain ⟨⟨⟨a0, a1⟩, ⟨a2, a3⟩, ⟨a4, a5⟩, ⟨a6, a7⟩, a8⟩, h1, h2⟩ := open_agg (opens_z_2_2_2_2_1 (enc := enc) (w := w) (held := held) Try.underlying29 (by kernel_rfl) rfl (by kernel_rfl) (opens_z_1_1 (enc := enc) (w := w) (held := held) Try.underlying27 (by kernel_rfl) rfl (by kernel_rfl) (opens_u64 Try.underlying22) rfl (by kernel_rfl) (opens_u64 Try.underlying22)) rfl (by kernel_rfl) (opens_z_1_1 (enc := enc) (w := w) (held := held) Try.underlying27 (by kernel_rfl) rfl (by kernel_rfl) (opens_u64 Try.underlying22) rfl (by kernel_rfl) (opens_u64 Try.underlying22)) rfl (by kernel_rfl) (opens_z_1_1 (enc := enc) (w := w) (held := held) Try.underlying27 (by kernel_rfl) rfl (by kernel_rfl) (opens_u64 Try.underlying22) rfl (by kernel_rfl) (opens_u64 Try.underlying22)) rfl (by kernel_rfl) (opens_z_1_1 (enc := enc) (w := w) (held := held) Try.underlying27 (by kernel_rfl) rfl (by kernel_rfl) (opens_u64 Try.underlying22) rfl (by kernel_rfl) (opens_u64 Try.underlying22)) rfl (by kernel_rfl) (opens_u32 Try.underlying23)) h
  obtain ⟨⟨b0, b1⟩, ⟨b2, b3⟩, ⟨b4, b5⟩, ⟨b6, b7⟩, b8⟩ := h2
  refine ⟨(a0, a1, a2, a3, a4, a5, a6, a7, a8), ?_, b0, b1, b2, b3, b4, b5, b6, b7, b8⟩
  · rw [← Array.toArray_toList (xs := cs), h1]
    rfl
end Go.Proofs.Ytcgcglngjfijnaa
