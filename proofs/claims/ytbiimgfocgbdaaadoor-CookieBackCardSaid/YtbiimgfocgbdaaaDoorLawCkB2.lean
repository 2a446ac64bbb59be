/- Layer 30: CookieBack, as its row asks it. -/
import Derived.Test.YtbiimgfocgbdaaaDoorLawCkB
import Derived.Test.YtbiimgfocgbdaaaDoorOpenN
import Derived.Test.YtbiimgfocgbdaaaDoorOpenP
import Derived.Test.YtbiimgfocgbdaaaDoorRows
namespace Go.Proofs.YtbiimgfocgbdaaaDoor
open Go.RowKit Go.ChangeShapes Go.WideShapes Go.ChangeAt
set_option linter.unusedVariables false
section
variable {H : Type} {enc : TypeId × Value → H} {P : Program} {w : World} {held : Bool} {t : TypeId}
theorem opens_z_1_1_1_1 {f0 f1 f2 f3 : Field} {α0 : Type} {el0 : α0 → List Value} {ok0 : α0 → Prop} {α1 : Type} {el1 : α1 → List Value} {ok1 : α1 → Prop} {α2 : Type} {el2 : α2 → List Value} {ok2 : α2 → Prop} {α3 : Type} {el3 : α3 → List Value} {ok3 : α3 → Prop} (ht : P.underlying t = some (.struct #[f0, f1, f2, f3])) (hc : P.cellsOf t = 4) (o0 : f0.offset = 0) (c0 : P.cellsOf f0.type = 1) (h0 : Opens enc P w held f0.type el0 ok0) (o1 : f1.offset = 1) (c1 : P.cellsOf f1.type = 1) (h1 : Opens enc P w held f1.type el1 ok1) (o2 : f2.offset = 2) (c2 : P.cellsOf f2.type = 1) (h2 : Opens enc P w held f2.type el2 ok2) (o3 : f3.offset = 3) (c3 : P.cellsOf f3.type = 1) (h3 : Opens enc P w held f3.type el3 ok3) :
    Opens enc P w held t (fun p : α0 × α1 × α2 × α3 => el0 p.1 ++ (el1 p.2.1 ++ (el2 p.2.2.1 ++ (el3 p.2.2.2)))) (fun p => ok0 p.1 ∧ ok1 p.2.1 ∧ ok2 p.2.2.1 ∧ ok3 p.2.2.2) := by
  intro fuel cs x h
  obtain ⟨xs, n, _, _, hl, hxs, hf⟩ := DataW.trod_struct ht h
  rw [hc] at hl
  have g0 := hf 0 f0 rfl
  have g1 := hf 1 f1 rfl
  have g2 := hf 2 f2 rfl
  have g3 := hf 3 f3 rfl
  have hall : ∃ x0 x1 x2 x3, xs = [x0, x1, x2, x3] := by
    match xs, (show xs.length = 4 from hxs) with
    | [x0, x1, x2, x3], _ => exact ⟨_, _, _, _, rfl⟩
  obtain ⟨x0, x1, x2, x3, rfl⟩ := hall
  rw [o0, c0] at g0
  obtain ⟨p0, e0, k0⟩ := h0 _ _ _ (show DataW.trod enc P w 0 (fun _ => true) held n f0.type ((cs.drop 0).take 1) = some x0 from g0)
  rw [o1, c1] at g1
  obtain ⟨p1, e1, k1⟩ := h1 _ _ _ (show DataW.trod enc P w 0 (fun _ => true) held n f1.type ((cs.drop 1).take 1) = some x1 from g1)
  rw [o2, c2] at g2
  obtain ⟨p2, e2, k2⟩ := h2 _ _ _ (show DataW.trod enc P w 0 (fun _ => true) held n f2.type ((cs.drop 2).take 1) = some x2 from g2)
  rw [o3, c3] at g3
  obtain ⟨p3, e3, k3⟩ := h3 _ _ _ (show DataW.trod enc P w 0 (fun _ => true) held n f3.type ((cs.drop 3).take 1) = some x3 from g3)
  have hcs : cs.drop 0 = (cs.drop 0).take 1 ++ ((cs.drop 1).take 1 ++ ((cs.drop 2).take 1 ++ ((cs.drop 3).take 1 ++ ([])))) := (chop cs 0 1).trans (congrArg _ ((chop cs 1 1).trans (congrArg _ ((chop cs 2 1).trans (congrArg _ ((chop cs 3 1).trans (congrArg _ (List.drop_of_length_le (show cs.length ≤ 4 by omega)))))))))
  rw [e0, e1, e2, e3, List.append_nil, List.drop_zero] at hcs
  exact ⟨(p0, p1, p2, p3), hcs, k0, k1, k2, k3⟩
end
theorem open_ask {H : Type} {enc : TypeId × Value → H} {w : World} {held : Bool} {cs : Array Value} {d : DataW H} {ps : List MemPlace} (h : DataW.Trod enc Tryd.prog w 0 (fun _ => true) held 28 (.agg cs) d ps) : ∃ q : Int × Nat × Nat × Nat, cs = #[.int .i64 q.1, .int .u16 (q.2.1 : Nat), .int .u16 (q.2.2.1 : Nat), .int .u32 (q.2.2.2 : Nat)] ∧ (-9223372036854775808 ≤ q.1 ∧ q.1 < 9223372036854775808) ∧ (q.2.1 < 65536) ∧ (q.2.2.1 < 65536) ∧ (q.2.2.2 < 4294967296) := by
  obtain ⟨⟨a0, a1, a2, a3⟩, h1, h2⟩ := open_agg (opens_z_1_1_1_1 (enc := enc) (w := w) (held := held) Tryd.underlying28 (by kernel_rfl) rfl (by kernel_rfl) (opens_i64 Tryd.underlying3) rfl (by kernel_rfl) (opens_u16 Tryd.underlying25) rfl (by kernel_rfl) (opens_u16 Tryd.underlying25) rfl (by kernel_rfl) (opens_u32 Tryd.underlying26)) h
  obtain ⟨b0, b1, b2, b3⟩ := h2
  refine ⟨(a0, a1, a2, a3), ?_, b0, b1, b2, b3⟩
  · rw [← Array.toArray_toList (xs := cs), h1]
    rfl
theorem open_later {H : Type} {enc : TypeId × Value → H} {w : World} {held : Bool} {cs : Array Value} {d : DataW H} {ps : List MemPlace} (h : DataW.Trod enc Tryd.prog w 0 (fun _ => true) held 30 (.agg cs) d ps) : ∃ q : Int × Int × Int, cs = #[.int .i64 q.1, .int .i64 q.2.1, .int .i64 q.2.2] ∧ (-9223372036854775808 ≤ q.1 ∧ q.1 < 9223372036854775808) ∧ (-9223372036854775808 ≤ q.2.1 ∧ q.2.1 < 9223372036854775808) ∧ (-9223372036854775808 ≤ q.2.2 ∧ q.2.2 < 9223372036854775808) := by
  obtain ⟨⟨a0, a1, a2⟩, h1, h2⟩ := open_agg (opens_z_1_1_1 (enc := enc) (w := w) (held := held) Tryd.underlying30 (by kernel_rfl) rfl (by kernel_rfl) (opens_i64 Tryd.underlying3) rfl (by kernel_rfl) (opens_i64 Tryd.underlying3) rfl (by kernel_rfl) (opens_i64 Tryd.underlying3)) h
  obtain ⟨b0, b1, b2⟩ := h2
  refine ⟨(a0, a1, a2), ?_, b0, b1, b2⟩
  · rw [← Array.toArray_toList (xs := cs), h1]
    rfl
theorem cookieBack_row (k0 k1 : Nat) (q : Int × Nat × Nat × Nat) (l : Int × Int × Int) (w : World) (h0 : k0 < 18446744073709551616) (h1 : k1 < 18446744073709551616) (hq : (-9223372036854775808 ≤ q.1 ∧ q.1 < 9223372036854775808) ∧ q.2.1 < 65536 ∧ q.2.2.1 < 65536 ∧ q.2.2.2 < 4294967296) (hl : (-9223372036854775808 ≤ l.1 ∧ l.1 < 9223372036854775808) ∧ (-9223372036854775808 ≤ l.2.1 ∧ l.2.1 < 9223372036854775808) ∧ (-9223372036854775808 ≤ l.2.2 ∧ l.2.2 < 9223372036854775808)) (hT : Tz w) :
    Calls Tryd.prog 3 #[.agg #[.int .u64 (k0 : Nat), .int .u64 (k1 : Nat)], .agg #[.int .i64 q.1, .int .u16 (q.2.1 : Nat), .int .u16 (q.2.2.1 : Nat), .int .u32 (q.2.2.2 : Nat)], .agg #[.int .i64 l.1, .int .i64 l.2.1, .int .i64 l.2.2]] w fun e w' => e = .returned (.bool true) ∧ Below w.heap.size w w' :=
  cookieBack_walk k0 k1 _ _ _ _ _ _ _ w h0 h1 hq.2.1 hq.2.2.1 hq.2.2.2 hT
end Go.Proofs.YtbiimgfocgbdaaaDoor
