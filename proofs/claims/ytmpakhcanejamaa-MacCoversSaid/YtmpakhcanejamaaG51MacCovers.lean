/- A segment as an argument. -/
import Derived.Test.YtmpakhcanejamaaG8MacCovers
import Derived.Test.YtmpakhcanejamaaG10MacCovers
import Derived.Test.YtmpakhcanejamaaRows
import Derived.ChangeSame
import Derived.Test.YtmpakhcanejamaaG4MacCovers
import Derived.Test.YtmpakhcanejamaaG7MacCovers
import Derived.Deep.Matrix
import Derived.Test.YtmpakhcanejamaaG22MacCovers
import Derived.Test.YtmpakhcanejamaaG50MacCovers
import Derived.Test.YtmpakhcanejamaaG49MacCovers

namespace Go.Proofs.Ytmpakhcanejamaa
open Go.RowKit Go.ChangeShapes Go.WideShapes Go.ChangeAt
set_option linter.unusedVariables false
section
variable {H : Type} {enc : TypeId × Value → H} {w : World} {held : Bool}
theorem opens_option : Opens enc Try.prog w held 45 oel (fun p : Ob => p.1 < 256 ∧ Body.ok w p.2) := by
  have h := opens_struct2 (enc := enc) (w := w) (held := held) Try.underlying45 (by kernel_rfl) rfl (by kernel_rfl) (opens_u8 Try.underlying5) rfl (by kernel_rfl) (opens_bytes Try.underlying28 Try.underlying5 (by kernel_rfl))
  intro fuel cs x hx
  obtain ⟨p, hp, h1, h2⟩ := h fuel cs x hx
  exact ⟨p, hp, h1, h2⟩
theorem opens_opts : Opens enc Try.prog w held 27 (fun q : Option Addr × Nat × Nat × List Ob => [.slice q.1 q.2.1 q.2.2.1]) (fun q => Os w q.1 q.2.1 q.2.2.1 q.2.2.2 ∧ ∀ p ∈ q.2.2.2, p.1 < 256 ∧ ∀ x ∈ p.2.l, x < 256) := by
  intro fuel cs x h
  obtain ⟨A, n, c, l, e, h1, h2, h3, h4, h5⟩ := opens_slice Try.underlying27 (by rw [show Try.prog.cellsOf 45 = 2 by kernel_rfl]; omega) opens_option h
  rw [show Try.prog.cellsOf 45 = 2 by kernel_rfl] at h2
  exact ⟨(A, n, c, l), e, ⟨h2, fun p hp => ⟨(h5 p hp).2.1, (h5 p hp).2.2.1, (h5 p hp).2.2.2.1⟩, h3, h4⟩, fun p hp => ⟨(h5 p hp).1, (h5 p hp).2.2.2.2⟩⟩
theorem open_seg {cs : Array Value} {d : DataW H} {ps : List MemPlace} (h : DataW.Trod enc Try.prog w 0 (fun _ => true) held 30 (.agg cs) d ps) :
    ∃ q : Array Value × Sg, cs = q.1 ∧ SegV w (.agg q.1) q.2 ∧ q.2.bd := by
  obtain ⟨p, h1, k0, k1, k2, k3, k4, ⟨k5, k5'⟩, k6⟩ := open_agg (opens_struct7 (enc := enc) (w := w) (held := held) Try.underlying30 (by kernel_rfl) rfl (by kernel_rfl) (opens_u16 Try.underlying25) rfl (by kernel_rfl) (opens_u16 Try.underlying25) rfl (by kernel_rfl) (opens_u32 Try.underlying26) rfl (by kernel_rfl) (opens_u32 Try.underlying26) rfl (by kernel_rfl) (opens_u8 Try.underlying5) rfl (by kernel_rfl) opens_opts rfl (by kernel_rfl) (opens_bytes Try.underlying28 Try.underlying5 (by kernel_rfl))) h
  obtain ⟨src, dst, seq, ack, flags, ⟨A, n, c, l⟩, D⟩ := p
  obtain ⟨k6, k7, k8, k9⟩ := k6
  refine ⟨(cs, ⟨src, dst, seq, ack, flags, osay l, D.l⟩), rfl, ⟨A, n, c, D.A, D.n, D.c, l, ?_, k5, rfl, k6, k7, k8⟩, ⟨k0, k1, k2, k3, k4, ?_, ?_, k9⟩⟩
  · have e : cs = (segCs ⟨src, dst, seq, ack, flags, osay l, D.l⟩ A n c D.A D.n D.c) := by
      rw [← Array.toArray_toList (xs := cs), h1]
      rfl
    rw [e]
  · intro q hq
    obtain ⟨p, hp, rfl⟩ := List.mem_map.1 hq
    exact (k5' p hp).1
  · intro q hq
    obtain ⟨p, hp, rfl⟩ := List.mem_map.1 hq
    exact (k5' p hp).2
end
end Go.Proofs.Ytmpakhcanejamaa

/- A slice of slices of bytes as an argument. -/
namespace Go.Proofs.Ytmpakhcanejamaa
open Go.RowKit Go.ChangeShapes Go.WideShapes Go.ChangeAt
set_option linter.unusedVariables false
section
variable {H : Type} {enc : TypeId × Value → H} {P : Program} {w : World} {held : Bool} {t e q : TypeId} {A : Option Addr} {len cap : Nat} {d : DataW H} {ps : List MemPlace}
theorem open_rows8 (ht : P.underlying t = some (.slice e)) (he : P.underlying e = some (.slice q)) (hq : P.underlying q = some (.int .u8)) (ce : P.cellsOf e = 1) (cq : P.cellsOf q = 1)
    (h : DataW.Trod enc P w 0 (fun _ => true) held t (.slice A len cap) d ps) :
    ∃ bss : List (List Nat), Pts w w.heap.size A len bss ∧ len ≤ cap ∧ cap ≤ maxLen ∧ (∀ bs ∈ bss, ∀ x ∈ bs, x < 256) ∧ ∀ bs ∈ bss, bs.length ≤ maxLen := by
  obtain ⟨fuel, hf⟩ := h
  rcases Go.Deep.open_int_rows ht he hq ce cq hf with ⟨hcs, _⟩ | ⟨a, n, c, A', L, C, Z, hcs, _, hl, hm, _, hx⟩
  · simp [Value.cells] at hcs
    obtain ⟨rfl, rfl, rfl⟩ := hcs
    exact ⟨[], Pts.nil _ _ _, Nat.le_refl _, Nat.zero_le _, by simp, by simp⟩
  · simp [Value.cells] at hcs
    obtain ⟨rfl, rfl, rfl⟩ := hcs
    refine ⟨(List.range len).map fun r => ((Z r).take (L r)).map Int.toNat, ⟨by simp, (List.range len).map fun r => .slice (A' r) (L r) (C r), ⟨by simp, fun hn => ?_⟩, fun i bs hi => ?_⟩, hl, hm, fun bs hbs x hx' => ?_, fun bs hbs => ?_⟩
    · have h0 := (hx 0 (by omega)).1
      have hspot : a.spot = none := by
        have := World.cell?_spot h0
        unfold Addr.add at this
        simpa using this
      obtain ⟨b, off, spot⟩ := a
      simp at hspot
      subst hspot
      refine ⟨b, off, rfl, World.block_lt_of_cell? w (a := ⟨b, off, none⟩) (by simpa [addr_add] using h0), fun j hj => ?_⟩
      have hj' : j < len := by omega
      have h1 := (hx j (by omega)).1
      rw [addr_add] at h1
      rw [h1]
      simp [hj']
    · obtain ⟨hi1, hi2⟩ := List.getElem?_eq_some_iff.1 hi
      simp at hi1
      have hi2 : ((Z i).take (L i)).map Int.toNat = bs := by simpa using hi2
      subst hi2
      obtain ⟨x1, x2, x3, x4, x5, x6, x7⟩ := hx i (by omega)
      have hlen : (((Z i).take (L i)).map Int.toNat).length = L i := by simp; omega
      refine ⟨A' i, C i, by rw [hlen]; simp [hi1], by rw [hlen]; exact x2, ⟨by simp [ns], fun hn => ?_⟩⟩
      rw [hlen] at hn
      cases hA : A' i with
      | none => have := x6 hA; omega
      | some a' =>
        obtain ⟨_, hcell⟩ := x7 a' hA
        have h0 := hcell 0 (by omega)
        have hspot : a'.spot = none := by
          have := World.cell?_spot h0
          unfold Addr.add at this
          simpa using this
        obtain ⟨b, off, spot⟩ := a'
        simp at hspot
        subst hspot
        refine ⟨b, off, rfl, World.block_lt_of_cell? w (a := ⟨b, off, none⟩) (by simpa [addr_add] using h0), fun j hj => ?_⟩
        rw [hlen] at hj
        have h1 := hcell j (by omega)
        rw [addr_add] at h1
        rw [h1]
        have hj2 : j < (Z i).length := by omega
        have hwf := bounds_u8 (x5 ((Z i)[j]) (List.getElem_mem _))
        simp [ns, show j < L i by omega, hj2]
        omega
    · obtain ⟨r, hr, rfl⟩ := List.mem_map.1 hbs
      obtain ⟨y, hy, rfl⟩ := List.mem_map.1 hx'
      have := bounds_u8 ((hx r (by have := List.mem_range.1 hr; omega)).2.2.2.2.1 y (List.mem_of_mem_take hy))
      omega
    · obtain ⟨r, hr, rfl⟩ := List.mem_map.1 hbs
      obtain ⟨_, x2, x3, x4, _⟩ := hx r (by have := List.mem_range.1 hr; omega)
      simp
      omega
end
theorem open_parts {H : Type} {enc : TypeId × Value → H} {w : World} {held : Bool} {A : Option Addr} {len cap : Nat} {d : DataW H} {ps : List MemPlace} (ht : Try.prog.underlying 145 = some (.slice 28))
    (h : DataW.Trod enc Try.prog w 0 (fun _ => true) held 145 (.slice A len cap) d ps) :
    ∃ bss : List (List Nat), Pts w w.heap.size A len bss ∧ len ≤ cap ∧ cap ≤ maxLen ∧ (∀ bs ∈ bss, ∀ x ∈ bs, x < 256) ∧ ∀ bs ∈ bss, bs.length ≤ maxLen :=
  open_rows8 ht Try.underlying28 Try.underlying5 (by kernel_rfl) (by kernel_rfl) h
end Go.Proofs.Ytmpakhcanejamaa

/- A key and a slice of slices of bytes as arguments. -/
namespace Go.Proofs.Ytmpakhcanejamaa
open Go.RowKit Go.ChangeShapes Go.WideShapes Go.ChangeAt
set_option linter.unusedVariables false
section
variable {H : Type} {enc : TypeId × Value → H} {P : Program} {w : World} {held : Bool} {t e q : TypeId} {A : Option Addr} {len cap : Nat} {d : DataW H} {ps : List MemPlace}
theorem open_pair {f0 f1 : Field} {cs : Array Value} (ht : P.underlying t = some (.struct #[f0, f1])) (hc : P.cellsOf t = 2)
    (h0 : P.underlying f0.type = some (.int .u64)) (h1 : P.underlying f1.type = some (.int .u64)) (o0 : f0.offset = 0) (o1 : f1.offset = 1) (c0 : P.cellsOf f0.type = 1) (c1 : P.cellsOf f1.type = 1)
    (h : DataW.Trod enc P w 0 (fun _ => true) held t (.agg cs) d ps) :
    ∃ a b : Nat, cs = #[.int .u64 (a : Nat), .int .u64 (b : Nat)] ∧ a < 18446744073709551616 ∧ b < 18446744073709551616 := by
  obtain ⟨fuel, hf⟩ := h
  obtain ⟨y0, y1, k', _, hl, h4, h5⟩ := trod_struct2 ht hf
  simp only [Value.cells] at hl h4 h5
  rw [hc] at hl
  rw [o0, c0] at h4
  rw [o1, c1] at h5
  obtain ⟨a, ha, _, wa⟩ := DataW.trod_int h0 h4
  obtain ⟨b, hb, _, wb⟩ := DataW.trod_int h1 h5
  have ba := bounds_u64 wa
  have bb := bounds_u64 wb
  obtain ⟨cs⟩ := cs
  match cs, hl with
  | [u, v], _ =>
    simp at ha hb
    subst ha hb
    exact ⟨a.toNat, b.toNat, by rw [Int.toNat_of_nonneg ba.1, Int.toNat_of_nonneg bb.1], by omega, by omega⟩
end
theorem open_key {H : Type} {enc : TypeId × Value → H} {w : World} {held : Bool} {cs : Array Value} {d : DataW H} {ps : List MemPlace}
    (h : DataW.Trod enc Try.prog w 0 (fun _ => true) held 24 (.agg cs) d ps) :
    ∃ a b : Nat, cs = #[.int .u64 (a : Nat), .int .u64 (b : Nat)] ∧ a < 18446744073709551616 ∧ b < 18446744073709551616 :=
  open_pair Try.underlying24 (by kernel_rfl) Try.underlying22 Try.underlying22 rfl rfl (by kernel_rfl) (by kernel_rfl) h
end Go.Proofs.Ytmpakhcanejamaa

/- Layer 10: structs as arguments. -/
namespace Go.Proofs.Ytmpakhcanejamaa
open Go.RowKit Go.ChangeShapes Go.WideShapes Go.ChangeAt
set_option linter.unusedVariables false
section
variable {H : Type} {enc : TypeId × Value → H} {P : Program} {w : World} {held : Bool} {t : TypeId}
theorem opens_z_2_2 {f0 f1 : Field} {α0 : Type} {el0 : α0 → List Value} {ok0 : α0 → Prop} {α1 : Type} {el1 : α1 → List Value} {ok1 : α1 → Prop} (ht : P.underlying t = some (.struct #[f0, f1])) (hc : P.cellsOf t = 4) (o0 : f0.offset = 0) (c0 : P.cellsOf f0.type = 2) (h0 : Opens enc P w held f0.type el0 ok0) (o1 : f1.offset = 2) (c1 : P.cellsOf f1.type = 2) (h1 : Opens enc P w held f1.type el1 ok1) :
    Opens enc P w held t (fun p : α0 × α1 => el0 p.1 ++ (el1 p.2)) (fun p => ok0 p.1 ∧ ok1 p.2) := by
  intro fuel cs x h
  obtain ⟨xs, n, _, _, hl, hxs, hf⟩ := DataW.trod_struct ht h
  rw [hc] at hl
  have g0 := hf 0 f0 rfl
  have g1 := hf 1 f1 rfl
  have hall : ∃ x0 x1, xs = [x0, x1] := by
    match xs, (show xs.length = 2 from hxs) with
    | [x0, x1], _ => exact ⟨_, _, rfl⟩
  obtain ⟨x0, x1, rfl⟩ := hall
  rw [o0, c0] at g0
  obtain ⟨p0, e0, k0⟩ := h0 _ _ _ (show DataW.trod enc P w 0 (fun _ => true) held n f0.type ((cs.drop 0).take 2) = some x0 from g0)
  rw [o1, c1] at g1
  obtain ⟨p1, e1, k1⟩ := h1 _ _ _ (show DataW.trod enc P w 0 (fun _ => true) held n f1.type ((cs.drop 2).take 2) = some x1 from g1)
  have hcs : cs.drop 0 = (cs.drop 0).take 2 ++ ((cs.drop 2).take 2 ++ ([])) := (chop cs 0 2).trans (congrArg _ ((chop cs 2 2).trans (congrArg _ (List.drop_of_length_le (show cs.length ≤ 4 by omega)))))
  rw [e0, e1, List.append_nil, List.drop_zero] at hcs
  exact ⟨(p0, p1), hcs, k0, k1⟩
end
theorem open_two {H : Type} {enc : TypeId × Value → H} {w : World} {held : Bool} {cs : Array Value} {d : DataW H} {ps : List MemPlace} (h : DataW.Trod enc Try.prog w 0 (fun _ => true) held 81 (.agg cs) d ps) :
    ∃ q : Ob × Ob, cs = #[.int .u8 (q.1.1 : Nat), .slice q.1.2.A q.1.2.n q.1.2.c, .int .u8 (q.2.1 : Nat), .slice q.2.2.A q.2.2.n q.2.2.c] ∧ (q.1.1 < 256 ∧ Body.ok w q.1.2) ∧ (q.2.1 < 256 ∧ Body.ok w q.2.2) := by
  obtain ⟨⟨p, q⟩, h1, h2, h3⟩ := open_agg (opens_z_2_2 (enc := enc) (w := w) (held := held) Try.underlying81 (by kernel_rfl) rfl (by kernel_rfl) opens_option rfl (by kernel_rfl) opens_option) h
  refine ⟨(p, q), ?_, h2, h3⟩
  rw [← Array.toArray_toList (xs := cs), h1]
  rfl
end Go.Proofs.Ytmpakhcanejamaa

/- Layer 10: MacCovers, as its row asks it. -/
namespace Go.Proofs.Ytmpakhcanejamaa
open Go.RowKit Go.ChangeShapes Go.WideShapes Go.ChangeAt
set_option linter.unusedVariables false
theorem macCovers_row (q1 q2 : Array Value × Sg) (q : Ob × Ob) (w : World) (h1 : SegV w (.agg q1.1) q1.2 ∧ q1.2.bd) (h2 : SegV w (.agg q2.1) q2.2 ∧ q2.2.bd) (h3 : (q.1.1 < 256 ∧ Body.ok w q.1.2) ∧ (q.2.1 < 256 ∧ Body.ok w q.2.2)) :
    Calls Try.prog 6 #[.agg q1.1, .agg q2.1, .agg #[.int .u8 (q.1.1 : Nat), .slice q.1.2.A q.1.2.n q.1.2.c, .int .u8 (q.2.1 : Nat), .slice q.2.2.A q.2.2.n q.2.2.c]] w fun e w' => e = .returned (.bool true) ∧ Below w.heap.size w w' :=
  macCovers_walk _ _ q1.2 q2.2 _ _ _ _ _ _ _ _ _ _ w h1.1 h1.2 h2.1 h2.2 h3.1.1 h3.2.1 h3.1.2.1 h3.1.2.2.1 h3.1.2.2.2.2 h3.2.2.1 h3.2.2.2.1 h3.2.2.2.2.2
end Go.Proofs.Ytmpakhcanejamaa
