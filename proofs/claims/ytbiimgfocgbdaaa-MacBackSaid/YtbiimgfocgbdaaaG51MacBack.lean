/- A slice of slices of bytes as an argument. -/
import Derived.Test.YtbiimgfocgbdaaaG4MacBack
import Derived.Test.YtbiimgfocgbdaaaRows
import Derived.Test.YtbiimgfocgbdaaaG7MacBack
import Derived.Deep.Matrix
import Derived.ChangeSame
import Derived.Test.YtbiimgfocgbdaaaG20MacBack
import Derived.Test.YtbiimgfocgbdaaaG49MacBack
import Derived.Test.YtbiimgfocgbdaaaG50MacBack

namespace Go.Proofs.Ytbiimgfocgbdaaa
open Go.RowKit Go.ChangeShapes Go.WideShapes Go.ChangeAt
set_option linter.unusedVariables false
section
variable {H : Type} {enc : TypeId × Value → H} {P : Program} {w : World} {held : Bool} {t e q : TypeId} {A : Option Addr} {len cap : Nat} {d : DataW H} {ps : List MemPlace}
theorem open_rows8 (ht : P.underlying t = some (.slice e)) (he : P.underlying e = some (.slice q)) (hq : P.underlying q = some (.int .u8)) (ce : P.cellsOf e = 1) (cq : P.cellsOf q = 1)
    (h : DataW.Trod enc P w 0 (fun _ => true) held t (.slice A len cap) d ps) :
    ∃ bss : List (List Nat), Pts w w.heap.size A len bss ∧ len ≤ cap ∧ cap ≤ maxLen ∧ (∀ bs ∈ bss, ∀ x ∈ bs, x < 256) ∧ ∀ bs ∈ bss, bs.length ≤ maxLen := by
  obtain ⟨fuel, hf⟩ := h
  rcases Go.Deep.open_int_rows ht he hq ce cq hf with ⟨hcs, _⟩ | ⟨a, n, c, A', L, C, Z, hcs, _, hl, hm, _, hx⟩
  · simp [Value.cells] at hcs
    obtain ⟨rfl, rfl, rfl⟩ := hcs
    exact ⟨[], Pts.nil _ _ _, Nat.le_refl _, Nat.zero_le _, by simp, by simp⟩
  · simp [Value.cells] at hcs
    obtain ⟨rfl, rfl, rfl⟩ := hcs
    refine ⟨(List.range len).map fun r => ((Z r).take (L r)).map Int.toNat, ⟨by simp, (List.range len).map fun r => .slice (A' r) (L r) (C r), ⟨by simp, fun hn => ?_⟩, fun i bs hi => ?_⟩, hl, hm, fun bs hbs x hx' => ?_, fun bs hbs => ?_⟩
    · have h0 := (hx 0 (by omega)).1
      have hspot : a.spot = none := by
        have := World.cell?_spot h0
        unfold Addr.add at this
        simpa using this
      obtain ⟨b, off, spot⟩ := a
      simp at hspot
      subst hspot
      refine ⟨b, off, rfl, World.block_lt_of_cell? w (a := ⟨b, off, none⟩) (by simpa [addr_add] using h0), fun j hj => ?_⟩
      have hj' : j < len := by omega
      have h1 := (hx j (by omega)).1
      rw [addr_add] at h1
      rw [h1]
      simp [hj']
    · obtain ⟨hi1, hi2⟩ := List.getElem?_eq_some_iff.1 hi
      simp at hi1
      have hi2 : ((Z i).take (L i)).map Int.toNat = bs := by simpa using hi2
      subst hi2
      obtain ⟨x1, x2, x3, x4, x5, x6, x7⟩ := hx i (by omega)
      have hlen : (((Z i).take (L i)).map Int.toNat).length = L i := by simp; omega
      refine ⟨A' i, C i, by rw [hlen]; simp [hi1], by rw [hlen]; exact x2, ⟨by simp [ns], fun hn => ?_⟩⟩
      rw [hlen] at hn
      cases hA : A' i with
      | none => have := x6 hA; omega
      | some a' =>
        obtain ⟨_, hcell⟩ := x7 a' hA
        have h0 := hcell 0 (by omega)
        have hspot : a'.spot = none := by
          have := World.cell?_spot h0
          unfold Addr.add at this
          simpa using this
        obtain ⟨b, off, spot⟩ := a'
        simp at hspot
        subst hspot
        refine ⟨b, off, rfl, World.block_lt_of_cell? w (a := ⟨b, off, none⟩) (by simpa [addr_add] using h0), fun j hj => ?_⟩
        rw [hlen] at hj
        have h1 := hcell j (by omega)
        rw [addr_add] at h1
        rw [h1]
        have hj2 : j < (Z i).length := by omega
        have hwf := bounds_u8 (x5 ((Z i)[j]) (List.getElem_mem _))
        simp [ns, show j < L i by omega, hj2]
        omega
    · obtain ⟨r, hr, rfl⟩ := List.mem_map.1 hbs
      obtain ⟨y, hy, rfl⟩ := List.mem_map.1 hx'
      have := bounds_u8 ((hx r (by have := List.mem_range.1 hr; omega)).2.2.2.2.1 y (List.mem_of_mem_take hy))
      omega
    · obtain ⟨r, hr, rfl⟩ := List.mem_map.1 hbs
      obtain ⟨_, x2, x3, x4, _⟩ := hx r (by have := List.mem_range.1 hr; omega)
      simp
      omega
end
theorem open_parts {H : Type} {enc : TypeId × Value → H} {w : World} {held : Bool} {A : Option Addr} {len cap : Nat} {d : DataW H} {ps : List MemPlace} (ht : Try.prog.underlying 118 = some (.slice 28))
    (h : DataW.Trod enc Try.prog w 0 (fun _ => true) held 118 (.slice A len cap) d ps) :
    ∃ bss : List (List Nat), Pts w w.heap.size A len bss ∧ len ≤ cap ∧ cap ≤ maxLen ∧ (∀ bs ∈ bss, ∀ x ∈ bs, x < 256) ∧ ∀ bs ∈ bss, bs.length ≤ maxLen :=
  open_rows8 ht Try.underlying28 Try.underlying5 (by kernel_rfl) (by kernel_rfl) h
end Go.Proofs.Ytbiimgfocgbdaaa

/- A key and a slice of slices of bytes as arguments. -/
namespace Go.Proofs.Ytbiimgfocgbdaaa
open Go.RowKit Go.ChangeShapes Go.WideShapes Go.ChangeAt
set_option linter.unusedVariables false
section
variable {H : Type} {enc : TypeId × Value → H} {P : Program} {w : World} {held : Bool} {t e q : TypeId} {A : Option Addr} {len cap : Nat} {d : DataW H} {ps : List MemPlace}
theorem open_pair {f0 f1 : Field} {cs : Array Value} (ht : P.underlying t = some (.struct #[f0, f1])) (hc : P.cellsOf t = 2)
    (h0 : P.underlying f0.type = some (.int .u64)) (h1 : P.underlying f1.type = some (.int .u64)) (o0 : f0.offset = 0) (o1 : f1.offset = 1) (c0 : P.cellsOf f0.type = 1) (c1 : P.cellsOf f1.type = 1)
    (h : DataW.Trod enc P w 0 (fun _ => true) held t (.agg cs) d ps) :
    ∃ a b : Nat, cs = #[.int .u64 (a : Nat), .int .u64 (b : Nat)] ∧ a < 18446744073709551616 ∧ b < 18446744073709551616 := by
  obtain ⟨fuel, hf⟩ := h
  obtain ⟨y0, y1, k', _, hl, h4, h5⟩ := trod_struct2 ht hf
  simp only [Value.cells] at hl h4 h5
  rw [hc] at hl
  rw [o0, c0] at h4
  rw [o1, c1] at h5
  obtain ⟨a, ha, _, wa⟩ := DataW.trod_int h0 h4
  obtain ⟨b, hb, _, wb⟩ := DataW.trod_int h1 h5
  have ba := bounds_u64 wa
  have bb := bounds_u64 wb
  obtain ⟨cs⟩ := cs
  match cs, hl with
  | [u, v], _ =>
    simp at ha hb
    subst ha hb
    exact ⟨a.toNat, b.toNat, by rw [Int.toNat_of_nonneg ba.1, Int.toNat_of_nonneg bb.1], by omega, by omega⟩
end
theorem open_key {H : Type} {enc : TypeId × Value → H} {w : World} {held : Bool} {cs : Array Value} {d : DataW H} {ps : List MemPlace}
    (h : DataW.Trod enc Try.prog w 0 (fun _ => true) held 24 (.agg cs) d ps) :
    ∃ a b : Nat, cs = #[.int .u64 (a : Nat), .int .u64 (b : Nat)] ∧ a < 18446744073709551616 ∧ b < 18446744073709551616 :=
  open_pair Try.underlying24 (by kernel_rfl) Try.underlying22 Try.underlying22 rfl rfl (by kernel_rfl) (by kernel_rfl) h
end Go.Proofs.Ytbiimgfocgbdaaa

/- Layer 10: structs as arguments. -/
namespace Go.Proofs.Ytbiimgfocgbdaaa
open Go.RowKit Go.ChangeShapes Go.WideShapes Go.ChangeAt
set_option linter.unusedVariables false
section
variable {H : Type} {enc : TypeId × Value → H} {P : Program} {w : World} {held : Bool} {t : TypeId}
theorem opens_z_2_2 {f0 f1 : Field} {α0 : Type} {el0 : α0 → List Value} {ok0 : α0 → Prop} {α1 : Type} {el1 : α1 → List Value} {ok1 : α1 → Prop} (ht : P.underlying t = some (.struct #[f0, f1])) (hc : P.cellsOf t = 4) (o0 : f0.offset = 0) (c0 : P.cellsOf f0.type = 2) (h0 : Opens enc P w held f0.type el0 ok0) (o1 : f1.offset = 2) (c1 : P.cellsOf f1.type = 2) (h1 : Opens enc P w held f1.type el1 ok1) :
    Opens enc P w held t (fun p : α0 × α1 => el0 p.1 ++ (el1 p.2)) (fun p => ok0 p.1 ∧ ok1 p.2) := by
  intro fuel cs x h
  obtain ⟨xs, n, _, _, hl, hxs, hf⟩ := DataW.trod_struct ht h
  rw [hc] at hl
  have g0 := hf 0 f0 rfl
  have g1 := hf 1 f1 rfl
  have hall : ∃ x0 x1, xs = [x0, x1] := by
    match xs, (show xs.length = 2 from hxs) with
    | [x0, x1], _ => exact ⟨_, _, rfl⟩
  obtain ⟨x0, x1, rfl⟩ := hall
  rw [o0, c0] at g0
  obtain ⟨p0, e0, k0⟩ := h0 _ _ _ (show DataW.trod enc P w 0 (fun _ => true) held n f0.type ((cs.drop 0).take 2) = some x0 from g0)
  rw [o1, c1] at g1
  obtain ⟨p1, e1, k1⟩ := h1 _ _ _ (show DataW.trod enc P w 0 (fun _ => true) held n f1.type ((cs.drop 2).take 2) = some x1 from g1)
  have hcs : cs.drop 0 = (cs.drop 0).take 2 ++ ((cs.drop 2).take 2 ++ ([])) := (chop cs 0 2).trans (congrArg _ ((chop cs 2 2).trans (congrArg _ (List.drop_of_length_le (show cs.length ≤ 4 by omega)))))
  rw [e0, e1, List.append_nil, List.drop_zero] at hcs
  exact ⟨(p0, p1), hcs, k0, k1⟩
end
end Go.Proofs.Ytbiimgfocgbdaaa

/- Layer 10: one of each, as an argument. -/
namespace Go.Proofs.Ytbiimgfocgbdaaa
open Go.RowKit Go.ChangeShapes Go.WideShapes Go.ChangeAt
set_option linter.unusedVariables false
section
variable {H : Type} {enc : TypeId × Value → H} {w : World} {held : Bool}
theorem open_all10 {cs : Array Value} {d : DataW H} {ps : List MemPlace} (h : DataW.Trod enc Try.prog w 0 (fun _ => true) held 42 (.agg cs) d ps) : ∃ q : OA, cs = q.cs ∧ q.bd := by
  obtain ⟨⟨⟨kk, ka, kt⟩, ⟨tk, nc, id, bk, ja, jt⟩, ⟨f, p, sq, ak, wn, dt⟩, kd, nm, wi, pa, wb, wt⟩, h1, ⟨k1, _, k2⟩, ⟨k3, k4, k5, _, _, k6⟩, ⟨_, _, k7, k8, k9, k10⟩, k11, k12, k13, k14, _, k15⟩ := open_agg (opens_z_3_6_6_6 (enc := enc) (w := w) (held := held) Try.underlying42 (by kernel_rfl) rfl (by kernel_rfl) (opens_z_1_1_1 (enc := enc) (w := w) (held := held) Try.underlying34 (by kernel_rfl) rfl (by kernel_rfl) (opens_u64 Try.underlying22) rfl (by kernel_rfl) (opens_bool Try.underlying4) rfl (by kernel_rfl) (opens_z_1 Try.underlying32 (by kernel_rfl) rfl (by kernel_rfl) (opens_u64 Try.underlying22))) rfl (by kernel_rfl) (opens_z_1_1_1_1_1_1 (enc := enc) (w := w) (held := held) Try.underlying36 (by kernel_rfl) rfl (by kernel_rfl) (opens_u32 Try.underlying26) rfl (by kernel_rfl) (opens_u32 Try.underlying26) rfl (by kernel_rfl) (opens_u8 Try.underlying5) rfl (by kernel_rfl) (opens_bool Try.underlying4) rfl (by kernel_rfl) (opens_bool Try.underlying4) rfl (by kernel_rfl) (opens_z_1 Try.underlying32 (by kernel_rfl) rfl (by kernel_rfl) (opens_u64 Try.underlying22))) rfl (by kernel_rfl) (opens_z_1_1_1_1_1_1 (enc := enc) (w := w) (held := held) Try.underlying38 (by kernel_rfl) rfl (by kernel_rfl) (opens_bool Try.underlying4) rfl (by kernel_rfl) (opens_bool Try.underlying4) rfl (by kernel_rfl) (opens_u64 Try.underlying22) rfl (by kernel_rfl) (opens_u64 Try.underlying22) rfl (by kernel_rfl) (opens_u32 Try.underlying26) rfl (by kernel_rfl) (opens_z_1 Try.underlying32 (by kernel_rfl) rfl (by kernel_rfl) (opens_u64 Try.underlying22))) rfl (by kernel_rfl) (opens_z_1_1_1_1_1_1 (enc := enc) (w := w) (held := held) Try.underlying40 (by kernel_rfl) rfl (by kernel_rfl) (opens_u8 Try.underlying5) rfl (by kernel_rfl) (opens_u32 Try.underlying26) rfl (by kernel_rfl) (opens_u8 Try.underlying5) rfl (by kernel_rfl) (opens_u8 Try.underlying5) rfl (by kernel_rfl) (opens_bool Try.underlying4) rfl (by kernel_rfl) (opens_z_1 Try.underlying32 (by kernel_rfl) rfl (by kernel_rfl) (opens_u64 Try.underlying22)))) h
  refine ⟨⟨kk, ka, kt, tk, nc, id, bk, ja, jt, f, p, sq, ak, wn, dt, kd, nm, wi, pa, wb, wt⟩, ?_, ⟨k1, k2, k3, k4, k5, k6, k7, k8, k9, k10, k11, k12, k13, k14, k15⟩⟩
  rw [← Array.toArray_toList (xs := cs), h1]
  rfl
end
end Go.Proofs.Ytbiimgfocgbdaaa

/- Layer 10: MacBack, as its row asks it. -/
namespace Go.Proofs.Ytbiimgfocgbdaaa
open Go.RowKit Go.ChangeShapes Go.WideShapes Go.ChangeAt
set_option linter.unusedVariables false
theorem macBack_row (k0 k1 : Nat) (q : Array Value × Sg) (x : OA) (w : World) (h0 : k0 < 18446744073709551616) (h1 : k1 < 18446744073709551616) (hq : SegV w (.agg q.1) q.2 ∧ q.2.bd) (hx : x.bd) :
    Calls Try.prog 5 #[.agg #[.int .u64 (k0 : Nat), .int .u64 (k1 : Nat)], .agg q.1, .agg x.cs] w fun e w' => e = .returned (.bool true) ∧ Below w.heap.size w w' :=
  macBack_walk k0 k1 _ q.2 x w h0 h1 hq.1 hq.2 hx
end Go.Proofs.Ytbiimgfocgbdaaa
