/- A key and a slice of slices of bytes as arguments. -/
import Derived.Test.YtbiimgfocgbdaaaDoorSip4
import Derived.Test.YtbiimgfocgbdaaaDoorOpenM
import Derived.Deep.Matrix
import Derived.ChangeSame
namespace Go.Proofs.YtbiimgfocgbdaaaDoor
open Go.RowKit Go.ChangeShapes Go.WideShapes Go.ChangeAt
set_option linter.unusedVariables false
section
variable {H : Type} {enc : TypeId × Value → H} {P : Program} {w : World} {held : Bool} {t e q : TypeId} {A : Option Addr} {len cap : Nat} {d : DataW H} {ps : List MemPlace}
theorem open_pair {f0 f1 : Field} {cs : Array Value} (ht : P.underlying t = some (.struct #[f0, f1])) (hc : P.cellsOf t = 2)
    (h0 : P.underlying f0.type = some (.int .u64)) (h1 : P.underlying f1.type = some (.int .u64)) (o0 : f0.offset = 0) (o1 : f1.offset = 1) (c0 : P.cellsOf f0.type = 1) (c1 : P.cellsOf f1.type = 1)
    (h : DataW.Trod enc P w 0 (fun _ => true) held t (.agg cs) d ps) :
    ∃ a b : Nat, cs = #[.int .u64 (a : Nat), .int .u64 (b : Nat)] ∧ a < 18446744073709551616 ∧ b < 18446744073709551616 := by
  obtain ⟨fuel, hf⟩ := h
  obtain ⟨y0, y1, k', _, hl, h4, h5⟩ := trod_struct2 ht hf
  simp only [Value.cells] at hl h4 h5
  rw [hc] at hl
  rw [o0, c0] at h4
  rw [o1, c1] at h5
  obtain ⟨a, ha, _, wa⟩ := DataW.trod_int h0 h4
  obtain ⟨b, hb, _, wb⟩ := DataW.trod_int h1 h5
  have ba := bounds_u64 wa
  have bb := bounds_u64 wb
  obtain ⟨cs⟩ := cs
  match cs, hl with
  | [u, v], _ =>
    simp at ha hb
    subst ha hb
    exact ⟨a.toNat, b.toNat, by rw [Int.toNat_of_nonneg ba.1, Int.toNat_of_nonneg bb.1], by omega, by omega⟩
end
theorem open_key {H : Type} {enc : TypeId × Value → H} {w : World} {held : Bool} {cs : Array Value} {d : DataW H} {ps : List MemPlace}
    (h : DataW.Trod enc Tryd.prog w 0 (fun _ => true) held 24 (.agg cs) d ps) :
    ∃ a b : Nat, cs = #[.int .u64 (a : Nat), .int .u64 (b : Nat)] ∧ a < 18446744073709551616 ∧ b < 18446744073709551616 :=
  open_pair Tryd.underlying24 (by kernel_rfl) Tryd.underlying22 Tryd.underlying22 rfl rfl (by kernel_rfl) (by kernel_rfl) h
end Go.Proofs.YtbiimgfocgbdaaaDoor
