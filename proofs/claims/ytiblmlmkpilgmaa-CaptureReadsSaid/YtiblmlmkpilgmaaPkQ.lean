/- Contracts of package pack: Q, Flag. -/
import Derived.Test.YtiblmlmkpilgmaaPk2
namespace Go.Proofs.Ytiblmlmkpilgmaa
open Go.RowKit
set_option linter.unusedVariables false
theorem pQ_any (x : Int) (w : World) (h0 : 0 ≤ x) (h : x < 18446744073709551616) : Calls Try.prog 70 #[.int .u64 x] w fun e w' => e = .returned (.agg #[.int .i64 8, .int .u64 x]) ∧ Below w.heap.size w w' := by
  go_enter Try.func70, Try.ntmps70
  go_wp2
  exact bodyPost_ret (v := .agg #[.int .i64 8, .int .u64 x]) (by simp [results, Try.results70, go_sem]) rfl ⟨rfl, (Below.refl _ _).alloc (Nat.le_refl _) _⟩
theorem pFlag_any (b : Bool) (w : World) : Calls Try.prog 74 #[.bool b] w fun e w' => e = .returned (.agg #[.int .i64 1, .int .u64 (if b then 1 else 0)]) ∧ Below w.heap.size w w' := by
  cases b with
  | true =>
    go_enter Try.func74, Try.ntmps74
    go_wp2_with fail
    refine (pB_any 1 _ (by omega) (by omega)).mono ?_
    rintro e w2 ⟨rfl, hb⟩
    have hk := (Blk.new w 139 #[Value.int IntKind.i64 0, Value.int IntKind.u64 0]).below hb (by simp)
    have hc0 : _ = some (Value.int IntKind.i64 0) := hk.cell 0
    have hf0 := hk.frozen 0
    have hc1 : _ = some (Value.int IntKind.u64 0) := hk.cell 1
    have hf1 := hk.frozen 1
    go_wp2_with fail
    have hk3 : Blk _ w.heap.size 139 #[Value.int IntKind.i64 1, Value.int IntKind.u64 1] := (hk.set 0 (Value.int IntKind.i64 1)).set 1 (Value.int IntKind.u64 1)
    have hb3 := ((((Below.refl w.heap.size w).alloc (Nat.le_refl _) _).trans (hb.mono (by simp))).setCell (p := ⟨w.heap.size, 0, none⟩) (Nat.le_refl _) (Value.int IntKind.i64 1)).setCell (p := ⟨w.heap.size, 1, none⟩) (Nat.le_refl _) (Value.int IntKind.u64 1)
    clear hc0 hf0 hc1 hf1
    have c0 : _ = some (Value.int IntKind.i64 1) := hk3.cell 0
    have c1 : _ = some (Value.int IntKind.u64 1) := hk3.cell 1
    exact bodyPost_ret (v := .agg #[.int .i64 1, .int .u64 1]) (by simp [results, Try.results74, go_sem, c0, c1]) rfl ⟨rfl, hb3⟩
  | false =>
    go_enter Try.func74, Try.ntmps74
    go_wp2_with fail
    refine (pB_any 0 _ (by omega) (by omega)).mono ?_
    rintro e w2 ⟨rfl, hb⟩
    have hk := (Blk.new w 139 #[Value.int IntKind.i64 0, Value.int IntKind.u64 0]).below hb (by simp)
    have hc0 : _ = some (Value.int IntKind.i64 0) := hk.cell 0
    have hf0 := hk.frozen 0
    have hc1 : _ = some (Value.int IntKind.u64 0) := hk.cell 1
    have hf1 := hk.frozen 1
    go_wp2_with fail
    have hk3 : Blk _ w.heap.size 139 #[Value.int IntKind.i64 1, Value.int IntKind.u64 0] := (hk.set 0 (Value.int IntKind.i64 1)).set 1 (Value.int IntKind.u64 0)
    have hb3 := ((((Below.refl w.heap.size w).alloc (Nat.le_refl _) _).trans (hb.mono (by simp))).setCell (p := ⟨w.heap.size, 0, none⟩) (Nat.le_refl _) (Value.int IntKind.i64 1)).setCell (p := ⟨w.heap.size, 1, none⟩) (Nat.le_refl _) (Value.int IntKind.u64 0)
    clear hc0 hf0 hc1 hf1
    have c0 : _ = some (Value.int IntKind.i64 1) := hk3.cell 0
    have c1 : _ = some (Value.int IntKind.u64 0) := hk3.cell 1
    exact bodyPost_ret (v := .agg #[.int .i64 1, .int .u64 0]) (by simp [results, Try.results74, go_sem, c0, c1]) rfl ⟨rfl, hb3⟩
end Go.Proofs.Ytiblmlmkpilgmaa
