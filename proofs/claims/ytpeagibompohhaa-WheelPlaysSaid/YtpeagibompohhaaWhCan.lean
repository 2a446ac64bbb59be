/- Package wheel: Cancel. -/
import Derived.Test.YtpeagibompohhaaWhEmp
namespace Go.Proofs.Ytpeagibompohhaa
open Go.RowKit
set_option linter.unusedVariables false
set_option linter.unusedSimpArgs false
theorem MapW.ok_none {w : World} {b sz : Nat} {f : Fm} {id : Int} (h : MapW w b f sz) (hi : I64 id) (hf : f id = none) : (Instr.lookup 50 (.map (some b)) (.int .i64 id) true).run Try.prog w = .ok (.tuple #[.agg #[.int .i64 0, .int .i64 0], .bool false]) w := by
  rw [h.look_ok hi, hf]; rfl
theorem MapW.ok_some {w : World} {b sz t a : Nat} {f : Fm} {id : Int} (h : MapW w b f sz) (hi : I64 id) (hf : f id = some (t, a)) : (Instr.lookup 50 (.map (some b)) (.int .i64 id) true).run Try.prog w = .ok (.tuple #[.agg #[.int .i64 (t : Nat), .int .i64 (a : Nat)], .bool true]) w := by
  rw [h.look_ok hi, hf]; rfl
theorem MapW.at_some {w : World} {b sz t a : Nat} {f : Fm} {id : Int} (h : MapW w b f sz) (hi : I64 id) (hf : f id = some (t, a)) : (Instr.lookup 50 (.map (some b)) (.int .i64 id) false).run Try.prog w = .ok (.agg #[.int .i64 (t : Nat), .int .i64 (a : Nat)]) w := by
  rw [h.look hi, hf]; rfl
set_option maxRecDepth 20000 in
theorem wcancel_none (g B mb most now sz : Nat) (id : Int) (sl : List Value) (S : List (List Int)) (f : Fm) (w : World) (h : WS w g B mb most now sl S) (hm : MapW w mb f sz) (hid : I64 id) (hf : f id = none) :
    Calls Try.prog 9 #[.pointer (some ⟨g, 0, none⟩), .int .i64 id] w fun e w' => e = .returned (.bool false) ∧ Below w.heap.size w w' := by
  have c2 := h.c2
  have hlk := hm.ok_none hid hf
  clear h hm hid hf
  go_enter Try.func9, Try.ntmps9
  go_wp2_with fail
  go_ret
  exact ⟨rfl, (Below.refl _ _).alloc (Nat.le_refl _) _⟩
set_option maxRecDepth 20000 in
theorem wdue_none (g B mb most now sz : Nat) (id : Int) (sl : List Value) (S : List (List Int)) (f : Fm) (w : World) (h : WS w g B mb most now sl S) (hm : MapW w mb f sz) (hid : I64 id) (hf : f id = none) :
    Calls Try.prog 15 #[.pointer (some ⟨g, 0, none⟩), .int .i64 id] w fun e w' => e = .returned (.tuple #[.int .i64 0, .bool false]) ∧ Below w.heap.size w w' := by
  have c2 := h.c2
  have hlk := hm.ok_none hid hf
  clear h hm hid hf
  go_enter Try.func15, Try.ntmps15
  go_wp2_with fail
  go_ret2
  exact ⟨rfl, (Below.refl _ _).alloc (Nat.le_refl _) _⟩
set_option maxRecDepth 20000 in
theorem wdue_some (g B mb most now sz t k : Nat) (id : Int) (sl : List Value) (S : List (List Int)) (f : Fm) (w : World) (h : WS w g B mb most now sl S) (hm : MapW w mb f sz) (hid : I64 id) (hf : f id = some (t, k)) (hnt : now ≤ t) (ht : t ≤ 4294967296) :
    Calls Try.prog 15 #[.pointer (some ⟨g, 0, none⟩), .int .i64 id] w fun e w' => e = .returned (.tuple #[.int .i64 ((t - now : Nat) : Int), .bool true]) ∧ Below w.heap.size w w' := by
  have c2 := h.c2
  have hlk := hm.ok_some hid hf
  have HW := Lib.hid h
  have e1 : ((t - now : Nat) : Int) = (t : Int) - (now : Int) := by omega
  rw [e1]
  clear h hm hid hf e1
  go_enter Try.func15, Try.ntmps15
  go_upto_region 4 with fail
  have hA := (Below.refl w.heap.size w).alloc (Nat.le_refl _) (.cells #[.int .i64 (t : Nat), .int .i64 (k : Nat)] 58)
  have k2 := Blk.new w 58 #[.int .i64 (t : Nat), .int .i64 (k : Nat)]
  have c1 := (HW.out.into hA).c1
  obtain ⟨z0, z1⟩ := ptc2 k2
  have HA := Lib.hid hA
  clear hA k2 c2 hlk
  generalize w.alloc (.cells #[.int .i64 (t : Nat), .int .i64 (k : Nat)] 58) = w2 at c1 z0 z1 HA ⊢
  go_quiet (fail)
  go_wp2_with fail
  go_ret2
  exact ⟨rfl, below_drewN HA.out _⟩
end Go.Proofs.Ytpeagibompohhaa
