/- Layer 3: the last region of SipSums, operation by operation. -/
import Derived.Test.YtahdfginmkcgfaaLawSPa
import Derived.Test.YtahdfginmkcgfaaSip11
namespace Go.Proofs.Ytahdfginmkcgfaa
open Go.RowKit Go.ChangeShapes Go.WideShapes Go.ChangeAt
set_option linter.unusedVariables false
/-- What each operation's slot holds, once it was done. -/
def GdS (kk sl su pp : Value) (bs : List Nat) : Nat → Value → World → Prop
  | 0, v, _ => v = kk | 4, v, _ => v = kk | 9, v, _ => v = kk | 13, v, _ => v = kk
  | 1, v, _ => v = sl | 5, v, _ => v = sl | 10, v, _ => v = sl | 14, v, _ => v = sl
  | 3, v, _ => v = su | 6, v, _ => v = su
  | 2, v, w => Hd bs v w | 11, v, w => Hd bs v w
  | 12, v, _ => v = pp | 15, v, _ => v = pp
  | _, v, _ => v = .bool true
theorem GdS.keep {kk sl su pp : Value} {bs : List Nat} {w w' : World} (hb : Below w.heap.size w w') {j : Nat} {v : Value} (hj : j < 22) (h : GdS kk sl su pp bs j v w) : GdS kk sl su pp bs j v w' := by
  rcases (show j = 2 ∨ j = 11 ∨ (j ≠ 2 ∧ j ≠ 11) by omega) with rfl | rfl | ⟨h1, h2⟩
  · exact Hd.keep h hb
  · exact Hd.keep h hb
  · match j, hj, h1, h2, h with
    | 0, _, _, _, h => exact h
    | 1, _, _, _, h => exact h
    | 3, _, _, _, h => exact h
    | 4, _, _, _, h => exact h
    | 5, _, _, _, h => exact h
    | 6, _, _, _, h => exact h
    | 7, _, _, _, h => exact h
    | 8, _, _, _, h => exact h
    | 9, _, _, _, h => exact h
    | 10, _, _, _, h => exact h
    | 12, _, _, _, h => exact h
    | 13, _, _, _, h => exact h
    | 14, _, _, _, h => exact h
    | 15, _, _, _, h => exact h
    | 16, _, _, _, h => exact h
    | 17, _, _, _, h => exact h
    | 18, _, _, _, h => exact h
    | 19, _, _, _, h => exact h
    | 20, _, _, _, h => exact h
    | 21, _, _, _, h => exact h
    | n + 22, hj, _, _, _ => omega
def ssOps : List Oper := [
  { dst := some 8, op := Op.load 24 (Operand.tmp 2), type := 24, pos := "law.go:21", after := #[], guard := none },
  { dst := some 9, op := Op.move (Operand.tmp 1), type := 25, pos := "law.go:21", after := #[], guard := none },
  { dst := some 10, op := Op.buildSlice 32 1 #[(0, Operand.tmp 9)], type := 32, pos := "law.go:21", after := #[{ on := 1, ground := Ground.data }], guard := none },
  { dst := some 11, op := Op.call { callee := Callee.value (Operand.func 12), args := #[Operand.tmp 8, Operand.tmp 10], argTypes := #[24, 32] }, type := 22, pos := "law.go:21", after := #[{ on := 0, ground := Ground.data }, { on := 2, ground := Ground.data }], guard := none },
  { dst := some 12, op := Op.load 24 (Operand.tmp 2), type := 24, pos := "law.go:21", after := #[], guard := none },
  { dst := some 13, op := Op.move (Operand.tmp 1), type := 25, pos := "law.go:21", after := #[], guard := none },
  { dst := some 14, op := Op.call { callee := Callee.value (Operand.func 13), args := #[Operand.tmp 12, Operand.tmp 13], argTypes := #[24, 25] }, type := 22, pos := "law.go:21", after := #[{ on := 4, ground := Ground.data }, { on := 5, ground := Ground.data }, { on := 3, ground := Ground.chain }], guard := none },
  { dst := some 15, op := Op.binOp BinOp.eql 22 (Operand.tmp 11) (Operand.tmp 14) 22, type := 4, pos := "law.go:21", after := #[{ on := 3, ground := Ground.data }, { on := 6, ground := Ground.data }], guard := none },
  { dst := some 16, op := Op.move (Operand.tmp 15), type := 4, pos := "law.go:21", after := #[{ on := 7, ground := Ground.data }, { on := 6, ground := Ground.chain }], guard := none },
  { dst := some 17, op := Op.load 24 (Operand.tmp 2), type := 24, pos := "law.go:21", after := #[{ on := 8, ground := Ground.guard }], guard := some (8, true) },
  { dst := some 18, op := Op.move (Operand.tmp 1), type := 25, pos := "law.go:21", after := #[{ on := 8, ground := Ground.guard }], guard := some (8, true) },
  { dst := some 19, op := Op.buildSlice 32 1 #[(0, Operand.tmp 18)], type := 32, pos := "law.go:21", after := #[{ on := 10, ground := Ground.data }, { on := 8, ground := Ground.guard }], guard := some (8, true) },
  { dst := some 20, op := Op.call { callee := Callee.value (Operand.func 14), args := #[Operand.tmp 17, Operand.tmp 19], argTypes := #[24, 32] }, type := 24, pos := "law.go:21", after := #[{ on := 9, ground := Ground.data }, { on := 11, ground := Ground.data }, { on := 8, ground := Ground.chain }, { on := 8, ground := Ground.guard }], guard := some (8, true) },
  { dst := some 21, op := Op.load 24 (Operand.tmp 2), type := 24, pos := "law.go:21", after := #[{ on := 8, ground := Ground.guard }], guard := some (8, true) },
  { dst := some 22, op := Op.move (Operand.tmp 1), type := 25, pos := "law.go:21", after := #[{ on := 8, ground := Ground.guard }], guard := some (8, true) },
  { dst := some 23, op := Op.call { callee := Callee.value (Operand.func 15), args := #[Operand.tmp 21, Operand.tmp 22], argTypes := #[24, 25] }, type := 24, pos := "law.go:21", after := #[{ on := 13, ground := Ground.data }, { on := 14, ground := Ground.data }, { on := 12, ground := Ground.chain }, { on := 8, ground := Ground.guard }], guard := some (8, true) },
  { dst := some 24, op := Op.binOp BinOp.eql 24 (Operand.tmp 20) (Operand.tmp 23) 24, type := 4, pos := "law.go:21", after := #[{ on := 12, ground := Ground.data }, { on := 15, ground := Ground.data }, { on := 8, ground := Ground.guard }], guard := some (8, true) },
  { dst := some 25, op := Op.pick (Operand.tmp 16) (Operand.tmp 24) (Operand.const (Value.bool false)), type := 4, pos := "law.go:21", after := #[{ on := 8, ground := Ground.data }, { on := 16, ground := Ground.data }], guard := none },
  { dst := some 26, op := Op.move (Operand.tmp 25), type := 4, pos := "law.go:21", after := #[{ on := 17, ground := Ground.data }, { on := 15, ground := Ground.chain }], guard := none },
  { dst := some 27, op := Op.call { callee := Callee.value (Operand.func 16), args := #[], argTypes := #[] }, type := 4, pos := "law.go:21", after := #[{ on := 18, ground := Ground.chain }, { on := 18, ground := Ground.guard }], guard := some (18, true) },
  { dst := some 28, op := Op.pick (Operand.tmp 26) (Operand.tmp 27) (Operand.const (Value.bool false)), type := 4, pos := "law.go:21", after := #[{ on := 18, ground := Ground.data }, { on := 19, ground := Ground.data }], guard := none },
  { dst := some 4, op := Op.assign (Operand.tmp 28), type := 4, pos := "law.go:21", after := #[{ on := 20, ground := Ground.data }, { on := 19, ground := Ground.chain }, { on := 0, ground := Ground.phase }, { on := 1, ground := Ground.phase }, { on := 2, ground := Ground.phase }, { on := 3, ground := Ground.phase }, { on := 4, ground := Ground.phase }, { on := 5, ground := Ground.phase }, { on := 6, ground := Ground.phase }, { on := 7, ground := Ground.phase }, { on := 8, ground := Ground.phase }, { on := 9, ground := Ground.phase }, { on := 10, ground := Ground.phase }, { on := 11, ground := Ground.phase }, { on := 12, ground := Ground.phase }, { on := 13, ground := Ground.phase }, { on := 14, ground := Ground.phase }, { on := 15, ground := Ground.phase }, { on := 16, ground := Ground.phase }, { on := 17, ground := Ground.phase }, { on := 18, ground := Ground.phase }, { on := 19, ground := Ground.phase }, { on := 20, ground := Ground.phase }], guard := none }]
/-- The slots and the memory, whatever has been done. -/
def ssI (w wr : World) (k0 k1 n c : Nat) (A : Option Addr) (fl : List Nat) (l : Array Bool) (a : Act) (wx : World) : Prop :=
  ∃ S : Nat → Value, a = ⟨#[.agg #[.int .u64 (k0 : Nat), .int .u64 (k1 : Nat)], .slice A n c, .pointer (some ⟨w.heap.size, 0, none⟩), undef, S 21, .slice A n c, .int .i64 (n : Nat), .bool (decide (4096 < (n : Int))), S 0, S 1, S 2, S 3, S 4, S 5, S 6, S 7, S 8, S 9, S 10, S 11, S 12, S 13, S 14, S 15, S 16, S 17, S 18, S 19, S 20], []⟩ ∧ (∀ j, j < 22 → l.getD j true = true → GdS (.agg #[.int .u64 (k0 : Nat), .int .u64 (k1 : Nat)]) (.slice A n c) (.int .u64 (sumB k0 k1 fl : Nat)) (.agg #[.int .u64 (sumB k0 k1 (1 :: fl) : Nat), .int .u64 (sumB k0 k1 (2 :: fl) : Nat)]) fl j (S j) wx) ∧ Hid (Below wr.heap.size wr wx)
set_option maxRecDepth 20000 in
theorem ss_step0 (w wr : World) (k0 k1 n c : Nat) (A : Option Addr) (fl : List Nat) (h0 : k0 < 18446744073709551616) (h1 : k1 < 18446744073709551616) (hnc : n ≤ c) (hn : n ≤ 4096) (HBB : Hid (∀ x ∈ fl, x < 256)) (hn5 : fl.length ≤ 4096)
    (HF : Hid (∀ wx, Below wr.heap.size wr wx → Rd wx wx.heap.size 1 A n (ns .u8 fl) ∧ wx.cell? ⟨w.heap.size, 0, none⟩ = some (.int .u64 (k0 : Nat)) ∧ wx.cell? ⟨w.heap.size, 1, none⟩ = some (.int .u64 (k1 : Nat)))) (l : Array Bool) (a : Act) (wl : World) (hls : l.size = 22) (hinv : ssI w wr k0 k1 n c A fl l a wl) (hdep : ∀ e ∈ (ssOps.getD 0 default).after, Region.binds .any e = true → l.getD e.on false = true)
    (K : Exit → Act → World → Prop) (hK : ∀ a' w', ssI w wr k0 k1 n c A fl (l.setIfInBounds 0 true) a' w' → K .normal a' w') : wpList Try.prog ssOps.toArray K [ssOps.getD 0 default] a wl := by
  obtain ⟨S, rfl, hgd, hbl⟩ := hinv
  have hop : ssOps.getD 0 default = { dst := some 8, op := Op.load 24 (Operand.tmp 2), type := 24, pos := "law.go:21", after := #[], guard := none } := rfl
  rw [hop] at hdep ⊢
  clear hop
  have hf := HF.out wl hbl.out
  have HFL2 := Lib.hid hf.1
  have x0 := hf.2.1
  have x1 := hf.2.2
  have STEP := Lib.hid (fun (v : Value) (w' : World) (hb : Below wl.heap.size wl w') (hv : GdS (.agg #[.int .u64 (k0 : Nat), .int .u64 (k1 : Nat)]) (.slice A n c) (.int .u64 (sumB k0 k1 fl : Nat)) (.agg #[.int .u64 (sumB k0 k1 (1 :: fl) : Nat), .int .u64 (sumB k0 k1 (2 :: fl) : Nat)]) fl 0 v w') => (⟨upd_good hls (fun j u hj hg => GdS.keep hb hj hg) hgd (show 0 < 22 by omega) hv, Lib.hid (hbl.out.trans (hb.mono hbl.out.size))⟩ : (∀ j, j < 22 → (l.setIfInBounds 0 true).getD j true = true → GdS (.agg #[.int .u64 (k0 : Nat), .int .u64 (k1 : Nat)]) (.slice A n c) (.int .u64 (sumB k0 k1 fl : Nat)) (.agg #[.int .u64 (sumB k0 k1 (1 :: fl) : Nat), .int .u64 (sumB k0 k1 (2 :: fl) : Nat)]) fl j (upd S 0 v j) w') ∧ Hid (Below wr.heap.size wr w')))
  have HK := Lib.hid hK
  clear hgd hK hdep hbl hf
  go_wp2_with fail
  exact HK.out _ _ ⟨upd S 0 _, rfl, STEP.out _ _ (Below.refl _ _) rfl⟩
set_option maxRecDepth 20000 in
theorem ss_step1 (w wr : World) (k0 k1 n c : Nat) (A : Option Addr) (fl : List Nat) (h0 : k0 < 18446744073709551616) (h1 : k1 < 18446744073709551616) (hnc : n ≤ c) (hn : n ≤ 4096) (HBB : Hid (∀ x ∈ fl, x < 256)) (hn5 : fl.length ≤ 4096)
    (HF : Hid (∀ wx, Below wr.heap.size wr wx → Rd wx wx.heap.size 1 A n (ns .u8 fl) ∧ wx.cell? ⟨w.heap.size, 0, none⟩ = some (.int .u64 (k0 : Nat)) ∧ wx.cell? ⟨w.heap.size, 1, none⟩ = some (.int .u64 (k1 : Nat)))) (l : Array Bool) (a : Act) (wl : World) (hls : l.size = 22) (hinv : ssI w wr k0 k1 n c A fl l a wl) (hdep : ∀ e ∈ (ssOps.getD 1 default).after, Region.binds .any e = true → l.getD e.on false = true)
    (K : Exit → Act → World → Prop) (hK : ∀ a' w', ssI w wr k0 k1 n c A fl (l.setIfInBounds 1 true) a' w' → K .normal a' w') : wpList Try.prog ssOps.toArray K [ssOps.getD 1 default] a wl := by
  obtain ⟨S, rfl, hgd, hbl⟩ := hinv
  have hop : ssOps.getD 1 default = { dst := some 9, op := Op.move (Operand.tmp 1), type := 25, pos := "law.go:21", after := #[], guard := none } := rfl
  rw [hop] at hdep ⊢
  clear hop
  have hf := HF.out wl hbl.out
  have HFL2 := Lib.hid hf.1
  have x0 := hf.2.1
  have x1 := hf.2.2
  have STEP := Lib.hid (fun (v : Value) (w' : World) (hb : Below wl.heap.size wl w') (hv : GdS (.agg #[.int .u64 (k0 : Nat), .int .u64 (k1 : Nat)]) (.slice A n c) (.int .u64 (sumB k0 k1 fl : Nat)) (.agg #[.int .u64 (sumB k0 k1 (1 :: fl) : Nat), .int .u64 (sumB k0 k1 (2 :: fl) : Nat)]) fl 1 v w') => (⟨upd_good hls (fun j u hj hg => GdS.keep hb hj hg) hgd (show 1 < 22 by omega) hv, Lib.hid (hbl.out.trans (hb.mono hbl.out.size))⟩ : (∀ j, j < 22 → (l.setIfInBounds 1 true).getD j true = true → GdS (.agg #[.int .u64 (k0 : Nat), .int .u64 (k1 : Nat)]) (.slice A n c) (.int .u64 (sumB k0 k1 fl : Nat)) (.agg #[.int .u64 (sumB k0 k1 (1 :: fl) : Nat), .int .u64 (sumB k0 k1 (2 :: fl) : Nat)]) fl j (upd S 1 v j) w') ∧ Hid (Below wr.heap.size wr w')))
  have HK := Lib.hid hK
  clear hgd hK hdep hbl hf
  go_wp2_with fail
  exact HK.out _ _ ⟨upd S 1 _, rfl, STEP.out _ _ (Below.refl _ _) rfl⟩
set_option maxRecDepth 20000 in
theorem ss_step2 (w wr : World) (k0 k1 n c : Nat) (A : Option Addr) (fl : List Nat) (h0 : k0 < 18446744073709551616) (h1 : k1 < 18446744073709551616) (hnc : n ≤ c) (hn : n ≤ 4096) (HBB : Hid (∀ x ∈ fl, x < 256)) (hn5 : fl.length ≤ 4096)
    (HF : Hid (∀ wx, Below wr.heap.size wr wx → Rd wx wx.heap.size 1 A n (ns .u8 fl) ∧ wx.cell? ⟨w.heap.size, 0, none⟩ = some (.int .u64 (k0 : Nat)) ∧ wx.cell? ⟨w.heap.size, 1, none⟩ = some (.int .u64 (k1 : Nat)))) (l : Array Bool) (a : Act) (wl : World) (hls : l.size = 22) (hinv : ssI w wr k0 k1 n c A fl l a wl) (hdep : ∀ e ∈ (ssOps.getD 2 default).after, Region.binds .any e = true → l.getD e.on false = true)
    (K : Exit → Act → World → Prop) (hK : ∀ a' w', ssI w wr k0 k1 n c A fl (l.setIfInBounds 2 true) a' w' → K .normal a' w') : wpList Try.prog ssOps.toArray K [ssOps.getD 2 default] a wl := by
  obtain ⟨S, rfl, hgd, hbl⟩ := hinv
  have hop : ssOps.getD 2 default = { dst := some 10, op := Op.buildSlice 32 1 #[(0, Operand.tmp 9)], type := 32, pos := "law.go:21", after := #[{ on := 1, ground := Ground.data }], guard := none } := rfl
  rw [hop] at hdep ⊢
  clear hop
  have hf := HF.out wl hbl.out
  have HFL2 := Lib.hid hf.1
  have x0 := hf.2.1
  have x1 := hf.2.2
  have STEP := Lib.hid (fun (v : Value) (w' : World) (hb : Below wl.heap.size wl w') (hv : GdS (.agg #[.int .u64 (k0 : Nat), .int .u64 (k1 : Nat)]) (.slice A n c) (.int .u64 (sumB k0 k1 fl : Nat)) (.agg #[.int .u64 (sumB k0 k1 (1 :: fl) : Nat), .int .u64 (sumB k0 k1 (2 :: fl) : Nat)]) fl 2 v w') => (⟨upd_good hls (fun j u hj hg => GdS.keep hb hj hg) hgd (show 2 < 22 by omega) hv, Lib.hid (hbl.out.trans (hb.mono hbl.out.size))⟩ : (∀ j, j < 22 → (l.setIfInBounds 2 true).getD j true = true → GdS (.agg #[.int .u64 (k0 : Nat), .int .u64 (k1 : Nat)]) (.slice A n c) (.int .u64 (sumB k0 k1 fl : Nat)) (.agg #[.int .u64 (sumB k0 k1 (1 :: fl) : Nat), .int .u64 (sumB k0 k1 (2 :: fl) : Nat)]) fl j (upd S 2 v j) w') ∧ Hid (Below wr.heap.size wr w')))
  have HK := Lib.hid hK
  have d1 : S 1 = (.slice A n c) := hgd 1 (by omega) (by have := hdep ⟨1, .data⟩ (by simp) (by rfl); have h2 : 1 < l.size := (by omega); simpa [Array.getD, h2] using this)
  rw [d1]
  have H1 := Lib.hid d1
  clear d1
  clear hgd hK hdep hbl hf
  go_wp2_with fail
  refine HK.out _ _ ⟨upd (upd S 1 (.slice A n c)) 2 _, rfl, ?_⟩
  rw [upd_same H1.out]
  exact STEP.out _ _ ((Below.refl _ _).alloc (Nat.le_refl _) _) ⟨_, rfl, (Pts.one 25 (bs := fl) (HFL2.out) hnc (Nat.le_refl _)).mono (by simp)⟩
set_option maxRecDepth 20000 in
theorem ss_step3 (w wr : World) (k0 k1 n c : Nat) (A : Option Addr) (fl : List Nat) (h0 : k0 < 18446744073709551616) (h1 : k1 < 18446744073709551616) (hnc : n ≤ c) (hn : n ≤ 4096) (HBB : Hid (∀ x ∈ fl, x < 256)) (hn5 : fl.length ≤ 4096)
    (HF : Hid (∀ wx, Below wr.heap.size wr wx → Rd wx wx.heap.size 1 A n (ns .u8 fl) ∧ wx.cell? ⟨w.heap.size, 0, none⟩ = some (.int .u64 (k0 : Nat)) ∧ wx.cell? ⟨w.heap.size, 1, none⟩ = some (.int .u64 (k1 : Nat)))) (l : Array Bool) (a : Act) (wl : World) (hls : l.size = 22) (hinv : ssI w wr k0 k1 n c A fl l a wl) (hdep : ∀ e ∈ (ssOps.getD 3 default).after, Region.binds .any e = true → l.getD e.on false = true)
    (K : Exit → Act → World → Prop) (hK : ∀ a' w', ssI w wr k0 k1 n c A fl (l.setIfInBounds 3 true) a' w' → K .normal a' w') : wpList Try.prog ssOps.toArray K [ssOps.getD 3 default] a wl := by
  obtain ⟨S, rfl, hgd, hbl⟩ := hinv
  have hop : ssOps.getD 3 default = { dst := some 11, op := Op.call { callee := Callee.value (Operand.func 12), args := #[Operand.tmp 8, Operand.tmp 10], argTypes := #[24, 32] }, type := 22, pos := "law.go:21", after := #[{ on := 0, ground := Ground.data }, { on := 2, ground := Ground.data }], guard := none } := rfl
  rw [hop] at hdep ⊢
  clear hop
  have hf := HF.out wl hbl.out
  have HFL2 := Lib.hid hf.1
  have x0 := hf.2.1
  have x1 := hf.2.2
  have STEP := Lib.hid (fun (v : Value) (w' : World) (hb : Below wl.heap.size wl w') (hv : GdS (.agg #[.int .u64 (k0 : Nat), .int .u64 (k1 : Nat)]) (.slice A n c) (.int .u64 (sumB k0 k1 fl : Nat)) (.agg #[.int .u64 (sumB k0 k1 (1 :: fl) : Nat), .int .u64 (sumB k0 k1 (2 :: fl) : Nat)]) fl 3 v w') => (⟨upd_good hls (fun j u hj hg => GdS.keep hb hj hg) hgd (show 3 < 22 by omega) hv, Lib.hid (hbl.out.trans (hb.mono hbl.out.size))⟩ : (∀ j, j < 22 → (l.setIfInBounds 3 true).getD j true = true → GdS (.agg #[.int .u64 (k0 : Nat), .int .u64 (k1 : Nat)]) (.slice A n c) (.int .u64 (sumB k0 k1 fl : Nat)) (.agg #[.int .u64 (sumB k0 k1 (1 :: fl) : Nat), .int .u64 (sumB k0 k1 (2 :: fl) : Nat)]) fl j (upd S 3 v j) w') ∧ Hid (Below wr.heap.size wr w')))
  have HK := Lib.hid hK
  have d0 : S 0 = (.agg #[.int .u64 (k0 : Nat), .int .u64 (k1 : Nat)]) := hgd 0 (by omega) (by have := hdep ⟨0, .data⟩ (by simp) (by rfl); have h2 : 0 < l.size := (by omega); simpa [Array.getD, h2] using this)
  rw [d0]
  have H0 := Lib.hid d0
  clear d0
  obtain ⟨g2, d2, hp2⟩ := hgd 2 (by omega) (by have := hdep ⟨2, .data⟩ (by simp) (by rfl); have h2 : 2 < l.size := (by omega); simpa [Array.getD, h2] using this)
  have Hp2 := Lib.hid hp2
  clear hp2
  rw [d2]
  have H2 := Lib.hid d2
  clear d2
  clear hgd hK hdep hbl hf
  go_wp2_with fail
  refine (sum_any k0 k1 1 1 (some ⟨g2, 0, none⟩) [fl] wl h0 h1 Hp2.out (by omega) (by omega) (fun bs hbs x hx => by obtain rfl : bs = fl := (by simpa using hbs); exact HBB.out x hx) (by simp; omega)).mono ?_
  rintro e w9 ⟨rfl, hb9⟩
  rw [show [fl].flatten = fl by simp]
  go_wp2_with fail
  refine HK.out _ _ ⟨upd (upd (upd S 0 (.agg #[.int .u64 (k0 : Nat), .int .u64 (k1 : Nat)])) 2 (.slice (some ⟨g2, 0, none⟩) 1 1)) 3 _, rfl, ?_⟩
  rw [upd_same H0.out, upd_same H2.out]
  exact STEP.out _ _ hb9 rfl
set_option maxRecDepth 20000 in
theorem ss_step4 (w wr : World) (k0 k1 n c : Nat) (A : Option Addr) (fl : List Nat) (h0 : k0 < 18446744073709551616) (h1 : k1 < 18446744073709551616) (hnc : n ≤ c) (hn : n ≤ 4096) (HBB : Hid (∀ x ∈ fl, x < 256)) (hn5 : fl.length ≤ 4096)
    (HF : Hid (∀ wx, Below wr.heap.size wr wx → Rd wx wx.heap.size 1 A n (ns .u8 fl) ∧ wx.cell? ⟨w.heap.size, 0, none⟩ = some (.int .u64 (k0 : Nat)) ∧ wx.cell? ⟨w.heap.size, 1, none⟩ = some (.int .u64 (k1 : Nat)))) (l : Array Bool) (a : Act) (wl : World) (hls : l.size = 22) (hinv : ssI w wr k0 k1 n c A fl l a wl) (hdep : ∀ e ∈ (ssOps.getD 4 default).after, Region.binds .any e = true → l.getD e.on false = true)
    (K : Exit → Act → World → Prop) (hK : ∀ a' w', ssI w wr k0 k1 n c A fl (l.setIfInBounds 4 true) a' w' → K .normal a' w') : wpList Try.prog ssOps.toArray K [ssOps.getD 4 default] a wl := by
  obtain ⟨S, rfl, hgd, hbl⟩ := hinv
  have hop : ssOps.getD 4 default = { dst := some 12, op := Op.load 24 (Operand.tmp 2), type := 24, pos := "law.go:21", after := #[], guard := none } := rfl
  rw [hop] at hdep ⊢
  clear hop
  have hf := HF.out wl hbl.out
  have HFL2 := Lib.hid hf.1
  have x0 := hf.2.1
  have x1 := hf.2.2
  have STEP := Lib.hid (fun (v : Value) (w' : World) (hb : Below wl.heap.size wl w') (hv : GdS (.agg #[.int .u64 (k0 : Nat), .int .u64 (k1 : Nat)]) (.slice A n c) (.int .u64 (sumB k0 k1 fl : Nat)) (.agg #[.int .u64 (sumB k0 k1 (1 :: fl) : Nat), .int .u64 (sumB k0 k1 (2 :: fl) : Nat)]) fl 4 v w') => (⟨upd_good hls (fun j u hj hg => GdS.keep hb hj hg) hgd (show 4 < 22 by omega) hv, Lib.hid (hbl.out.trans (hb.mono hbl.out.size))⟩ : (∀ j, j < 22 → (l.setIfInBounds 4 true).getD j true = true → GdS (.agg #[.int .u64 (k0 : Nat), .int .u64 (k1 : Nat)]) (.slice A n c) (.int .u64 (sumB k0 k1 fl : Nat)) (.agg #[.int .u64 (sumB k0 k1 (1 :: fl) : Nat), .int .u64 (sumB k0 k1 (2 :: fl) : Nat)]) fl j (upd S 4 v j) w') ∧ Hid (Below wr.heap.size wr w')))
  have HK := Lib.hid hK
  clear hgd hK hdep hbl hf
  go_wp2_with fail
  exact HK.out _ _ ⟨upd S 4 _, rfl, STEP.out _ _ (Below.refl _ _) rfl⟩
set_option maxRecDepth 20000 in
theorem ss_step5 (w wr : World) (k0 k1 n c : Nat) (A : Option Addr) (fl : List Nat) (h0 : k0 < 18446744073709551616) (h1 : k1 < 18446744073709551616) (hnc : n ≤ c) (hn : n ≤ 4096) (HBB : Hid (∀ x ∈ fl, x < 256)) (hn5 : fl.length ≤ 4096)
    (HF : Hid (∀ wx, Below wr.heap.size wr wx → Rd wx wx.heap.size 1 A n (ns .u8 fl) ∧ wx.cell? ⟨w.heap.size, 0, none⟩ = some (.int .u64 (k0 : Nat)) ∧ wx.cell? ⟨w.heap.size, 1, none⟩ = some (.int .u64 (k1 : Nat)))) (l : Array Bool) (a : Act) (wl : World) (hls : l.size = 22) (hinv : ssI w wr k0 k1 n c A fl l a wl) (hdep : ∀ e ∈ (ssOps.getD 5 default).after, Region.binds .any e = true → l.getD e.on false = true)
    (K : Exit → Act → World → Prop) (hK : ∀ a' w', ssI w wr k0 k1 n c A fl (l.setIfInBounds 5 true) a' w' → K .normal a' w') : wpList Try.prog ssOps.toArray K [ssOps.getD 5 default] a wl := by
  obtain ⟨S, rfl, hgd, hbl⟩ := hinv
  have hop : ssOps.getD 5 default = { dst := some 13, op := Op.move (Operand.tmp 1), type := 25, pos := "law.go:21", after := #[], guard := none } := rfl
  rw [hop] at hdep ⊢
  clear hop
  have hf := HF.out wl hbl.out
  have HFL2 := Lib.hid hf.1
  have x0 := hf.2.1
  have x1 := hf.2.2
  have STEP := Lib.hid (fun (v : Value) (w' : World) (hb : Below wl.heap.size wl w') (hv : GdS (.agg #[.int .u64 (k0 : Nat), .int .u64 (k1 : Nat)]) (.slice A n c) (.int .u64 (sumB k0 k1 fl : Nat)) (.agg #[.int .u64 (sumB k0 k1 (1 :: fl) : Nat), .int .u64 (sumB k0 k1 (2 :: fl) : Nat)]) fl 5 v w') => (⟨upd_good hls (fun j u hj hg => GdS.keep hb hj hg) hgd (show 5 < 22 by omega) hv, Lib.hid (hbl.out.trans (hb.mono hbl.out.size))⟩ : (∀ j, j < 22 → (l.setIfInBounds 5 true).getD j true = true → GdS (.agg #[.int .u64 (k0 : Nat), .int .u64 (k1 : Nat)]) (.slice A n c) (.int .u64 (sumB k0 k1 fl : Nat)) (.agg #[.int .u64 (sumB k0 k1 (1 :: fl) : Nat), .int .u64 (sumB k0 k1 (2 :: fl) : Nat)]) fl j (upd S 5 v j) w') ∧ Hid (Below wr.heap.size wr w')))
  have HK := Lib.hid hK
  clear hgd hK hdep hbl hf
  go_wp2_with fail
  exact HK.out _ _ ⟨upd S 5 _, rfl, STEP.out _ _ (Below.refl _ _) rfl⟩
set_option maxRecDepth 20000 in
theorem ss_step6 (w wr : World) (k0 k1 n c : Nat) (A : Option Addr) (fl : List Nat) (h0 : k0 < 18446744073709551616) (h1 : k1 < 18446744073709551616) (hnc : n ≤ c) (hn : n ≤ 4096) (HBB : Hid (∀ x ∈ fl, x < 256)) (hn5 : fl.length ≤ 4096)
    (HF : Hid (∀ wx, Below wr.heap.size wr wx → Rd wx wx.heap.size 1 A n (ns .u8 fl) ∧ wx.cell? ⟨w.heap.size, 0, none⟩ = some (.int .u64 (k0 : Nat)) ∧ wx.cell? ⟨w.heap.size, 1, none⟩ = some (.int .u64 (k1 : Nat)))) (l : Array Bool) (a : Act) (wl : World) (hls : l.size = 22) (hinv : ssI w wr k0 k1 n c A fl l a wl) (hdep : ∀ e ∈ (ssOps.getD 6 default).after, Region.binds .any e = true → l.getD e.on false = true)
    (K : Exit → Act → World → Prop) (hK : ∀ a' w', ssI w wr k0 k1 n c A fl (l.setIfInBounds 6 true) a' w' → K .normal a' w') : wpList Try.prog ssOps.toArray K [ssOps.getD 6 default] a wl := by
  obtain ⟨S, rfl, hgd, hbl⟩ := hinv
  have hop : ssOps.getD 6 default = { dst := some 14, op := Op.call { callee := Callee.value (Operand.func 13), args := #[Operand.tmp 12, Operand.tmp 13], argTypes := #[24, 25] }, type := 22, pos := "law.go:21", after := #[{ on := 4, ground := Ground.data }, { on := 5, ground := Ground.data }, { on := 3, ground := Ground.chain }], guard := none } := rfl
  rw [hop] at hdep ⊢
  clear hop
  have hf := HF.out wl hbl.out
  have HFL2 := Lib.hid hf.1
  have x0 := hf.2.1
  have x1 := hf.2.2
  have STEP := Lib.hid (fun (v : Value) (w' : World) (hb : Below wl.heap.size wl w') (hv : GdS (.agg #[.int .u64 (k0 : Nat), .int .u64 (k1 : Nat)]) (.slice A n c) (.int .u64 (sumB k0 k1 fl : Nat)) (.agg #[.int .u64 (sumB k0 k1 (1 :: fl) : Nat), .int .u64 (sumB k0 k1 (2 :: fl) : Nat)]) fl 6 v w') => (⟨upd_good hls (fun j u hj hg => GdS.keep hb hj hg) hgd (show 6 < 22 by omega) hv, Lib.hid (hbl.out.trans (hb.mono hbl.out.size))⟩ : (∀ j, j < 22 → (l.setIfInBounds 6 true).getD j true = true → GdS (.agg #[.int .u64 (k0 : Nat), .int .u64 (k1 : Nat)]) (.slice A n c) (.int .u64 (sumB k0 k1 fl : Nat)) (.agg #[.int .u64 (sumB k0 k1 (1 :: fl) : Nat), .int .u64 (sumB k0 k1 (2 :: fl) : Nat)]) fl j (upd S 6 v j) w') ∧ Hid (Below wr.heap.size wr w')))
  have HK := Lib.hid hK
  have d4 : S 4 = (.agg #[.int .u64 (k0 : Nat), .int .u64 (k1 : Nat)]) := hgd 4 (by omega) (by have := hdep ⟨4, .data⟩ (by simp) (by rfl); have h2 : 4 < l.size := (by omega); simpa [Array.getD, h2] using this)
  rw [d4]
  have H4 := Lib.hid d4
  clear d4
  have d5 : S 5 = (.slice A n c) := hgd 5 (by omega) (by have := hdep ⟨5, .data⟩ (by simp) (by rfl); have h2 : 5 < l.size := (by omega); simpa [Array.getD, h2] using this)
  rw [d5]
  have H5 := Lib.hid d5
  clear d5
  clear hgd hK hdep hbl hf
  go_wp2_with fail
  refine (rsum_any k0 k1 n c A fl wl h0 h1 HFL2.out hnc (by omega) HBB.out).mono ?_
  rintro e w9 ⟨rfl, hb9⟩
  go_wp2_with fail
  refine HK.out _ _ ⟨upd (upd (upd S 4 (.agg #[.int .u64 (k0 : Nat), .int .u64 (k1 : Nat)])) 5 (.slice A n c)) 6 _, rfl, ?_⟩
  rw [upd_same H4.out, upd_same H5.out]
  exact STEP.out _ _ hb9 rfl
set_option maxRecDepth 20000 in
theorem ss_step7 (w wr : World) (k0 k1 n c : Nat) (A : Option Addr) (fl : List Nat) (h0 : k0 < 18446744073709551616) (h1 : k1 < 18446744073709551616) (hnc : n ≤ c) (hn : n ≤ 4096) (HBB : Hid (∀ x ∈ fl, x < 256)) (hn5 : fl.length ≤ 4096)
    (HF : Hid (∀ wx, Below wr.heap.size wr wx → Rd wx wx.heap.size 1 A n (ns .u8 fl) ∧ wx.cell? ⟨w.heap.size, 0, none⟩ = some (.int .u64 (k0 : Nat)) ∧ wx.cell? ⟨w.heap.size, 1, none⟩ = some (.int .u64 (k1 : Nat)))) (l : Array Bool) (a : Act) (wl : World) (hls : l.size = 22) (hinv : ssI w wr k0 k1 n c A fl l a wl) (hdep : ∀ e ∈ (ssOps.getD 7 default).after, Region.binds .any e = true → l.getD e.on false = true)
    (K : Exit → Act → World → Prop) (hK : ∀ a' w', ssI w wr k0 k1 n c A fl (l.setIfInBounds 7 true) a' w' → K .normal a' w') : wpList Try.prog ssOps.toArray K [ssOps.getD 7 default] a wl := by
  obtain ⟨S, rfl, hgd, hbl⟩ := hinv
  have hop : ssOps.getD 7 default = { dst := some 15, op := Op.binOp BinOp.eql 22 (Operand.tmp 11) (Operand.tmp 14) 22, type := 4, pos := "law.go:21", after := #[{ on := 3, ground := Ground.data }, { on := 6, ground := Ground.data }], guard := none } := rfl
  rw [hop] at hdep ⊢
  clear hop
  have hf := HF.out wl hbl.out
  have HFL2 := Lib.hid hf.1
  have x0 := hf.2.1
  have x1 := hf.2.2
  have STEP := Lib.hid (fun (v : Value) (w' : World) (hb : Below wl.heap.size wl w') (hv : GdS (.agg #[.int .u64 (k0 : Nat), .int .u64 (k1 : Nat)]) (.slice A n c) (.int .u64 (sumB k0 k1 fl : Nat)) (.agg #[.int .u64 (sumB k0 k1 (1 :: fl) : Nat), .int .u64 (sumB k0 k1 (2 :: fl) : Nat)]) fl 7 v w') => (⟨upd_good hls (fun j u hj hg => GdS.keep hb hj hg) hgd (show 7 < 22 by omega) hv, Lib.hid (hbl.out.trans (hb.mono hbl.out.size))⟩ : (∀ j, j < 22 → (l.setIfInBounds 7 true).getD j true = true → GdS (.agg #[.int .u64 (k0 : Nat), .int .u64 (k1 : Nat)]) (.slice A n c) (.int .u64 (sumB k0 k1 fl : Nat)) (.agg #[.int .u64 (sumB k0 k1 (1 :: fl) : Nat), .int .u64 (sumB k0 k1 (2 :: fl) : Nat)]) fl j (upd S 7 v j) w') ∧ Hid (Below wr.heap.size wr w')))
  have HK := Lib.hid hK
  have d3 : S 3 = (.int .u64 (sumB k0 k1 fl : Nat)) := hgd 3 (by omega) (by have := hdep ⟨3, .data⟩ (by simp) (by rfl); have h2 : 3 < l.size := (by omega); simpa [Array.getD, h2] using this)
  rw [d3]
  have H3 := Lib.hid d3
  clear d3
  have d6 : S 6 = (.int .u64 (sumB k0 k1 fl : Nat)) := hgd 6 (by omega) (by have := hdep ⟨6, .data⟩ (by simp) (by rfl); have h2 : 6 < l.size := (by omega); simpa [Array.getD, h2] using this)
  rw [d6]
  have H6 := Lib.hid d6
  clear d6
  clear hgd hK hdep hbl hf
  obtain ⟨p0, hp0⟩ : ∃ p, p = sumB k0 k1 fl := ⟨_, rfl⟩
  rw [← hp0]
  have Hp0 := Lib.hid hp0
  clear hp0
  go_wp2_with fail
  rw [Hp0.out]
  refine HK.out _ _ ⟨upd (upd (upd S 3 (.int .u64 (sumB k0 k1 fl : Nat))) 6 (.int .u64 (sumB k0 k1 fl : Nat))) 7 _, rfl, ?_⟩
  rw [upd_same H3.out, upd_same H6.out]
  exact STEP.out _ _ (Below.refl _ _) rfl
set_option maxRecDepth 20000 in
theorem ss_step8 (w wr : World) (k0 k1 n c : Nat) (A : Option Addr) (fl : List Nat) (h0 : k0 < 18446744073709551616) (h1 : k1 < 18446744073709551616) (hnc : n ≤ c) (hn : n ≤ 4096) (HBB : Hid (∀ x ∈ fl, x < 256)) (hn5 : fl.length ≤ 4096)
    (HF : Hid (∀ wx, Below wr.heap.size wr wx → Rd wx wx.heap.size 1 A n (ns .u8 fl) ∧ wx.cell? ⟨w.heap.size, 0, none⟩ = some (.int .u64 (k0 : Nat)) ∧ wx.cell? ⟨w.heap.size, 1, none⟩ = some (.int .u64 (k1 : Nat)))) (l : Array Bool) (a : Act) (wl : World) (hls : l.size = 22) (hinv : ssI w wr k0 k1 n c A fl l a wl) (hdep : ∀ e ∈ (ssOps.getD 8 default).after, Region.binds .any e = true → l.getD e.on false = true)
    (K : Exit → Act → World → Prop) (hK : ∀ a' w', ssI w wr k0 k1 n c A fl (l.setIfInBounds 8 true) a' w' → K .normal a' w') : wpList Try.prog ssOps.toArray K [ssOps.getD 8 default] a wl := by
  obtain ⟨S, rfl, hgd, hbl⟩ := hinv
  have hop : ssOps.getD 8 default = { dst := some 16, op := Op.move (Operand.tmp 15), type := 4, pos := "law.go:21", after := #[{ on := 7, ground := Ground.data }, { on := 6, ground := Ground.chain }], guard := none } := rfl
  rw [hop] at hdep ⊢
  clear hop
  have hf := HF.out wl hbl.out
  have HFL2 := Lib.hid hf.1
  have x0 := hf.2.1
  have x1 := hf.2.2
  have STEP := Lib.hid (fun (v : Value) (w' : World) (hb : Below wl.heap.size wl w') (hv : GdS (.agg #[.int .u64 (k0 : Nat), .int .u64 (k1 : Nat)]) (.slice A n c) (.int .u64 (sumB k0 k1 fl : Nat)) (.agg #[.int .u64 (sumB k0 k1 (1 :: fl) : Nat), .int .u64 (sumB k0 k1 (2 :: fl) : Nat)]) fl 8 v w') => (⟨upd_good hls (fun j u hj hg => GdS.keep hb hj hg) hgd (show 8 < 22 by omega) hv, Lib.hid (hbl.out.trans (hb.mono hbl.out.size))⟩ : (∀ j, j < 22 → (l.setIfInBounds 8 true).getD j true = true → GdS (.agg #[.int .u64 (k0 : Nat), .int .u64 (k1 : Nat)]) (.slice A n c) (.int .u64 (sumB k0 k1 fl : Nat)) (.agg #[.int .u64 (sumB k0 k1 (1 :: fl) : Nat), .int .u64 (sumB k0 k1 (2 :: fl) : Nat)]) fl j (upd S 8 v j) w') ∧ Hid (Below wr.heap.size wr w')))
  have HK := Lib.hid hK
  have d7 : S 7 = (.bool true) := hgd 7 (by omega) (by have := hdep ⟨7, .data⟩ (by simp) (by rfl); have h2 : 7 < l.size := (by omega); simpa [Array.getD, h2] using this)
  rw [d7]
  have H7 := Lib.hid d7
  clear d7
  clear hgd hK hdep hbl hf
  go_wp2_with fail
  refine HK.out _ _ ⟨upd (upd S 7 (.bool true)) 8 _, rfl, ?_⟩
  rw [upd_same H7.out]
  exact STEP.out _ _ (Below.refl _ _) rfl
set_option maxRecDepth 20000 in
theorem ss_step9 (w wr : World) (k0 k1 n c : Nat) (A : Option Addr) (fl : List Nat) (h0 : k0 < 18446744073709551616) (h1 : k1 < 18446744073709551616) (hnc : n ≤ c) (hn : n ≤ 4096) (HBB : Hid (∀ x ∈ fl, x < 256)) (hn5 : fl.length ≤ 4096)
    (HF : Hid (∀ wx, Below wr.heap.size wr wx → Rd wx wx.heap.size 1 A n (ns .u8 fl) ∧ wx.cell? ⟨w.heap.size, 0, none⟩ = some (.int .u64 (k0 : Nat)) ∧ wx.cell? ⟨w.heap.size, 1, none⟩ = some (.int .u64 (k1 : Nat)))) (l : Array Bool) (a : Act) (wl : World) (hls : l.size = 22) (hinv : ssI w wr k0 k1 n c A fl l a wl) (hdep : ∀ e ∈ (ssOps.getD 9 default).after, Region.binds .any e = true → l.getD e.on false = true)
    (K : Exit → Act → World → Prop) (hK : ∀ a' w', ssI w wr k0 k1 n c A fl (l.setIfInBounds 9 true) a' w' → K .normal a' w') : wpList Try.prog ssOps.toArray K [ssOps.getD 9 default] a wl := by
  obtain ⟨S, rfl, hgd, hbl⟩ := hinv
  have hop : ssOps.getD 9 default = { dst := some 17, op := Op.load 24 (Operand.tmp 2), type := 24, pos := "law.go:21", after := #[{ on := 8, ground := Ground.guard }], guard := some (8, true) } := rfl
  rw [hop] at hdep ⊢
  clear hop
  have hf := HF.out wl hbl.out
  have HFL2 := Lib.hid hf.1
  have x0 := hf.2.1
  have x1 := hf.2.2
  have STEP := Lib.hid (fun (v : Value) (w' : World) (hb : Below wl.heap.size wl w') (hv : GdS (.agg #[.int .u64 (k0 : Nat), .int .u64 (k1 : Nat)]) (.slice A n c) (.int .u64 (sumB k0 k1 fl : Nat)) (.agg #[.int .u64 (sumB k0 k1 (1 :: fl) : Nat), .int .u64 (sumB k0 k1 (2 :: fl) : Nat)]) fl 9 v w') => (⟨upd_good hls (fun j u hj hg => GdS.keep hb hj hg) hgd (show 9 < 22 by omega) hv, Lib.hid (hbl.out.trans (hb.mono hbl.out.size))⟩ : (∀ j, j < 22 → (l.setIfInBounds 9 true).getD j true = true → GdS (.agg #[.int .u64 (k0 : Nat), .int .u64 (k1 : Nat)]) (.slice A n c) (.int .u64 (sumB k0 k1 fl : Nat)) (.agg #[.int .u64 (sumB k0 k1 (1 :: fl) : Nat), .int .u64 (sumB k0 k1 (2 :: fl) : Nat)]) fl j (upd S 9 v j) w') ∧ Hid (Below wr.heap.size wr w')))
  have HK := Lib.hid hK
  have d8 : S 8 = (.bool true) := hgd 8 (by omega) (by have := hdep ⟨8, .guard⟩ (by simp) (by rfl); have h2 : 8 < l.size := (by omega); simpa [Array.getD, h2] using this)
  rw [d8]
  have H8 := Lib.hid d8
  clear d8
  clear hgd hK hdep hbl hf
  refine wpList_guard (by rfl) ?_
  go_wp2_with fail
  refine HK.out _ _ ⟨upd (upd S 8 (.bool true)) 9 _, rfl, ?_⟩
  rw [upd_same H8.out]
  exact STEP.out _ _ (Below.refl _ _) rfl
set_option maxRecDepth 20000 in
theorem ss_step10 (w wr : World) (k0 k1 n c : Nat) (A : Option Addr) (fl : List Nat) (h0 : k0 < 18446744073709551616) (h1 : k1 < 18446744073709551616) (hnc : n ≤ c) (hn : n ≤ 4096) (HBB : Hid (∀ x ∈ fl, x < 256)) (hn5 : fl.length ≤ 4096)
    (HF : Hid (∀ wx, Below wr.heap.size wr wx → Rd wx wx.heap.size 1 A n (ns .u8 fl) ∧ wx.cell? ⟨w.heap.size, 0, none⟩ = some (.int .u64 (k0 : Nat)) ∧ wx.cell? ⟨w.heap.size, 1, none⟩ = some (.int .u64 (k1 : Nat)))) (l : Array Bool) (a : Act) (wl : World) (hls : l.size = 22) (hinv : ssI w wr k0 k1 n c A fl l a wl) (hdep : ∀ e ∈ (ssOps.getD 10 default).after, Region.binds .any e = true → l.getD e.on false = true)
    (K : Exit → Act → World → Prop) (hK : ∀ a' w', ssI w wr k0 k1 n c A fl (l.setIfInBounds 10 true) a' w' → K .normal a' w') : wpList Try.prog ssOps.toArray K [ssOps.getD 10 default] a wl := by
  obtain ⟨S, rfl, hgd, hbl⟩ := hinv
  have hop : ssOps.getD 10 default = { dst := some 18, op := Op.move (Operand.tmp 1), type := 25, pos := "law.go:21", after := #[{ on := 8, ground := Ground.guard }], guard := some (8, true) } := rfl
  rw [hop] at hdep ⊢
  clear hop
  have hf := HF.out wl hbl.out
  have HFL2 := Lib.hid hf.1
  have x0 := hf.2.1
  have x1 := hf.2.2
  have STEP := Lib.hid (fun (v : Value) (w' : World) (hb : Below wl.heap.size wl w') (hv : GdS (.agg #[.int .u64 (k0 : Nat), .int .u64 (k1 : Nat)]) (.slice A n c) (.int .u64 (sumB k0 k1 fl : Nat)) (.agg #[.int .u64 (sumB k0 k1 (1 :: fl) : Nat), .int .u64 (sumB k0 k1 (2 :: fl) : Nat)]) fl 10 v w') => (⟨upd_good hls (fun j u hj hg => GdS.keep hb hj hg) hgd (show 10 < 22 by omega) hv, Lib.hid (hbl.out.trans (hb.mono hbl.out.size))⟩ : (∀ j, j < 22 → (l.setIfInBounds 10 true).getD j true = true → GdS (.agg #[.int .u64 (k0 : Nat), .int .u64 (k1 : Nat)]) (.slice A n c) (.int .u64 (sumB k0 k1 fl : Nat)) (.agg #[.int .u64 (sumB k0 k1 (1 :: fl) : Nat), .int .u64 (sumB k0 k1 (2 :: fl) : Nat)]) fl j (upd S 10 v j) w') ∧ Hid (Below wr.heap.size wr w')))
  have HK := Lib.hid hK
  have d8 : S 8 = (.bool true) := hgd 8 (by omega) (by have := hdep ⟨8, .guard⟩ (by simp) (by rfl); have h2 : 8 < l.size := (by omega); simpa [Array.getD, h2] using this)
  rw [d8]
  have H8 := Lib.hid d8
  clear d8
  clear hgd hK hdep hbl hf
  refine wpList_guard (by rfl) ?_
  go_wp2_with fail
  refine HK.out _ _ ⟨upd (upd S 8 (.bool true)) 10 _, rfl, ?_⟩
  rw [upd_same H8.out]
  exact STEP.out _ _ (Below.refl _ _) rfl
set_option maxRecDepth 20000 in
theorem ss_step11 (w wr : World) (k0 k1 n c : Nat) (A : Option Addr) (fl : List Nat) (h0 : k0 < 18446744073709551616) (h1 : k1 < 18446744073709551616) (hnc : n ≤ c) (hn : n ≤ 4096) (HBB : Hid (∀ x ∈ fl, x < 256)) (hn5 : fl.length ≤ 4096)
    (HF : Hid (∀ wx, Below wr.heap.size wr wx → Rd wx wx.heap.size 1 A n (ns .u8 fl) ∧ wx.cell? ⟨w.heap.size, 0, none⟩ = some (.int .u64 (k0 : Nat)) ∧ wx.cell? ⟨w.heap.size, 1, none⟩ = some (.int .u64 (k1 : Nat)))) (l : Array Bool) (a : Act) (wl : World) (hls : l.size = 22) (hinv : ssI w wr k0 k1 n c A fl l a wl) (hdep : ∀ e ∈ (ssOps.getD 11 default).after, Region.binds .any e = true → l.getD e.on false = true)
    (K : Exit → Act → World → Prop) (hK : ∀ a' w', ssI w wr k0 k1 n c A fl (l.setIfInBounds 11 true) a' w' → K .normal a' w') : wpList Try.prog ssOps.toArray K [ssOps.getD 11 default] a wl := by
  obtain ⟨S, rfl, hgd, hbl⟩ := hinv
  have hop : ssOps.getD 11 default = { dst := some 19, op := Op.buildSlice 32 1 #[(0, Operand.tmp 18)], type := 32, pos := "law.go:21", after := #[{ on := 10, ground := Ground.data }, { on := 8, ground := Ground.guard }], guard := some (8, true) } := rfl
  rw [hop] at hdep ⊢
  clear hop
  have hf := HF.out wl hbl.out
  have HFL2 := Lib.hid hf.1
  have x0 := hf.2.1
  have x1 := hf.2.2
  have STEP := Lib.hid (fun (v : Value) (w' : World) (hb : Below wl.heap.size wl w') (hv : GdS (.agg #[.int .u64 (k0 : Nat), .int .u64 (k1 : Nat)]) (.slice A n c) (.int .u64 (sumB k0 k1 fl : Nat)) (.agg #[.int .u64 (sumB k0 k1 (1 :: fl) : Nat), .int .u64 (sumB k0 k1 (2 :: fl) : Nat)]) fl 11 v w') => (⟨upd_good hls (fun j u hj hg => GdS.keep hb hj hg) hgd (show 11 < 22 by omega) hv, Lib.hid (hbl.out.trans (hb.mono hbl.out.size))⟩ : (∀ j, j < 22 → (l.setIfInBounds 11 true).getD j true = true → GdS (.agg #[.int .u64 (k0 : Nat), .int .u64 (k1 : Nat)]) (.slice A n c) (.int .u64 (sumB k0 k1 fl : Nat)) (.agg #[.int .u64 (sumB k0 k1 (1 :: fl) : Nat), .int .u64 (sumB k0 k1 (2 :: fl) : Nat)]) fl j (upd S 11 v j) w') ∧ Hid (Below wr.heap.size wr w')))
  have HK := Lib.hid hK
  have d8 : S 8 = (.bool true) := hgd 8 (by omega) (by have := hdep ⟨8, .guard⟩ (by simp) (by rfl); have h2 : 8 < l.size := (by omega); simpa [Array.getD, h2] using this)
  rw [d8]
  have H8 := Lib.hid d8
  clear d8
  have d10 : S 10 = (.slice A n c) := hgd 10 (by omega) (by have := hdep ⟨10, .data⟩ (by simp) (by rfl); have h2 : 10 < l.size := (by omega); simpa [Array.getD, h2] using this)
  rw [d10]
  have H10 := Lib.hid d10
  clear d10
  clear hgd hK hdep hbl hf
  refine wpList_guard (by rfl) ?_
  go_wp2_with fail
  refine HK.out _ _ ⟨upd (upd (upd S 8 (.bool true)) 10 (.slice A n c)) 11 _, rfl, ?_⟩
  rw [upd_same H8.out, upd_same H10.out]
  exact STEP.out _ _ ((Below.refl _ _).alloc (Nat.le_refl _) _) ⟨_, rfl, (Pts.one 25 (bs := fl) (HFL2.out) hnc (Nat.le_refl _)).mono (by simp)⟩
set_option maxRecDepth 20000 in
theorem ss_step12 (w wr : World) (k0 k1 n c : Nat) (A : Option Addr) (fl : List Nat) (h0 : k0 < 18446744073709551616) (h1 : k1 < 18446744073709551616) (hnc : n ≤ c) (hn : n ≤ 4096) (HBB : Hid (∀ x ∈ fl, x < 256)) (hn5 : fl.length ≤ 4096)
    (HF : Hid (∀ wx, Below wr.heap.size wr wx → Rd wx wx.heap.size 1 A n (ns .u8 fl) ∧ wx.cell? ⟨w.heap.size, 0, none⟩ = some (.int .u64 (k0 : Nat)) ∧ wx.cell? ⟨w.heap.size, 1, none⟩ = some (.int .u64 (k1 : Nat)))) (l : Array Bool) (a : Act) (wl : World) (hls : l.size = 22) (hinv : ssI w wr k0 k1 n c A fl l a wl) (hdep : ∀ e ∈ (ssOps.getD 12 default).after, Region.binds .any e = true → l.getD e.on false = true)
    (K : Exit → Act → World → Prop) (hK : ∀ a' w', ssI w wr k0 k1 n c A fl (l.setIfInBounds 12 true) a' w' → K .normal a' w') : wpList Try.prog ssOps.toArray K [ssOps.getD 12 default] a wl := by
  obtain ⟨S, rfl, hgd, hbl⟩ := hinv
  have hop : ssOps.getD 12 default = { dst := some 20, op := Op.call { callee := Callee.value (Operand.func 14), args := #[Operand.tmp 17, Operand.tmp 19], argTypes := #[24, 32] }, type := 24, pos := "law.go:21", after := #[{ on := 9, ground := Ground.data }, { on := 11, ground := Ground.data }, { on := 8, ground := Ground.chain }, { on := 8, ground := Ground.guard }], guard := some (8, true) } := rfl
  rw [hop] at hdep ⊢
  clear hop
  have hf := HF.out wl hbl.out
  have HFL2 := Lib.hid hf.1
  have x0 := hf.2.1
  have x1 := hf.2.2
  have STEP := Lib.hid (fun (v : Value) (w' : World) (hb : Below wl.heap.size wl w') (hv : GdS (.agg #[.int .u64 (k0 : Nat), .int .u64 (k1 : Nat)]) (.slice A n c) (.int .u64 (sumB k0 k1 fl : Nat)) (.agg #[.int .u64 (sumB k0 k1 (1 :: fl) : Nat), .int .u64 (sumB k0 k1 (2 :: fl) : Nat)]) fl 12 v w') => (⟨upd_good hls (fun j u hj hg => GdS.keep hb hj hg) hgd (show 12 < 22 by omega) hv, Lib.hid (hbl.out.trans (hb.mono hbl.out.size))⟩ : (∀ j, j < 22 → (l.setIfInBounds 12 true).getD j true = true → GdS (.agg #[.int .u64 (k0 : Nat), .int .u64 (k1 : Nat)]) (.slice A n c) (.int .u64 (sumB k0 k1 fl : Nat)) (.agg #[.int .u64 (sumB k0 k1 (1 :: fl) : Nat), .int .u64 (sumB k0 k1 (2 :: fl) : Nat)]) fl j (upd S 12 v j) w') ∧ Hid (Below wr.heap.size wr w')))
  have HK := Lib.hid hK
  have d8 : S 8 = (.bool true) := hgd 8 (by omega) (by have := hdep ⟨8, .guard⟩ (by simp) (by rfl); have h2 : 8 < l.size := (by omega); simpa [Array.getD, h2] using this)
  rw [d8]
  have H8 := Lib.hid d8
  clear d8
  have d9 : S 9 = (.agg #[.int .u64 (k0 : Nat), .int .u64 (k1 : Nat)]) := hgd 9 (by omega) (by have := hdep ⟨9, .data⟩ (by simp) (by rfl); have h2 : 9 < l.size := (by omega); simpa [Array.getD, h2] using this)
  rw [d9]
  have H9 := Lib.hid d9
  clear d9
  obtain ⟨g11, d11, hp11⟩ := hgd 11 (by omega) (by have := hdep ⟨11, .data⟩ (by simp) (by rfl); have h2 : 11 < l.size := (by omega); simpa [Array.getD, h2] using this)
  have Hp11 := Lib.hid hp11
  clear hp11
  rw [d11]
  have H11 := Lib.hid d11
  clear d11
  clear hgd hK hdep hbl hf
  refine wpList_guard (by rfl) ?_
  go_wp2_with fail
  refine (pair_any k0 k1 1 1 (some ⟨g11, 0, none⟩) [fl] wl h0 h1 Hp11.out (by omega) (by omega) (fun bs hbs x hx => by obtain rfl : bs = fl := (by simpa using hbs); exact HBB.out x hx) (by simp; omega)).mono ?_
  rintro e w9 ⟨rfl, hb9⟩
  rw [show [fl].flatten = fl by simp]
  go_wp2_with fail
  refine HK.out _ _ ⟨upd (upd (upd (upd S 8 (.bool true)) 9 (.agg #[.int .u64 (k0 : Nat), .int .u64 (k1 : Nat)])) 11 (.slice (some ⟨g11, 0, none⟩) 1 1)) 12 _, rfl, ?_⟩
  rw [upd_same H8.out, upd_same H9.out, upd_same H11.out]
  exact STEP.out _ _ hb9 rfl
set_option maxRecDepth 20000 in
theorem ss_step13 (w wr : World) (k0 k1 n c : Nat) (A : Option Addr) (fl : List Nat) (h0 : k0 < 18446744073709551616) (h1 : k1 < 18446744073709551616) (hnc : n ≤ c) (hn : n ≤ 4096) (HBB : Hid (∀ x ∈ fl, x < 256)) (hn5 : fl.length ≤ 4096)
    (HF : Hid (∀ wx, Below wr.heap.size wr wx → Rd wx wx.heap.size 1 A n (ns .u8 fl) ∧ wx.cell? ⟨w.heap.size, 0, none⟩ = some (.int .u64 (k0 : Nat)) ∧ wx.cell? ⟨w.heap.size, 1, none⟩ = some (.int .u64 (k1 : Nat)))) (l : Array Bool) (a : Act) (wl : World) (hls : l.size = 22) (hinv : ssI w wr k0 k1 n c A fl l a wl) (hdep : ∀ e ∈ (ssOps.getD 13 default).after, Region.binds .any e = true → l.getD e.on false = true)
    (K : Exit → Act → World → Prop) (hK : ∀ a' w', ssI w wr k0 k1 n c A fl (l.setIfInBounds 13 true) a' w' → K .normal a' w') : wpList Try.prog ssOps.toArray K [ssOps.getD 13 default] a wl := by
  obtain ⟨S, rfl, hgd, hbl⟩ := hinv
  have hop : ssOps.getD 13 default = { dst := some 21, op := Op.load 24 (Operand.tmp 2), type := 24, pos := "law.go:21", after := #[{ on := 8, ground := Ground.guard }], guard := some (8, true) } := rfl
  rw [hop] at hdep ⊢
  clear hop
  have hf := HF.out wl hbl.out
  have HFL2 := Lib.hid hf.1
  have x0 := hf.2.1
  have x1 := hf.2.2
  have STEP := Lib.hid (fun (v : Value) (w' : World) (hb : Below wl.heap.size wl w') (hv : GdS (.agg #[.int .u64 (k0 : Nat), .int .u64 (k1 : Nat)]) (.slice A n c) (.int .u64 (sumB k0 k1 fl : Nat)) (.agg #[.int .u64 (sumB k0 k1 (1 :: fl) : Nat), .int .u64 (sumB k0 k1 (2 :: fl) : Nat)]) fl 13 v w') => (⟨upd_good hls (fun j u hj hg => GdS.keep hb hj hg) hgd (show 13 < 22 by omega) hv, Lib.hid (hbl.out.trans (hb.mono hbl.out.size))⟩ : (∀ j, j < 22 → (l.setIfInBounds 13 true).getD j true = true → GdS (.agg #[.int .u64 (k0 : Nat), .int .u64 (k1 : Nat)]) (.slice A n c) (.int .u64 (sumB k0 k1 fl : Nat)) (.agg #[.int .u64 (sumB k0 k1 (1 :: fl) : Nat), .int .u64 (sumB k0 k1 (2 :: fl) : Nat)]) fl j (upd S 13 v j) w') ∧ Hid (Below wr.heap.size wr w')))
  have HK := Lib.hid hK
  have d8 : S 8 = (.bool true) := hgd 8 (by omega) (by have := hdep ⟨8, .guard⟩ (by simp) (by rfl); have h2 : 8 < l.size := (by omega); simpa [Array.getD, h2] using this)
  rw [d8]
  have H8 := Lib.hid d8
  clear d8
  clear hgd hK hdep hbl hf
  refine wpList_guard (by rfl) ?_
  go_wp2_with fail
  refine HK.out _ _ ⟨upd (upd S 8 (.bool true)) 13 _, rfl, ?_⟩
  rw [upd_same H8.out]
  exact STEP.out _ _ (Below.refl _ _) rfl
set_option maxRecDepth 20000 in
theorem ss_step14 (w wr : World) (k0 k1 n c : Nat) (A : Option Addr) (fl : List Nat) (h0 : k0 < 18446744073709551616) (h1 : k1 < 18446744073709551616) (hnc : n ≤ c) (hn : n ≤ 4096) (HBB : Hid (∀ x ∈ fl, x < 256)) (hn5 : fl.length ≤ 4096)
    (HF : Hid (∀ wx, Below wr.heap.size wr wx → Rd wx wx.heap.size 1 A n (ns .u8 fl) ∧ wx.cell? ⟨w.heap.size, 0, none⟩ = some (.int .u64 (k0 : Nat)) ∧ wx.cell? ⟨w.heap.size, 1, none⟩ = some (.int .u64 (k1 : Nat)))) (l : Array Bool) (a : Act) (wl : World) (hls : l.size = 22) (hinv : ssI w wr k0 k1 n c A fl l a wl) (hdep : ∀ e ∈ (ssOps.getD 14 default).after, Region.binds .any e = true → l.getD e.on false = true)
    (K : Exit → Act → World → Prop) (hK : ∀ a' w', ssI w wr k0 k1 n c A fl (l.setIfInBounds 14 true) a' w' → K .normal a' w') : wpList Try.prog ssOps.toArray K [ssOps.getD 14 default] a wl := by
  obtain ⟨S, rfl, hgd, hbl⟩ := hinv
  have hop : ssOps.getD 14 default = { dst := some 22, op := Op.move (Operand.tmp 1), type := 25, pos := "law.go:21", after := #[{ on := 8, ground := Ground.guard }], guard := some (8, true) } := rfl
  rw [hop] at hdep ⊢
  clear hop
  have hf := HF.out wl hbl.out
  have HFL2 := Lib.hid hf.1
  have x0 := hf.2.1
  have x1 := hf.2.2
  have STEP := Lib.hid (fun (v : Value) (w' : World) (hb : Below wl.heap.size wl w') (hv : GdS (.agg #[.int .u64 (k0 : Nat), .int .u64 (k1 : Nat)]) (.slice A n c) (.int .u64 (sumB k0 k1 fl : Nat)) (.agg #[.int .u64 (sumB k0 k1 (1 :: fl) : Nat), .int .u64 (sumB k0 k1 (2 :: fl) : Nat)]) fl 14 v w') => (⟨upd_good hls (fun j u hj hg => GdS.keep hb hj hg) hgd (show 14 < 22 by omega) hv, Lib.hid (hbl.out.trans (hb.mono hbl.out.size))⟩ : (∀ j, j < 22 → (l.setIfInBounds 14 true).getD j true = true → GdS (.agg #[.int .u64 (k0 : Nat), .int .u64 (k1 : Nat)]) (.slice A n c) (.int .u64 (sumB k0 k1 fl : Nat)) (.agg #[.int .u64 (sumB k0 k1 (1 :: fl) : Nat), .int .u64 (sumB k0 k1 (2 :: fl) : Nat)]) fl j (upd S 14 v j) w') ∧ Hid (Below wr.heap.size wr w')))
  have HK := Lib.hid hK
  have d8 : S 8 = (.bool true) := hgd 8 (by omega) (by have := hdep ⟨8, .guard⟩ (by simp) (by rfl); have h2 : 8 < l.size := (by omega); simpa [Array.getD, h2] using this)
  rw [d8]
  have H8 := Lib.hid d8
  clear d8
  clear hgd hK hdep hbl hf
  refine wpList_guard (by rfl) ?_
  go_wp2_with fail
  refine HK.out _ _ ⟨upd (upd S 8 (.bool true)) 14 _, rfl, ?_⟩
  rw [upd_same H8.out]
  exact STEP.out _ _ (Below.refl _ _) rfl
set_option maxRecDepth 20000 in
theorem ss_step15 (w wr : World) (k0 k1 n c : Nat) (A : Option Addr) (fl : List Nat) (h0 : k0 < 18446744073709551616) (h1 : k1 < 18446744073709551616) (hnc : n ≤ c) (hn : n ≤ 4096) (HBB : Hid (∀ x ∈ fl, x < 256)) (hn5 : fl.length ≤ 4096)
    (HF : Hid (∀ wx, Below wr.heap.size wr wx → Rd wx wx.heap.size 1 A n (ns .u8 fl) ∧ wx.cell? ⟨w.heap.size, 0, none⟩ = some (.int .u64 (k0 : Nat)) ∧ wx.cell? ⟨w.heap.size, 1, none⟩ = some (.int .u64 (k1 : Nat)))) (l : Array Bool) (a : Act) (wl : World) (hls : l.size = 22) (hinv : ssI w wr k0 k1 n c A fl l a wl) (hdep : ∀ e ∈ (ssOps.getD 15 default).after, Region.binds .any e = true → l.getD e.on false = true)
    (K : Exit → Act → World → Prop) (hK : ∀ a' w', ssI w wr k0 k1 n c A fl (l.setIfInBounds 15 true) a' w' → K .normal a' w') : wpList Try.prog ssOps.toArray K [ssOps.getD 15 default] a wl := by
  obtain ⟨S, rfl, hgd, hbl⟩ := hinv
  have hop : ssOps.getD 15 default = { dst := some 23, op := Op.call { callee := Callee.value (Operand.func 15), args := #[Operand.tmp 21, Operand.tmp 22], argTypes := #[24, 25] }, type := 24, pos := "law.go:21", after := #[{ on := 13, ground := Ground.data }, { on := 14, ground := Ground.data }, { on := 12, ground := Ground.chain }, { on := 8, ground := Ground.guard }], guard := some (8, true) } := rfl
  rw [hop] at hdep ⊢
  clear hop
  have hf := HF.out wl hbl.out
  have HFL2 := Lib.hid hf.1
  have x0 := hf.2.1
  have x1 := hf.2.2
  have STEP := Lib.hid (fun (v : Value) (w' : World) (hb : Below wl.heap.size wl w') (hv : GdS (.agg #[.int .u64 (k0 : Nat), .int .u64 (k1 : Nat)]) (.slice A n c) (.int .u64 (sumB k0 k1 fl : Nat)) (.agg #[.int .u64 (sumB k0 k1 (1 :: fl) : Nat), .int .u64 (sumB k0 k1 (2 :: fl) : Nat)]) fl 15 v w') => (⟨upd_good hls (fun j u hj hg => GdS.keep hb hj hg) hgd (show 15 < 22 by omega) hv, Lib.hid (hbl.out.trans (hb.mono hbl.out.size))⟩ : (∀ j, j < 22 → (l.setIfInBounds 15 true).getD j true = true → GdS (.agg #[.int .u64 (k0 : Nat), .int .u64 (k1 : Nat)]) (.slice A n c) (.int .u64 (sumB k0 k1 fl : Nat)) (.agg #[.int .u64 (sumB k0 k1 (1 :: fl) : Nat), .int .u64 (sumB k0 k1 (2 :: fl) : Nat)]) fl j (upd S 15 v j) w') ∧ Hid (Below wr.heap.size wr w')))
  have HK := Lib.hid hK
  have d8 : S 8 = (.bool true) := hgd 8 (by omega) (by have := hdep ⟨8, .guard⟩ (by simp) (by rfl); have h2 : 8 < l.size := (by omega); simpa [Array.getD, h2] using this)
  rw [d8]
  have H8 := Lib.hid d8
  clear d8
  have d13 : S 13 = (.agg #[.int .u64 (k0 : Nat), .int .u64 (k1 : Nat)]) := hgd 13 (by omega) (by have := hdep ⟨13, .data⟩ (by simp) (by rfl); have h2 : 13 < l.size := (by omega); simpa [Array.getD, h2] using this)
  rw [d13]
  have H13 := Lib.hid d13
  clear d13
  have d14 : S 14 = (.slice A n c) := hgd 14 (by omega) (by have := hdep ⟨14, .data⟩ (by simp) (by rfl); have h2 : 14 < l.size := (by omega); simpa [Array.getD, h2] using this)
  rw [d14]
  have H14 := Lib.hid d14
  clear d14
  clear hgd hK hdep hbl hf
  refine wpList_guard (by rfl) ?_
  go_wp2_with fail
  refine (rpair_any k0 k1 n c A fl wl h0 h1 HFL2.out hnc (by omega) HBB.out).mono ?_
  rintro e w9 ⟨rfl, hb9⟩
  go_wp2_with fail
  refine HK.out _ _ ⟨upd (upd (upd (upd S 8 (.bool true)) 13 (.agg #[.int .u64 (k0 : Nat), .int .u64 (k1 : Nat)])) 14 (.slice A n c)) 15 _, rfl, ?_⟩
  rw [upd_same H8.out, upd_same H13.out, upd_same H14.out]
  exact STEP.out _ _ hb9 rfl
set_option maxRecDepth 20000 in
theorem ss_step16 (w wr : World) (k0 k1 n c : Nat) (A : Option Addr) (fl : List Nat) (h0 : k0 < 18446744073709551616) (h1 : k1 < 18446744073709551616) (hnc : n ≤ c) (hn : n ≤ 4096) (HBB : Hid (∀ x ∈ fl, x < 256)) (hn5 : fl.length ≤ 4096)
    (HF : Hid (∀ wx, Below wr.heap.size wr wx → Rd wx wx.heap.size 1 A n (ns .u8 fl) ∧ wx.cell? ⟨w.heap.size, 0, none⟩ = some (.int .u64 (k0 : Nat)) ∧ wx.cell? ⟨w.heap.size, 1, none⟩ = some (.int .u64 (k1 : Nat)))) (l : Array Bool) (a : Act) (wl : World) (hls : l.size = 22) (hinv : ssI w wr k0 k1 n c A fl l a wl) (hdep : ∀ e ∈ (ssOps.getD 16 default).after, Region.binds .any e = true → l.getD e.on false = true)
    (K : Exit → Act → World → Prop) (hK : ∀ a' w', ssI w wr k0 k1 n c A fl (l.setIfInBounds 16 true) a' w' → K .normal a' w') : wpList Try.prog ssOps.toArray K [ssOps.getD 16 default] a wl := by
  obtain ⟨S, rfl, hgd, hbl⟩ := hinv
  have hop : ssOps.getD 16 default = { dst := some 24, op := Op.binOp BinOp.eql 24 (Operand.tmp 20) (Operand.tmp 23) 24, type := 4, pos := "law.go:21", after := #[{ on := 12, ground := Ground.data }, { on := 15, ground := Ground.data }, { on := 8, ground := Ground.guard }], guard := some (8, true) } := rfl
  rw [hop] at hdep ⊢
  clear hop
  have hf := HF.out wl hbl.out
  have HFL2 := Lib.hid hf.1
  have x0 := hf.2.1
  have x1 := hf.2.2
  have STEP := Lib.hid (fun (v : Value) (w' : World) (hb : Below wl.heap.size wl w') (hv : GdS (.agg #[.int .u64 (k0 : Nat), .int .u64 (k1 : Nat)]) (.slice A n c) (.int .u64 (sumB k0 k1 fl : Nat)) (.agg #[.int .u64 (sumB k0 k1 (1 :: fl) : Nat), .int .u64 (sumB k0 k1 (2 :: fl) : Nat)]) fl 16 v w') => (⟨upd_good hls (fun j u hj hg => GdS.keep hb hj hg) hgd (show 16 < 22 by omega) hv, Lib.hid (hbl.out.trans (hb.mono hbl.out.size))⟩ : (∀ j, j < 22 → (l.setIfInBounds 16 true).getD j true = true → GdS (.agg #[.int .u64 (k0 : Nat), .int .u64 (k1 : Nat)]) (.slice A n c) (.int .u64 (sumB k0 k1 fl : Nat)) (.agg #[.int .u64 (sumB k0 k1 (1 :: fl) : Nat), .int .u64 (sumB k0 k1 (2 :: fl) : Nat)]) fl j (upd S 16 v j) w') ∧ Hid (Below wr.heap.size wr w')))
  have HK := Lib.hid hK
  have d8 : S 8 = (.bool true) := hgd 8 (by omega) (by have := hdep ⟨8, .guard⟩ (by simp) (by rfl); have h2 : 8 < l.size := (by omega); simpa [Array.getD, h2] using this)
  rw [d8]
  have H8 := Lib.hid d8
  clear d8
  have d12 : S 12 = (.agg #[.int .u64 (sumB k0 k1 (1 :: fl) : Nat), .int .u64 (sumB k0 k1 (2 :: fl) : Nat)]) := hgd 12 (by omega) (by have := hdep ⟨12, .data⟩ (by simp) (by rfl); have h2 : 12 < l.size := (by omega); simpa [Array.getD, h2] using this)
  rw [d12]
  have H12 := Lib.hid d12
  clear d12
  have d15 : S 15 = (.agg #[.int .u64 (sumB k0 k1 (1 :: fl) : Nat), .int .u64 (sumB k0 k1 (2 :: fl) : Nat)]) := hgd 15 (by omega) (by have := hdep ⟨15, .data⟩ (by simp) (by rfl); have h2 : 15 < l.size := (by omega); simpa [Array.getD, h2] using this)
  rw [d15]
  have H15 := Lib.hid d15
  clear d15
  clear hgd hK hdep hbl hf
  refine wpList_guard (by rfl) ?_
  obtain ⟨p1, hp1⟩ : ∃ p, p = sumB k0 k1 (1 :: fl) := ⟨_, rfl⟩
  rw [← hp1]
  have Hp1 := Lib.hid hp1
  clear hp1
  obtain ⟨p2, hp2⟩ : ∃ p, p = sumB k0 k1 (2 :: fl) := ⟨_, rfl⟩
  rw [← hp2]
  have Hp2 := Lib.hid hp2
  clear hp2
  go_wp2_with fail
  rw [Hp1.out, Hp2.out]
  refine HK.out _ _ ⟨upd (upd (upd (upd S 8 (.bool true)) 12 (.agg #[.int .u64 (sumB k0 k1 (1 :: fl) : Nat), .int .u64 (sumB k0 k1 (2 :: fl) : Nat)])) 15 (.agg #[.int .u64 (sumB k0 k1 (1 :: fl) : Nat), .int .u64 (sumB k0 k1 (2 :: fl) : Nat)])) 16 _, rfl, ?_⟩
  rw [upd_same H8.out, upd_same H12.out, upd_same H15.out]
  exact STEP.out _ _ (Below.refl _ _) rfl
set_option maxRecDepth 20000 in
theorem ss_step17 (w wr : World) (k0 k1 n c : Nat) (A : Option Addr) (fl : List Nat) (h0 : k0 < 18446744073709551616) (h1 : k1 < 18446744073709551616) (hnc : n ≤ c) (hn : n ≤ 4096) (HBB : Hid (∀ x ∈ fl, x < 256)) (hn5 : fl.length ≤ 4096)
    (HF : Hid (∀ wx, Below wr.heap.size wr wx → Rd wx wx.heap.size 1 A n (ns .u8 fl) ∧ wx.cell? ⟨w.heap.size, 0, none⟩ = some (.int .u64 (k0 : Nat)) ∧ wx.cell? ⟨w.heap.size, 1, none⟩ = some (.int .u64 (k1 : Nat)))) (l : Array Bool) (a : Act) (wl : World) (hls : l.size = 22) (hinv : ssI w wr k0 k1 n c A fl l a wl) (hdep : ∀ e ∈ (ssOps.getD 17 default).after, Region.binds .any e = true → l.getD e.on false = true)
    (K : Exit → Act → World → Prop) (hK : ∀ a' w', ssI w wr k0 k1 n c A fl (l.setIfInBounds 17 true) a' w' → K .normal a' w') : wpList Try.prog ssOps.toArray K [ssOps.getD 17 default] a wl := by
  obtain ⟨S, rfl, hgd, hbl⟩ := hinv
  have hop : ssOps.getD 17 default = { dst := some 25, op := Op.pick (Operand.tmp 16) (Operand.tmp 24) (Operand.const (Value.bool false)), type := 4, pos := "law.go:21", after := #[{ on := 8, ground := Ground.data }, { on := 16, ground := Ground.data }], guard := none } := rfl
  rw [hop] at hdep ⊢
  clear hop
  have hf := HF.out wl hbl.out
  have HFL2 := Lib.hid hf.1
  have x0 := hf.2.1
  have x1 := hf.2.2
  have STEP := Lib.hid (fun (v : Value) (w' : World) (hb : Below wl.heap.size wl w') (hv : GdS (.agg #[.int .u64 (k0 : Nat), .int .u64 (k1 : Nat)]) (.slice A n c) (.int .u64 (sumB k0 k1 fl : Nat)) (.agg #[.int .u64 (sumB k0 k1 (1 :: fl) : Nat), .int .u64 (sumB k0 k1 (2 :: fl) : Nat)]) fl 17 v w') => (⟨upd_good hls (fun j u hj hg => GdS.keep hb hj hg) hgd (show 17 < 22 by omega) hv, Lib.hid (hbl.out.trans (hb.mono hbl.out.size))⟩ : (∀ j, j < 22 → (l.setIfInBounds 17 true).getD j true = true → GdS (.agg #[.int .u64 (k0 : Nat), .int .u64 (k1 : Nat)]) (.slice A n c) (.int .u64 (sumB k0 k1 fl : Nat)) (.agg #[.int .u64 (sumB k0 k1 (1 :: fl) : Nat), .int .u64 (sumB k0 k1 (2 :: fl) : Nat)]) fl j (upd S 17 v j) w') ∧ Hid (Below wr.heap.size wr w')))
  have HK := Lib.hid hK
  have d8 : S 8 = (.bool true) := hgd 8 (by omega) (by have := hdep ⟨8, .data⟩ (by simp) (by rfl); have h2 : 8 < l.size := (by omega); simpa [Array.getD, h2] using this)
  rw [d8]
  have H8 := Lib.hid d8
  clear d8
  have d16 : S 16 = (.bool true) := hgd 16 (by omega) (by have := hdep ⟨16, .data⟩ (by simp) (by rfl); have h2 : 16 < l.size := (by omega); simpa [Array.getD, h2] using this)
  rw [d16]
  have H16 := Lib.hid d16
  clear d16
  clear hgd hK hdep hbl hf
  go_wp2_with fail
  refine HK.out _ _ ⟨upd (upd (upd S 8 (.bool true)) 16 (.bool true)) 17 _, rfl, ?_⟩
  rw [upd_same H8.out, upd_same H16.out]
  exact STEP.out _ _ (Below.refl _ _) rfl
set_option maxRecDepth 20000 in
theorem ss_step18 (w wr : World) (k0 k1 n c : Nat) (A : Option Addr) (fl : List Nat) (h0 : k0 < 18446744073709551616) (h1 : k1 < 18446744073709551616) (hnc : n ≤ c) (hn : n ≤ 4096) (HBB : Hid (∀ x ∈ fl, x < 256)) (hn5 : fl.length ≤ 4096)
    (HF : Hid (∀ wx, Below wr.heap.size wr wx → Rd wx wx.heap.size 1 A n (ns .u8 fl) ∧ wx.cell? ⟨w.heap.size, 0, none⟩ = some (.int .u64 (k0 : Nat)) ∧ wx.cell? ⟨w.heap.size, 1, none⟩ = some (.int .u64 (k1 : Nat)))) (l : Array Bool) (a : Act) (wl : World) (hls : l.size = 22) (hinv : ssI w wr k0 k1 n c A fl l a wl) (hdep : ∀ e ∈ (ssOps.getD 18 default).after, Region.binds .any e = true → l.getD e.on false = true)
    (K : Exit → Act → World → Prop) (hK : ∀ a' w', ssI w wr k0 k1 n c A fl (l.setIfInBounds 18 true) a' w' → K .normal a' w') : wpList Try.prog ssOps.toArray K [ssOps.getD 18 default] a wl := by
  obtain ⟨S, rfl, hgd, hbl⟩ := hinv
  have hop : ssOps.getD 18 default = { dst := some 26, op := Op.move (Operand.tmp 25), type := 4, pos := "law.go:21", after := #[{ on := 17, ground := Ground.data }, { on := 15, ground := Ground.chain }], guard := none } := rfl
  rw [hop] at hdep ⊢
  clear hop
  have hf := HF.out wl hbl.out
  have HFL2 := Lib.hid hf.1
  have x0 := hf.2.1
  have x1 := hf.2.2
  have STEP := Lib.hid (fun (v : Value) (w' : World) (hb : Below wl.heap.size wl w') (hv : GdS (.agg #[.int .u64 (k0 : Nat), .int .u64 (k1 : Nat)]) (.slice A n c) (.int .u64 (sumB k0 k1 fl : Nat)) (.agg #[.int .u64 (sumB k0 k1 (1 :: fl) : Nat), .int .u64 (sumB k0 k1 (2 :: fl) : Nat)]) fl 18 v w') => (⟨upd_good hls (fun j u hj hg => GdS.keep hb hj hg) hgd (show 18 < 22 by omega) hv, Lib.hid (hbl.out.trans (hb.mono hbl.out.size))⟩ : (∀ j, j < 22 → (l.setIfInBounds 18 true).getD j true = true → GdS (.agg #[.int .u64 (k0 : Nat), .int .u64 (k1 : Nat)]) (.slice A n c) (.int .u64 (sumB k0 k1 fl : Nat)) (.agg #[.int .u64 (sumB k0 k1 (1 :: fl) : Nat), .int .u64 (sumB k0 k1 (2 :: fl) : Nat)]) fl j (upd S 18 v j) w') ∧ Hid (Below wr.heap.size wr w')))
  have HK := Lib.hid hK
  have d17 : S 17 = (.bool true) := hgd 17 (by omega) (by have := hdep ⟨17, .data⟩ (by simp) (by rfl); have h2 : 17 < l.size := (by omega); simpa [Array.getD, h2] using this)
  rw [d17]
  have H17 := Lib.hid d17
  clear d17
  clear hgd hK hdep hbl hf
  go_wp2_with fail
  refine HK.out _ _ ⟨upd (upd S 17 (.bool true)) 18 _, rfl, ?_⟩
  rw [upd_same H17.out]
  exact STEP.out _ _ (Below.refl _ _) rfl
set_option maxRecDepth 20000 in
theorem ss_step19 (w wr : World) (k0 k1 n c : Nat) (A : Option Addr) (fl : List Nat) (h0 : k0 < 18446744073709551616) (h1 : k1 < 18446744073709551616) (hnc : n ≤ c) (hn : n ≤ 4096) (HBB : Hid (∀ x ∈ fl, x < 256)) (hn5 : fl.length ≤ 4096)
    (HF : Hid (∀ wx, Below wr.heap.size wr wx → Rd wx wx.heap.size 1 A n (ns .u8 fl) ∧ wx.cell? ⟨w.heap.size, 0, none⟩ = some (.int .u64 (k0 : Nat)) ∧ wx.cell? ⟨w.heap.size, 1, none⟩ = some (.int .u64 (k1 : Nat)))) (l : Array Bool) (a : Act) (wl : World) (hls : l.size = 22) (hinv : ssI w wr k0 k1 n c A fl l a wl) (hdep : ∀ e ∈ (ssOps.getD 19 default).after, Region.binds .any e = true → l.getD e.on false = true)
    (K : Exit → Act → World → Prop) (hK : ∀ a' w', ssI w wr k0 k1 n c A fl (l.setIfInBounds 19 true) a' w' → K .normal a' w') : wpList Try.prog ssOps.toArray K [ssOps.getD 19 default] a wl := by
  obtain ⟨S, rfl, hgd, hbl⟩ := hinv
  have hop : ssOps.getD 19 default = { dst := some 27, op := Op.call { callee := Callee.value (Operand.func 16), args := #[], argTypes := #[] }, type := 4, pos := "law.go:21", after := #[{ on := 18, ground := Ground.chain }, { on := 18, ground := Ground.guard }], guard := some (18, true) } := rfl
  rw [hop] at hdep ⊢
  clear hop
  have hf := HF.out wl hbl.out
  have HFL2 := Lib.hid hf.1
  have x0 := hf.2.1
  have x1 := hf.2.2
  have STEP := Lib.hid (fun (v : Value) (w' : World) (hb : Below wl.heap.size wl w') (hv : GdS (.agg #[.int .u64 (k0 : Nat), .int .u64 (k1 : Nat)]) (.slice A n c) (.int .u64 (sumB k0 k1 fl : Nat)) (.agg #[.int .u64 (sumB k0 k1 (1 :: fl) : Nat), .int .u64 (sumB k0 k1 (2 :: fl) : Nat)]) fl 19 v w') => (⟨upd_good hls (fun j u hj hg => GdS.keep hb hj hg) hgd (show 19 < 22 by omega) hv, Lib.hid (hbl.out.trans (hb.mono hbl.out.size))⟩ : (∀ j, j < 22 → (l.setIfInBounds 19 true).getD j true = true → GdS (.agg #[.int .u64 (k0 : Nat), .int .u64 (k1 : Nat)]) (.slice A n c) (.int .u64 (sumB k0 k1 fl : Nat)) (.agg #[.int .u64 (sumB k0 k1 (1 :: fl) : Nat), .int .u64 (sumB k0 k1 (2 :: fl) : Nat)]) fl j (upd S 19 v j) w') ∧ Hid (Below wr.heap.size wr w')))
  have HK := Lib.hid hK
  have d18 : S 18 = (.bool true) := hgd 18 (by omega) (by have := hdep ⟨18, .guard⟩ (by simp) (by rfl); have h2 : 18 < l.size := (by omega); simpa [Array.getD, h2] using this)
  rw [d18]
  have H18 := Lib.hid d18
  clear d18
  clear hgd hK hdep hbl hf
  refine wpList_guard (by rfl) ?_
  go_wp2_with fail
  refine (alive03 wl).mono ?_
  rintro e w9 ⟨rfl, hb9⟩
  go_wp2_with fail
  refine HK.out _ _ ⟨upd (upd S 18 (.bool true)) 19 _, rfl, ?_⟩
  rw [upd_same H18.out]
  exact STEP.out _ _ hb9 rfl
set_option maxRecDepth 20000 in
theorem ss_step20 (w wr : World) (k0 k1 n c : Nat) (A : Option Addr) (fl : List Nat) (h0 : k0 < 18446744073709551616) (h1 : k1 < 18446744073709551616) (hnc : n ≤ c) (hn : n ≤ 4096) (HBB : Hid (∀ x ∈ fl, x < 256)) (hn5 : fl.length ≤ 4096)
    (HF : Hid (∀ wx, Below wr.heap.size wr wx → Rd wx wx.heap.size 1 A n (ns .u8 fl) ∧ wx.cell? ⟨w.heap.size, 0, none⟩ = some (.int .u64 (k0 : Nat)) ∧ wx.cell? ⟨w.heap.size, 1, none⟩ = some (.int .u64 (k1 : Nat)))) (l : Array Bool) (a : Act) (wl : World) (hls : l.size = 22) (hinv : ssI w wr k0 k1 n c A fl l a wl) (hdep : ∀ e ∈ (ssOps.getD 20 default).after, Region.binds .any e = true → l.getD e.on false = true)
    (K : Exit → Act → World → Prop) (hK : ∀ a' w', ssI w wr k0 k1 n c A fl (l.setIfInBounds 20 true) a' w' → K .normal a' w') : wpList Try.prog ssOps.toArray K [ssOps.getD 20 default] a wl := by
  obtain ⟨S, rfl, hgd, hbl⟩ := hinv
  have hop : ssOps.getD 20 default = { dst := some 28, op := Op.pick (Operand.tmp 26) (Operand.tmp 27) (Operand.const (Value.bool false)), type := 4, pos := "law.go:21", after := #[{ on := 18, ground := Ground.data }, { on := 19, ground := Ground.data }], guard := none } := rfl
  rw [hop] at hdep ⊢
  clear hop
  have hf := HF.out wl hbl.out
  have HFL2 := Lib.hid hf.1
  have x0 := hf.2.1
  have x1 := hf.2.2
  have STEP := Lib.hid (fun (v : Value) (w' : World) (hb : Below wl.heap.size wl w') (hv : GdS (.agg #[.int .u64 (k0 : Nat), .int .u64 (k1 : Nat)]) (.slice A n c) (.int .u64 (sumB k0 k1 fl : Nat)) (.agg #[.int .u64 (sumB k0 k1 (1 :: fl) : Nat), .int .u64 (sumB k0 k1 (2 :: fl) : Nat)]) fl 20 v w') => (⟨upd_good hls (fun j u hj hg => GdS.keep hb hj hg) hgd (show 20 < 22 by omega) hv, Lib.hid (hbl.out.trans (hb.mono hbl.out.size))⟩ : (∀ j, j < 22 → (l.setIfInBounds 20 true).getD j true = true → GdS (.agg #[.int .u64 (k0 : Nat), .int .u64 (k1 : Nat)]) (.slice A n c) (.int .u64 (sumB k0 k1 fl : Nat)) (.agg #[.int .u64 (sumB k0 k1 (1 :: fl) : Nat), .int .u64 (sumB k0 k1 (2 :: fl) : Nat)]) fl j (upd S 20 v j) w') ∧ Hid (Below wr.heap.size wr w')))
  have HK := Lib.hid hK
  have d18 : S 18 = (.bool true) := hgd 18 (by omega) (by have := hdep ⟨18, .data⟩ (by simp) (by rfl); have h2 : 18 < l.size := (by omega); simpa [Array.getD, h2] using this)
  rw [d18]
  have H18 := Lib.hid d18
  clear d18
  have d19 : S 19 = (.bool true) := hgd 19 (by omega) (by have := hdep ⟨19, .data⟩ (by simp) (by rfl); have h2 : 19 < l.size := (by omega); simpa [Array.getD, h2] using this)
  rw [d19]
  have H19 := Lib.hid d19
  clear d19
  clear hgd hK hdep hbl hf
  go_wp2_with fail
  refine HK.out _ _ ⟨upd (upd (upd S 18 (.bool true)) 19 (.bool true)) 20 _, rfl, ?_⟩
  rw [upd_same H18.out, upd_same H19.out]
  exact STEP.out _ _ (Below.refl _ _) rfl
set_option maxRecDepth 20000 in
theorem ss_step21 (w wr : World) (k0 k1 n c : Nat) (A : Option Addr) (fl : List Nat) (h0 : k0 < 18446744073709551616) (h1 : k1 < 18446744073709551616) (hnc : n ≤ c) (hn : n ≤ 4096) (HBB : Hid (∀ x ∈ fl, x < 256)) (hn5 : fl.length ≤ 4096)
    (HF : Hid (∀ wx, Below wr.heap.size wr wx → Rd wx wx.heap.size 1 A n (ns .u8 fl) ∧ wx.cell? ⟨w.heap.size, 0, none⟩ = some (.int .u64 (k0 : Nat)) ∧ wx.cell? ⟨w.heap.size, 1, none⟩ = some (.int .u64 (k1 : Nat)))) (l : Array Bool) (a : Act) (wl : World) (hls : l.size = 22) (hinv : ssI w wr k0 k1 n c A fl l a wl) (hdep : ∀ e ∈ (ssOps.getD 21 default).after, Region.binds .any e = true → l.getD e.on false = true)
    (K : Exit → Act → World → Prop) (hK : ∀ a' w', ssI w wr k0 k1 n c A fl (l.setIfInBounds 21 true) a' w' → K .normal a' w') : wpList Try.prog ssOps.toArray K [ssOps.getD 21 default] a wl := by
  obtain ⟨S, rfl, hgd, hbl⟩ := hinv
  have hop : ssOps.getD 21 default = { dst := some 4, op := Op.assign (Operand.tmp 28), type := 4, pos := "law.go:21", after := #[{ on := 20, ground := Ground.data }, { on := 19, ground := Ground.chain }, { on := 0, ground := Ground.phase }, { on := 1, ground := Ground.phase }, { on := 2, ground := Ground.phase }, { on := 3, ground := Ground.phase }, { on := 4, ground := Ground.phase }, { on := 5, ground := Ground.phase }, { on := 6, ground := Ground.phase }, { on := 7, ground := Ground.phase }, { on := 8, ground := Ground.phase }, { on := 9, ground := Ground.phase }, { on := 10, ground := Ground.phase }, { on := 11, ground := Ground.phase }, { on := 12, ground := Ground.phase }, { on := 13, ground := Ground.phase }, { on := 14, ground := Ground.phase }, { on := 15, ground := Ground.phase }, { on := 16, ground := Ground.phase }, { on := 17, ground := Ground.phase }, { on := 18, ground := Ground.phase }, { on := 19, ground := Ground.phase }, { on := 20, ground := Ground.phase }], guard := none } := rfl
  rw [hop] at hdep ⊢
  clear hop
  have hf := HF.out wl hbl.out
  have HFL2 := Lib.hid hf.1
  have x0 := hf.2.1
  have x1 := hf.2.2
  have STEP := Lib.hid (fun (v : Value) (w' : World) (hb : Below wl.heap.size wl w') (hv : GdS (.agg #[.int .u64 (k0 : Nat), .int .u64 (k1 : Nat)]) (.slice A n c) (.int .u64 (sumB k0 k1 fl : Nat)) (.agg #[.int .u64 (sumB k0 k1 (1 :: fl) : Nat), .int .u64 (sumB k0 k1 (2 :: fl) : Nat)]) fl 21 v w') => (⟨upd_good hls (fun j u hj hg => GdS.keep hb hj hg) hgd (show 21 < 22 by omega) hv, Lib.hid (hbl.out.trans (hb.mono hbl.out.size))⟩ : (∀ j, j < 22 → (l.setIfInBounds 21 true).getD j true = true → GdS (.agg #[.int .u64 (k0 : Nat), .int .u64 (k1 : Nat)]) (.slice A n c) (.int .u64 (sumB k0 k1 fl : Nat)) (.agg #[.int .u64 (sumB k0 k1 (1 :: fl) : Nat), .int .u64 (sumB k0 k1 (2 :: fl) : Nat)]) fl j (upd S 21 v j) w') ∧ Hid (Below wr.heap.size wr w')))
  have HK := Lib.hid hK
  have d20 : S 20 = (.bool true) := hgd 20 (by omega) (by have := hdep ⟨20, .data⟩ (by simp) (by rfl); have h2 : 20 < l.size := (by omega); simpa [Array.getD, h2] using this)
  rw [d20]
  have H20 := Lib.hid d20
  clear d20
  clear hgd hK hdep hbl hf
  go_wp2_with fail
  refine HK.out _ _ ⟨upd (upd S 20 (.bool true)) 21 _, rfl, ?_⟩
  rw [upd_same H20.out]
  exact STEP.out _ _ (Below.refl _ _) rfl
theorem ss_step (w wr : World) (k0 k1 n c : Nat) (A : Option Addr) (fl : List Nat) (h0 : k0 < 18446744073709551616) (h1 : k1 < 18446744073709551616) (hnc : n ≤ c) (hn : n ≤ 4096) (HBB : Hid (∀ x ∈ fl, x < 256)) (hn5 : fl.length ≤ 4096)
    (HF : Hid (∀ wx, Below wr.heap.size wr wx → Rd wx wx.heap.size 1 A n (ns .u8 fl) ∧ wx.cell? ⟨w.heap.size, 0, none⟩ = some (.int .u64 (k0 : Nat)) ∧ wx.cell? ⟨w.heap.size, 1, none⟩ = some (.int .u64 (k1 : Nat)))) (l : Array Bool) (a : Act) (wl : World) (o : Nat) (hls : l.size = 22) (hinv : ssI w wr k0 k1 n c A fl l a wl) (ho : o < 22) (hdep : ∀ e ∈ (ssOps.getD o default).after, Region.binds .any e = true → l.getD e.on false = true)
    (K : Exit → Act → World → Prop) (hK : ∀ a' w', ssI w wr k0 k1 n c A fl (l.setIfInBounds o true) a' w' → K .normal a' w') : wpList Try.prog ssOps.toArray K [ssOps.getD o default] a wl := by
  match o, ho, hdep, hK with
  | 0, _, hdep, hK => exact ss_step0 w wr k0 k1 n c A fl h0 h1 hnc hn HBB hn5 HF l a wl hls hinv hdep K hK
  | 1, _, hdep, hK => exact ss_step1 w wr k0 k1 n c A fl h0 h1 hnc hn HBB hn5 HF l a wl hls hinv hdep K hK
  | 2, _, hdep, hK => exact ss_step2 w wr k0 k1 n c A fl h0 h1 hnc hn HBB hn5 HF l a wl hls hinv hdep K hK
  | 3, _, hdep, hK => exact ss_step3 w wr k0 k1 n c A fl h0 h1 hnc hn HBB hn5 HF l a wl hls hinv hdep K hK
  | 4, _, hdep, hK => exact ss_step4 w wr k0 k1 n c A fl h0 h1 hnc hn HBB hn5 HF l a wl hls hinv hdep K hK
  | 5, _, hdep, hK => exact ss_step5 w wr k0 k1 n c A fl h0 h1 hnc hn HBB hn5 HF l a wl hls hinv hdep K hK
  | 6, _, hdep, hK => exact ss_step6 w wr k0 k1 n c A fl h0 h1 hnc hn HBB hn5 HF l a wl hls hinv hdep K hK
  | 7, _, hdep, hK => exact ss_step7 w wr k0 k1 n c A fl h0 h1 hnc hn HBB hn5 HF l a wl hls hinv hdep K hK
  | 8, _, hdep, hK => exact ss_step8 w wr k0 k1 n c A fl h0 h1 hnc hn HBB hn5 HF l a wl hls hinv hdep K hK
  | 9, _, hdep, hK => exact ss_step9 w wr k0 k1 n c A fl h0 h1 hnc hn HBB hn5 HF l a wl hls hinv hdep K hK
  | 10, _, hdep, hK => exact ss_step10 w wr k0 k1 n c A fl h0 h1 hnc hn HBB hn5 HF l a wl hls hinv hdep K hK
  | 11, _, hdep, hK => exact ss_step11 w wr k0 k1 n c A fl h0 h1 hnc hn HBB hn5 HF l a wl hls hinv hdep K hK
  | 12, _, hdep, hK => exact ss_step12 w wr k0 k1 n c A fl h0 h1 hnc hn HBB hn5 HF l a wl hls hinv hdep K hK
  | 13, _, hdep, hK => exact ss_step13 w wr k0 k1 n c A fl h0 h1 hnc hn HBB hn5 HF l a wl hls hinv hdep K hK
  | 14, _, hdep, hK => exact ss_step14 w wr k0 k1 n c A fl h0 h1 hnc hn HBB hn5 HF l a wl hls hinv hdep K hK
  | 15, _, hdep, hK => exact ss_step15 w wr k0 k1 n c A fl h0 h1 hnc hn HBB hn5 HF l a wl hls hinv hdep K hK
  | 16, _, hdep, hK => exact ss_step16 w wr k0 k1 n c A fl h0 h1 hnc hn HBB hn5 HF l a wl hls hinv hdep K hK
  | 17, _, hdep, hK => exact ss_step17 w wr k0 k1 n c A fl h0 h1 hnc hn HBB hn5 HF l a wl hls hinv hdep K hK
  | 18, _, hdep, hK => exact ss_step18 w wr k0 k1 n c A fl h0 h1 hnc hn HBB hn5 HF l a wl hls hinv hdep K hK
  | 19, _, hdep, hK => exact ss_step19 w wr k0 k1 n c A fl h0 h1 hnc hn HBB hn5 HF l a wl hls hinv hdep K hK
  | 20, _, hdep, hK => exact ss_step20 w wr k0 k1 n c A fl h0 h1 hnc hn HBB hn5 HF l a wl hls hinv hdep K hK
  | 21, _, hdep, hK => exact ss_step21 w wr k0 k1 n c A fl h0 h1 hnc hn HBB hn5 HF l a wl hls hinv hdep K hK
  | n + 22, ho, _, _ => omega
end Go.Proofs.Ytahdfginmkcgfaa
