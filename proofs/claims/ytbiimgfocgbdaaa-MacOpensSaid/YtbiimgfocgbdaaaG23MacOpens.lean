/- Contract of the reference's Pair, layer 3. -/
import Derived.Test.YtbiimgfocgbdaaaG22MacOpens
import Derived.Test.YtbiimgfocgbdaaaAnyInv

namespace Go.Proofs.Ytbiimgfocgbdaaa
open Go.RowKit
set_option linter.unusedVariables false
theorem el8' : El Try.prog 28 5 (.int .u8 0) 1 1 := ⟨Try.underlying28, by kernel_rfl, rfl, by omega, by omega⟩
/-- A row of one byte, just made. -/
def Rb (w : World) (B : Nat) (s : Value) (x : Nat) : Prop := ∃ g, s = .slice (some ⟨g, 0, none⟩) 1 1 ∧ B ≤ g ∧ Blk w g 5 #[.int .u8 (x : Nat)]
theorem Rb.keep {w w' : World} {B : Nat} {s : Value} {x : Nat} (h : Rb w B s x) (hb : Below w.heap.size w w') : Rb w' B s x := by
  obtain ⟨g, e, hB, hk⟩ := h
  exact ⟨g, e, hB, hk.below hb hk.lt⟩
theorem Rb.nats {w : World} {B : Nat} {s : Value} {x : Nat} (h : Rb w B s x) : Nats w 5 .u8 B s [x] := by
  obtain ⟨g, rfl, hB, hk⟩ := h
  exact ⟨rfl, Or.inr ⟨g, 1, #[.int .u8 (x : Nat)], rfl, hB, hk, by simp, by unfold maxLen; omega, rfl, rfl⟩⟩
/-- A row of bytes that can be read. -/
def Ap (w : World) (s : Value) (bs : List Nat) : Prop := ∃ A n c, s = .slice A n c ∧ n ≤ c ∧ bs.length = n ∧ Rd w w.heap.size 1 A n (ns .u8 bs)
theorem Ap.keep {w w' : World} {s : Value} {bs : List Nat} (h : Ap w s bs) (hb : Below w.heap.size w w') : Ap w' s bs := by
  obtain ⟨A, n, c, e, h1, h2, h3⟩ := h
  exact ⟨A, n, c, e, h1, h2, h3.into hb⟩
def PR (w0 : World) (kk sl : Value) (hk : Nat) (bs : List Nat) (p1 p2 : Nat) (b0 b1 b2 b3 b4 b5 b6 b7 b8 b9 b10 b11 : Bool) (a : Act) (w : World) : Prop :=
  ∃ s5 s6 s7 s8 s9 s10 s11 s12 s13 s14 s15, a = ⟨#[kk, sl, .pointer (some ⟨hk, 0, none⟩), undef, .pointer (some ⟨hk + 1, 0, none⟩), s5, s6, s7, s8, s9, s10, s11, s12, s13, s14, s15], []⟩ ∧
    (b0 = true → s5 = kk) ∧ (b1 = true → b3 = false → Rb w (hk + 2) s6 1) ∧ (b2 = true → s7 = sl) ∧ (b3 = true → b4 = false → Ap w s8 (1 :: bs)) ∧ (b4 = true → s9 = .int .u64 (p1 : Nat)) ∧
    (b5 = true → s10 = kk) ∧ (b6 = true → b8 = false → Rb w (hk + 2) s11 2) ∧ (b7 = true → s12 = sl) ∧ (b8 = true → b9 = false → Ap w s13 (2 :: bs)) ∧ (b9 = true → s14 = .int .u64 (p2 : Nat)) ∧
    (b10 = true → s15 = .agg #[.int .u64 (p1 : Nat), .int .u64 (p2 : Nat)]) ∧ (b1 = true → b6 = true → b3 = false → b8 = false → s6 ≠ s11) ∧ (b4 = true → b3 = true) ∧ (b8 = true → b4 = true) ∧
    (b11 = false → Blk w (hk + 1) 24 #[.int .u64 0, .int .u64 0]) ∧ (b11 = true → Blk w (hk + 1) 24 #[.int .u64 (p1 : Nat), .int .u64 (p2 : Nat)]) ∧ Below (hk + 1) w0 w ∧ hk + 2 ≤ w.heap.size
def rpOps : List Oper := [
  { dst := some 5, op := Op.load 24 (Operand.tmp 2), type := 24, pos := "ref.go:65", after := #[], guard := none },
  { dst := some 6, op := Op.buildSlice 28 1 #[(0, Operand.const (Value.int IntKind.u8 1))], type := 28, pos := "ref.go:65", after := #[], guard := none },
  { dst := some 7, op := Op.move (Operand.tmp 1), type := 28, pos := "ref.go:65", after := #[], guard := none },
  { dst := some 8, op := Op.call { callee := Callee.builtin Builtin.append, args := #[Operand.tmp 6, Operand.tmp 7], argTypes := #[28, 28] }, type := 28, pos := "ref.go:65", after := #[{ on := 1, ground := Ground.data }, { on := 2, ground := Ground.data }], guard := none },
  { dst := some 9, op := Op.call { callee := Callee.value (Operand.func 59), args := #[Operand.tmp 5, Operand.tmp 8], argTypes := #[24, 28] }, type := 22, pos := "ref.go:65", after := #[{ on := 0, ground := Ground.data }, { on := 3, ground := Ground.data }, { on := 3, ground := Ground.chain }], guard := none },
  { dst := some 10, op := Op.load 24 (Operand.tmp 2), type := 24, pos := "ref.go:65", after := #[], guard := none },
  { dst := some 11, op := Op.buildSlice 28 1 #[(0, Operand.const (Value.int IntKind.u8 2))], type := 28, pos := "ref.go:65", after := #[], guard := none },
  { dst := some 12, op := Op.move (Operand.tmp 1), type := 28, pos := "ref.go:65", after := #[], guard := none },
  { dst := some 13, op := Op.call { callee := Callee.builtin Builtin.append, args := #[Operand.tmp 11, Operand.tmp 12], argTypes := #[28, 28] }, type := 28, pos := "ref.go:65", after := #[{ on := 6, ground := Ground.data }, { on := 7, ground := Ground.data }, { on := 4, ground := Ground.chain }], guard := none },
  { dst := some 14, op := Op.call { callee := Callee.value (Operand.func 59), args := #[Operand.tmp 10, Operand.tmp 13], argTypes := #[24, 28] }, type := 22, pos := "ref.go:65", after := #[{ on := 5, ground := Ground.data }, { on := 8, ground := Ground.data }, { on := 8, ground := Ground.chain }], guard := none },
  { dst := some 15, op := Op.build 24 #[(0, Operand.tmp 9), (1, Operand.tmp 14)], type := 24, pos := "ref.go:65", after := #[{ on := 4, ground := Ground.data }, { on := 9, ground := Ground.data }], guard := none },
  { dst := none, op := Op.store 24 (Operand.tmp 4) (Operand.tmp 15), type := 0, pos := "ref.go:65", after := #[{ on := 10, ground := Ground.data }, { on := 9, ground := Ground.chain }, { on := 0, ground := Ground.phase }, { on := 1, ground := Ground.phase }, { on := 2, ground := Ground.phase }, { on := 3, ground := Ground.phase }, { on := 4, ground := Ground.phase }, { on := 5, ground := Ground.phase }, { on := 6, ground := Ground.phase }, { on := 7, ground := Ground.phase }, { on := 8, ground := Ground.phase }, { on := 9, ground := Ground.phase }, { on := 10, ground := Ground.phase }], guard := none }]
set_option maxRecDepth 20000 in
theorem rp_step0 (w0 : World) (k0 k1 hk n c : Nat) (A : Option Addr) (sl : Value) (bs : List Nat) (p1 p2 : Nat) (h0 : k0 < 18446744073709551616) (h1 : k1 < 18446744073709551616) (hsl : sl = .slice A n c) (hnc : n ≤ c) (hn : n ≤ 10000) (HBB : Hid (∀ x ∈ bs, x < 256)) (hbl0 : bs.length = n) (hp1 : Hid (p1 = sumB k0 k1 (1 :: bs))) (hp2 : Hid (p2 = sumB k0 k1 (2 :: bs)))
    (HF : Hid (∀ wx, Below (hk + 1) w0 wx → wx.cell? ⟨hk, 0, none⟩ = some (.int .u64 (k0 : Nat)) ∧ wx.cell? ⟨hk, 1, none⟩ = some (.int .u64 (k1 : Nat)) ∧ Rd wx hk 1 A n (ns .u8 bs))) (l : Array Bool) (a : Act) (wl : World) (hinv : ∃ b0 b1 b2 b3 b4 b5 b6 b7 b8 b9 b10 b11, l = #[b0, b1, b2, b3, b4, b5, b6, b7, b8, b9, b10, b11] ∧ PR w0 (.agg #[.int .u64 (k0 : Nat), .int .u64 (k1 : Nat)]) sl hk bs p1 p2 b0 b1 b2 b3 b4 b5 b6 b7 b8 b9 b10 b11 a wl) (hli : l.getD 0 true = false) (hdep : ∀ e ∈ (rpOps.getD 0 default).after, Region.binds .any e = true → l.getD e.on false = true)
    (K : Exit → Act → World → Prop) (hK : ∀ a' w', (∃ b0 b1 b2 b3 b4 b5 b6 b7 b8 b9 b10 b11, l.setIfInBounds 0 true = #[b0, b1, b2, b3, b4, b5, b6, b7, b8, b9, b10, b11] ∧ PR w0 (.agg #[.int .u64 (k0 : Nat), .int .u64 (k1 : Nat)]) sl hk bs p1 p2 b0 b1 b2 b3 b4 b5 b6 b7 b8 b9 b10 b11 a' w') → K .normal a' w') : wpList Try.prog rpOps.toArray K [rpOps.getD 0 default] a wl := by
  subst hsl
  obtain ⟨b0, b1, b2, b3, b4, b5, b6, b7, b8, b9, b10, b11, rfl, s5, s6, s7, s8, s9, s10, s11, s12, s13, s14, s15, rfl, q0, q1, q2, q3, q4, q5, q6, q7, q8, q9, q10, q11, q12, q13, q14, q15, hbl, hzl⟩ := hinv
  have hop : rpOps.getD 0 default = { dst := some 5, op := Op.load 24 (Operand.tmp 2), type := 24, pos := "ref.go:65", after := #[], guard := none } := rfl
  rw [hop] at hdep ⊢
  clear hop
  have hf := HF.out wl hbl
  have x0 := hf.1
  have x1 := hf.2.1
  have HROW := Lib.hid hf.2.2
  have HQ0 := Lib.hid q0
  have HQ1 := Lib.hid q1
  have HQ2 := Lib.hid q2
  have HQ3 := Lib.hid q3
  have HQ4 := Lib.hid q4
  have HQ5 := Lib.hid q5
  have HQ6 := Lib.hid q6
  have HQ7 := Lib.hid q7
  have HQ8 := Lib.hid q8
  have HQ9 := Lib.hid q9
  have HQ10 := Lib.hid q10
  have HQ11 := Lib.hid q11
  have HQ12 := Lib.hid q12
  have HQ13 := Lib.hid q13
  have HQ14 := Lib.hid q14
  have HQ15 := Lib.hid q15
  have HBL := Lib.hid hbl
  have HK := Lib.hid hK
  have e0 : b0 = false := by simpa [Array.getD] using hli
  clear q0 q1 q2 q3 q4 q5 q6 q7 q8 q9 q10 q11 q12 q13 q14 q15 hbl hf hdep hK hli
  go_wp2_with fail
  exact HK.out _ _ ⟨true, b1, b2, b3, b4, b5, b6, b7, b8, b9, b10, b11, rfl, _, s6, s7, s8, s9, s10, s11, s12, s13, s14, s15, rfl, (fun _ => rfl), (fun h h3 => HQ1.out h h3), (HQ2.out), (fun h h4 => HQ3.out h h4), (HQ4.out), (HQ5.out), (fun h h8 => HQ6.out h h8), (HQ7.out), (fun h h9 => HQ8.out h h9), (HQ9.out), (HQ10.out), (HQ11.out), (HQ12.out), (HQ13.out), (HQ14.out), (HQ15.out), (HBL.out), (hzl)⟩
set_option maxRecDepth 20000 in
theorem rp_step1 (w0 : World) (k0 k1 hk n c : Nat) (A : Option Addr) (sl : Value) (bs : List Nat) (p1 p2 : Nat) (h0 : k0 < 18446744073709551616) (h1 : k1 < 18446744073709551616) (hsl : sl = .slice A n c) (hnc : n ≤ c) (hn : n ≤ 10000) (HBB : Hid (∀ x ∈ bs, x < 256)) (hbl0 : bs.length = n) (hp1 : Hid (p1 = sumB k0 k1 (1 :: bs))) (hp2 : Hid (p2 = sumB k0 k1 (2 :: bs)))
    (HF : Hid (∀ wx, Below (hk + 1) w0 wx → wx.cell? ⟨hk, 0, none⟩ = some (.int .u64 (k0 : Nat)) ∧ wx.cell? ⟨hk, 1, none⟩ = some (.int .u64 (k1 : Nat)) ∧ Rd wx hk 1 A n (ns .u8 bs))) (l : Array Bool) (a : Act) (wl : World) (hinv : ∃ b0 b1 b2 b3 b4 b5 b6 b7 b8 b9 b10 b11, l = #[b0, b1, b2, b3, b4, b5, b6, b7, b8, b9, b10, b11] ∧ PR w0 (.agg #[.int .u64 (k0 : Nat), .int .u64 (k1 : Nat)]) sl hk bs p1 p2 b0 b1 b2 b3 b4 b5 b6 b7 b8 b9 b10 b11 a wl) (hli : l.getD 1 true = false) (hdep : ∀ e ∈ (rpOps.getD 1 default).after, Region.binds .any e = true → l.getD e.on false = true)
    (K : Exit → Act → World → Prop) (hK : ∀ a' w', (∃ b0 b1 b2 b3 b4 b5 b6 b7 b8 b9 b10 b11, l.setIfInBounds 1 true = #[b0, b1, b2, b3, b4, b5, b6, b7, b8, b9, b10, b11] ∧ PR w0 (.agg #[.int .u64 (k0 : Nat), .int .u64 (k1 : Nat)]) sl hk bs p1 p2 b0 b1 b2 b3 b4 b5 b6 b7 b8 b9 b10 b11 a' w') → K .normal a' w') : wpList Try.prog rpOps.toArray K [rpOps.getD 1 default] a wl := by
  subst hsl
  obtain ⟨b0, b1, b2, b3, b4, b5, b6, b7, b8, b9, b10, b11, rfl, s5, s6, s7, s8, s9, s10, s11, s12, s13, s14, s15, rfl, q0, q1, q2, q3, q4, q5, q6, q7, q8, q9, q10, q11, q12, q13, q14, q15, hbl, hzl⟩ := hinv
  have hop : rpOps.getD 1 default = { dst := some 6, op := Op.buildSlice 28 1 #[(0, Operand.const (Value.int IntKind.u8 1))], type := 28, pos := "ref.go:65", after := #[], guard := none } := rfl
  rw [hop] at hdep ⊢
  clear hop
  have hf := HF.out wl hbl
  have x0 := hf.1
  have x1 := hf.2.1
  have HROW := Lib.hid hf.2.2
  have HQ0 := Lib.hid q0
  have HQ1 := Lib.hid q1
  have HQ2 := Lib.hid q2
  have HQ3 := Lib.hid q3
  have HQ4 := Lib.hid q4
  have HQ5 := Lib.hid q5
  have HQ6 := Lib.hid q6
  have HQ7 := Lib.hid q7
  have HQ8 := Lib.hid q8
  have HQ9 := Lib.hid q9
  have HQ10 := Lib.hid q10
  have HQ11 := Lib.hid q11
  have HQ12 := Lib.hid q12
  have HQ13 := Lib.hid q13
  have HQ14 := Lib.hid q14
  have HQ15 := Lib.hid q15
  have HBL := Lib.hid hbl
  have HK := Lib.hid hK
  have e1 : b1 = false := by simpa [Array.getD] using hli
  clear q0 q1 q2 q3 q4 q5 q6 q7 q8 q9 q10 q11 q12 q13 q14 q15 hbl hf hdep hK hli
  go_wp2_with fail
  have hkp : Below wl.heap.size wl (wl.alloc (.cells #[.int .u8 1] 5)) := (Below.refl _ _).alloc (Nat.le_refl _) _
  have hnb : Rb (wl.alloc (.cells #[.int .u8 1] 5)) (hk + 2) (.slice (some ⟨wl.heap.size, 0, none⟩) 1 1) 1 := ⟨_, rfl, hzl, Blk.new wl _ _⟩
  exact HK.out _ _ ⟨b0, true, b2, b3, b4, b5, b6, b7, b8, b9, b10, b11, rfl, s5, _, s7, s8, s9, s10, s11, s12, s13, s14, s15, rfl, (HQ0.out), (fun _ _ => hnb), (HQ2.out), (fun h h4 => (HQ3.out h h4).keep hkp), (HQ4.out), (HQ5.out), (fun h h8 => (HQ6.out h h8).keep hkp), (HQ7.out), (fun h h9 => (HQ8.out h h9).keep hkp), (HQ9.out), (HQ10.out), (fun _ h6 _ h8 e => by
      obtain ⟨g, e2, _, hb⟩ := HQ6.out h6 h8
      rw [e2] at e
      injection e with e
      injection e with e
      injection e with e
      have := hb.lt
      omega), (HQ12.out), (HQ13.out), (fun h => (HQ14.out h).below hkp (HQ14.out h).lt), (fun h => (HQ15.out h).below hkp (HQ15.out h).lt), (HBL.out.trans (hkp.mono (show hk + 1 ≤ wl.heap.size by omega))), (Nat.le_trans hzl hkp.size)⟩
set_option maxRecDepth 20000 in
theorem rp_step2 (w0 : World) (k0 k1 hk n c : Nat) (A : Option Addr) (sl : Value) (bs : List Nat) (p1 p2 : Nat) (h0 : k0 < 18446744073709551616) (h1 : k1 < 18446744073709551616) (hsl : sl = .slice A n c) (hnc : n ≤ c) (hn : n ≤ 10000) (HBB : Hid (∀ x ∈ bs, x < 256)) (hbl0 : bs.length = n) (hp1 : Hid (p1 = sumB k0 k1 (1 :: bs))) (hp2 : Hid (p2 = sumB k0 k1 (2 :: bs)))
    (HF : Hid (∀ wx, Below (hk + 1) w0 wx → wx.cell? ⟨hk, 0, none⟩ = some (.int .u64 (k0 : Nat)) ∧ wx.cell? ⟨hk, 1, none⟩ = some (.int .u64 (k1 : Nat)) ∧ Rd wx hk 1 A n (ns .u8 bs))) (l : Array Bool) (a : Act) (wl : World) (hinv : ∃ b0 b1 b2 b3 b4 b5 b6 b7 b8 b9 b10 b11, l = #[b0, b1, b2, b3, b4, b5, b6, b7, b8, b9, b10, b11] ∧ PR w0 (.agg #[.int .u64 (k0 : Nat), .int .u64 (k1 : Nat)]) sl hk bs p1 p2 b0 b1 b2 b3 b4 b5 b6 b7 b8 b9 b10 b11 a wl) (hli : l.getD 2 true = false) (hdep : ∀ e ∈ (rpOps.getD 2 default).after, Region.binds .any e = true → l.getD e.on false = true)
    (K : Exit → Act → World → Prop) (hK : ∀ a' w', (∃ b0 b1 b2 b3 b4 b5 b6 b7 b8 b9 b10 b11, l.setIfInBounds 2 true = #[b0, b1, b2, b3, b4, b5, b6, b7, b8, b9, b10, b11] ∧ PR w0 (.agg #[.int .u64 (k0 : Nat), .int .u64 (k1 : Nat)]) sl hk bs p1 p2 b0 b1 b2 b3 b4 b5 b6 b7 b8 b9 b10 b11 a' w') → K .normal a' w') : wpList Try.prog rpOps.toArray K [rpOps.getD 2 default] a wl := by
  subst hsl
  obtain ⟨b0, b1, b2, b3, b4, b5, b6, b7, b8, b9, b10, b11, rfl, s5, s6, s7, s8, s9, s10, s11, s12, s13, s14, s15, rfl, q0, q1, q2, q3, q4, q5, q6, q7, q8, q9, q10, q11, q12, q13, q14, q15, hbl, hzl⟩ := hinv
  have hop : rpOps.getD 2 default = { dst := some 7, op := Op.move (Operand.tmp 1), type := 28, pos := "ref.go:65", after := #[], guard := none } := rfl
  rw [hop] at hdep ⊢
  clear hop
  have hf := HF.out wl hbl
  have x0 := hf.1
  have x1 := hf.2.1
  have HROW := Lib.hid hf.2.2
  have HQ0 := Lib.hid q0
  have HQ1 := Lib.hid q1
  have HQ2 := Lib.hid q2
  have HQ3 := Lib.hid q3
  have HQ4 := Lib.hid q4
  have HQ5 := Lib.hid q5
  have HQ6 := Lib.hid q6
  have HQ7 := Lib.hid q7
  have HQ8 := Lib.hid q8
  have HQ9 := Lib.hid q9
  have HQ10 := Lib.hid q10
  have HQ11 := Lib.hid q11
  have HQ12 := Lib.hid q12
  have HQ13 := Lib.hid q13
  have HQ14 := Lib.hid q14
  have HQ15 := Lib.hid q15
  have HBL := Lib.hid hbl
  have HK := Lib.hid hK
  have e2 : b2 = false := by simpa [Array.getD] using hli
  clear q0 q1 q2 q3 q4 q5 q6 q7 q8 q9 q10 q11 q12 q13 q14 q15 hbl hf hdep hK hli
  go_wp2_with fail
  exact HK.out _ _ ⟨b0, b1, true, b3, b4, b5, b6, b7, b8, b9, b10, b11, rfl, s5, s6, _, s8, s9, s10, s11, s12, s13, s14, s15, rfl, (HQ0.out), (fun h h3 => HQ1.out h h3), (fun _ => rfl), (fun h h4 => HQ3.out h h4), (HQ4.out), (HQ5.out), (fun h h8 => HQ6.out h h8), (HQ7.out), (fun h h9 => HQ8.out h h9), (HQ9.out), (HQ10.out), (HQ11.out), (HQ12.out), (HQ13.out), (HQ14.out), (HQ15.out), (HBL.out), (hzl)⟩
set_option maxRecDepth 20000 in
theorem rp_step3 (w0 : World) (k0 k1 hk n c : Nat) (A : Option Addr) (sl : Value) (bs : List Nat) (p1 p2 : Nat) (h0 : k0 < 18446744073709551616) (h1 : k1 < 18446744073709551616) (hsl : sl = .slice A n c) (hnc : n ≤ c) (hn : n ≤ 10000) (HBB : Hid (∀ x ∈ bs, x < 256)) (hbl0 : bs.length = n) (hp1 : Hid (p1 = sumB k0 k1 (1 :: bs))) (hp2 : Hid (p2 = sumB k0 k1 (2 :: bs)))
    (HF : Hid (∀ wx, Below (hk + 1) w0 wx → wx.cell? ⟨hk, 0, none⟩ = some (.int .u64 (k0 : Nat)) ∧ wx.cell? ⟨hk, 1, none⟩ = some (.int .u64 (k1 : Nat)) ∧ Rd wx hk 1 A n (ns .u8 bs))) (l : Array Bool) (a : Act) (wl : World) (hinv : ∃ b0 b1 b2 b3 b4 b5 b6 b7 b8 b9 b10 b11, l = #[b0, b1, b2, b3, b4, b5, b6, b7, b8, b9, b10, b11] ∧ PR w0 (.agg #[.int .u64 (k0 : Nat), .int .u64 (k1 : Nat)]) sl hk bs p1 p2 b0 b1 b2 b3 b4 b5 b6 b7 b8 b9 b10 b11 a wl) (hli : l.getD 3 true = false) (hdep : ∀ e ∈ (rpOps.getD 3 default).after, Region.binds .any e = true → l.getD e.on false = true)
    (K : Exit → Act → World → Prop) (hK : ∀ a' w', (∃ b0 b1 b2 b3 b4 b5 b6 b7 b8 b9 b10 b11, l.setIfInBounds 3 true = #[b0, b1, b2, b3, b4, b5, b6, b7, b8, b9, b10, b11] ∧ PR w0 (.agg #[.int .u64 (k0 : Nat), .int .u64 (k1 : Nat)]) sl hk bs p1 p2 b0 b1 b2 b3 b4 b5 b6 b7 b8 b9 b10 b11 a' w') → K .normal a' w') : wpList Try.prog rpOps.toArray K [rpOps.getD 3 default] a wl := by
  subst hsl
  obtain ⟨b0, b1, b2, b3, b4, b5, b6, b7, b8, b9, b10, b11, rfl, s5, s6, s7, s8, s9, s10, s11, s12, s13, s14, s15, rfl, q0, q1, q2, q3, q4, q5, q6, q7, q8, q9, q10, q11, q12, q13, q14, q15, hbl, hzl⟩ := hinv
  have hop : rpOps.getD 3 default = { dst := some 8, op := Op.call { callee := Callee.builtin Builtin.append, args := #[Operand.tmp 6, Operand.tmp 7], argTypes := #[28, 28] }, type := 28, pos := "ref.go:65", after := #[{ on := 1, ground := Ground.data }, { on := 2, ground := Ground.data }], guard := none } := rfl
  rw [hop] at hdep ⊢
  clear hop
  have hf := HF.out wl hbl
  have x0 := hf.1
  have x1 := hf.2.1
  have HROW := Lib.hid hf.2.2
  have HQ0 := Lib.hid q0
  have HQ1 := Lib.hid q1
  have HQ2 := Lib.hid q2
  have HQ3 := Lib.hid q3
  have HQ4 := Lib.hid q4
  have HQ5 := Lib.hid q5
  have HQ6 := Lib.hid q6
  have HQ7 := Lib.hid q7
  have HQ8 := Lib.hid q8
  have HQ9 := Lib.hid q9
  have HQ10 := Lib.hid q10
  have HQ11 := Lib.hid q11
  have HQ12 := Lib.hid q12
  have HQ13 := Lib.hid q13
  have HQ14 := Lib.hid q14
  have HQ15 := Lib.hid q15
  have HBL := Lib.hid hbl
  have HK := Lib.hid hK
  have d1 : b1 = true := by simpa [Array.getD] using hdep ⟨1, .data⟩ (by simp) (by rfl)
  have d2 : b2 = true := by simpa [Array.getD] using hdep ⟨2, .data⟩ (by simp) (by rfl)
  have e3 : b3 = false := by simpa [Array.getD] using hli
  clear q0 q1 q2 q3 q4 q5 q6 q7 q8 q9 q10 q11 q12 q13 q14 q15 hbl hf hdep hK hli
  have h4 : b4 = false := by cases h : b4 with | false => rfl | true => (have := HQ12.out h; rw [e3] at this; cases this)
  have h8 : b8 = false := by cases h : b8 with | false => rfl | true => (have := HQ13.out h; rw [h4] at this; cases this)
  have hrb := HQ1.out d1 e3
  obtain rfl := HQ2.out d2
  have HN := Lib.hid hrb.nats
  go_wp2_with (at_builtin; go_must (refine appn el8' rfl _ _ rfl rfl HN.out rfl HROW.out ?_ ?_ ?_))
  · exact room_ge (by omega)
  · intro v1 w1 ho1 hg1 hb1
    go_wp2_with fail
    have hap : Ap w1 v1 (1 :: bs) := by
      obtain ⟨A1, n1, c1, e1, h1, h2, h3⟩ := ho1.out
      exact ⟨A1, n1, c1, e1, h1, h2.out, h3.out⟩
    have hzz : hk + 2 ≤ w1.heap.size := Nat.le_trans hzl hb1.size
    exact HK.out _ _ ⟨b0, b1, b2, true, b4, b5, b6, b7, b8, b9, b10, b11, rfl, s5, s6, _, _, s9, s10, s11, s12, s13, s14, s15, rfl, (HQ0.out), (fun _ h => by cases h), (fun _ => rfl), (fun _ _ => hap), (HQ4.out), (HQ5.out), (fun h h8' => by
      obtain ⟨g2, e2, hB2, hk2⟩ := HQ6.out h h8'
      obtain ⟨g1, e1, hB1, hk1⟩ := hrb
      refine ⟨g2, e2, hB2, (hg1.block g2 hk2.lt ?_).trans hk2⟩
      intro he
      have := HQ11.out d1 h e3 h8'
      rw [e1] at he this
      rw [e2] at this
      simp [Value.ownBlock] at he
      subst he
      exact this rfl), (HQ7.out), (fun h _ => by rw [h8] at h; cases h), (HQ9.out), (HQ10.out), (fun _ _ h => by cases h), (fun _ => rfl), (HQ13.out), (fun h => (HQ14.out h).below hb1 (by omega)), (fun h => (HQ15.out h).below hb1 (by omega)), (HBL.out.trans (hb1.mono (by omega))), (hzz)⟩
set_option maxRecDepth 20000 in
theorem rp_step4 (w0 : World) (k0 k1 hk n c : Nat) (A : Option Addr) (sl : Value) (bs : List Nat) (p1 p2 : Nat) (h0 : k0 < 18446744073709551616) (h1 : k1 < 18446744073709551616) (hsl : sl = .slice A n c) (hnc : n ≤ c) (hn : n ≤ 10000) (HBB : Hid (∀ x ∈ bs, x < 256)) (hbl0 : bs.length = n) (hp1 : Hid (p1 = sumB k0 k1 (1 :: bs))) (hp2 : Hid (p2 = sumB k0 k1 (2 :: bs)))
    (HF : Hid (∀ wx, Below (hk + 1) w0 wx → wx.cell? ⟨hk, 0, none⟩ = some (.int .u64 (k0 : Nat)) ∧ wx.cell? ⟨hk, 1, none⟩ = some (.int .u64 (k1 : Nat)) ∧ Rd wx hk 1 A n (ns .u8 bs))) (l : Array Bool) (a : Act) (wl : World) (hinv : ∃ b0 b1 b2 b3 b4 b5 b6 b7 b8 b9 b10 b11, l = #[b0, b1, b2, b3, b4, b5, b6, b7, b8, b9, b10, b11] ∧ PR w0 (.agg #[.int .u64 (k0 : Nat), .int .u64 (k1 : Nat)]) sl hk bs p1 p2 b0 b1 b2 b3 b4 b5 b6 b7 b8 b9 b10 b11 a wl) (hli : l.getD 4 true = false) (hdep : ∀ e ∈ (rpOps.getD 4 default).after, Region.binds .any e = true → l.getD e.on false = true)
    (K : Exit → Act → World → Prop) (hK : ∀ a' w', (∃ b0 b1 b2 b3 b4 b5 b6 b7 b8 b9 b10 b11, l.setIfInBounds 4 true = #[b0, b1, b2, b3, b4, b5, b6, b7, b8, b9, b10, b11] ∧ PR w0 (.agg #[.int .u64 (k0 : Nat), .int .u64 (k1 : Nat)]) sl hk bs p1 p2 b0 b1 b2 b3 b4 b5 b6 b7 b8 b9 b10 b11 a' w') → K .normal a' w') : wpList Try.prog rpOps.toArray K [rpOps.getD 4 default] a wl := by
  subst hsl
  obtain ⟨b0, b1, b2, b3, b4, b5, b6, b7, b8, b9, b10, b11, rfl, s5, s6, s7, s8, s9, s10, s11, s12, s13, s14, s15, rfl, q0, q1, q2, q3, q4, q5, q6, q7, q8, q9, q10, q11, q12, q13, q14, q15, hbl, hzl⟩ := hinv
  have hop : rpOps.getD 4 default = { dst := some 9, op := Op.call { callee := Callee.value (Operand.func 59), args := #[Operand.tmp 5, Operand.tmp 8], argTypes := #[24, 28] }, type := 22, pos := "ref.go:65", after := #[{ on := 0, ground := Ground.data }, { on := 3, ground := Ground.data }, { on := 3, ground := Ground.chain }], guard := none } := rfl
  rw [hop] at hdep ⊢
  clear hop
  have hf := HF.out wl hbl
  have x0 := hf.1
  have x1 := hf.2.1
  have HROW := Lib.hid hf.2.2
  have HQ0 := Lib.hid q0
  have HQ1 := Lib.hid q1
  have HQ2 := Lib.hid q2
  have HQ3 := Lib.hid q3
  have HQ4 := Lib.hid q4
  have HQ5 := Lib.hid q5
  have HQ6 := Lib.hid q6
  have HQ7 := Lib.hid q7
  have HQ8 := Lib.hid q8
  have HQ9 := Lib.hid q9
  have HQ10 := Lib.hid q10
  have HQ11 := Lib.hid q11
  have HQ12 := Lib.hid q12
  have HQ13 := Lib.hid q13
  have HQ14 := Lib.hid q14
  have HQ15 := Lib.hid q15
  have HBL := Lib.hid hbl
  have HK := Lib.hid hK
  have d0 : b0 = true := by simpa [Array.getD] using hdep ⟨0, .data⟩ (by simp) (by rfl)
  have d3 : b3 = true := by simpa [Array.getD] using hdep ⟨3, .data⟩ (by simp) (by rfl)
  have e4 : b4 = false := by simpa [Array.getD] using hli
  clear q0 q1 q2 q3 q4 q5 q6 q7 q8 q9 q10 q11 q12 q13 q14 q15 hbl hf hdep hK hli
  obtain rfl := HQ0.out d0
  obtain ⟨A1, n1, c1, rfl, hc1, hl1, hr1⟩ := HQ3.out d3 e4
  have HR1 := Lib.hid hr1
  clear hr1
  have hn1 : n1 ≤ 100000 := by rw [← hl1]; simp; omega
  have HL1 := Lib.hid hl1
  clear hl1
  go_wp2_with fail
  refine (rsum_any k0 k1 n1 c1 A1 (1 :: bs) wl h0 h1 HR1.out hc1 hn1 (by simp; exact HBB.out)).mono ?_
  rintro e w9 ⟨rfl, hb9⟩
  rw [← hp1.out]
  go_wp2_with fail
  exact HK.out _ _ ⟨b0, b1, b2, b3, true, b5, b6, b7, b8, b9, b10, b11, rfl, _, s6, s7, _, _, s10, s11, s12, s13, s14, s15, rfl, (fun _ => rfl), (fun h h3 => (HQ1.out h h3).keep hb9), (HQ2.out), (fun _ h => by cases h), (fun _ => rfl), (HQ5.out), (fun h h8 => (HQ6.out h h8).keep hb9), (HQ7.out), (fun h h9 => (HQ8.out h h9).keep hb9), (HQ9.out), (HQ10.out), (HQ11.out), (fun _ => d3), (fun _ => rfl), (fun h => (HQ14.out h).below hb9 (HQ14.out h).lt), (fun h => (HQ15.out h).below hb9 (HQ15.out h).lt), (HBL.out.trans (hb9.mono (show hk + 1 ≤ wl.heap.size by omega))), (Nat.le_trans hzl hb9.size)⟩
set_option maxRecDepth 20000 in
theorem rp_step5 (w0 : World) (k0 k1 hk n c : Nat) (A : Option Addr) (sl : Value) (bs : List Nat) (p1 p2 : Nat) (h0 : k0 < 18446744073709551616) (h1 : k1 < 18446744073709551616) (hsl : sl = .slice A n c) (hnc : n ≤ c) (hn : n ≤ 10000) (HBB : Hid (∀ x ∈ bs, x < 256)) (hbl0 : bs.length = n) (hp1 : Hid (p1 = sumB k0 k1 (1 :: bs))) (hp2 : Hid (p2 = sumB k0 k1 (2 :: bs)))
    (HF : Hid (∀ wx, Below (hk + 1) w0 wx → wx.cell? ⟨hk, 0, none⟩ = some (.int .u64 (k0 : Nat)) ∧ wx.cell? ⟨hk, 1, none⟩ = some (.int .u64 (k1 : Nat)) ∧ Rd wx hk 1 A n (ns .u8 bs))) (l : Array Bool) (a : Act) (wl : World) (hinv : ∃ b0 b1 b2 b3 b4 b5 b6 b7 b8 b9 b10 b11, l = #[b0, b1, b2, b3, b4, b5, b6, b7, b8, b9, b10, b11] ∧ PR w0 (.agg #[.int .u64 (k0 : Nat), .int .u64 (k1 : Nat)]) sl hk bs p1 p2 b0 b1 b2 b3 b4 b5 b6 b7 b8 b9 b10 b11 a wl) (hli : l.getD 5 true = false) (hdep : ∀ e ∈ (rpOps.getD 5 default).after, Region.binds .any e = true → l.getD e.on false = true)
    (K : Exit → Act → World → Prop) (hK : ∀ a' w', (∃ b0 b1 b2 b3 b4 b5 b6 b7 b8 b9 b10 b11, l.setIfInBounds 5 true = #[b0, b1, b2, b3, b4, b5, b6, b7, b8, b9, b10, b11] ∧ PR w0 (.agg #[.int .u64 (k0 : Nat), .int .u64 (k1 : Nat)]) sl hk bs p1 p2 b0 b1 b2 b3 b4 b5 b6 b7 b8 b9 b10 b11 a' w') → K .normal a' w') : wpList Try.prog rpOps.toArray K [rpOps.getD 5 default] a wl := by
  subst hsl
  obtain ⟨b0, b1, b2, b3, b4, b5, b6, b7, b8, b9, b10, b11, rfl, s5, s6, s7, s8, s9, s10, s11, s12, s13, s14, s15, rfl, q0, q1, q2, q3, q4, q5, q6, q7, q8, q9, q10, q11, q12, q13, q14, q15, hbl, hzl⟩ := hinv
  have hop : rpOps.getD 5 default = { dst := some 10, op := Op.load 24 (Operand.tmp 2), type := 24, pos := "ref.go:65", after := #[], guard := none } := rfl
  rw [hop] at hdep ⊢
  clear hop
  have hf := HF.out wl hbl
  have x0 := hf.1
  have x1 := hf.2.1
  have HROW := Lib.hid hf.2.2
  have HQ0 := Lib.hid q0
  have HQ1 := Lib.hid q1
  have HQ2 := Lib.hid q2
  have HQ3 := Lib.hid q3
  have HQ4 := Lib.hid q4
  have HQ5 := Lib.hid q5
  have HQ6 := Lib.hid q6
  have HQ7 := Lib.hid q7
  have HQ8 := Lib.hid q8
  have HQ9 := Lib.hid q9
  have HQ10 := Lib.hid q10
  have HQ11 := Lib.hid q11
  have HQ12 := Lib.hid q12
  have HQ13 := Lib.hid q13
  have HQ14 := Lib.hid q14
  have HQ15 := Lib.hid q15
  have HBL := Lib.hid hbl
  have HK := Lib.hid hK
  have e5 : b5 = false := by simpa [Array.getD] using hli
  clear q0 q1 q2 q3 q4 q5 q6 q7 q8 q9 q10 q11 q12 q13 q14 q15 hbl hf hdep hK hli
  go_wp2_with fail
  exact HK.out _ _ ⟨b0, b1, b2, b3, b4, true, b6, b7, b8, b9, b10, b11, rfl, s5, s6, s7, s8, s9, _, s11, s12, s13, s14, s15, rfl, (HQ0.out), (fun h h3 => HQ1.out h h3), (HQ2.out), (fun h h4 => HQ3.out h h4), (HQ4.out), (fun _ => rfl), (fun h h8 => HQ6.out h h8), (HQ7.out), (fun h h9 => HQ8.out h h9), (HQ9.out), (HQ10.out), (HQ11.out), (HQ12.out), (HQ13.out), (HQ14.out), (HQ15.out), (HBL.out), (hzl)⟩
set_option maxRecDepth 20000 in
theorem rp_step6 (w0 : World) (k0 k1 hk n c : Nat) (A : Option Addr) (sl : Value) (bs : List Nat) (p1 p2 : Nat) (h0 : k0 < 18446744073709551616) (h1 : k1 < 18446744073709551616) (hsl : sl = .slice A n c) (hnc : n ≤ c) (hn : n ≤ 10000) (HBB : Hid (∀ x ∈ bs, x < 256)) (hbl0 : bs.length = n) (hp1 : Hid (p1 = sumB k0 k1 (1 :: bs))) (hp2 : Hid (p2 = sumB k0 k1 (2 :: bs)))
    (HF : Hid (∀ wx, Below (hk + 1) w0 wx → wx.cell? ⟨hk, 0, none⟩ = some (.int .u64 (k0 : Nat)) ∧ wx.cell? ⟨hk, 1, none⟩ = some (.int .u64 (k1 : Nat)) ∧ Rd wx hk 1 A n (ns .u8 bs))) (l : Array Bool) (a : Act) (wl : World) (hinv : ∃ b0 b1 b2 b3 b4 b5 b6 b7 b8 b9 b10 b11, l = #[b0, b1, b2, b3, b4, b5, b6, b7, b8, b9, b10, b11] ∧ PR w0 (.agg #[.int .u64 (k0 : Nat), .int .u64 (k1 : Nat)]) sl hk bs p1 p2 b0 b1 b2 b3 b4 b5 b6 b7 b8 b9 b10 b11 a wl) (hli : l.getD 6 true = false) (hdep : ∀ e ∈ (rpOps.getD 6 default).after, Region.binds .any e = true → l.getD e.on false = true)
    (K : Exit → Act → World → Prop) (hK : ∀ a' w', (∃ b0 b1 b2 b3 b4 b5 b6 b7 b8 b9 b10 b11, l.setIfInBounds 6 true = #[b0, b1, b2, b3, b4, b5, b6, b7, b8, b9, b10, b11] ∧ PR w0 (.agg #[.int .u64 (k0 : Nat), .int .u64 (k1 : Nat)]) sl hk bs p1 p2 b0 b1 b2 b3 b4 b5 b6 b7 b8 b9 b10 b11 a' w') → K .normal a' w') : wpList Try.prog rpOps.toArray K [rpOps.getD 6 default] a wl := by
  subst hsl
  obtain ⟨b0, b1, b2, b3, b4, b5, b6, b7, b8, b9, b10, b11, rfl, s5, s6, s7, s8, s9, s10, s11, s12, s13, s14, s15, rfl, q0, q1, q2, q3, q4, q5, q6, q7, q8, q9, q10, q11, q12, q13, q14, q15, hbl, hzl⟩ := hinv
  have hop : rpOps.getD 6 default = { dst := some 11, op := Op.buildSlice 28 1 #[(0, Operand.const (Value.int IntKind.u8 2))], type := 28, pos := "ref.go:65", after := #[], guard := none } := rfl
  rw [hop] at hdep ⊢
  clear hop
  have hf := HF.out wl hbl
  have x0 := hf.1
  have x1 := hf.2.1
  have HROW := Lib.hid hf.2.2
  have HQ0 := Lib.hid q0
  have HQ1 := Lib.hid q1
  have HQ2 := Lib.hid q2
  have HQ3 := Lib.hid q3
  have HQ4 := Lib.hid q4
  have HQ5 := Lib.hid q5
  have HQ6 := Lib.hid q6
  have HQ7 := Lib.hid q7
  have HQ8 := Lib.hid q8
  have HQ9 := Lib.hid q9
  have HQ10 := Lib.hid q10
  have HQ11 := Lib.hid q11
  have HQ12 := Lib.hid q12
  have HQ13 := Lib.hid q13
  have HQ14 := Lib.hid q14
  have HQ15 := Lib.hid q15
  have HBL := Lib.hid hbl
  have HK := Lib.hid hK
  have e6 : b6 = false := by simpa [Array.getD] using hli
  clear q0 q1 q2 q3 q4 q5 q6 q7 q8 q9 q10 q11 q12 q13 q14 q15 hbl hf hdep hK hli
  go_wp2_with fail
  have hkp : Below wl.heap.size wl (wl.alloc (.cells #[.int .u8 2] 5)) := (Below.refl _ _).alloc (Nat.le_refl _) _
  have hnb : Rb (wl.alloc (.cells #[.int .u8 2] 5)) (hk + 2) (.slice (some ⟨wl.heap.size, 0, none⟩) 1 1) 2 := ⟨_, rfl, hzl, Blk.new wl _ _⟩
  exact HK.out _ _ ⟨b0, b1, b2, b3, b4, b5, true, b7, b8, b9, b10, b11, rfl, s5, s6, s7, s8, s9, s10, _, s12, s13, s14, s15, rfl, (HQ0.out), (fun h h3 => (HQ1.out h h3).keep hkp), (HQ2.out), (fun h h4 => (HQ3.out h h4).keep hkp), (HQ4.out), (HQ5.out), (fun _ _ => hnb), (HQ7.out), (fun h h9 => (HQ8.out h h9).keep hkp), (HQ9.out), (HQ10.out), (fun h1 _ h3 _ e => by
      obtain ⟨g, e2, _, hb⟩ := HQ1.out h1 h3
      rw [e2] at e
      injection e with e
      injection e with e
      injection e with e
      have := hb.lt
      omega), (HQ12.out), (HQ13.out), (fun h => (HQ14.out h).below hkp (HQ14.out h).lt), (fun h => (HQ15.out h).below hkp (HQ15.out h).lt), (HBL.out.trans (hkp.mono (show hk + 1 ≤ wl.heap.size by omega))), (Nat.le_trans hzl hkp.size)⟩
set_option maxRecDepth 20000 in
theorem rp_step7 (w0 : World) (k0 k1 hk n c : Nat) (A : Option Addr) (sl : Value) (bs : List Nat) (p1 p2 : Nat) (h0 : k0 < 18446744073709551616) (h1 : k1 < 18446744073709551616) (hsl : sl = .slice A n c) (hnc : n ≤ c) (hn : n ≤ 10000) (HBB : Hid (∀ x ∈ bs, x < 256)) (hbl0 : bs.length = n) (hp1 : Hid (p1 = sumB k0 k1 (1 :: bs))) (hp2 : Hid (p2 = sumB k0 k1 (2 :: bs)))
    (HF : Hid (∀ wx, Below (hk + 1) w0 wx → wx.cell? ⟨hk, 0, none⟩ = some (.int .u64 (k0 : Nat)) ∧ wx.cell? ⟨hk, 1, none⟩ = some (.int .u64 (k1 : Nat)) ∧ Rd wx hk 1 A n (ns .u8 bs))) (l : Array Bool) (a : Act) (wl : World) (hinv : ∃ b0 b1 b2 b3 b4 b5 b6 b7 b8 b9 b10 b11, l = #[b0, b1, b2, b3, b4, b5, b6, b7, b8, b9, b10, b11] ∧ PR w0 (.agg #[.int .u64 (k0 : Nat), .int .u64 (k1 : Nat)]) sl hk bs p1 p2 b0 b1 b2 b3 b4 b5 b6 b7 b8 b9 b10 b11 a wl) (hli : l.getD 7 true = false) (hdep : ∀ e ∈ (rpOps.getD 7 default).after, Region.binds .any e = true → l.getD e.on false = true)
    (K : Exit → Act → World → Prop) (hK : ∀ a' w', (∃ b0 b1 b2 b3 b4 b5 b6 b7 b8 b9 b10 b11, l.setIfInBounds 7 true = #[b0, b1, b2, b3, b4, b5, b6, b7, b8, b9, b10, b11] ∧ PR w0 (.agg #[.int .u64 (k0 : Nat), .int .u64 (k1 : Nat)]) sl hk bs p1 p2 b0 b1 b2 b3 b4 b5 b6 b7 b8 b9 b10 b11 a' w') → K .normal a' w') : wpList Try.prog rpOps.toArray K [rpOps.getD 7 default] a wl := by
  subst hsl
  obtain ⟨b0, b1, b2, b3, b4, b5, b6, b7, b8, b9, b10, b11, rfl, s5, s6, s7, s8, s9, s10, s11, s12, s13, s14, s15, rfl, q0, q1, q2, q3, q4, q5, q6, q7, q8, q9, q10, q11, q12, q13, q14, q15, hbl, hzl⟩ := hinv
  have hop : rpOps.getD 7 default = { dst := some 12, op := Op.move (Operand.tmp 1), type := 28, pos := "ref.go:65", after := #[], guard := none } := rfl
  rw [hop] at hdep ⊢
  clear hop
  have hf := HF.out wl hbl
  have x0 := hf.1
  have x1 := hf.2.1
  have HROW := Lib.hid hf.2.2
  have HQ0 := Lib.hid q0
  have HQ1 := Lib.hid q1
  have HQ2 := Lib.hid q2
  have HQ3 := Lib.hid q3
  have HQ4 := Lib.hid q4
  have HQ5 := Lib.hid q5
  have HQ6 := Lib.hid q6
  have HQ7 := Lib.hid q7
  have HQ8 := Lib.hid q8
  have HQ9 := Lib.hid q9
  have HQ10 := Lib.hid q10
  have HQ11 := Lib.hid q11
  have HQ12 := Lib.hid q12
  have HQ13 := Lib.hid q13
  have HQ14 := Lib.hid q14
  have HQ15 := Lib.hid q15
  have HBL := Lib.hid hbl
  have HK := Lib.hid hK
  have e7 : b7 = false := by simpa [Array.getD] using hli
  clear q0 q1 q2 q3 q4 q5 q6 q7 q8 q9 q10 q11 q12 q13 q14 q15 hbl hf hdep hK hli
  go_wp2_with fail
  exact HK.out _ _ ⟨b0, b1, b2, b3, b4, b5, b6, true, b8, b9, b10, b11, rfl, s5, s6, s7, s8, s9, s10, s11, _, s13, s14, s15, rfl, (HQ0.out), (fun h h3 => HQ1.out h h3), (HQ2.out), (fun h h4 => HQ3.out h h4), (HQ4.out), (HQ5.out), (fun h h8 => HQ6.out h h8), (fun _ => rfl), (fun h h9 => HQ8.out h h9), (HQ9.out), (HQ10.out), (HQ11.out), (HQ12.out), (HQ13.out), (HQ14.out), (HQ15.out), (HBL.out), (hzl)⟩
set_option maxRecDepth 20000 in
theorem rp_step8 (w0 : World) (k0 k1 hk n c : Nat) (A : Option Addr) (sl : Value) (bs : List Nat) (p1 p2 : Nat) (h0 : k0 < 18446744073709551616) (h1 : k1 < 18446744073709551616) (hsl : sl = .slice A n c) (hnc : n ≤ c) (hn : n ≤ 10000) (HBB : Hid (∀ x ∈ bs, x < 256)) (hbl0 : bs.length = n) (hp1 : Hid (p1 = sumB k0 k1 (1 :: bs))) (hp2 : Hid (p2 = sumB k0 k1 (2 :: bs)))
    (HF : Hid (∀ wx, Below (hk + 1) w0 wx → wx.cell? ⟨hk, 0, none⟩ = some (.int .u64 (k0 : Nat)) ∧ wx.cell? ⟨hk, 1, none⟩ = some (.int .u64 (k1 : Nat)) ∧ Rd wx hk 1 A n (ns .u8 bs))) (l : Array Bool) (a : Act) (wl : World) (hinv : ∃ b0 b1 b2 b3 b4 b5 b6 b7 b8 b9 b10 b11, l = #[b0, b1, b2, b3, b4, b5, b6, b7, b8, b9, b10, b11] ∧ PR w0 (.agg #[.int .u64 (k0 : Nat), .int .u64 (k1 : Nat)]) sl hk bs p1 p2 b0 b1 b2 b3 b4 b5 b6 b7 b8 b9 b10 b11 a wl) (hli : l.getD 8 true = false) (hdep : ∀ e ∈ (rpOps.getD 8 default).after, Region.binds .any e = true → l.getD e.on false = true)
    (K : Exit → Act → World → Prop) (hK : ∀ a' w', (∃ b0 b1 b2 b3 b4 b5 b6 b7 b8 b9 b10 b11, l.setIfInBounds 8 true = #[b0, b1, b2, b3, b4, b5, b6, b7, b8, b9, b10, b11] ∧ PR w0 (.agg #[.int .u64 (k0 : Nat), .int .u64 (k1 : Nat)]) sl hk bs p1 p2 b0 b1 b2 b3 b4 b5 b6 b7 b8 b9 b10 b11 a' w') → K .normal a' w') : wpList Try.prog rpOps.toArray K [rpOps.getD 8 default] a wl := by
  subst hsl
  obtain ⟨b0, b1, b2, b3, b4, b5, b6, b7, b8, b9, b10, b11, rfl, s5, s6, s7, s8, s9, s10, s11, s12, s13, s14, s15, rfl, q0, q1, q2, q3, q4, q5, q6, q7, q8, q9, q10, q11, q12, q13, q14, q15, hbl, hzl⟩ := hinv
  have hop : rpOps.getD 8 default = { dst := some 13, op := Op.call { callee := Callee.builtin Builtin.append, args := #[Operand.tmp 11, Operand.tmp 12], argTypes := #[28, 28] }, type := 28, pos := "ref.go:65", after := #[{ on := 6, ground := Ground.data }, { on := 7, ground := Ground.data }, { on := 4, ground := Ground.chain }], guard := none } := rfl
  rw [hop] at hdep ⊢
  clear hop
  have hf := HF.out wl hbl
  have x0 := hf.1
  have x1 := hf.2.1
  have HROW := Lib.hid hf.2.2
  have HQ0 := Lib.hid q0
  have HQ1 := Lib.hid q1
  have HQ2 := Lib.hid q2
  have HQ3 := Lib.hid q3
  have HQ4 := Lib.hid q4
  have HQ5 := Lib.hid q5
  have HQ6 := Lib.hid q6
  have HQ7 := Lib.hid q7
  have HQ8 := Lib.hid q8
  have HQ9 := Lib.hid q9
  have HQ10 := Lib.hid q10
  have HQ11 := Lib.hid q11
  have HQ12 := Lib.hid q12
  have HQ13 := Lib.hid q13
  have HQ14 := Lib.hid q14
  have HQ15 := Lib.hid q15
  have HBL := Lib.hid hbl
  have HK := Lib.hid hK
  have d6 : b6 = true := by simpa [Array.getD] using hdep ⟨6, .data⟩ (by simp) (by rfl)
  have d7 : b7 = true := by simpa [Array.getD] using hdep ⟨7, .data⟩ (by simp) (by rfl)
  have d4 : b4 = true := by simpa [Array.getD] using hdep ⟨4, .chain⟩ (by simp) (by rfl)
  have e8 : b8 = false := by simpa [Array.getD] using hli
  clear q0 q1 q2 q3 q4 q5 q6 q7 q8 q9 q10 q11 q12 q13 q14 q15 hbl hf hdep hK hli
  have h3 : b3 = true := HQ12.out d4
  have hrb := HQ6.out d6 e8
  obtain rfl := HQ7.out d7
  have HN := Lib.hid hrb.nats
  go_wp2_with (at_builtin; go_must (refine appn el8' rfl _ _ rfl rfl HN.out rfl HROW.out ?_ ?_ ?_))
  · exact room_ge (by omega)
  · intro v1 w1 ho1 hg1 hb1
    go_wp2_with fail
    have hap : Ap w1 v1 (2 :: bs) := by
      obtain ⟨A1, n1, c1, e1, h1, h2, h3⟩ := ho1.out
      exact ⟨A1, n1, c1, e1, h1, h2.out, h3.out⟩
    have hzz : hk + 2 ≤ w1.heap.size := Nat.le_trans hzl hb1.size
    exact HK.out _ _ ⟨b0, b1, b2, b3, b4, b5, b6, b7, true, b9, b10, b11, rfl, s5, s6, s7, s8, s9, s10, s11, _, _, s14, s15, rfl, (HQ0.out), (fun _ h => by rw [h3] at h; cases h), (HQ2.out), (fun _ h => by rw [d4] at h; cases h), (HQ4.out), (HQ5.out), (fun _ h => by cases h), (fun _ => rfl), (fun _ _ => hap), (HQ9.out), (HQ10.out), (fun _ _ _ h => by cases h), (HQ12.out), (fun _ => d4), (fun h => (HQ14.out h).below hb1 (by omega)), (fun h => (HQ15.out h).below hb1 (by omega)), (HBL.out.trans (hb1.mono (by omega))), (hzz)⟩
set_option maxRecDepth 20000 in
theorem rp_step9 (w0 : World) (k0 k1 hk n c : Nat) (A : Option Addr) (sl : Value) (bs : List Nat) (p1 p2 : Nat) (h0 : k0 < 18446744073709551616) (h1 : k1 < 18446744073709551616) (hsl : sl = .slice A n c) (hnc : n ≤ c) (hn : n ≤ 10000) (HBB : Hid (∀ x ∈ bs, x < 256)) (hbl0 : bs.length = n) (hp1 : Hid (p1 = sumB k0 k1 (1 :: bs))) (hp2 : Hid (p2 = sumB k0 k1 (2 :: bs)))
    (HF : Hid (∀ wx, Below (hk + 1) w0 wx → wx.cell? ⟨hk, 0, none⟩ = some (.int .u64 (k0 : Nat)) ∧ wx.cell? ⟨hk, 1, none⟩ = some (.int .u64 (k1 : Nat)) ∧ Rd wx hk 1 A n (ns .u8 bs))) (l : Array Bool) (a : Act) (wl : World) (hinv : ∃ b0 b1 b2 b3 b4 b5 b6 b7 b8 b9 b10 b11, l = #[b0, b1, b2, b3, b4, b5, b6, b7, b8, b9, b10, b11] ∧ PR w0 (.agg #[.int .u64 (k0 : Nat), .int .u64 (k1 : Nat)]) sl hk bs p1 p2 b0 b1 b2 b3 b4 b5 b6 b7 b8 b9 b10 b11 a wl) (hli : l.getD 9 true = false) (hdep : ∀ e ∈ (rpOps.getD 9 default).after, Region.binds .any e = true → l.getD e.on false = true)
    (K : Exit → Act → World → Prop) (hK : ∀ a' w', (∃ b0 b1 b2 b3 b4 b5 b6 b7 b8 b9 b10 b11, l.setIfInBounds 9 true = #[b0, b1, b2, b3, b4, b5, b6, b7, b8, b9, b10, b11] ∧ PR w0 (.agg #[.int .u64 (k0 : Nat), .int .u64 (k1 : Nat)]) sl hk bs p1 p2 b0 b1 b2 b3 b4 b5 b6 b7 b8 b9 b10 b11 a' w') → K .normal a' w') : wpList Try.prog rpOps.toArray K [rpOps.getD 9 default] a wl := by
  subst hsl
  obtain ⟨b0, b1, b2, b3, b4, b5, b6, b7, b8, b9, b10, b11, rfl, s5, s6, s7, s8, s9, s10, s11, s12, s13, s14, s15, rfl, q0, q1, q2, q3, q4, q5, q6, q7, q8, q9, q10, q11, q12, q13, q14, q15, hbl, hzl⟩ := hinv
  have hop : rpOps.getD 9 default = { dst := some 14, op := Op.call { callee := Callee.value (Operand.func 59), args := #[Operand.tmp 10, Operand.tmp 13], argTypes := #[24, 28] }, type := 22, pos := "ref.go:65", after := #[{ on := 5, ground := Ground.data }, { on := 8, ground := Ground.data }, { on := 8, ground := Ground.chain }], guard := none } := rfl
  rw [hop] at hdep ⊢
  clear hop
  have hf := HF.out wl hbl
  have x0 := hf.1
  have x1 := hf.2.1
  have HROW := Lib.hid hf.2.2
  have HQ0 := Lib.hid q0
  have HQ1 := Lib.hid q1
  have HQ2 := Lib.hid q2
  have HQ3 := Lib.hid q3
  have HQ4 := Lib.hid q4
  have HQ5 := Lib.hid q5
  have HQ6 := Lib.hid q6
  have HQ7 := Lib.hid q7
  have HQ8 := Lib.hid q8
  have HQ9 := Lib.hid q9
  have HQ10 := Lib.hid q10
  have HQ11 := Lib.hid q11
  have HQ12 := Lib.hid q12
  have HQ13 := Lib.hid q13
  have HQ14 := Lib.hid q14
  have HQ15 := Lib.hid q15
  have HBL := Lib.hid hbl
  have HK := Lib.hid hK
  have d5 : b5 = true := by simpa [Array.getD] using hdep ⟨5, .data⟩ (by simp) (by rfl)
  have d8 : b8 = true := by simpa [Array.getD] using hdep ⟨8, .data⟩ (by simp) (by rfl)
  have e9 : b9 = false := by simpa [Array.getD] using hli
  clear q0 q1 q2 q3 q4 q5 q6 q7 q8 q9 q10 q11 q12 q13 q14 q15 hbl hf hdep hK hli
  obtain rfl := HQ5.out d5
  obtain ⟨A1, n1, c1, rfl, hc1, hl1, hr1⟩ := HQ8.out d8 e9
  have HR1 := Lib.hid hr1
  clear hr1
  have hn1 : n1 ≤ 100000 := by rw [← hl1]; simp; omega
  have HL1 := Lib.hid hl1
  clear hl1
  go_wp2_with fail
  refine (rsum_any k0 k1 n1 c1 A1 (2 :: bs) wl h0 h1 HR1.out hc1 hn1 (by simp; exact HBB.out)).mono ?_
  rintro e w9 ⟨rfl, hb9⟩
  rw [← hp2.out]
  go_wp2_with fail
  exact HK.out _ _ ⟨b0, b1, b2, b3, b4, b5, b6, b7, b8, true, b10, b11, rfl, s5, s6, s7, s8, s9, _, s11, s12, _, _, s15, rfl, (HQ0.out), (fun h h3 => (HQ1.out h h3).keep hb9), (HQ2.out), (fun h h4 => (HQ3.out h h4).keep hb9), (HQ4.out), (fun _ => rfl), (fun h h8 => (HQ6.out h h8).keep hb9), (HQ7.out), (fun _ h => by cases h), (fun _ => rfl), (HQ10.out), (HQ11.out), (HQ12.out), (HQ13.out), (fun h => (HQ14.out h).below hb9 (HQ14.out h).lt), (fun h => (HQ15.out h).below hb9 (HQ15.out h).lt), (HBL.out.trans (hb9.mono (show hk + 1 ≤ wl.heap.size by omega))), (Nat.le_trans hzl hb9.size)⟩
set_option maxRecDepth 20000 in
theorem rp_step10 (w0 : World) (k0 k1 hk n c : Nat) (A : Option Addr) (sl : Value) (bs : List Nat) (p1 p2 : Nat) (h0 : k0 < 18446744073709551616) (h1 : k1 < 18446744073709551616) (hsl : sl = .slice A n c) (hnc : n ≤ c) (hn : n ≤ 10000) (HBB : Hid (∀ x ∈ bs, x < 256)) (hbl0 : bs.length = n) (hp1 : Hid (p1 = sumB k0 k1 (1 :: bs))) (hp2 : Hid (p2 = sumB k0 k1 (2 :: bs)))
    (HF : Hid (∀ wx, Below (hk + 1) w0 wx → wx.cell? ⟨hk, 0, none⟩ = some (.int .u64 (k0 : Nat)) ∧ wx.cell? ⟨hk, 1, none⟩ = some (.int .u64 (k1 : Nat)) ∧ Rd wx hk 1 A n (ns .u8 bs))) (l : Array Bool) (a : Act) (wl : World) (hinv : ∃ b0 b1 b2 b3 b4 b5 b6 b7 b8 b9 b10 b11, l = #[b0, b1, b2, b3, b4, b5, b6, b7, b8, b9, b10, b11] ∧ PR w0 (.agg #[.int .u64 (k0 : Nat), .int .u64 (k1 : Nat)]) sl hk bs p1 p2 b0 b1 b2 b3 b4 b5 b6 b7 b8 b9 b10 b11 a wl) (hli : l.getD 10 true = false) (hdep : ∀ e ∈ (rpOps.getD 10 default).after, Region.binds .any e = true → l.getD e.on false = true)
    (K : Exit → Act → World → Prop) (hK : ∀ a' w', (∃ b0 b1 b2 b3 b4 b5 b6 b7 b8 b9 b10 b11, l.setIfInBounds 10 true = #[b0, b1, b2, b3, b4, b5, b6, b7, b8, b9, b10, b11] ∧ PR w0 (.agg #[.int .u64 (k0 : Nat), .int .u64 (k1 : Nat)]) sl hk bs p1 p2 b0 b1 b2 b3 b4 b5 b6 b7 b8 b9 b10 b11 a' w') → K .normal a' w') : wpList Try.prog rpOps.toArray K [rpOps.getD 10 default] a wl := by
  subst hsl
  obtain ⟨b0, b1, b2, b3, b4, b5, b6, b7, b8, b9, b10, b11, rfl, s5, s6, s7, s8, s9, s10, s11, s12, s13, s14, s15, rfl, q0, q1, q2, q3, q4, q5, q6, q7, q8, q9, q10, q11, q12, q13, q14, q15, hbl, hzl⟩ := hinv
  have hop : rpOps.getD 10 default = { dst := some 15, op := Op.build 24 #[(0, Operand.tmp 9), (1, Operand.tmp 14)], type := 24, pos := "ref.go:65", after := #[{ on := 4, ground := Ground.data }, { on := 9, ground := Ground.data }], guard := none } := rfl
  rw [hop] at hdep ⊢
  clear hop
  have hf := HF.out wl hbl
  have x0 := hf.1
  have x1 := hf.2.1
  have HROW := Lib.hid hf.2.2
  have HQ0 := Lib.hid q0
  have HQ1 := Lib.hid q1
  have HQ2 := Lib.hid q2
  have HQ3 := Lib.hid q3
  have HQ4 := Lib.hid q4
  have HQ5 := Lib.hid q5
  have HQ6 := Lib.hid q6
  have HQ7 := Lib.hid q7
  have HQ8 := Lib.hid q8
  have HQ9 := Lib.hid q9
  have HQ10 := Lib.hid q10
  have HQ11 := Lib.hid q11
  have HQ12 := Lib.hid q12
  have HQ13 := Lib.hid q13
  have HQ14 := Lib.hid q14
  have HQ15 := Lib.hid q15
  have HBL := Lib.hid hbl
  have HK := Lib.hid hK
  have d4 : b4 = true := by simpa [Array.getD] using hdep ⟨4, .data⟩ (by simp) (by rfl)
  have d9 : b9 = true := by simpa [Array.getD] using hdep ⟨9, .data⟩ (by simp) (by rfl)
  have e10 : b10 = false := by simpa [Array.getD] using hli
  clear q0 q1 q2 q3 q4 q5 q6 q7 q8 q9 q10 q11 q12 q13 q14 q15 hbl hf hdep hK hli
  obtain rfl := HQ4.out d4
  obtain rfl := HQ9.out d9
  go_wp2_with fail
  exact HK.out _ _ ⟨b0, b1, b2, b3, b4, b5, b6, b7, b8, b9, true, b11, rfl, s5, s6, s7, s8, _, s10, s11, s12, s13, _, _, rfl, (HQ0.out), (fun h h3 => HQ1.out h h3), (HQ2.out), (fun h h4 => HQ3.out h h4), (fun _ => rfl), (HQ5.out), (fun h h8 => HQ6.out h h8), (HQ7.out), (fun h h9 => HQ8.out h h9), (fun _ => rfl), (fun _ => rfl), (HQ11.out), (HQ12.out), (HQ13.out), (HQ14.out), (HQ15.out), (HBL.out), (hzl)⟩
set_option maxRecDepth 20000 in
theorem rp_step11 (w0 : World) (k0 k1 hk n c : Nat) (A : Option Addr) (sl : Value) (bs : List Nat) (p1 p2 : Nat) (h0 : k0 < 18446744073709551616) (h1 : k1 < 18446744073709551616) (hsl : sl = .slice A n c) (hnc : n ≤ c) (hn : n ≤ 10000) (HBB : Hid (∀ x ∈ bs, x < 256)) (hbl0 : bs.length = n) (hp1 : Hid (p1 = sumB k0 k1 (1 :: bs))) (hp2 : Hid (p2 = sumB k0 k1 (2 :: bs)))
    (HF : Hid (∀ wx, Below (hk + 1) w0 wx → wx.cell? ⟨hk, 0, none⟩ = some (.int .u64 (k0 : Nat)) ∧ wx.cell? ⟨hk, 1, none⟩ = some (.int .u64 (k1 : Nat)) ∧ Rd wx hk 1 A n (ns .u8 bs))) (l : Array Bool) (a : Act) (wl : World) (hinv : ∃ b0 b1 b2 b3 b4 b5 b6 b7 b8 b9 b10 b11, l = #[b0, b1, b2, b3, b4, b5, b6, b7, b8, b9, b10, b11] ∧ PR w0 (.agg #[.int .u64 (k0 : Nat), .int .u64 (k1 : Nat)]) sl hk bs p1 p2 b0 b1 b2 b3 b4 b5 b6 b7 b8 b9 b10 b11 a wl) (hli : l.getD 11 true = false) (hdep : ∀ e ∈ (rpOps.getD 11 default).after, Region.binds .any e = true → l.getD e.on false = true)
    (K : Exit → Act → World → Prop) (hK : ∀ a' w', (∃ b0 b1 b2 b3 b4 b5 b6 b7 b8 b9 b10 b11, l.setIfInBounds 11 true = #[b0, b1, b2, b3, b4, b5, b6, b7, b8, b9, b10, b11] ∧ PR w0 (.agg #[.int .u64 (k0 : Nat), .int .u64 (k1 : Nat)]) sl hk bs p1 p2 b0 b1 b2 b3 b4 b5 b6 b7 b8 b9 b10 b11 a' w') → K .normal a' w') : wpList Try.prog rpOps.toArray K [rpOps.getD 11 default] a wl := by
  subst hsl
  obtain ⟨b0, b1, b2, b3, b4, b5, b6, b7, b8, b9, b10, b11, rfl, s5, s6, s7, s8, s9, s10, s11, s12, s13, s14, s15, rfl, q0, q1, q2, q3, q4, q5, q6, q7, q8, q9, q10, q11, q12, q13, q14, q15, hbl, hzl⟩ := hinv
  have hop : rpOps.getD 11 default = { dst := none, op := Op.store 24 (Operand.tmp 4) (Operand.tmp 15), type := 0, pos := "ref.go:65", after := #[{ on := 10, ground := Ground.data }, { on := 9, ground := Ground.chain }, { on := 0, ground := Ground.phase }, { on := 1, ground := Ground.phase }, { on := 2, ground := Ground.phase }, { on := 3, ground := Ground.phase }, { on := 4, ground := Ground.phase }, { on := 5, ground := Ground.phase }, { on := 6, ground := Ground.phase }, { on := 7, ground := Ground.phase }, { on := 8, ground := Ground.phase }, { on := 9, ground := Ground.phase }, { on := 10, ground := Ground.phase }], guard := none } := rfl
  rw [hop] at hdep ⊢
  clear hop
  have HD9 := Lib.hid (hdep ⟨9, .chain⟩ (by simp) (by rfl))
  have HD8 := Lib.hid (hdep ⟨8, .phase⟩ (by simp) (by rfl))
  have hf := HF.out wl hbl
  have x0 := hf.1
  have x1 := hf.2.1
  have HROW := Lib.hid hf.2.2
  have HQ0 := Lib.hid q0
  have HQ1 := Lib.hid q1
  have HQ2 := Lib.hid q2
  have HQ3 := Lib.hid q3
  have HQ4 := Lib.hid q4
  have HQ5 := Lib.hid q5
  have HQ6 := Lib.hid q6
  have HQ7 := Lib.hid q7
  have HQ8 := Lib.hid q8
  have HQ9 := Lib.hid q9
  have HQ10 := Lib.hid q10
  have HQ11 := Lib.hid q11
  have HQ12 := Lib.hid q12
  have HQ13 := Lib.hid q13
  have HQ14 := Lib.hid q14
  have HQ15 := Lib.hid q15
  have HBL := Lib.hid hbl
  have HK := Lib.hid hK
  have d10 : b10 = true := by simpa [Array.getD] using hdep ⟨10, .data⟩ (by simp) (by rfl)
  have e11 : b11 = false := by simpa [Array.getD] using hli
  clear q0 q1 q2 q3 q4 q5 q6 q7 q8 q9 q10 q11 q12 q13 q14 q15 hbl hf hdep hK hli
  obtain rfl := HQ10.out d10
  have hr := HQ14.out e11
  have r0 : wl.cell? ⟨hk + 1, 0, none⟩ = some (.int .u64 0) := hr.cell 0
  have r1 : wl.cell? ⟨hk + 1, 1, none⟩ = some (.int .u64 0) := hr.cell 1
  have f0 := hr.frozen 0
  have f1 := hr.frozen 1
  have HRR := Lib.hid hr
  clear hr
  go_wp2_with fail
  obtain ⟨wn, hwn⟩ : ∃ wn, wn = (wl.setCell ⟨hk + 1, 0, none⟩ (.int .u64 (p1 : Nat))).setCell ⟨hk + 1, 1, none⟩ (.int .u64 (p2 : Nat)) := ⟨_, rfl⟩
  rw [← hwn]
  have hb : Below (hk + 1) w0 wn := by rw [hwn]; exact (HBL.out.setCell (p := ⟨hk + 1, 0, none⟩) (by simp) _).setCell (p := ⟨hk + 1, 1, none⟩) (by simp) _
  have hzz : hk + 2 ≤ wn.heap.size := by rw [hwn]; simp [World.setCell]; exact hzl
  have hbn : Blk wn (hk + 1) 24 #[.int .u64 (p1 : Nat), .int .u64 (p2 : Nat)] := by rw [hwn]; exact (HRR.out.set 0 _).set 1 _
  have t9 : b9 = true := by simpa [Array.getD] using HD9.out
  have t8 : b8 = true := by simpa [Array.getD] using HD8.out
  have t4 : b4 = true := HQ13.out t8
  have t3 : b3 = true := HQ12.out t4
  exact HK.out _ _ ⟨b0, b1, b2, b3, b4, b5, b6, b7, b8, b9, b10, true, rfl, s5, s6, s7, s8, s9, s10, s11, s12, s13, s14, _, rfl, (HQ0.out), (fun _ h => by rw [t3] at h; cases h), (HQ2.out), (fun _ h => by rw [t4] at h; cases h), (HQ4.out), (HQ5.out), (fun _ h => by rw [t8] at h; cases h), (HQ7.out), (fun _ h => by rw [t9] at h; cases h), (HQ9.out), (fun _ => rfl), (HQ11.out), (HQ12.out), (HQ13.out), (fun h => by cases h), (fun _ => hbn), (hb), (hzz)⟩
end Go.Proofs.Ytbiimgfocgbdaaa
