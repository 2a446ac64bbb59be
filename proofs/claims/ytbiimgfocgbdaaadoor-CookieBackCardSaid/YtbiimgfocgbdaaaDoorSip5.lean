/- Contract of sip.Pair. -/
import Derived.Test.YtbiimgfocgbdaaaDoorSip4
import Derived.Test.YtbiimgfocgbdaaaDoorAnyInv
namespace Go.Proofs.YtbiimgfocgbdaaaDoor
open Go.RowKit
set_option linter.unusedVariables false

/-- A block of a sum on its way; if it was written, with these cells. -/
def Bl (w : World) (B : Nat) (s : Value) (st : Bool) (cs : Array Value) : Prop :=
  ∃ g x0 x1 x2 x3 x4 x5, s = .pointer (some ⟨g, 0, none⟩) ∧ B ≤ g ∧ Blk w g 51 #[x0, x1, x2, x3, x4, x5] ∧ (st = true → #[x0, x1, x2, x3, x4, x5] = cs)
theorem Bl.keep {w w' : World} {B : Nat} {s : Value} {st : Bool} {cs : Array Value} (h : Bl w B s st cs) (hb : Below w.heap.size w w') : Bl w' B s st cs := by
  obtain ⟨g, x0, x1, x2, x3, x4, x5, e, hB, hk, hs⟩ := h
  exact ⟨g, x0, x1, x2, x3, x4, x5, e, hB, hk.below hb hk.lt, hs⟩
theorem Blk.other {w : World} {g g' o : Nat} {t : TypeId} {cs : Array Value} {v : Value} (h : Blk w g t cs) (hne : g ≠ g') : Blk (w.setCell ⟨g', o, none⟩ v) g t cs := by
  unfold Blk at h ⊢
  rw [Below.heap_setCell w ⟨g', o, none⟩ v g hne]
  exact h
/-- The slots and the memory, whatever has been done so far. -/
def PI (w0 : World) (kk sc sl : Value) (hk : Nat) (b0 b1 b2 b3 b4 b5 b6 b7 : Bool) (a : Act) (w : World) : Prop :=
  ∃ s5 s6 s7 s8 s9 s10, a = ⟨#[kk, sl, .pointer (some ⟨hk, 0, none⟩), undef, .pointer (some ⟨hk + 1, 0, none⟩), s5, s6, s7, s8, s9, s10, undef, undef, undef, undef, undef, undef, undef], []⟩ ∧
    (b0 = true → s7 = kk) ∧ (b1 = true → s8 = sc) ∧ (b2 = true → s9 = kk) ∧ (b3 = true → s10 = sc) ∧
    (b4 = true → Bl w (hk + 2) s5 b6 sc.cells) ∧ (b5 = true → Bl w (hk + 2) s6 b7 sc.cells) ∧ (b4 = true → b5 = true → s5 ≠ s6) ∧ (b4 = false → b6 = false) ∧ (b5 = false → b7 = false) ∧ Below (hk + 2) w0 w ∧ hk + 2 ≤ w.heap.size
set_option maxRecDepth 20000 in
set_option maxHeartbeats 2000000 in
theorem pair_region {id : Nat} {Q : Exit → Act → World → Prop} (w0 : World) (k0 k1 hk : Nat) (sl sc : Value) (z0 z1 z2 z3 : Nat) (h0 : k0 < 18446744073709551616) (h1 : k1 < 18446744073709551616)
    (hz : beg k0 k1 = (z0, z1, z2, z3)) (hsc : sc = .agg #[.int .u64 (z0 : Nat), .int .u64 (z1 : Nat), .int .u64 (z2 : Nat), .int .u64 (z3 : Nat), .int .u64 0, .int .u64 0])
    (hbk : Blk w0 hk 24 #[Value.int IntKind.u64 k0, Value.int IntKind.u64 k1]) (hsz : hk + 2 ≤ w0.heap.size) (a0 : Act)
    (ha0 : a0 = ⟨#[.agg #[.int .u64 k0, .int .u64 k1], sl, .pointer (some ⟨hk, 0, none⟩), undef, .pointer (some ⟨hk + 1, 0, none⟩), undef, undef, undef, undef, undef, undef, undef, undef, undef, undef, undef, undef, undef], []⟩)
    (hend : ∀ a w, PI w0 (.agg #[.int .u64 k0, .int .u64 k1]) sc sl hk true true true true true true true true a w → Q .normal a w) :
    (Code.region id (#[{ dst := some 7, op := Op.load 24 (Operand.tmp 2), type := 24, pos := "sip.go:25", after := #[], guard := none },
      { dst := some 8, op := Op.call { callee := Callee.value (Operand.func 15), args := #[Operand.tmp 7], argTypes := #[24] }, type := 51, pos := "sip.go:25", after := #[{ on := 0, ground := Ground.data }], guard := none },
      { dst := some 9, op := Op.load 24 (Operand.tmp 2), type := 24, pos := "sip.go:25", after := #[], guard := none },
      { dst := some 10, op := Op.call { callee := Callee.value (Operand.func 15), args := #[Operand.tmp 9], argTypes := #[24] }, type := 51, pos := "sip.go:25", after := #[{ on := 2, ground := Ground.data }, { on := 1, ground := Ground.chain }], guard := none },
      { dst := some 5, op := Op.alloc 51, type := 0, pos := "sip.go:25", after := #[], guard := none },
      { dst := some 6, op := Op.alloc 51, type := 0, pos := "sip.go:25", after := #[], guard := none },
      { dst := none, op := Op.store 51 (Operand.tmp 5) (Operand.tmp 8), type := 0, pos := "sip.go:25",
        after := #[{ on := 4, ground := Ground.data }, { on := 1, ground := Ground.data }, { on := 3, ground := Ground.chain }, { on := 0, ground := Ground.phase }, { on := 1, ground := Ground.phase }, { on := 2, ground := Ground.textOnly Departure.lateStores }, { on := 3, ground := Ground.phase }, { on := 4, ground := Ground.phase }, { on := 5, ground := Ground.phase }], guard := none },
      { dst := none, op := Op.store 51 (Operand.tmp 6) (Operand.tmp 10), type := 0, pos := "sip.go:25",
        after := #[{ on := 5, ground := Ground.data }, { on := 3, ground := Ground.data }, { on := 6, ground := Ground.chain }, { on := 0, ground := Ground.phase }, { on := 1, ground := Ground.phase }, { on := 2, ground := Ground.phase }, { on := 3, ground := Ground.phase }, { on := 4, ground := Ground.phase }, { on := 5, ground := Ground.phase }, { on := 6, ground := Ground.phase }], guard := none }] : Array Oper) true).wp Tryd.prog Q a0 w0 := by
  refine wp_inv (fun l a w => ∃ b0 b1 b2 b3 b4 b5 b6 b7, l = #[b0, b1, b2, b3, b4, b5, b6, b7] ∧ PI w0 (.agg #[.int .u64 k0, .int .u64 k1]) sc sl hk b0 b1 b2 b3 b4 b5 b6 b7 a w) (by kernel_rfl) (by kernel_rfl) ?_ ?_ ?_
  · exact ⟨false, false, false, false, false, false, false, false, rfl, undef, undef, undef, undef, undef, undef, ha0, by simp, by simp, by simp, by simp, by simp, by simp, by simp, fun _ => rfl, fun _ => rfl, (Below.refl _ _).drew, hsz⟩
  · rintro l a wl i hls ⟨b0, b1, b2, b3, b4, b5, b6, b7, rfl, s5, s6, s7, s8, s9, s10, rfl, q0, q1, q2, q3, q4, q5, q6, q7, q8, hbl, hzl⟩ hi hli hdep K hK
    simp only [List.length_cons, List.length_nil] at hi
    have hK2 : ∀ (i : Nat) (c0 c1 c2 c3 c4 c5 c6 c7 : Bool) (a' : Act) (w' : World), #[b0, b1, b2, b3, b4, b5, b6, b7].setIfInBounds i true = #[c0, c1, c2, c3, c4, c5, c6, c7] → (∀ (a' : Act) (w' : World), (∃ b0' b1' b2' b3' b4' b5' b6' b7', #[b0, b1, b2, b3, b4, b5, b6, b7].setIfInBounds i true = #[b0', b1', b2', b3', b4', b5', b6', b7'] ∧ PI w0 (.agg #[.int .u64 k0, .int .u64 k1]) sc sl hk b0' b1' b2' b3' b4' b5' b6' b7' a' w') → K .normal a' w') → PI w0 (.agg #[.int .u64 k0, .int .u64 k1]) sc sl hk c0 c1 c2 c3 c4 c5 c6 c7 a' w' → K .normal a' w' :=
      fun i c0 c1 c2 c3 c4 c5 c6 c7 a' w' e h hp => h a' w' ⟨c0, c1, c2, c3, c4, c5, c6, c7, e, hp⟩
    have hkk := hbk.below hbl (by omega)
    have x0 : wl.cell? ⟨hk, 0, none⟩ = some (.int .u64 k0) := hkk.cell 0
    have x1 : wl.cell? ⟨hk, 1, none⟩ = some (.int .u64 k1) := hkk.cell 1
    have HQ0 := Lib.hid q0; have HQ1 := Lib.hid q1; have HQ2 := Lib.hid q2; have HQ3 := Lib.hid q3; have HQ4 := Lib.hid q4; have HQ5 := Lib.hid q5; have HQ6 := Lib.hid q6; have HQ7 := Lib.hid q7; have HQ8 := Lib.hid q8
    have HBL := Lib.hid hbl; have HK := Lib.hid hK; have HK2 := Lib.hid hK2; have HD := Lib.hid hdep; have HSC := Lib.hid hsc; have HLI := Lib.hid hli; have HKK := Lib.hid hkk
    clear q0 q1 q2 q3 q4 q5 q6 q7 q8 hbl hK hK2 hdep hli hkk hend ha0 hbk
    rcases (show i = 0 ∨ i = 1 ∨ i = 2 ∨ i = 3 ∨ i = 4 ∨ i = 5 ∨ i = 6 ∨ i = 7 by omega) with rfl | rfl | rfl | rfl | rfl | rfl | rfl | rfl
    all_goals simp only [List.getD_cons_zero, List.getD_cons_succ] at HD ⊢
    · clear hsc
      go_wp2_with fail
      exact HK2.out 0 true b1 b2 b3 b4 b5 b6 b7 _ _ rfl HK.out ⟨s5, s6, _, s8, s9, s10, rfl, fun _ => rfl, HQ1.out, HQ2.out, HQ3.out, HQ4.out, HQ5.out, HQ6.out, HQ7.out, HQ8.out, HBL.out, hzl⟩
    · have d0 : b0 = true := by simpa [Array.getD] using HD.out ⟨0, .data⟩ (by simp) (by rfl)
      obtain rfl := HQ0.out d0
      clear hsc
      go_wp2_with fail
      refine (begin_any k0 k1 wl h0 h1).mono ?_
      rintro e w2 ⟨rfl, hb2⟩
      rw [show Value.agg (scell (beg k0 k1).1 (beg k0 k1).2.1 (beg k0 k1).2.2.1 (beg k0 k1).2.2.2 0 0) = sc by rw [HSC.out, hz]; rfl]
      go_wp2_with fail
      exact HK2.out 1 b0 true b2 b3 b4 b5 b6 b7 _ _ rfl HK.out ⟨s5, s6, _, _, s9, s10, rfl, fun _ => rfl, fun _ => rfl, HQ2.out, HQ3.out, fun h => (HQ4.out h).keep hb2, fun h => (HQ5.out h).keep hb2, HQ6.out, HQ7.out, HQ8.out, HBL.out.trans (hb2.mono hzl), Nat.le_trans hzl hb2.size⟩
    · clear hsc
      go_wp2_with fail
      exact HK2.out 2 b0 b1 true b3 b4 b5 b6 b7 _ _ rfl HK.out ⟨s5, s6, s7, s8, _, s10, rfl, HQ0.out, HQ1.out, fun _ => rfl, HQ3.out, HQ4.out, HQ5.out, HQ6.out, HQ7.out, HQ8.out, HBL.out, hzl⟩
    · have d0 : b2 = true := by simpa [Array.getD] using HD.out ⟨2, .data⟩ (by simp) (by rfl)
      obtain rfl := HQ2.out d0
      clear hsc
      go_wp2_with fail
      refine (begin_any k0 k1 wl h0 h1).mono ?_
      rintro e w2 ⟨rfl, hb2⟩
      rw [show Value.agg (scell (beg k0 k1).1 (beg k0 k1).2.1 (beg k0 k1).2.2.1 (beg k0 k1).2.2.2 0 0) = sc by rw [HSC.out, hz]; rfl]
      go_wp2_with fail
      exact HK2.out 3 b0 b1 b2 true b4 b5 b6 b7 _ _ rfl HK.out ⟨s5, s6, s7, s8, _, _, rfl, HQ0.out, HQ1.out, fun _ => rfl, fun _ => rfl, fun h => (HQ4.out h).keep hb2, fun h => (HQ5.out h).keep hb2, HQ6.out, HQ7.out, HQ8.out, HBL.out.trans (hb2.mono hzl), Nat.le_trans hzl hb2.size⟩
    · have e4 : b4 = false := by simpa [Array.getD] using HLI.out
      have e6 : b6 = false := HQ7.out e4
      clear hsc
      go_wp2_with fail
      have hnb : Bl (wl.alloc (Obj.cells #[Value.int IntKind.u64 0, Value.int IntKind.u64 0, Value.int IntKind.u64 0, Value.int IntKind.u64 0, Value.int IntKind.u64 0, Value.int IntKind.u64 0] 51)) (hk + 2) (.pointer (some ⟨wl.heap.size, 0, none⟩)) b6 sc.cells := ⟨_, _, _, _, _, _, _, rfl, hzl, Blk.new wl _ _, fun h => by rw [e6] at h; cases h⟩
      have hkp : Below wl.heap.size wl (wl.alloc (Obj.cells #[Value.int IntKind.u64 0, Value.int IntKind.u64 0, Value.int IntKind.u64 0, Value.int IntKind.u64 0, Value.int IntKind.u64 0, Value.int IntKind.u64 0] 51)) := (Below.refl _ _).alloc (Nat.le_refl _) _
      have hne : b5 = true → (Value.pointer (some ⟨wl.heap.size, 0, none⟩)) ≠ s6 := by
        intro h e
        obtain ⟨g, _, _, _, _, _, _, e2, _, hb, _⟩ := HQ5.out h
        rw [e2] at e
        injection e with e
        injection e with e
        injection e with e
        have := hb.lt
        omega
      exact HK2.out 4 b0 b1 b2 b3 true b5 b6 b7 _ _ rfl HK.out ⟨_, s6, s7, s8, s9, s10, rfl, HQ0.out, HQ1.out, HQ2.out, HQ3.out, fun _ => hnb, fun h => (HQ5.out h).keep hkp, fun _ h => hne h, (fun h => by cases h), HQ8.out, HBL.out.trans (hkp.mono hzl), Nat.le_trans hzl hkp.size⟩
    · have e4 : b5 = false := by simpa [Array.getD] using HLI.out
      have e6 : b7 = false := HQ8.out e4
      clear hsc
      go_wp2_with fail
      have hnb : Bl (wl.alloc (Obj.cells #[Value.int IntKind.u64 0, Value.int IntKind.u64 0, Value.int IntKind.u64 0, Value.int IntKind.u64 0, Value.int IntKind.u64 0, Value.int IntKind.u64 0] 51)) (hk + 2) (.pointer (some ⟨wl.heap.size, 0, none⟩)) b7 sc.cells := ⟨_, _, _, _, _, _, _, rfl, hzl, Blk.new wl _ _, fun h => by rw [e6] at h; cases h⟩
      have hkp : Below wl.heap.size wl (wl.alloc (Obj.cells #[Value.int IntKind.u64 0, Value.int IntKind.u64 0, Value.int IntKind.u64 0, Value.int IntKind.u64 0, Value.int IntKind.u64 0, Value.int IntKind.u64 0] 51)) := (Below.refl _ _).alloc (Nat.le_refl _) _
      have hne : b4 = true → (Value.pointer (some ⟨wl.heap.size, 0, none⟩)) ≠ s5 := by
        intro h e
        obtain ⟨g, _, _, _, _, _, _, e2, _, hb, _⟩ := HQ4.out h
        rw [e2] at e
        injection e with e
        injection e with e
        injection e with e
        have := hb.lt
        omega
      exact HK2.out 5 b0 b1 b2 b3 b4 true b6 b7 _ _ rfl HK.out ⟨s5, _, s7, s8, s9, s10, rfl, HQ0.out, HQ1.out, HQ2.out, HQ3.out, fun h => (HQ4.out h).keep hkp, fun _ => hnb, fun h _ => (hne h).symm, HQ7.out, (fun h => by cases h), HBL.out.trans (hkp.mono hzl), Nat.le_trans hzl hkp.size⟩
    · have d4 : b4 = true := by simpa [Array.getD] using HD.out ⟨4, .data⟩ (by simp) (by rfl)
      have d1 : b1 = true := by simpa [Array.getD] using HD.out ⟨1, .data⟩ (by simp) (by rfl)
      obtain rfl := HQ1.out d1
      obtain ⟨g, y0, y1, y2, y3, y4, y5, rfl, hg, hkb, _⟩ := HQ4.out d4
      have e0 : wl.cell? ⟨g, 0, none⟩ = some y0 := hkb.cell 0
      have e1 : wl.cell? ⟨g, 1, none⟩ = some y1 := hkb.cell 1
      have e2 : wl.cell? ⟨g, 2, none⟩ = some y2 := hkb.cell 2
      have e3 : wl.cell? ⟨g, 3, none⟩ = some y3 := hkb.cell 3
      have e4 : wl.cell? ⟨g, 4, none⟩ = some y4 := hkb.cell 4
      have e5 : wl.cell? ⟨g, 5, none⟩ = some y5 := hkb.cell 5
      have f0 := hkb.frozen 0; have f1 := hkb.frozen 1; have f2 := hkb.frozen 2; have f3 := hkb.frozen 3; have f4 := hkb.frozen 4; have f5 := hkb.frozen 5
      subst hsc
      go_wp2_with fail
      clear e0 e1 e2 e3 e4 e5 f0 f1 f2 f3 f4 f5
      obtain ⟨wn, hwn⟩ : ∃ wn, wn = ((((((wl.setCell ⟨g, 0, none⟩ (.int .u64 (z0 : Nat))).setCell ⟨g, 1, none⟩ (.int .u64 (z1 : Nat))).setCell ⟨g, 2, none⟩ (.int .u64 (z2 : Nat))).setCell ⟨g, 3, none⟩ (.int .u64 (z3 : Nat))).setCell ⟨g, 4, none⟩ (.int .u64 0)).setCell ⟨g, 5, none⟩ (.int .u64 0)) := ⟨_, rfl⟩
      have hnb : Bl wn (hk + 2) (.pointer (some ⟨g, 0, none⟩)) true (Value.agg #[.int .u64 (z0 : Nat), .int .u64 (z1 : Nat), .int .u64 (z2 : Nat), .int .u64 (z3 : Nat), .int .u64 0, .int .u64 0]).cells := by
        rw [hwn]
        exact ⟨g, _, _, _, _, _, _, rfl, hg, (((((hkb.set 0 _).set 1 _).set 2 _).set 3 _).set 4 _).set 5 _, fun _ => rfl⟩
      have hbel : Below (hk + 2) w0 wn := by
        rw [hwn]
        exact (((((HBL.out.setCell hg _).setCell hg _).setCell hg _).setCell hg _).setCell hg _).setCell hg _
      have hzn : hk + 2 ≤ wn.heap.size := by rw [hwn]; simp [World.setCell]; exact hzl
      have hoth : b5 = true → Bl wn (hk + 2) s6 b7 (Value.agg #[.int .u64 (z0 : Nat), .int .u64 (z1 : Nat), .int .u64 (z2 : Nat), .int .u64 (z3 : Nat), .int .u64 0, .int .u64 0]).cells := by
        intro h
        have hne := HQ6.out d4 h
        obtain ⟨g', u0, u1, u2, u3, u4, u5, e, hg', hb, hs⟩ := HQ5.out h
        have hgg : g' ≠ g := by
          intro e2
          subst e2
          exact hne e.symm
        rw [hwn]
        exact ⟨g', u0, u1, u2, u3, u4, u5, e, hg', (((((hb.other hgg).other hgg).other hgg).other hgg).other hgg).other hgg, hs⟩
      rw [← hwn]
      exact HK2.out 6 b0 b1 b2 b3 b4 b5 true b7 _ _ rfl HK.out ⟨_, s6, s7, _, s9, s10, rfl, HQ0.out, fun h => by first | rfl | exact HQ1.out h, HQ2.out, fun h => by first | rfl | exact HQ3.out h, fun _ => hnb, hoth, HQ6.out, fun h => absurd h (by rw [d4]; exact Bool.noConfusion), HQ8.out, hbel, hzn⟩
    · have d4 : b5 = true := by simpa [Array.getD] using HD.out ⟨5, .data⟩ (by simp) (by rfl)
      have d1 : b3 = true := by simpa [Array.getD] using HD.out ⟨3, .data⟩ (by simp) (by rfl)
      obtain rfl := HQ3.out d1
      obtain ⟨g, y0, y1, y2, y3, y4, y5, rfl, hg, hkb, _⟩ := HQ5.out d4
      have e0 : wl.cell? ⟨g, 0, none⟩ = some y0 := hkb.cell 0
      have e1 : wl.cell? ⟨g, 1, none⟩ = some y1 := hkb.cell 1
      have e2 : wl.cell? ⟨g, 2, none⟩ = some y2 := hkb.cell 2
      have e3 : wl.cell? ⟨g, 3, none⟩ = some y3 := hkb.cell 3
      have e4 : wl.cell? ⟨g, 4, none⟩ = some y4 := hkb.cell 4
      have e5 : wl.cell? ⟨g, 5, none⟩ = some y5 := hkb.cell 5
      have f0 := hkb.frozen 0; have f1 := hkb.frozen 1; have f2 := hkb.frozen 2; have f3 := hkb.frozen 3; have f4 := hkb.frozen 4; have f5 := hkb.frozen 5
      subst hsc
      go_wp2_with fail
      clear e0 e1 e2 e3 e4 e5 f0 f1 f2 f3 f4 f5
      obtain ⟨wn, hwn⟩ : ∃ wn, wn = ((((((wl.setCell ⟨g, 0, none⟩ (.int .u64 (z0 : Nat))).setCell ⟨g, 1, none⟩ (.int .u64 (z1 : Nat))).setCell ⟨g, 2, none⟩ (.int .u64 (z2 : Nat))).setCell ⟨g, 3, none⟩ (.int .u64 (z3 : Nat))).setCell ⟨g, 4, none⟩ (.int .u64 0)).setCell ⟨g, 5, none⟩ (.int .u64 0)) := ⟨_, rfl⟩
      have hnb : Bl wn (hk + 2) (.pointer (some ⟨g, 0, none⟩)) true (Value.agg #[.int .u64 (z0 : Nat), .int .u64 (z1 : Nat), .int .u64 (z2 : Nat), .int .u64 (z3 : Nat), .int .u64 0, .int .u64 0]).cells := by
        rw [hwn]
        exact ⟨g, _, _, _, _, _, _, rfl, hg, (((((hkb.set 0 _).set 1 _).set 2 _).set 3 _).set 4 _).set 5 _, fun _ => rfl⟩
      have hbel : Below (hk + 2) w0 wn := by
        rw [hwn]
        exact (((((HBL.out.setCell hg _).setCell hg _).setCell hg _).setCell hg _).setCell hg _).setCell hg _
      have hzn : hk + 2 ≤ wn.heap.size := by rw [hwn]; simp [World.setCell]; exact hzl
      have hoth : b4 = true → Bl wn (hk + 2) s5 b6 (Value.agg #[.int .u64 (z0 : Nat), .int .u64 (z1 : Nat), .int .u64 (z2 : Nat), .int .u64 (z3 : Nat), .int .u64 0, .int .u64 0]).cells := by
        intro h
        have hne := (HQ6.out h d4).symm
        obtain ⟨g', u0, u1, u2, u3, u4, u5, e, hg', hb, hs⟩ := HQ4.out h
        have hgg : g' ≠ g := by
          intro e2
          subst e2
          exact hne e.symm
        rw [hwn]
        exact ⟨g', u0, u1, u2, u3, u4, u5, e, hg', (((((hb.other hgg).other hgg).other hgg).other hgg).other hgg).other hgg, hs⟩
      rw [← hwn]
      exact HK2.out 7 b0 b1 b2 b3 b4 b5 b6 true _ _ rfl HK.out ⟨s5, _, s7, s8, s9, _, rfl, HQ0.out, fun h => by first | rfl | exact HQ1.out h, HQ2.out, fun h => by first | rfl | exact HQ3.out h, hoth, fun _ => hnb, HQ6.out, HQ7.out, fun h => absurd h (by rw [d4]; exact Bool.noConfusion), hbel, hzn⟩
  · rintro l a wl hls hall ⟨b0, b1, b2, b3, b4, b5, b6, b7, rfl, hpi⟩
    have t0 := hall 0 (by simp); have t1 := hall 1 (by simp); have t2 := hall 2 (by simp); have t3 := hall 3 (by simp); have t4 := hall 4 (by simp); have t5 := hall 5 (by simp); have t6 := hall 6 (by simp); have t7 := hall 7 (by simp)
    simp [Array.getD] at t0 t1 t2 t3 t4 t5 t6 t7
    subst t0 t1 t2 t3 t4 t5 t6 t7
    exact hend a wl hpi
end Go.Proofs.YtbiimgfocgbdaaaDoor
