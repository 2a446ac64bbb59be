/- How many numbers a segment takes; layer 7's example. -/
import Derived.Test.YtiabafnfiedlcaaSg3
import Derived.Test.YtiabafnfiedlcaaSg7
import Derived.Deep.OwnRows
import Derived.Lib.SmallJoins
namespace Go.Proofs.Ytiabafnfiedlcaa
open Go.RowKit
set_option linter.unusedVariables false
theorem and1_u8 (x : Nat) (h : x < 256) : bits .and .u8 ((x : Nat) : Int) 1 = ((x % 2 : Nat) : Int) := by
  have h := u8_and_nat x 1 h (by omega)
  rw [Nat.and_one_is_mod] at h
  exact h
def takeS (g : Sg) : Nat := g.data.length + g.flags % 2
set_option maxRecDepth 20000 in
set_option maxHeartbeats 1000000 in
theorem take_any (v : Value) (g : Sg) (w : World) (h : SegV w v g) (hs : g.small) (hg : g.flags < 256) :
    Calls Try.prog 44 #[v] w fun e w' => e = .returned (.int .u32 (takeS g : Int)) ∧ Below w.heap.size w w' := by
  obtain ⟨A, n, c, D, m, d, l, rfl, hO, ho, hD, hmd, hdm⟩ := h
  have HSB := Lib.hid (SBox.mk' (d := d) hO ho hD)
  have hdl := HSB.out.dlen
  have hmb : m ≤ 10000 := by have := hs.data; omega
  obtain ⟨_, _, _, _, t4, _, t6⟩ := seg_cells HSB.out.blk
  have wm : IntKind.u32.wrap (m : Int) = (m : Int) := by rw [IntKind.wrap_u32]; omega
  have ha := and1_u8 g.flags hg
  have HDL := Lib.hid hdl
  clear hO ho hD hmd hdm hs hdl
  unfold segCs at *
  rcases Nat.mod_two_eq_zero_or_one g.flags with h2 | h2
  · rw [h2] at ha
    have ha' : bits .and .u8 (g.flags : Int) 1 = 0 := ha
    have HT := Lib.hid (show takeS g = m by unfold takeS; rw [HDL.out, h2]; rfl)
    clear ha
    go_enter Try.func44, Try.ntmps44
    go_wp2_with fail
    go_ret
    exact ⟨ret_int (by rw [HT.out]), HSB.out.bel⟩
  · rw [h2] at ha
    have ha' : bits .and .u8 (g.flags : Int) 1 = 1 := ha
    obtain ⟨m1, hm1⟩ : ∃ m1, m1 = m + 1 := ⟨_, rfl⟩
    have em1 : (m : Int) + 1 = (m1 : Int) := by omega
    have wm1 : IntKind.u32.wrap ((m : Int) + 1) = (m1 : Int) := by rw [em1, IntKind.wrap_u32]; omega
    have HT := Lib.hid (show takeS g = m1 by unfold takeS; rw [HDL.out, h2, hm1])
    clear ha hm1
    go_enter Try.func44, Try.ntmps44
    go_wp2_with fail
    go_ret
    exact ⟨ret_int (by rw [HT.out]), HSB.out.bel⟩
theorem Rd.litm {w : World} {k : IntKind} {n : Nat} {t : TypeId} {cs : Array Value} {fr : Nat × Nat} (l : List Nat) (hc : cs.toList = ns k l) (hn : n = l.length) : Rd (w.alloc (.cells cs t fr)) (w.heap.size + 1) 1 (some ⟨w.heap.size, 0, none⟩) n (ns k l) := by
  subst hn
  refine ⟨by simp [ns], fun _ => ⟨_, _, rfl, by omega, fun j hj => ?_⟩⟩
  rw [Nat.zero_add, World.cell?_alloc_mark, ← hc]
  simp
def zero14 : List Nat := [0, 0, 0, 0, 0, 0, 0, 0, 0, 0, 0, 0, 0, 0]
theorem par14 : parC zero14 0 := by
  refine .inr (.inr (.inr ⟨rfl, ?_, ?_, ?_⟩))
  · unfold is70 zero14
    simp
  · unfold is71 zero14
    rintro (h | h | h)
    · simp at h
    · simp at h
    · exact h ⟨[], by simp [oBytes], by simp⟩
  · unfold is72 zero14
    simp
def segA : Sg := ⟨1, 0, 0, 0, 1, [(3, [97, 98])], [120]⟩
def segB : Sg := ⟨0, 0, 0, 0, 1, [], [120]⟩
theorem segA_bd : segA.bd := ⟨by decide, by decide, by decide, by decide, by decide, by simp [segA], by simp [segA], by simp [segA]⟩
theorem segA_small : segA.small := ⟨by decide, by simp [segA], by decide⟩
theorem segB_small : segB.small := ⟨by decide, by simp [segB], by decide⟩
theorem ansA_len : (ansS segA).length = 19 := by
  rw [ansS_ok (by rfl), encS_len]
  rfl
set_option maxRecDepth 20000 in
set_option maxHeartbeats 4000000 in
theorem alive_any (w : World) : Calls Try.prog 37 #[] w fun e w' => e = .returned (.bool true) ∧ Below w.heap.size w w' := by
  have hmk : ∀ w, (Instr.makeSlice 54 (.int .i64 14) (.int .i64 14)).run Try.prog w = .ok (.slice (some ⟨w.heap.size, 0, none⟩) 14 14) (w.alloc (.cells (madeCells #[.int .u8 0] 14) 5)) := fun w => run_make_row' 54 5 (.int .u8 0) 1 Try.underlying54 (by kernel_rfl) rfl .i64 .i64 14 (by omega) (by omega) w
  have hr0 : Rd (w.alloc (.cells (madeCells #[.int .u8 0] 14) 5)) (w.heap.size + 1) 1 (some ⟨w.heap.size, 0, none⟩) 14 (ns .u8 zero14) := Rd.lit zero14 rfl (by omega) (by kernel_rfl) rfl
  have hz0 : (w.alloc (.cells (madeCells #[.int .u8 0] 14) 5)).heap.size = w.heap.size + 1 := by simp
  have hb0 : Below w.heap.size w (w.alloc (.cells (madeCells #[.int .u8 0] 14) 5)) := (Below.refl _ _).alloc (Nat.le_refl _) _
  have HP := Lib.hid (parse_any (some ⟨w.heap.size, 0, none⟩) 14 14 zero14 _ (by rw [hz0]; exact hr0) (Nat.le_refl _) (by unfold maxLen; omega) (by simp [zero14]) (by omega))
  have HB0 := Lib.hid hb0
  clear hr0 hz0 hb0
  go_enter Try.func37, Try.ntmps37
  go_wp2_with fail
  clear hmk
  have kc := fun (w : World) (C : Array Value) (n c g : Nat) (hg : g = w.heap.size) => Joins.run_convert_bytes_const_at (P := Try.prog) w 54 5 C n c g hg Try.underlying54 Try.underlying5
  refine HP.out.mono ?_
  rintro e w1 ⟨⟨v, cd, g, rfl, hc, hv, hg, hz, _⟩, hb1⟩
  have hcd := parC_one hc par14
  subst hcd
  have hg0 := encS_inj hg zeroS_bd ((hz rfl).1.trans (show zero14 = encS zeroS from rfl))
  subst hg0
  obtain ⟨A, n, c, D, m, d, l, rfl, _, _, _, _, _⟩ := hv
  have HB1 := Lib.hid (HB0.out.trans (hb1.mono HB0.out.size))
  clear hc hz hg hb1 HB0 HP
  unfold segCs zeroS
  dsimp only
  go_wp2_with fail
  generalize hA0 : w1.alloc (.cells #[.int .u16 0, .int .u16 0, .int .u32 0, .int .u32 0, .int .u8 0, .slice A n c, .slice D m d] 56) = a0
  generalize hA1 : a0.alloc (.cells #[.int .u8 97, .int .u8 98] 5 (2, 3)) = a1
  obtain ⟨N, hN⟩ : ∃ N, N = w1.heap.size := ⟨_, rfl⟩
  rw [← hN]
  generalize hA2 : a1.alloc (.cells #[.int .u8 3, .slice (some ⟨N + 1, 0, none⟩) 2 2] 74) = a2
  generalize hA3 : a2.alloc (.cells #[.int .u8 120] 5 (1, 2)) = a3
  have z0 : a0.heap.size = N + 1 := by rw [← hA0, hN]; simp
  have z1 : a1.heap.size = N + 2 := by rw [← hA1]; simp [z0]
  have z2 : a2.heap.size = N + 3 := by rw [← hA2]; simp [z1]
  have z3 : a3.heap.size = N + 4 := by rw [← hA3]; simp [z2]
  have k0 : Blk a0 N 56 #[.int .u16 0, .int .u16 0, .int .u32 0, .int .u32 0, .int .u8 0, .slice A n c, .slice D m d] := by rw [← hA0, hN]; exact Blk.new _ _ _
  have b01 : Below a0.heap.size a0 a1 := by rw [← hA1]; exact (Below.refl _ _).alloc (Nat.le_refl _) _
  have b12 : Below a1.heap.size a1 a2 := by rw [← hA2]; exact (Below.refl _ _).alloc (Nat.le_refl _) _
  have b23 : Below a2.heap.size a2 a3 := by rw [← hA3]; exact (Below.refl _ _).alloc (Nat.le_refl _) _
  have bw0 : Below w1.heap.size w1 a0 := by rw [← hA0]; exact (Below.refl _ _).alloc (Nat.le_refl _) _
  have r1 : Rd a1 (a0.heap.size + 1) 1 (some ⟨a0.heap.size, 0, none⟩) 2 (ns .u8 [97, 98]) := by rw [← hA1]; exact Rd.litm [97, 98] rfl rfl
  have r2 : Rd a2 (a1.heap.size + 1) 2 (some ⟨a1.heap.size, 0, none⟩) 1 (ocs [(3, ⟨some ⟨N + 1, 0, none⟩, 2, 2, [97, 98]⟩)]) := by rw [← hA2]; exact Rd.made a1 74 #[.int .u8 3, .slice (some ⟨N + 1, 0, none⟩) 2 2] rfl
  have r3 : Rd a3 (a2.heap.size + 1) 1 (some ⟨a2.heap.size, 0, none⟩) 1 (ns .u8 [120]) := by rw [← hA3]; exact Rd.litm [120] rfl rfl
  rw [z0] at r1 b01
  rw [z1] at r2 b12
  rw [z2] at r3 b23
  have hSA : SegV a3 (.agg #[.int .u16 1, .int .u16 0, .int .u32 0, .int .u32 0, .int .u8 1, .slice (some ⟨N + 2, 0, none⟩) 1 1, .slice (some ⟨N + 3, 0, none⟩) 1 1]) segA := by
    refine ⟨some ⟨N + 2, 0, none⟩, 1, 1, some ⟨N + 3, 0, none⟩, 1, 1, [(3, ⟨some ⟨N + 1, 0, none⟩, 2, 2, [97, 98]⟩)], rfl, ⟨(r2.below b23).mono (by omega), ?_, Nat.le_refl _, by unfold maxLen; omega⟩, rfl, r3.mono (by omega), Nat.le_refl _, by unfold maxLen; omega⟩
    intro p hp
    simp only [List.mem_singleton] at hp
    subst hp
    exact ⟨((r1.below b12).below (b23.mono (by omega))).mono (by omega), Nat.le_refl _, by dsimp only; unfold maxLen; omega⟩
  have HENC := Lib.hid (encode_any _ segA a3 hSA segA_small segA_bd)
  have k3 := ((k0.below b01 (by omega)).below b12 (by omega)).below b23 (by omega)
  have BA3 := Lib.hid (HB1.out.trans ((((bw0.trans (b01.mono (by omega))).trans (b12.mono (by omega))).trans (b23.mono (by omega))).mono HB1.out.size))
  have K3 := Lib.hid k3
  clear r1 r2 r3 b01 b12 b23 bw0 k0 k3 hA0 hA1 hA2 hA3 hSA z0 z1 z2 hN
  refine HENC.out.mono ?_
  rintro e w2 ⟨v2, rfl, hN2, hb2⟩
  obtain ⟨A2, n2, c2, rfl, _, hl2, _⟩ := hN2.out
  have hn2 : n2 = 19 := by have := hl2.out; rw [ansA_len] at this; exact this.symm
  subst hn2
  have hra : rightS segA = 0 := by rfl
  rw [hra]
  have K2 := Lib.hid (K3.out.below hb2 K3.out.lt)
  have B2 := Lib.hid (BA3.out.trans (hb2.mono BA3.out.size))
  clear hN2 hb2 hl2 HENC K3 BA3 hra z3
  have t0 : w2.cell? ⟨N, 0, none⟩ = some (.int .u16 0) := by rw [K2.out.cell]; rfl
  go_wp2_with fail
  have r4 : Rd (w2.alloc (.cells #[.int .u8 120] 5 (1, 2))) (w2.heap.size + 1) 1 (some ⟨w2.heap.size, 0, none⟩) 1 (ns .u8 [120]) := Rd.litm [120] rfl rfl
  have hSB : SegV (w2.alloc (.cells #[.int .u8 120] 5 (1, 2))) (.agg #[.int .u16 0, .int .u16 0, .int .u32 0, .int .u32 0, .int .u8 1, .slice none 0 0, .slice (some ⟨w2.heap.size, 0, none⟩) 1 1]) segB :=
    ⟨none, 0, 0, some ⟨w2.heap.size, 0, none⟩, 1, 1, [], rfl, Os.nil _, rfl, r4.mono (by simp), Nat.le_refl _, by unfold maxLen; omega⟩
  refine (take_any _ segB _ hSB segB_small (by decide)).mono ?_
  rintro e w3 ⟨rfl, hb3⟩
  rw [show (takeS segB : Int) = 2 from rfl]
  have B3 := Lib.hid (B2.out.trans ((((Below.refl _ _).alloc (Nat.le_refl _) (.cells #[.int .u8 120] 5 (1, 2))).trans (hb3.mono (by simp))).mono B2.out.size))
  clear hSB r4 hb3 t0
  go_wp2_with fail
  go_ret
  exact ⟨rfl, B3.out⟩
end Go.Proofs.Ytiabafnfiedlcaa
