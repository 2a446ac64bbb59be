/- Layer 8: the chapter's example. -/
import Derived.Test.YtiblmlmkpilgmaaOp7
namespace Go.Proofs.Ytiblmlmkpilgmaa
open Go.RowKit
set_option linter.unusedVariables false
set_option linter.unusedSimpArgs false

theorem keyIs1 : KeyIs 1 [0, 0, 0, 0, 0, 0, 0, 1] 1 0 false := ⟨rfl, rfl, by unfold q64; omega, by unfold q64; omega, fun _ => rfl⟩
theorem dataB_len (f p : Bool) (sq ak wn t : Nat) : (dataB f p sq ak wn t).length = 29 := by
  unfold dataB
  simp [be_len]
set_option maxRecDepth 20000 in
set_option maxHeartbeats 4000000 in
theorem oalive_any (w : World) : Calls Try.prog 26 #[] w fun e w' => e = .returned (.bool true) ∧ Below w.heap.size w w' := by
  go_enter Try.func26, Try.ntmps26
  go_wp2_with fail
  refine (keyOpt_any 1 0 false w (by unfold q64; omega) (by unfold q64; omega)).mono ?_
  rintro e w1 ⟨⟨v1, rfl, hN⟩, hb1⟩
  rw [show keyB 1 0 false = [0, 0, 0, 0, 0, 0, 0, 1] from rfl] at hN
  obtain ⟨A1, n1, c1, rfl, hnc1, hl1, hr1⟩ := hN.out
  obtain rfl : n1 = 8 := hl1.out.symm
  have B1 := Lib.hid hb1
  clear hN hb1 hl1
  go_wp2_with fail
  have hb2 : Below w1.heap.size w1 (w1.alloc (.cells #[.int .u8 1, .slice A1 8 c1] 39)) := (Below.refl _ _).alloc (Nat.le_refl _) _
  have K2 := Lib.hid (Blk.new w1 39 #[.int .u8 1, .slice A1 8 c1])
  have R2 := Lib.hid (hr1.out.below hb2)
  have B2 := Lib.hid (B1.out.trans (hb2.mono B1.out.size))
  clear hb2 hr1 B1
  generalize hA2 : w1.alloc (.cells #[.int .u8 1, .slice A1 8 c1] 39) = w2 at *
  obtain ⟨T1, hT1⟩ : ∃ T, T = w1.heap.size := ⟨_, rfl⟩
  rw [← hT1] at K2 R2 ⊢
  have HT1 := Lib.hid (show T1 ≤ w2.heap.size from Nat.le_of_lt K2.out.lt)
  clear hA2 hT1
  refine (parseKey_any 1 A1 8 c1 [0, 0, 0, 0, 0, 0, 0, 1] w2 (R2.out.mono HT1.out) hnc1 (by simp) (by omega)).mono ?_
  rintro e w3 ⟨hp, hb3⟩
  have K3 := Lib.hid (K2.out.below hb3 K2.out.lt)
  have R3 := Lib.hid (R2.out.below (hb3.mono HT1.out))
  have HT3 := Lib.hid (Nat.le_trans HT1.out hb3.size)
  have B3 := Lib.hid (B2.out.trans (hb3.mono B2.out.size))
  clear hb3 K2 R2 B2
  rcases hp with ⟨k, t, a, rfl, hIs⟩ | ⟨_, hno⟩
  rotate_left
  · exact absurd keyIs1 (hno 1 0 false)
  obtain ⟨rfl, rfl, rfl⟩ := hIs.one keyIs1
  clear hIs
  go_wp2_with fail
  have hb5 : Below w3.heap.size w3 ((w3.alloc (.cells #[.int .u64 1, .bool false, .int .u64 0] 26)).alloc (.cells #[.bool false, .bool false, .int .u64 3, .int .u64 0, .int .u32 0, .int .u64 0] 31)) := ((Below.refl _ _).alloc (Nat.le_refl _) _).alloc (by simp) _
  have hk4 := (Blk.new w3 26 #[.int .u64 1, .bool false, .int .u64 0]).alloc (.cells #[.bool false, .bool false, .int .u64 3, .int .u64 0, .int .u32 0, .int .u64 0] 31)
  have hk5 := Blk.new (w3.alloc (.cells #[.int .u64 1, .bool false, .int .u64 0] 26)) 31 #[.bool false, .bool false, .int .u64 3, .int .u64 0, .int .u32 0, .int .u64 0]
  rw [show (w3.alloc (.cells #[.int .u64 1, .bool false, .int .u64 0] 26)).heap.size = w3.heap.size + 1 by simp] at hk5
  have K5 := Lib.hid (K3.out.below hb5 K3.out.lt)
  have R5 := Lib.hid (R3.out.below (hb5.mono HT3.out))
  have B5 := Lib.hid (B3.out.trans (hb5.mono B3.out.size))
  have HS := Lib.hid (show T1 < w3.heap.size from K3.out.lt)
  have HW := Lib.hid B3.out.size
  have KK := Lib.hid hk4
  have KD := Lib.hid hk5
  clear hb5 hk4 hk5 K3 R3 B3
  generalize hA5 : (w3.alloc (.cells #[.int .u64 1, .bool false, .int .u64 0] 26)).alloc (.cells #[.bool false, .bool false, .int .u64 3, .int .u64 0, .int .u32 0, .int .u64 0] 31) = w5 at *
  obtain ⟨T3, hT3⟩ : ∃ T, T = w3.heap.size := ⟨_, rfl⟩
  rw [← hT3] at KK KD HS HW ⊢
  clear hA5 hT3
  refine (seal_any (T3 + 1) 5 9 _ w5 (ptc6 KD.out).2.2.2.2.2 (KD.out.frozen 5)).mono ?_
  rintro e w6 ⟨rfl, hw6⟩
  have hs6 : Solo (T3 + 1) w5 w6 := by rw [hw6]; exact Solo.refl.setCell 5 _
  have KD6 := Lib.hid (show Blk w6 (T3 + 1) 31 #[.bool false, .bool false, .int .u64 3, .int .u64 0, .int .u32 0, .int .u64 9] by rw [hw6]; exact KD.out.set 5 _)
  have KK6 := Lib.hid (hs6.blk KK.out (by omega))
  have K6 := Lib.hid (hs6.blk K5.out (by have := HS.out; omega))
  have R6 := Lib.hid (R5.out.below (hs6.1.mono (by have := HS.out; omega)))
  have B6 := Lib.hid (B5.out.trans (hs6.1.mono (by have := HW.out; omega)))
  clear hw6 hs6 K5 R5 B5 KK KD
  obtain ⟨s0, s1⟩ := ptc2 K6.out
  obtain ⟨k0, k1, k2⟩ := ptc3 KK6.out
  obtain ⟨d0, d1, d2, d3, d4, d5⟩ := ptc6 KD6.out
  have hstr : (strN [0, 0, 0, 0, 0, 0, 0, 1]).toList = [0, 0, 0, 0, 0, 0, 0, 1] := by rw [strN_toList]; rfl
  go_wp2_with (refine wpList_conv Try.underlying37 Try.underlying5 Try.underlying9 rfl _ rfl rfl R6.out ?_)
  refine (dataOpt_any false false 3 0 0 9 w6 (by unfold q64; omega) (by unfold q64; omega) (by unfold q32; omega) (by unfold q64; omega)).mono ?_
  rintro e w7 ⟨⟨v7, rfl, hN⟩, hb7⟩
  obtain ⟨A7, n7, c7, rfl, _, hl7, _⟩ := hN.out
  have hn7 : n7 = 29 := by rw [← hl7.out]; exact dataB_len _ _ _ _ _ _
  subst hn7
  have B7 := Lib.hid (B6.out.trans (hb7.mono B6.out.size))
  have hfd : ∀ w : World, (Instr.field 39 (.agg #[.int .u8 3, .slice A7 29 c7]) 1).run Try.prog w = .ok (.slice A7 29 c7) w := fun _ => by kernel_rfl
  clear hl7 hN hb7 s0 s1 k0 k1 k2 d0 d1 d2 d3 d4 d5 K6 KK6 KD6 R6 B6
  go_wp2_with fail
  go_ret
  exact ⟨rfl, B7.out⟩
end Go.Proofs.Ytiblmlmkpilgmaa
