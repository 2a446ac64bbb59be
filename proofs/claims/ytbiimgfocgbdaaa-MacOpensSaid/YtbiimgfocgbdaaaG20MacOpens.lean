/- Contracts of the reference of layer 3: left, round, take. -/
import Derived.Test.YtbiimgfocgbdaaaG19MacOpens
import Derived.Deep.Cut

namespace Go.Proofs.Ytbiimgfocgbdaaa
open Go.RowKit
set_option linter.unusedVariables false

set_option maxRecDepth 20000 in
theorem left13 (x : Nat) (w : World) (hx : x < 18446744073709551616) : Calls Try.prog 108 #[.int .u64 x, .int .i64 13] w fun e w' => e = .returned (.int .u64 ((rotl x 13 : Nat) : Int)) ∧ w' = w := by
  go_enter Try.func108, Try.ntmps108
  go_wp2
  go_ret
  refine ⟨ret_int ?_, rfl⟩
  rw [IntKind.wrap_u64]
  unfold rotl M64
  rw [← or_nat _ _ (Nat.mod_lt _ (by decide)) (Nat.lt_of_le_of_lt (Nat.div_le_self _ _) hx)]
  rfl
set_option maxRecDepth 20000 in
theorem left16 (x : Nat) (w : World) (hx : x < 18446744073709551616) : Calls Try.prog 108 #[.int .u64 x, .int .i64 16] w fun e w' => e = .returned (.int .u64 ((rotl x 16 : Nat) : Int)) ∧ w' = w := by
  go_enter Try.func108, Try.ntmps108
  go_wp2
  go_ret
  refine ⟨ret_int ?_, rfl⟩
  rw [IntKind.wrap_u64]
  unfold rotl M64
  rw [← or_nat _ _ (Nat.mod_lt _ (by decide)) (Nat.lt_of_le_of_lt (Nat.div_le_self _ _) hx)]
  rfl
set_option maxRecDepth 20000 in
theorem left17 (x : Nat) (w : World) (hx : x < 18446744073709551616) : Calls Try.prog 108 #[.int .u64 x, .int .i64 17] w fun e w' => e = .returned (.int .u64 ((rotl x 17 : Nat) : Int)) ∧ w' = w := by
  go_enter Try.func108, Try.ntmps108
  go_wp2
  go_ret
  refine ⟨ret_int ?_, rfl⟩
  rw [IntKind.wrap_u64]
  unfold rotl M64
  rw [← or_nat _ _ (Nat.mod_lt _ (by decide)) (Nat.lt_of_le_of_lt (Nat.div_le_self _ _) hx)]
  rfl
set_option maxRecDepth 20000 in
theorem left21 (x : Nat) (w : World) (hx : x < 18446744073709551616) : Calls Try.prog 108 #[.int .u64 x, .int .i64 21] w fun e w' => e = .returned (.int .u64 ((rotl x 21 : Nat) : Int)) ∧ w' = w := by
  go_enter Try.func108, Try.ntmps108
  go_wp2
  go_ret
  refine ⟨ret_int ?_, rfl⟩
  rw [IntKind.wrap_u64]
  unfold rotl M64
  rw [← or_nat _ _ (Nat.mod_lt _ (by decide)) (Nat.lt_of_le_of_lt (Nat.div_le_self _ _) hx)]
  rfl
set_option maxRecDepth 20000 in
theorem left32 (x : Nat) (w : World) (hx : x < 18446744073709551616) : Calls Try.prog 108 #[.int .u64 x, .int .i64 32] w fun e w' => e = .returned (.int .u64 ((rotl x 32 : Nat) : Int)) ∧ w' = w := by
  go_enter Try.func108, Try.ntmps108
  go_wp2
  go_ret
  refine ⟨ret_int ?_, rfl⟩
  rw [IntKind.wrap_u64]
  unfold rotl M64
  rw [← or_nat _ _ (Nat.mod_lt _ (by decide)) (Nat.lt_of_le_of_lt (Nat.div_le_self _ _) hx)]
  rfl
def vcell (a b c d : Nat) : Array Value := #[.int .u64 (a : Int), .int .u64 (b : Int), .int .u64 (c : Int), .int .u64 (d : Int)]
def vagg (v : V4) : Value := .agg #[.int .u64 (v.1 : Nat), .int .u64 (v.2.1 : Nat), .int .u64 (v.2.2.1 : Nat), .int .u64 (v.2.2.2 : Nat)]
set_option maxRecDepth 20000 in
set_option maxHeartbeats 4000000 in
theorem rround_any (v : V4) (w : World) (hv : Ok v) :
    Calls Try.prog 90 #[.agg #[.int .u64 (v.1 : Nat), .int .u64 (v.2.1 : Nat), .int .u64 (v.2.2.1 : Nat), .int .u64 (v.2.2.2 : Nat)]] w fun e w' => e = .returned (vagg (rnd v)) ∧ Below w.heap.size w w' := by
  obtain ⟨a, b, c, d⟩ := v
  obtain ⟨h_a, h_b, h_c, h_d⟩ := hv
  have h_a : a < 18446744073709551616 := h_a
  have h_b : b < 18446744073709551616 := h_b
  have h_c : c < 18446744073709551616 := h_c
  have h_d : d < 18446744073709551616 := h_d
  show Calls Try.prog 90 #[.agg #[.int .u64 (a : Nat), .int .u64 (b : Nat), .int .u64 (c : Nat), .int .u64 (d : Nat)]] w _
  go_enter Try.func90, Try.ntmps90
  go_upto_region 1 with (fail)
  have hb : Blk ((w.alloc (.cells #[.int .u64 (a : Nat), .int .u64 (b : Nat), .int .u64 (c : Nat), .int .u64 (d : Nat)] 173)).alloc (.cells #[.int .u64 0, .int .u64 0, .int .u64 0, .int .u64 0] 173)) w.heap.size 173 (vcell a b c d) := (Blk.new w _ _).alloc _
  have hr0 : Blk ((w.alloc (.cells #[.int .u64 (a : Nat), .int .u64 (b : Nat), .int .u64 (c : Nat), .int .u64 (d : Nat)] 173)).alloc (.cells #[.int .u64 0, .int .u64 0, .int .u64 0, .int .u64 0] 173)) (w.heap.size + 1) 173 #[.int .u64 0, .int .u64 0, .int .u64 0, .int .u64 0] := by
    have := Blk.new (w.alloc (.cells #[.int .u64 (a : Nat), .int .u64 (b : Nat), .int .u64 (c : Nat), .int .u64 (d : Nat)] 173)) 173 #[.int .u64 0, .int .u64 0, .int .u64 0, .int .u64 0]
    simpa using this
  have hb0 : Below w.heap.size w ((w.alloc (.cells #[.int .u64 (a : Nat), .int .u64 (b : Nat), .int .u64 (c : Nat), .int .u64 (d : Nat)] 173)).alloc (.cells #[.int .u64 0, .int .u64 0, .int .u64 0, .int .u64 0] 173)) := ((Below.refl _ _).alloc (Nat.le_refl _) _).alloc (by simp) _
  generalize ((w.alloc (.cells #[.int .u64 (a : Nat), .int .u64 (b : Nat), .int .u64 (c : Nat), .int .u64 (d : Nat)] 173)).alloc (.cells #[.int .u64 0, .int .u64 0, .int .u64 0, .int .u64 0] 173)) = w1 at hb hr0 hb0 ⊢
  have HR0 := Lib.hid hr0
  have HB0 := Lib.hid hb0
  clear hr0 hb0
  obtain ⟨g, hg⟩ : ∃ g, g = w.heap.size := ⟨_, rfl⟩
  rw [← hg] at hb HR0 HB0 ⊢
  have HGG := Lib.hid hg
  clear hg
  have hs : Solo g w1 w1 := Solo.refl
  obtain ⟨x1, e1⟩ : ∃ y, y = ad64 a b := ⟨_, rfl⟩
  have h_x1 : x1 < 18446744073709551616 := by rw [e1]; exact ad64_lt _ _
  have v1 := val_add a b
  rw [← e1] at v1
  have E1 := Lib.hid e1
  clear e1
  have k0 : w1.cell? ⟨g, 0, none⟩ = some (.int .u64 ((a : Nat) : Int)) := hb.cell 0
  have k1 : w1.cell? ⟨g, 1, none⟩ = some (.int .u64 ((b : Nat) : Int)) := hb.cell 1
  have k2 : w1.cell? ⟨g, 2, none⟩ = some (.int .u64 ((c : Nat) : Int)) := hb.cell 2
  have k3 : w1.cell? ⟨g, 3, none⟩ = some (.int .u64 ((d : Nat) : Int)) := hb.cell 3
  have f0 := hb.frozen 0
  go_upto_region 2 with (fail)
  clear k0 k1 k2 k3 f0
  replace hb := Blk.set hb 0 (.int .u64 ((x1 : Nat) : Int))
  replace hs := hs.setCell 0 (.int .u64 ((x1 : Nat) : Int))
  generalize w1.setCell ⟨g, 0, none⟩ (.int .u64 ((x1 : Nat) : Int)) = ws1 at hb hs ⊢
  replace hb : Blk ws1 g 173 (vcell x1 b c d) := hb
  obtain ⟨x2, e2⟩ : ∃ y, y = rotl b 13 ^^^ x1 := ⟨_, rfl⟩
  have h_x2 : x2 < 18446744073709551616 := by rw [e2]; exact xor_lt (rotl_lt _ _ (by omega) h_b) h_x1
  have v2 := val_xor (rotl b 13) x1 (rotl_lt _ _ (by omega) h_b) h_x1
  rw [← e2] at v2
  have E2 := Lib.hid e2
  clear e2
  have k0 : ws1.cell? ⟨g, 0, none⟩ = some (.int .u64 ((x1 : Nat) : Int)) := hb.cell 0
  have k1 : ws1.cell? ⟨g, 1, none⟩ = some (.int .u64 ((b : Nat) : Int)) := hb.cell 1
  have k2 : ws1.cell? ⟨g, 2, none⟩ = some (.int .u64 ((c : Nat) : Int)) := hb.cell 2
  have k3 : ws1.cell? ⟨g, 3, none⟩ = some (.int .u64 ((d : Nat) : Int)) := hb.cell 3
  go_wp2_with fail
  refine wp_region_still_tail 7 (by kernel_rfl) (by kernel_rfl) ?_
  simp only [List.take_succ_cons, List.take_zero, List.drop_succ_cons, List.drop_zero]
  repeat still_step
  still_call (left13 b _ h_b)
  repeat still_step
  refine wpStill_nil ?_
  change wpList _ _ _ _ _ ws1.drew
  clear k0 k1 k2 k3
  replace hb := Blk.drew hb
  replace hs := hs.drew
  generalize ws1.drew = wd2 at hb hs ⊢
  have k0 : wd2.cell? ⟨g, 1, none⟩ = some (.int .u64 ((b : Nat) : Int)) := hb.cell 1
  have f0 := hb.frozen 1
  go_upto_region 3 with (fail)
  clear k0 f0
  replace hb := Blk.set hb 1 (.int .u64 ((x2 : Nat) : Int))
  replace hs := hs.setCell 1 (.int .u64 ((x2 : Nat) : Int))
  generalize wd2.setCell ⟨g, 1, none⟩ (.int .u64 ((x2 : Nat) : Int)) = ws2 at hb hs ⊢
  replace hb : Blk ws2 g 173 (vcell x1 x2 c d) := hb
  obtain ⟨x3, e3⟩ : ∃ y, y = rotl x1 32 := ⟨_, rfl⟩
  have h_x3 : x3 < 18446744073709551616 := by rw [e3]; exact rotl_lt _ _ (by omega) h_x1
  have r3 := left32 x1
  rw [← e3] at r3
  have E3 := Lib.hid e3
  clear e3
  have k0 : ws2.cell? ⟨g, 0, none⟩ = some (.int .u64 ((x1 : Nat) : Int)) := hb.cell 0
  have k1 : ws2.cell? ⟨g, 1, none⟩ = some (.int .u64 ((x2 : Nat) : Int)) := hb.cell 1
  have k2 : ws2.cell? ⟨g, 2, none⟩ = some (.int .u64 ((c : Nat) : Int)) := hb.cell 2
  have k3 : ws2.cell? ⟨g, 3, none⟩ = some (.int .u64 ((d : Nat) : Int)) := hb.cell 3
  have f0 := hb.frozen 0
  go_wp2_with fail
  refine (r3 ws2 h_x1).mono ?_
  rintro e wc3 ⟨rfl, rfl⟩
  go_upto_region 4 with (fail)
  clear k0 k1 k2 k3 f0
  replace hb := Blk.set hb 0 (.int .u64 ((x3 : Nat) : Int))
  replace hs := hs.setCell 0 (.int .u64 ((x3 : Nat) : Int))
  generalize wc3.setCell ⟨g, 0, none⟩ (.int .u64 ((x3 : Nat) : Int)) = ws3 at hb hs ⊢
  replace hb : Blk ws3 g 173 (vcell x3 x2 c d) := hb
  obtain ⟨x4, e4⟩ : ∃ y, y = ad64 c d := ⟨_, rfl⟩
  have h_x4 : x4 < 18446744073709551616 := by rw [e4]; exact ad64_lt _ _
  have v4 := val_add c d
  rw [← e4] at v4
  have E4 := Lib.hid e4
  clear e4
  have k0 : ws3.cell? ⟨g, 0, none⟩ = some (.int .u64 ((x3 : Nat) : Int)) := hb.cell 0
  have k1 : ws3.cell? ⟨g, 1, none⟩ = some (.int .u64 ((x2 : Nat) : Int)) := hb.cell 1
  have k2 : ws3.cell? ⟨g, 2, none⟩ = some (.int .u64 ((c : Nat) : Int)) := hb.cell 2
  have k3 : ws3.cell? ⟨g, 3, none⟩ = some (.int .u64 ((d : Nat) : Int)) := hb.cell 3
  have f0 := hb.frozen 2
  go_upto_region 5 with (fail)
  clear k0 k1 k2 k3 f0
  replace hb := Blk.set hb 2 (.int .u64 ((x4 : Nat) : Int))
  replace hs := hs.setCell 2 (.int .u64 ((x4 : Nat) : Int))
  generalize ws3.setCell ⟨g, 2, none⟩ (.int .u64 ((x4 : Nat) : Int)) = ws4 at hb hs ⊢
  replace hb : Blk ws4 g 173 (vcell x3 x2 x4 d) := hb
  obtain ⟨x5, e5⟩ : ∃ y, y = rotl d 16 ^^^ x4 := ⟨_, rfl⟩
  have h_x5 : x5 < 18446744073709551616 := by rw [e5]; exact xor_lt (rotl_lt _ _ (by omega) h_d) h_x4
  have v5 := val_xor (rotl d 16) x4 (rotl_lt _ _ (by omega) h_d) h_x4
  rw [← e5] at v5
  have E5 := Lib.hid e5
  clear e5
  have k0 : ws4.cell? ⟨g, 0, none⟩ = some (.int .u64 ((x3 : Nat) : Int)) := hb.cell 0
  have k1 : ws4.cell? ⟨g, 1, none⟩ = some (.int .u64 ((x2 : Nat) : Int)) := hb.cell 1
  have k2 : ws4.cell? ⟨g, 2, none⟩ = some (.int .u64 ((x4 : Nat) : Int)) := hb.cell 2
  have k3 : ws4.cell? ⟨g, 3, none⟩ = some (.int .u64 ((d : Nat) : Int)) := hb.cell 3
  go_wp2_with fail
  refine wp_region_still_tail 7 (by kernel_rfl) (by kernel_rfl) ?_
  simp only [List.take_succ_cons, List.take_zero, List.drop_succ_cons, List.drop_zero]
  repeat still_step
  still_call (left16 d _ h_d)
  repeat still_step
  refine wpStill_nil ?_
  change wpList _ _ _ _ _ ws4.drew
  clear k0 k1 k2 k3
  replace hb := Blk.drew hb
  replace hs := hs.drew
  generalize ws4.drew = wd5 at hb hs ⊢
  have k0 : wd5.cell? ⟨g, 3, none⟩ = some (.int .u64 ((d : Nat) : Int)) := hb.cell 3
  have f0 := hb.frozen 3
  go_upto_region 6 with (fail)
  clear k0 f0
  replace hb := Blk.set hb 3 (.int .u64 ((x5 : Nat) : Int))
  replace hs := hs.setCell 3 (.int .u64 ((x5 : Nat) : Int))
  generalize wd5.setCell ⟨g, 3, none⟩ (.int .u64 ((x5 : Nat) : Int)) = ws5 at hb hs ⊢
  replace hb : Blk ws5 g 173 (vcell x3 x2 x4 x5) := hb
  obtain ⟨x6, e6⟩ : ∃ y, y = ad64 x3 x5 := ⟨_, rfl⟩
  have h_x6 : x6 < 18446744073709551616 := by rw [e6]; exact ad64_lt _ _
  have v6 := val_add x3 x5
  rw [← e6] at v6
  have E6 := Lib.hid e6
  clear e6
  have k0 : ws5.cell? ⟨g, 0, none⟩ = some (.int .u64 ((x3 : Nat) : Int)) := hb.cell 0
  have k1 : ws5.cell? ⟨g, 1, none⟩ = some (.int .u64 ((x2 : Nat) : Int)) := hb.cell 1
  have k2 : ws5.cell? ⟨g, 2, none⟩ = some (.int .u64 ((x4 : Nat) : Int)) := hb.cell 2
  have k3 : ws5.cell? ⟨g, 3, none⟩ = some (.int .u64 ((x5 : Nat) : Int)) := hb.cell 3
  have f0 := hb.frozen 0
  go_upto_region 7 with (fail)
  clear k0 k1 k2 k3 f0
  replace hb := Blk.set hb 0 (.int .u64 ((x6 : Nat) : Int))
  replace hs := hs.setCell 0 (.int .u64 ((x6 : Nat) : Int))
  generalize ws5.setCell ⟨g, 0, none⟩ (.int .u64 ((x6 : Nat) : Int)) = ws6 at hb hs ⊢
  replace hb : Blk ws6 g 173 (vcell x6 x2 x4 x5) := hb
  obtain ⟨x7, e7⟩ : ∃ y, y = rotl x5 21 ^^^ x6 := ⟨_, rfl⟩
  have h_x7 : x7 < 18446744073709551616 := by rw [e7]; exact xor_lt (rotl_lt _ _ (by omega) h_x5) h_x6
  have v7 := val_xor (rotl x5 21) x6 (rotl_lt _ _ (by omega) h_x5) h_x6
  rw [← e7] at v7
  have E7 := Lib.hid e7
  clear e7
  have k0 : ws6.cell? ⟨g, 0, none⟩ = some (.int .u64 ((x6 : Nat) : Int)) := hb.cell 0
  have k1 : ws6.cell? ⟨g, 1, none⟩ = some (.int .u64 ((x2 : Nat) : Int)) := hb.cell 1
  have k2 : ws6.cell? ⟨g, 2, none⟩ = some (.int .u64 ((x4 : Nat) : Int)) := hb.cell 2
  have k3 : ws6.cell? ⟨g, 3, none⟩ = some (.int .u64 ((x5 : Nat) : Int)) := hb.cell 3
  go_wp2_with fail
  refine wp_region_still_tail 7 (by kernel_rfl) (by kernel_rfl) ?_
  simp only [List.take_succ_cons, List.take_zero, List.drop_succ_cons, List.drop_zero]
  repeat still_step
  still_call (left21 x5 _ h_x5)
  repeat still_step
  refine wpStill_nil ?_
  change wpList _ _ _ _ _ ws6.drew
  clear k0 k1 k2 k3
  replace hb := Blk.drew hb
  replace hs := hs.drew
  generalize ws6.drew = wd7 at hb hs ⊢
  have k0 : wd7.cell? ⟨g, 3, none⟩ = some (.int .u64 ((x5 : Nat) : Int)) := hb.cell 3
  have f0 := hb.frozen 3
  go_upto_region 8 with (fail)
  clear k0 f0
  replace hb := Blk.set hb 3 (.int .u64 ((x7 : Nat) : Int))
  replace hs := hs.setCell 3 (.int .u64 ((x7 : Nat) : Int))
  generalize wd7.setCell ⟨g, 3, none⟩ (.int .u64 ((x7 : Nat) : Int)) = ws7 at hb hs ⊢
  replace hb : Blk ws7 g 173 (vcell x6 x2 x4 x7) := hb
  obtain ⟨x8, e8⟩ : ∃ y, y = ad64 x4 x2 := ⟨_, rfl⟩
  have h_x8 : x8 < 18446744073709551616 := by rw [e8]; exact ad64_lt _ _
  have v8 := val_add x4 x2
  rw [← e8] at v8
  have E8 := Lib.hid e8
  clear e8
  have k0 : ws7.cell? ⟨g, 0, none⟩ = some (.int .u64 ((x6 : Nat) : Int)) := hb.cell 0
  have k1 : ws7.cell? ⟨g, 1, none⟩ = some (.int .u64 ((x2 : Nat) : Int)) := hb.cell 1
  have k2 : ws7.cell? ⟨g, 2, none⟩ = some (.int .u64 ((x4 : Nat) : Int)) := hb.cell 2
  have k3 : ws7.cell? ⟨g, 3, none⟩ = some (.int .u64 ((x7 : Nat) : Int)) := hb.cell 3
  have f0 := hb.frozen 2
  go_upto_region 9 with (fail)
  clear k0 k1 k2 k3 f0
  replace hb := Blk.set hb 2 (.int .u64 ((x8 : Nat) : Int))
  replace hs := hs.setCell 2 (.int .u64 ((x8 : Nat) : Int))
  generalize ws7.setCell ⟨g, 2, none⟩ (.int .u64 ((x8 : Nat) : Int)) = ws8 at hb hs ⊢
  replace hb : Blk ws8 g 173 (vcell x6 x2 x8 x7) := hb
  obtain ⟨x9, e9⟩ : ∃ y, y = rotl x2 17 ^^^ x8 := ⟨_, rfl⟩
  have h_x9 : x9 < 18446744073709551616 := by rw [e9]; exact xor_lt (rotl_lt _ _ (by omega) h_x2) h_x8
  have v9 := val_xor (rotl x2 17) x8 (rotl_lt _ _ (by omega) h_x2) h_x8
  rw [← e9] at v9
  have E9 := Lib.hid e9
  clear e9
  have k0 : ws8.cell? ⟨g, 0, none⟩ = some (.int .u64 ((x6 : Nat) : Int)) := hb.cell 0
  have k1 : ws8.cell? ⟨g, 1, none⟩ = some (.int .u64 ((x2 : Nat) : Int)) := hb.cell 1
  have k2 : ws8.cell? ⟨g, 2, none⟩ = some (.int .u64 ((x8 : Nat) : Int)) := hb.cell 2
  have k3 : ws8.cell? ⟨g, 3, none⟩ = some (.int .u64 ((x7 : Nat) : Int)) := hb.cell 3
  go_wp2_with fail
  refine wp_region_still_tail 7 (by kernel_rfl) (by kernel_rfl) ?_
  simp only [List.take_succ_cons, List.take_zero, List.drop_succ_cons, List.drop_zero]
  repeat still_step
  still_call (left17 x2 _ h_x2)
  repeat still_step
  refine wpStill_nil ?_
  change wpList _ _ _ _ _ ws8.drew
  clear k0 k1 k2 k3
  replace hb := Blk.drew hb
  replace hs := hs.drew
  generalize ws8.drew = wd9 at hb hs ⊢
  have k0 : wd9.cell? ⟨g, 1, none⟩ = some (.int .u64 ((x2 : Nat) : Int)) := hb.cell 1
  have f0 := hb.frozen 1
  go_upto_region 10 with (fail)
  clear k0 f0
  replace hb := Blk.set hb 1 (.int .u64 ((x9 : Nat) : Int))
  replace hs := hs.setCell 1 (.int .u64 ((x9 : Nat) : Int))
  generalize wd9.setCell ⟨g, 1, none⟩ (.int .u64 ((x9 : Nat) : Int)) = ws9 at hb hs ⊢
  replace hb : Blk ws9 g 173 (vcell x6 x9 x8 x7) := hb
  obtain ⟨x10, e10⟩ : ∃ y, y = rotl x8 32 := ⟨_, rfl⟩
  have h_x10 : x10 < 18446744073709551616 := by rw [e10]; exact rotl_lt _ _ (by omega) h_x8
  have r10 := left32 x8
  rw [← e10] at r10
  have E10 := Lib.hid e10
  clear e10
  have k0 : ws9.cell? ⟨g, 0, none⟩ = some (.int .u64 ((x6 : Nat) : Int)) := hb.cell 0
  have k1 : ws9.cell? ⟨g, 1, none⟩ = some (.int .u64 ((x9 : Nat) : Int)) := hb.cell 1
  have k2 : ws9.cell? ⟨g, 2, none⟩ = some (.int .u64 ((x8 : Nat) : Int)) := hb.cell 2
  have k3 : ws9.cell? ⟨g, 3, none⟩ = some (.int .u64 ((x7 : Nat) : Int)) := hb.cell 3
  have f0 := hb.frozen 2
  go_wp2_with fail
  refine (r10 ws9 h_x8).mono ?_
  rintro e wc10 ⟨rfl, rfl⟩
  go_upto_region 11 with (fail)
  clear k0 k1 k2 k3 f0
  replace hb := Blk.set hb 2 (.int .u64 ((x10 : Nat) : Int))
  replace hs := hs.setCell 2 (.int .u64 ((x10 : Nat) : Int))
  generalize wc10.setCell ⟨g, 2, none⟩ (.int .u64 ((x10 : Nat) : Int)) = ws10 at hb hs ⊢
  replace hb : Blk ws10 g 173 (vcell x6 x9 x10 x7) := hb
  have hrf : Blk ws10 (g + 1) 173 #[.int .u64 0, .int .u64 0, .int .u64 0, .int .u64 0] := (hs.2.2 (g + 1) (by omega)).trans HR0.out
  have k0 : ws10.cell? ⟨g, 0, none⟩ = some (.int .u64 ((x6 : Nat) : Int)) := hb.cell 0
  have k1 : ws10.cell? ⟨g, 1, none⟩ = some (.int .u64 ((x9 : Nat) : Int)) := hb.cell 1
  have k2 : ws10.cell? ⟨g, 2, none⟩ = some (.int .u64 ((x10 : Nat) : Int)) := hb.cell 2
  have k3 : ws10.cell? ⟨g, 3, none⟩ = some (.int .u64 ((x7 : Nat) : Int)) := hb.cell 3
  have r0 : ws10.cell? ⟨g + 1, 0, none⟩ = some (.int .u64 0) := hrf.cell 0
  have r1 : ws10.cell? ⟨g + 1, 1, none⟩ = some (.int .u64 0) := hrf.cell 1
  have r2 : ws10.cell? ⟨g + 1, 2, none⟩ = some (.int .u64 0) := hrf.cell 2
  have r3 : ws10.cell? ⟨g + 1, 3, none⟩ = some (.int .u64 0) := hrf.cell 3
  have f0 := hrf.frozen 0; have f1 := hrf.frozen 1; have f2 := hrf.frozen 2; have f3 := hrf.frozen 3
  go_wp2_with fail
  have hrs := (((hrf.set 0 (.int .u64 (x6 : Nat))).set 1 (.int .u64 (x9 : Nat))).set 2 (.int .u64 (x10 : Nat))).set 3 (.int .u64 (x7 : Nat))
  have hbs : Below g w ((((ws10.setCell ⟨g + 1, 0, none⟩ (.int .u64 (x6 : Nat))).setCell ⟨g + 1, 1, none⟩ (.int .u64 (x9 : Nat))).setCell ⟨g + 1, 2, none⟩ (.int .u64 (x10 : Nat))).setCell ⟨g + 1, 3, none⟩ (.int .u64 (x7 : Nat))) :=
    ((((HB0.out.trans hs.1).setCell (p := ⟨g + 1, 0, none⟩) (by simp) _).setCell (p := ⟨g + 1, 1, none⟩) (by simp) _).setCell (p := ⟨g + 1, 2, none⟩) (by simp) _).setCell (p := ⟨g + 1, 3, none⟩) (by simp) _
  clear k0 k1 k2 k3 r0 r1 r2 r3 f0 f1 f2 f3
  generalize ((((ws10.setCell ⟨g + 1, 0, none⟩ (.int .u64 (x6 : Nat))).setCell ⟨g + 1, 1, none⟩ (.int .u64 (x9 : Nat))).setCell ⟨g + 1, 2, none⟩ (.int .u64 (x10 : Nat))).setCell ⟨g + 1, 3, none⟩ (.int .u64 (x7 : Nat))) = wf at hrs hbs ⊢
  have q0 : wf.cell? ⟨g + 1, 0, none⟩ = some (.int .u64 (x6 : Nat)) := hrs.cell 0
  have q1 : wf.cell? ⟨g + 1, 1, none⟩ = some (.int .u64 (x9 : Nat)) := hrs.cell 1
  have q2 : wf.cell? ⟨g + 1, 2, none⟩ = some (.int .u64 (x10 : Nat)) := hrs.cell 2
  have q3 : wf.cell? ⟨g + 1, 3, none⟩ = some (.int .u64 (x7 : Nat)) := hrs.cell 3
  refine bodyPost_ret (v := .agg #[.int .u64 (x6 : Nat), .int .u64 (x9 : Nat), .int .u64 (x10 : Nat), .int .u64 (x7 : Nat)]) (by simp [results, Try.results90, go_sem, q0, q1, q2, q3]) rfl ⟨?_, (by have := hbs; rw [HGG.out] at this; exact this)⟩
  have e : rnd (a, b, c, d) = (x6, x9, x10, x7) := by
    rw [E10.out, E9.out, E8.out, E7.out, E6.out, E5.out, E4.out, E3.out, E2.out, E1.out]
    rfl
  rw [e]
  rfl

end Go.Proofs.Ytbiimgfocgbdaaa
