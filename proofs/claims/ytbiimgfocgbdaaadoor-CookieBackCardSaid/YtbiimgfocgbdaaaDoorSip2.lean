/- Contracts of package sip: the words are mixed. -/
import Derived.Test.YtbiimgfocgbdaaaDoorSip
namespace Go.Proofs.YtbiimgfocgbdaaaDoor
open Go.RowKit
set_option linter.unusedVariables false

abbrev V4 := Nat × Nat × Nat × Nat
def rnd (v : V4) : V4 :=
  let a1 := ad64 v.1 v.2.1
  let b1 := rotl v.2.1 13 ^^^ a1
  let a2 := rotl a1 32
  let c1 := ad64 v.2.2.1 v.2.2.2
  let d1 := rotl v.2.2.2 16 ^^^ c1
  let a3 := ad64 a2 d1
  let d2 := rotl d1 21 ^^^ a3
  let c2 := ad64 c1 b1
  let b2 := rotl b1 17 ^^^ c2
  let c3 := rotl c2 32
  (a3, b2, c3, d2)
def rndN (v : V4) : Nat → V4
  | 0 => v
  | k + 1 => rnd (rndN v k)
def Ok (v : V4) : Prop := v.1 < 18446744073709551616 ∧ v.2.1 < 18446744073709551616 ∧ v.2.2.1 < 18446744073709551616 ∧ v.2.2.2 < 18446744073709551616
theorem Ok.rnd {v : V4} (h : Ok v) : Ok (rnd v) := by
  obtain ⟨h1, h2, h3, h4⟩ := h
  have r1 : ∀ x k, k ≤ 64 → x < 18446744073709551616 → rotl x k < 18446744073709551616 := fun x k hk hx => rotl_lt x k hk hx
  have x1 := xor_lt (r1 v.2.1 13 (by omega) h2) (ad64_lt v.1 v.2.1)
  have x2 := xor_lt (r1 v.2.2.2 16 (by omega) h4) (ad64_lt v.2.2.1 v.2.2.2)
  refine ⟨ad64_lt _ _, ?_, ?_, ?_⟩
  · exact xor_lt (r1 _ _ (by omega) x1) (ad64_lt _ _)
  · exact r1 _ _ (by omega) (ad64_lt _ _)
  · exact xor_lt (r1 _ _ (by omega) x2) (ad64_lt _ _)
theorem Ok.rndN {v : V4} (h : Ok v) : ∀ k, Ok (rndN v k)
  | 0 => h
  | k + 1 => (Ok.rndN h k).rnd
/-- The cells of a sum on its way. -/
def scell (a b c d l m : Nat) : Array Value := #[.int .u64 (a : Int), .int .u64 (b : Int), .int .u64 (c : Int), .int .u64 (d : Int), .int .u64 (l : Int), .int .u64 (m : Int)]
def Sm (w : World) (g : Nat) (v : V4) (l m : Nat) : Prop := Blk w g 51 (scell v.1 v.2.1 v.2.2.1 v.2.2.2 l m)
theorem val_add (a b : Nat) : IntKind.u64.wrap ((a : Int) + (b : Int)) = ((ad64 a b : Nat) : Int) := by
  rw [IntKind.wrap_u64]
  unfold ad64 M64
  omega
theorem val_xor (a b : Nat) (ha : a < 18446744073709551616) (hb : b < 18446744073709551616) : bits .xor .u64 (a : Int) (b : Int) = ((a ^^^ b : Nat) : Int) := u64_xor_nat a b ha hb
set_option maxRecDepth 20000 in
set_option maxHeartbeats 4000000 in
theorem rounds_any (g : Nat) (v : V4) (l m n : Nat) (w : World) (hw : Sm w g v l m) (hv : Ok v) (hn : n ≤ 4) :
    Calls Tryd.prog 22 #[.pointer (some ⟨g, 0, none⟩), .int .i64 n] w fun e w' => (∃ u, e = .returned u) ∧ Sm w' g (rndN v n) l m ∧ Solo g w w' := by
  have HW := Lib.hid hw
  have HV := Lib.hid hv
  clear hw hv
  go_enter Tryd.func22, Tryd.ntmps22
  go_wp2_with fail
  go_loopw [9] (fun iv wr => ∃ j : Nat, j ≤ n ∧ iv = .int .i64 j ∧ Hid (Sm wr g (rndN v j) l m) ∧ Hid (Solo g w wr)) (fun iv _ => n - (intOf iv).toNat)
  case atStart => exact ⟨0, Nat.zero_le _, rfl, HW, Lib.hid Solo.refl⟩
  case round =>
    obtain ⟨j, hj, rfl, hsm, hso⟩ := hrel
    by_cases hlt : j < n
    · obtain ⟨va, hva⟩ : ∃ va, va = rndN v j := ⟨_, rfl⟩
      have hok := (HV.out.rndN j)
      have hb := hsm.out
      have hs := hso.out
      have HR : Hid (rndN v (j + 1) = rnd va) := Lib.hid (by rw [hva]; rfl)
      rw [← hva] at hok hb
      clear hva hsm hso HW HV
      obtain ⟨a, b, c, d⟩ := va
      obtain ⟨h_a, h_b, h_c, h_d⟩ := hok
      have hb : Blk wr g 51 (scell a b c d l m) := hb
      have h_a : a < 18446744073709551616 := h_a
      have h_b : b < 18446744073709551616 := h_b
      have h_c : c < 18446744073709551616 := h_c
      have h_d : d < 18446744073709551616 := h_d
      obtain ⟨x1, e1⟩ : ∃ y, y = ad64 a b := ⟨_, rfl⟩
      have h_x1 : x1 < 18446744073709551616 := by rw [e1]; exact ad64_lt _ _
      have v1 := val_add a b
      rw [← e1] at v1
      have E1 := Lib.hid e1
      clear e1
      have k0 : wr.cell? ⟨g, 0, none⟩ = some (.int .u64 ((a : Nat) : Int)) := hb.cell 0
      have k1 : wr.cell? ⟨g, 1, none⟩ = some (.int .u64 ((b : Nat) : Int)) := hb.cell 1
      have k2 : wr.cell? ⟨g, 2, none⟩ = some (.int .u64 ((c : Nat) : Int)) := hb.cell 2
      have k3 : wr.cell? ⟨g, 3, none⟩ = some (.int .u64 ((d : Nat) : Int)) := hb.cell 3
      go_wp2_with fail
      refine wp_region_still_tail 11 (by kernel_rfl) (by kernel_rfl) ?_
      simp only [List.take_succ_cons, List.take_zero, List.drop_succ_cons, List.drop_zero]
      repeat still_step
      refine wpStill_nil ?_
      change wpList _ _ _ _ _ wr.drew
      clear k0 k1 k2 k3
      replace hb := Blk.drew hb
      replace hs := hs.drew
      generalize wr.drew = wd1 at hb hs ⊢
      have k0 : wd1.cell? ⟨g, 0, none⟩ = some (.int .u64 ((a : Nat) : Int)) := hb.cell 0
      have f0 := hb.frozen 0
      go_wp2_with fail
      clear k0 f0
      replace hb := Blk.set hb 0 (.int .u64 ((x1 : Nat) : Int))
      replace hs := hs.setCell 0 (.int .u64 ((x1 : Nat) : Int))
      generalize wd1.setCell ⟨g, 0, none⟩ (.int .u64 ((x1 : Nat) : Int)) = ws1 at hb hs ⊢
      replace hb : Blk ws1 g 51 (scell x1 b c d l m) := hb
      obtain ⟨x2, e2⟩ : ∃ y, y = rotl b 13 ^^^ x1 := ⟨_, rfl⟩
      have h_x2 : x2 < 18446744073709551616 := by rw [e2]; exact xor_lt (rotl_lt _ _ (by omega) h_b) h_x1
      have v2 := val_xor (rotl b 13) x1 (rotl_lt _ _ (by omega) h_b) h_x1
      rw [← e2] at v2
      have E2 := Lib.hid e2
      clear e2
      have k0 : ws1.cell? ⟨g, 0, none⟩ = some (.int .u64 ((x1 : Nat) : Int)) := hb.cell 0
      have k1 : ws1.cell? ⟨g, 1, none⟩ = some (.int .u64 ((b : Nat) : Int)) := hb.cell 1
      have k2 : ws1.cell? ⟨g, 2, none⟩ = some (.int .u64 ((c : Nat) : Int)) := hb.cell 2
      have k3 : ws1.cell? ⟨g, 3, none⟩ = some (.int .u64 ((d : Nat) : Int)) := hb.cell 3
      go_wp2_with fail
      refine wp_region_still_tail 13 (by kernel_rfl) (by kernel_rfl) ?_
      simp only [List.take_succ_cons, List.take_zero, List.drop_succ_cons, List.drop_zero]
      repeat still_step
      still_call (rotl13 b _ h_b)
      repeat still_step
      refine wpStill_nil ?_
      change wpList _ _ _ _ _ ws1.drew
      clear k0 k1 k2 k3
      replace hb := Blk.drew hb
      replace hs := hs.drew
      generalize ws1.drew = wd2 at hb hs ⊢
      have k0 : wd2.cell? ⟨g, 1, none⟩ = some (.int .u64 ((b : Nat) : Int)) := hb.cell 1
      have f0 := hb.frozen 1
      go_wp2_with fail
      clear k0 f0
      replace hb := Blk.set hb 1 (.int .u64 ((x2 : Nat) : Int))
      replace hs := hs.setCell 1 (.int .u64 ((x2 : Nat) : Int))
      generalize wd2.setCell ⟨g, 1, none⟩ (.int .u64 ((x2 : Nat) : Int)) = ws2 at hb hs ⊢
      replace hb : Blk ws2 g 51 (scell x1 x2 c d l m) := hb
      obtain ⟨x3, e3⟩ : ∃ y, y = rotl x1 32 := ⟨_, rfl⟩
      have h_x3 : x3 < 18446744073709551616 := by rw [e3]; exact rotl_lt _ _ (by omega) h_x1
      have r3 := rotl32 x1
      rw [← e3] at r3
      have E3 := Lib.hid e3
      clear e3
      have k0 : ws2.cell? ⟨g, 0, none⟩ = some (.int .u64 ((x1 : Nat) : Int)) := hb.cell 0
      have k1 : ws2.cell? ⟨g, 1, none⟩ = some (.int .u64 ((x2 : Nat) : Int)) := hb.cell 1
      have k2 : ws2.cell? ⟨g, 2, none⟩ = some (.int .u64 ((c : Nat) : Int)) := hb.cell 2
      have k3 : ws2.cell? ⟨g, 3, none⟩ = some (.int .u64 ((d : Nat) : Int)) := hb.cell 3
      go_wp2_with fail
      refine wp_region_still_tail 8 (by kernel_rfl) (by kernel_rfl) ?_
      simp only [List.take_succ_cons, List.take_zero, List.drop_succ_cons, List.drop_zero]
      repeat still_step
      still_call (r3 _ h_x1)
      repeat still_step
      refine wpStill_nil ?_
      change wpList _ _ _ _ _ ws2.drew
      clear k0 k1 k2 k3
      replace hb := Blk.drew hb
      replace hs := hs.drew
      generalize ws2.drew = wd3 at hb hs ⊢
      have k0 : wd3.cell? ⟨g, 0, none⟩ = some (.int .u64 ((x1 : Nat) : Int)) := hb.cell 0
      have f0 := hb.frozen 0
      go_wp2_with fail
      clear k0 f0
      replace hb := Blk.set hb 0 (.int .u64 ((x3 : Nat) : Int))
      replace hs := hs.setCell 0 (.int .u64 ((x3 : Nat) : Int))
      generalize wd3.setCell ⟨g, 0, none⟩ (.int .u64 ((x3 : Nat) : Int)) = ws3 at hb hs ⊢
      replace hb : Blk ws3 g 51 (scell x3 x2 c d l m) := hb
      obtain ⟨x4, e4⟩ : ∃ y, y = ad64 c d := ⟨_, rfl⟩
      have h_x4 : x4 < 18446744073709551616 := by rw [e4]; exact ad64_lt _ _
      have v4 := val_add c d
      rw [← e4] at v4
      have E4 := Lib.hid e4
      clear e4
      have k0 : ws3.cell? ⟨g, 0, none⟩ = some (.int .u64 ((x3 : Nat) : Int)) := hb.cell 0
      have k1 : ws3.cell? ⟨g, 1, none⟩ = some (.int .u64 ((x2 : Nat) : Int)) := hb.cell 1
      have k2 : ws3.cell? ⟨g, 2, none⟩ = some (.int .u64 ((c : Nat) : Int)) := hb.cell 2
      have k3 : ws3.cell? ⟨g, 3, none⟩ = some (.int .u64 ((d : Nat) : Int)) := hb.cell 3
      go_wp2_with fail
      refine wp_region_still_tail 11 (by kernel_rfl) (by kernel_rfl) ?_
      simp only [List.take_succ_cons, List.take_zero, List.drop_succ_cons, List.drop_zero]
      repeat still_step
      refine wpStill_nil ?_
      change wpList _ _ _ _ _ ws3.drew
      clear k0 k1 k2 k3
      replace hb := Blk.drew hb
      replace hs := hs.drew
      generalize ws3.drew = wd4 at hb hs ⊢
      have k0 : wd4.cell? ⟨g, 2, none⟩ = some (.int .u64 ((c : Nat) : Int)) := hb.cell 2
      have f0 := hb.frozen 2
      go_wp2_with fail
      clear k0 f0
      replace hb := Blk.set hb 2 (.int .u64 ((x4 : Nat) : Int))
      replace hs := hs.setCell 2 (.int .u64 ((x4 : Nat) : Int))
      generalize wd4.setCell ⟨g, 2, none⟩ (.int .u64 ((x4 : Nat) : Int)) = ws4 at hb hs ⊢
      replace hb : Blk ws4 g 51 (scell x3 x2 x4 d l m) := hb
      obtain ⟨x5, e5⟩ : ∃ y, y = rotl d 16 ^^^ x4 := ⟨_, rfl⟩
      have h_x5 : x5 < 18446744073709551616 := by rw [e5]; exact xor_lt (rotl_lt _ _ (by omega) h_d) h_x4
      have v5 := val_xor (rotl d 16) x4 (rotl_lt _ _ (by omega) h_d) h_x4
      rw [← e5] at v5
      have E5 := Lib.hid e5
      clear e5
      have k0 : ws4.cell? ⟨g, 0, none⟩ = some (.int .u64 ((x3 : Nat) : Int)) := hb.cell 0
      have k1 : ws4.cell? ⟨g, 1, none⟩ = some (.int .u64 ((x2 : Nat) : Int)) := hb.cell 1
      have k2 : ws4.cell? ⟨g, 2, none⟩ = some (.int .u64 ((x4 : Nat) : Int)) := hb.cell 2
      have k3 : ws4.cell? ⟨g, 3, none⟩ = some (.int .u64 ((d : Nat) : Int)) := hb.cell 3
      go_wp2_with fail
      refine wp_region_still_tail 13 (by kernel_rfl) (by kernel_rfl) ?_
      simp only [List.take_succ_cons, List.take_zero, List.drop_succ_cons, List.drop_zero]
      repeat still_step
      still_call (rotl16 d _ h_d)
      repeat still_step
      refine wpStill_nil ?_
      change wpList _ _ _ _ _ ws4.drew
      clear k0 k1 k2 k3
      replace hb := Blk.drew hb
      replace hs := hs.drew
      generalize ws4.drew = wd5 at hb hs ⊢
      have k0 : wd5.cell? ⟨g, 3, none⟩ = some (.int .u64 ((d : Nat) : Int)) := hb.cell 3
      have f0 := hb.frozen 3
      go_wp2_with fail
      clear k0 f0
      replace hb := Blk.set hb 3 (.int .u64 ((x5 : Nat) : Int))
      replace hs := hs.setCell 3 (.int .u64 ((x5 : Nat) : Int))
      generalize wd5.setCell ⟨g, 3, none⟩ (.int .u64 ((x5 : Nat) : Int)) = ws5 at hb hs ⊢
      replace hb : Blk ws5 g 51 (scell x3 x2 x4 x5 l m) := hb
      obtain ⟨x6, e6⟩ : ∃ y, y = ad64 x3 x5 := ⟨_, rfl⟩
      have h_x6 : x6 < 18446744073709551616 := by rw [e6]; exact ad64_lt _ _
      have v6 := val_add x3 x5
      rw [← e6] at v6
      have E6 := Lib.hid e6
      clear e6
      have k0 : ws5.cell? ⟨g, 0, none⟩ = some (.int .u64 ((x3 : Nat) : Int)) := hb.cell 0
      have k1 : ws5.cell? ⟨g, 1, none⟩ = some (.int .u64 ((x2 : Nat) : Int)) := hb.cell 1
      have k2 : ws5.cell? ⟨g, 2, none⟩ = some (.int .u64 ((x4 : Nat) : Int)) := hb.cell 2
      have k3 : ws5.cell? ⟨g, 3, none⟩ = some (.int .u64 ((x5 : Nat) : Int)) := hb.cell 3
      go_wp2_with fail
      refine wp_region_still_tail 11 (by kernel_rfl) (by kernel_rfl) ?_
      simp only [List.take_succ_cons, List.take_zero, List.drop_succ_cons, List.drop_zero]
      repeat still_step
      refine wpStill_nil ?_
      change wpList _ _ _ _ _ ws5.drew
      clear k0 k1 k2 k3
      replace hb := Blk.drew hb
      replace hs := hs.drew
      generalize ws5.drew = wd6 at hb hs ⊢
      have k0 : wd6.cell? ⟨g, 0, none⟩ = some (.int .u64 ((x3 : Nat) : Int)) := hb.cell 0
      have f0 := hb.frozen 0
      go_wp2_with fail
      clear k0 f0
      replace hb := Blk.set hb 0 (.int .u64 ((x6 : Nat) : Int))
      replace hs := hs.setCell 0 (.int .u64 ((x6 : Nat) : Int))
      generalize wd6.setCell ⟨g, 0, none⟩ (.int .u64 ((x6 : Nat) : Int)) = ws6 at hb hs ⊢
      replace hb : Blk ws6 g 51 (scell x6 x2 x4 x5 l m) := hb
      obtain ⟨x7, e7⟩ : ∃ y, y = rotl x5 21 ^^^ x6 := ⟨_, rfl⟩
      have h_x7 : x7 < 18446744073709551616 := by rw [e7]; exact xor_lt (rotl_lt _ _ (by omega) h_x5) h_x6
      have v7 := val_xor (rotl x5 21) x6 (rotl_lt _ _ (by omega) h_x5) h_x6
      rw [← e7] at v7
      have E7 := Lib.hid e7
      clear e7
      have k0 : ws6.cell? ⟨g, 0, none⟩ = some (.int .u64 ((x6 : Nat) : Int)) := hb.cell 0
      have k1 : ws6.cell? ⟨g, 1, none⟩ = some (.int .u64 ((x2 : Nat) : Int)) := hb.cell 1
      have k2 : ws6.cell? ⟨g, 2, none⟩ = some (.int .u64 ((x4 : Nat) : Int)) := hb.cell 2
      have k3 : ws6.cell? ⟨g, 3, none⟩ = some (.int .u64 ((x5 : Nat) : Int)) := hb.cell 3
      go_wp2_with fail
      refine wp_region_still_tail 13 (by kernel_rfl) (by kernel_rfl) ?_
      simp only [List.take_succ_cons, List.take_zero, List.drop_succ_cons, List.drop_zero]
      repeat still_step
      still_call (rotl21 x5 _ h_x5)
      repeat still_step
      refine wpStill_nil ?_
      change wpList _ _ _ _ _ ws6.drew
      clear k0 k1 k2 k3
      replace hb := Blk.drew hb
      replace hs := hs.drew
      generalize ws6.drew = wd7 at hb hs ⊢
      have k0 : wd7.cell? ⟨g, 3, none⟩ = some (.int .u64 ((x5 : Nat) : Int)) := hb.cell 3
      have f0 := hb.frozen 3
      go_wp2_with fail
      clear k0 f0
      replace hb := Blk.set hb 3 (.int .u64 ((x7 : Nat) : Int))
      replace hs := hs.setCell 3 (.int .u64 ((x7 : Nat) : Int))
      generalize wd7.setCell ⟨g, 3, none⟩ (.int .u64 ((x7 : Nat) : Int)) = ws7 at hb hs ⊢
      replace hb : Blk ws7 g 51 (scell x6 x2 x4 x7 l m) := hb
      obtain ⟨x8, e8⟩ : ∃ y, y = ad64 x4 x2 := ⟨_, rfl⟩
      have h_x8 : x8 < 18446744073709551616 := by rw [e8]; exact ad64_lt _ _
      have v8 := val_add x4 x2
      rw [← e8] at v8
      have E8 := Lib.hid e8
      clear e8
      have k0 : ws7.cell? ⟨g, 0, none⟩ = some (.int .u64 ((x6 : Nat) : Int)) := hb.cell 0
      have k1 : ws7.cell? ⟨g, 1, none⟩ = some (.int .u64 ((x2 : Nat) : Int)) := hb.cell 1
      have k2 : ws7.cell? ⟨g, 2, none⟩ = some (.int .u64 ((x4 : Nat) : Int)) := hb.cell 2
      have k3 : ws7.cell? ⟨g, 3, none⟩ = some (.int .u64 ((x7 : Nat) : Int)) := hb.cell 3
      go_wp2_with fail
      refine wp_region_still_tail 11 (by kernel_rfl) (by kernel_rfl) ?_
      simp only [List.take_succ_cons, List.take_zero, List.drop_succ_cons, List.drop_zero]
      repeat still_step
      refine wpStill_nil ?_
      change wpList _ _ _ _ _ ws7.drew
      clear k0 k1 k2 k3
      replace hb := Blk.drew hb
      replace hs := hs.drew
      generalize ws7.drew = wd8 at hb hs ⊢
      have k0 : wd8.cell? ⟨g, 2, none⟩ = some (.int .u64 ((x4 : Nat) : Int)) := hb.cell 2
      have f0 := hb.frozen 2
      go_wp2_with fail
      clear k0 f0
      replace hb := Blk.set hb 2 (.int .u64 ((x8 : Nat) : Int))
      replace hs := hs.setCell 2 (.int .u64 ((x8 : Nat) : Int))
      generalize wd8.setCell ⟨g, 2, none⟩ (.int .u64 ((x8 : Nat) : Int)) = ws8 at hb hs ⊢
      replace hb : Blk ws8 g 51 (scell x6 x2 x8 x7 l m) := hb
      obtain ⟨x9, e9⟩ : ∃ y, y = rotl x2 17 ^^^ x8 := ⟨_, rfl⟩
      have h_x9 : x9 < 18446744073709551616 := by rw [e9]; exact xor_lt (rotl_lt _ _ (by omega) h_x2) h_x8
      have v9 := val_xor (rotl x2 17) x8 (rotl_lt _ _ (by omega) h_x2) h_x8
      rw [← e9] at v9
      have E9 := Lib.hid e9
      clear e9
      have k0 : ws8.cell? ⟨g, 0, none⟩ = some (.int .u64 ((x6 : Nat) : Int)) := hb.cell 0
      have k1 : ws8.cell? ⟨g, 1, none⟩ = some (.int .u64 ((x2 : Nat) : Int)) := hb.cell 1
      have k2 : ws8.cell? ⟨g, 2, none⟩ = some (.int .u64 ((x8 : Nat) : Int)) := hb.cell 2
      have k3 : ws8.cell? ⟨g, 3, none⟩ = some (.int .u64 ((x7 : Nat) : Int)) := hb.cell 3
      go_wp2_with fail
      refine wp_region_still_tail 13 (by kernel_rfl) (by kernel_rfl) ?_
      simp only [List.take_succ_cons, List.take_zero, List.drop_succ_cons, List.drop_zero]
      repeat still_step
      still_call (rotl17 x2 _ h_x2)
      repeat still_step
      refine wpStill_nil ?_
      change wpList _ _ _ _ _ ws8.drew
      clear k0 k1 k2 k3
      replace hb := Blk.drew hb
      replace hs := hs.drew
      generalize ws8.drew = wd9 at hb hs ⊢
      have k0 : wd9.cell? ⟨g, 1, none⟩ = some (.int .u64 ((x2 : Nat) : Int)) := hb.cell 1
      have f0 := hb.frozen 1
      go_wp2_with fail
      clear k0 f0
      replace hb := Blk.set hb 1 (.int .u64 ((x9 : Nat) : Int))
      replace hs := hs.setCell 1 (.int .u64 ((x9 : Nat) : Int))
      generalize wd9.setCell ⟨g, 1, none⟩ (.int .u64 ((x9 : Nat) : Int)) = ws9 at hb hs ⊢
      replace hb : Blk ws9 g 51 (scell x6 x9 x8 x7 l m) := hb
      obtain ⟨x10, e10⟩ : ∃ y, y = rotl x8 32 := ⟨_, rfl⟩
      have h_x10 : x10 < 18446744073709551616 := by rw [e10]; exact rotl_lt _ _ (by omega) h_x8
      have r10 := rotl32 x8
      rw [← e10] at r10
      have E10 := Lib.hid e10
      clear e10
      have k0 : ws9.cell? ⟨g, 0, none⟩ = some (.int .u64 ((x6 : Nat) : Int)) := hb.cell 0
      have k1 : ws9.cell? ⟨g, 1, none⟩ = some (.int .u64 ((x9 : Nat) : Int)) := hb.cell 1
      have k2 : ws9.cell? ⟨g, 2, none⟩ = some (.int .u64 ((x8 : Nat) : Int)) := hb.cell 2
      have k3 : ws9.cell? ⟨g, 3, none⟩ = some (.int .u64 ((x7 : Nat) : Int)) := hb.cell 3
      go_wp2_with fail
      refine wp_region_still_tail 8 (by kernel_rfl) (by kernel_rfl) ?_
      simp only [List.take_succ_cons, List.take_zero, List.drop_succ_cons, List.drop_zero]
      repeat still_step
      still_call (r10 _ h_x8)
      repeat still_step
      refine wpStill_nil ?_
      change wpList _ _ _ _ _ ws9.drew
      clear k0 k1 k2 k3
      replace hb := Blk.drew hb
      replace hs := hs.drew
      generalize ws9.drew = wd10 at hb hs ⊢
      have k0 : wd10.cell? ⟨g, 2, none⟩ = some (.int .u64 ((x8 : Nat) : Int)) := hb.cell 2
      have f0 := hb.frozen 2
      go_wp2_with fail
      clear k0 f0
      replace hb := Blk.set hb 2 (.int .u64 ((x10 : Nat) : Int))
      replace hs := hs.setCell 2 (.int .u64 ((x10 : Nat) : Int))
      generalize wd10.setCell ⟨g, 2, none⟩ (.int .u64 ((x10 : Nat) : Int)) = ws10 at hb hs ⊢
      replace hb : Blk ws10 g 51 (scell x6 x9 x10 x7 l m) := hb
      go_roundw
      case rel =>
        refine ⟨j + 1, by omega, by go_num, Lib.hid ?_, Lib.hid hs⟩
        rw [HR.out]
        show Blk _ g 51 _
        have e : scell x6 x9 x10 x7 l m = scell (rnd (a, b, c, d)).1 (rnd (a, b, c, d)).2.1 (rnd (a, b, c, d)).2.2.1 (rnd (a, b, c, d)).2.2.2 l m := by
          rw [E10.out, E9.out, E8.out, E7.out, E6.out, E5.out, E4.out, E3.out, E2.out, E1.out]
          rfl
        rw [← e]
        exact hb
      case measure => simp [intOf]; omega
    · obtain rfl : j = n := by omega
      go_wp2_with fail
      go_end0
      exact ⟨⟨_, rfl⟩, hsm.out, hso.out⟩
end Go.Proofs.YtbiimgfocgbdaaaDoor
