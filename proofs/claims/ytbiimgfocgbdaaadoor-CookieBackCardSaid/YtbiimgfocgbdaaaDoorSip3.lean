/- Contracts of package sip: a number, a byte, the end. -/
import Derived.Test.YtbiimgfocgbdaaaDoorSip2
namespace Go.Proofs.YtbiimgfocgbdaaaDoor
open Go.RowKit
set_option linter.unusedVariables false

def tk (v : V4) (m : Nat) : V4 :=
  let u := rndN (v.1, v.2.1, v.2.2.1, v.2.2.2 ^^^ m) 2
  (u.1 ^^^ m, u.2.1, u.2.2.1, u.2.2.2)
theorem Ok.x3 {v : V4} (h : Ok v) {m : Nat} (hm : m < 18446744073709551616) : Ok (v.1, v.2.1, v.2.2.1, v.2.2.2 ^^^ m) := ⟨h.1, h.2.1, h.2.2.1, xor_lt h.2.2.2 hm⟩
theorem Ok.x2 {v : V4} (h : Ok v) {m : Nat} (hm : m < 18446744073709551616) : Ok (v.1, v.2.1, v.2.2.1 ^^^ m, v.2.2.2) := ⟨h.1, h.2.1, xor_lt h.2.2.1 hm, h.2.2.2⟩
theorem Ok.x0 {v : V4} (h : Ok v) {m : Nat} (hm : m < 18446744073709551616) : Ok (v.1 ^^^ m, v.2.1, v.2.2.1, v.2.2.2) := ⟨xor_lt h.1 hm, h.2.1, h.2.2.1, h.2.2.2⟩
theorem Ok.tk {v : V4} (h : Ok v) {m : Nat} (hm : m < 18446744073709551616) : Ok (tk v m) := Ok.x0 ((h.x3 hm).rndN 2) hm
section
variable {w : World} {g : Nat} {v : V4} {l m : Nat}
theorem Sm.drew (h : Sm w g v l m) : Sm w.drew g v l m := Blk.drew h
theorem Sm.c0 (h : Sm w g v l m) : w.cell? ⟨g, 0, none⟩ = some (.int .u64 ((v.1 : Nat) : Int)) := Blk.cell h 0
theorem Sm.c1 (h : Sm w g v l m) : w.cell? ⟨g, 1, none⟩ = some (.int .u64 ((v.2.1 : Nat) : Int)) := Blk.cell h 1
theorem Sm.c2 (h : Sm w g v l m) : w.cell? ⟨g, 2, none⟩ = some (.int .u64 ((v.2.2.1 : Nat) : Int)) := Blk.cell h 2
theorem Sm.c3 (h : Sm w g v l m) : w.cell? ⟨g, 3, none⟩ = some (.int .u64 ((v.2.2.2 : Nat) : Int)) := Blk.cell h 3
theorem Sm.c4 (h : Sm w g v l m) : w.cell? ⟨g, 4, none⟩ = some (.int .u64 ((l : Nat) : Int)) := Blk.cell h 4
theorem Sm.c5 (h : Sm w g v l m) : w.cell? ⟨g, 5, none⟩ = some (.int .u64 ((m : Nat) : Int)) := Blk.cell h 5
theorem Sm.set0 (h : Sm w g v l m) (x : Nat) : Sm (w.setCell ⟨g, 0, none⟩ (.int .u64 (x : Int))) g (x, v.2.1, v.2.2.1, v.2.2.2) l m := Blk.set h 0 _
theorem Sm.set2 (h : Sm w g v l m) (x : Nat) : Sm (w.setCell ⟨g, 2, none⟩ (.int .u64 (x : Int))) g (v.1, v.2.1, x, v.2.2.2) l m := Blk.set h 2 _
theorem Sm.set3 (h : Sm w g v l m) (x : Nat) : Sm (w.setCell ⟨g, 3, none⟩ (.int .u64 (x : Int))) g (v.1, v.2.1, v.2.2.1, x) l m := Blk.set h 3 _
theorem Sm.set4 (h : Sm w g v l m) (x : Nat) : Sm (w.setCell ⟨g, 4, none⟩ (.int .u64 (x : Int))) g v x m := Blk.set h 4 _
theorem Sm.set5 (h : Sm w g v l m) (x : Nat) : Sm (w.setCell ⟨g, 5, none⟩ (.int .u64 (x : Int))) g v l x := Blk.set h 5 _
theorem Sm.frozen (h : Sm w g v l m) (i : Nat) : w.frozen? ⟨g, i, none⟩ = false := Blk.frozen h i
end
set_option maxRecDepth 20000 in
set_option maxHeartbeats 1000000 in
theorem take_any (g : Nat) (v : V4) (l m n : Nat) (w : World) (hw : Sm w g v l m) (hv : Ok v) (hn : n < 18446744073709551616) :
    Calls Tryd.prog 21 #[.pointer (some ⟨g, 0, none⟩), .int .u64 n] w fun e w' => (∃ u, e = .returned u) ∧ Sm w' g (tk v n) l m ∧ Solo g w w' := by
  have HV := Lib.hid hv
  obtain ⟨a, b, c, d⟩ := v
  have h_d : d < 18446744073709551616 := hv.2.2.2
  obtain ⟨y, ey⟩ : ∃ y, y = d ^^^ n := ⟨_, rfl⟩
  have v1 := val_xor d n h_d hn
  rw [← ey] at v1
  have HY := Lib.hid ey
  clear ey hv
  have hs : Solo g w w := Solo.refl
  have k3 : w.cell? ⟨g, 3, none⟩ = some (.int .u64 ((d : Nat) : Int)) := hw.c3
  have HW := Lib.hid hw
  clear hw
  go_enter Tryd.func21, Tryd.ntmps21
  go_wp2_with fail
  refine wp_region_still_tail 10 (by kernel_rfl) (by kernel_rfl) ?_
  simp only [List.take_succ_cons, List.take_zero, List.drop_succ_cons, List.drop_zero]
  repeat still_step
  refine wpStill_nil ?_
  change wpList _ _ _ _ _ w.drew
  clear k3
  replace HW := Lib.hid HW.out.drew
  replace hs := hs.drew
  generalize w.drew = w1 at HW hs ⊢
  have k0 : w1.cell? ⟨g, 3, none⟩ = some (.int .u64 ((d : Nat) : Int)) := HW.out.c3
  have f0 := HW.out.frozen 3
  go_wp2_with fail
  clear k0 f0
  replace HW := Lib.hid (HW.out.set3 y)
  replace hs := hs.setCell 3 (.int .u64 ((y : Nat) : Int))
  generalize w1.setCell ⟨g, 3, none⟩ (.int .u64 ((y : Nat) : Int)) = w2 at HW hs ⊢
  have HV2 := HV.out.x3 hn
  rw [← HY.out] at HV2
  refine (rounds_any g (a, b, c, y) l m 2 w2 HW.out HV2 (by omega)).mono ?_
  rintro e w3 ⟨⟨u, rfl⟩, hw3, hs3⟩
  obtain ⟨z, hz⟩ : ∃ z, z = rndN (a, b, c, y) 2 := ⟨_, rfl⟩
  have HZ := Lib.hid hz
  have hok := HV2.rndN 2
  rw [← hz] at hw3 hok
  replace hs := hs.trans hs3
  clear hz hs3 HV2 HW
  obtain ⟨za, zb, zc, zd⟩ := z
  have h_a : za < 18446744073709551616 := hok.1
  obtain ⟨q, eq⟩ : ∃ q, q = za ^^^ n := ⟨_, rfl⟩
  have v2 := val_xor za n h_a hn
  rw [← eq] at v2
  have HQ := Lib.hid eq
  clear eq hok
  have k3 : w3.cell? ⟨g, 0, none⟩ = some (.int .u64 ((za : Nat) : Int)) := hw3.c0
  have HW := Lib.hid hw3
  clear hw3
  go_wp2_with fail
  refine wp_region_still_tail 10 (by kernel_rfl) (by kernel_rfl) ?_
  simp only [List.take_succ_cons, List.take_zero, List.drop_succ_cons, List.drop_zero]
  repeat still_step
  refine wpStill_nil ?_
  change wpList _ _ _ _ _ w3.drew
  clear k3
  replace HW := Lib.hid HW.out.drew
  replace hs := hs.drew
  generalize w3.drew = w4 at HW hs ⊢
  have k0 : w4.cell? ⟨g, 0, none⟩ = some (.int .u64 ((za : Nat) : Int)) := HW.out.c0
  have f0 := HW.out.frozen 0
  go_wp2_with fail
  go_end0
  refine ⟨⟨_, rfl⟩, ?_, hs.setCell 0 _⟩
  have e : tk (a, b, c, d) n = (q, zb, zc, zd) := by
    unfold tk
    show ((rndN (a, b, c, d ^^^ n) 2).1 ^^^ n, _, _, _) = _
    rw [← HY.out, ← HZ.out, HQ.out]
  rw [e]
  exact HW.out.set0 q
set_option maxRecDepth 20000 in
theorem run_idx (a b c d : Int) (w : World) (k : Nat) (hk : k < 4) : (Instr.index 49 (.agg #[.int .u64 a, .int .u64 b, .int .u64 c, .int .u64 d]) (.int .i64 (k : Int))).run Tryd.prog w = .ok (#[Value.int .u64 a, .int .u64 b, .int .u64 c, .int .u64 d].getD k undef) w := by
  rcases (show k = 0 ∨ k = 1 ∨ k = 2 ∨ k = 3 by omega) with rfl | rfl | rfl | rfl <;> rfl
def sh8 (x m : Nat) : Nat := x * 2 ^ (8 * (m % 8)) % M64
/-- One byte more. -/
def sadd (s : V4 × Nat × Nat) (x : Nat) : V4 × Nat × Nat :=
  if (s.2.2 + 1) % 8 = 0 then (tk s.1 (s.2.1 ||| sh8 x s.2.2), 0, s.2.2 + 1) else (s.1, s.2.1 ||| sh8 x s.2.2, s.2.2 + 1)
theorem sh8_lt (x m : Nat) : sh8 x m < 18446744073709551616 := Nat.mod_lt _ (by decide)
theorem or_lt {a b : Nat} (ha : a < 18446744073709551616) (hb : b < 18446744073709551616) : a ||| b < 18446744073709551616 := Nat.or_lt_two_pow (n := 64) ha hb
theorem val_or8 (l x m : Nat) (hl : l < 18446744073709551616) (hx : x < 256) (hm : m < 4294967296) :
    bits .or .u64 (l : Int) (IntKind.u64.wrap (IntKind.u64.wrap (x : Int) * 2 ^ min (IntKind.u64.wrap (8 * (m : Int).tmod 8)).toNat 64)) = ((l ||| sh8 x m : Nat) : Int) := by
  have e1 : IntKind.u64.wrap (x : Int) = (x : Int) := by rw [IntKind.wrap_u64]; omega
  have e2 : (m : Int).tmod 8 = ((m % 8 : Nat) : Int) := by rw [Int.tmod_eq_emod_of_nonneg (by omega)]; omega
  have e3 : (IntKind.u64.wrap (8 * (m : Int).tmod 8)).toNat = 8 * (m % 8) := by rw [e2, IntKind.wrap_u64]; omega
  rw [e1, e3, Nat.min_eq_left (by omega), ← u64_or_nat l (sh8 x m) hl (sh8_lt x m)]
  congr 1
set_option maxRecDepth 20000 in
set_option maxHeartbeats 1000000 in
theorem add_any (g : Nat) (v : V4) (l m x : Nat) (w : World) (hw : Sm w g v l m) (hv : Ok v) (hl : l < 18446744073709551616) (hm : m < 4294967296) (hx : x < 256) :
    Calls Tryd.prog 19 #[.pointer (some ⟨g, 0, none⟩), .int .u8 x] w fun e w' => (∃ u, e = .returned u) ∧ Sm w' g (sadd (v, l, m) x).1 (sadd (v, l, m) x).2.1 (sadd (v, l, m) x).2.2 ∧ Solo g w w' := by
  have hs : Solo g w w := Solo.refl
  obtain ⟨y, ey⟩ : ∃ y, y = l ||| sh8 x m := ⟨_, rfl⟩
  have v1 := val_or8 l x m hl hx hm
  rw [← ey] at v1
  have h_y : y < 18446744073709551616 := by rw [ey]; exact or_lt hl (sh8_lt x m)
  have HS : Hid (sadd (v, l, m) x = if (m + 1) % 8 = 0 then (tk v y, 0, m + 1) else (v, y, m + 1)) := Lib.hid (by rw [ey]; rfl)
  clear ey
  have HV := Lib.hid hv
  clear hv
  have k4 := hw.c4
  have k5 := hw.c5
  have HW := Lib.hid hw
  clear hw
  go_enter Tryd.func19, Tryd.ntmps19
  go_wp2_with fail
  refine wp_region_still_tail 16 (by kernel_rfl) (by kernel_rfl) ?_
  simp only [List.take_succ_cons, List.take_zero, List.drop_succ_cons, List.drop_zero]
  repeat still_step
  refine wpStill_nil ?_
  change wpList _ _ _ _ _ w.drew
  clear k4 k5 v1
  replace HW := Lib.hid HW.out.drew
  replace hs := hs.drew
  generalize w.drew = w1 at HW hs ⊢
  have k4 := HW.out.c4
  have f4 := HW.out.frozen 4
  have k5 := HW.out.c5
  have f5 := HW.out.frozen 5
  obtain ⟨m1, em⟩ : ∃ m1, m1 = m + 1 := ⟨_, rfl⟩
  have vm : ((m : Nat) : Int) + 1 = ((m1 : Nat) : Int) := by omega
  by_cases h8 : (m + 1) % 8 = 0
  · rw [if_pos h8, ← em] at HS
    have q1 : ((m1 : Nat) : Int) % 8 = 0 := by omega
    clear em h8
    go_wp2_with fail
    have hw2 := (HW.out.set4 y).set5 m1
    replace hs := (hs.setCell 4 (.int .u64 ((y : Nat) : Int))).setCell 5 (.int .u64 ((m1 : Nat) : Int))
    generalize (w1.setCell ⟨g, 4, none⟩ (.int .u64 ((y : Nat) : Int))).setCell ⟨g, 5, none⟩ (.int .u64 ((m1 : Nat) : Int)) = w2 at hw2 hs ⊢
    clear k4 k5 f4 f5
    refine (take_any g v y m1 y w2 hw2 HV.out h_y).mono ?_
    rintro e w3 ⟨⟨u, rfl⟩, hw3, hs3⟩
    have k4 := hw3.c4
    have f4 := hw3.frozen 4
    have HW3 := Lib.hid hw3
    clear hw3
    go_wp2_with fail
    go_end0
    refine ⟨⟨_, rfl⟩, ?_, (hs.trans hs3).setCell 4 _⟩
    rw [HS.out]
    exact HW3.out.set4 0
  · rw [if_neg h8, ← em] at HS
    have q1 : ¬ ((m1 : Nat) : Int) % 8 = 0 := by omega
    clear em h8
    go_wp2_with fail
    go_end0
    refine ⟨⟨_, rfl⟩, ?_, (hs.setCell 4 _).setCell 5 _⟩
    rw [HS.out]
    exact (HW.out.set4 y).set5 m1
/-- All bytes, one behind the other. -/
def saddL (s : V4 × Nat × Nat) (bs : List Nat) : V4 × Nat × Nat := bs.foldl sadd s
def OkS (s : V4 × Nat × Nat) : Prop := Ok s.1 ∧ s.2.1 < 18446744073709551616
theorem OkS.add {s : V4 × Nat × Nat} (h : OkS s) (x : Nat) : OkS (sadd s x) := by
  have h2 := or_lt h.2 (sh8_lt x s.2.2)
  unfold sadd
  split
  · exact ⟨h.1.tk h2, by simp⟩
  · exact ⟨h.1, h2⟩
theorem OkS.addL {s : V4 × Nat × Nat} (h : OkS s) (bs : List Nat) : OkS (saddL s bs) := by
  induction bs generalizing s with
  | nil => exact h
  | cons x bs ih => exact ih (h.add x)
theorem sadd_many (s : V4 × Nat × Nat) (x : Nat) : (sadd s x).2.2 = s.2.2 + 1 := by
  unfold sadd
  split <;> rfl
theorem saddL_many (s : V4 × Nat × Nat) (bs : List Nat) : (saddL s bs).2.2 = s.2.2 + bs.length := by
  induction bs generalizing s with
  | nil => rfl
  | cons x bs ih =>
    show (saddL (sadd s x) bs).2.2 = _
    rw [ih, sadd_many, List.length_cons]
    omega
def fin4 (z : V4) : Nat := 0 ^^^ z.1 ^^^ z.2.1 ^^^ z.2.2.1 ^^^ z.2.2.2
/-- The sum of the bytes that came. -/
def sfin (s : V4 × Nat × Nat) : Nat :=
  let u := tk s.1 (s.2.1 ||| (s.2.2 * 2 ^ 56 % M64))
  fin4 (rndN (u.1, u.2.1, u.2.2.1 ^^^ 255, u.2.2.2) 4)
theorem val_or56 (l m : Nat) (hl : l < 18446744073709551616) : bits .or .u64 (l : Int) (IntKind.u64.wrap ((m : Int) * 72057594037927936)) = ((l ||| (m * 2 ^ 56 % M64) : Nat) : Int) := by
  show _ = ((l ||| (m * 72057594037927936 % 18446744073709551616) : Nat) : Int)
  rw [← u64_or_nat l _ hl (Nat.mod_lt _ (by decide))]
  congr 1
set_option maxRecDepth 20000 in
set_option maxHeartbeats 1000000 in
theorem end_any (g : Nat) (v : V4) (l m : Nat) (w : World) (hw : Sm w g v l m) (hv : Ok v) (hl : l < 18446744073709551616) (hm : m < 4294967296) :
    Calls Tryd.prog 20 #[.pointer (some ⟨g, 0, none⟩)] w fun e w' => e = .returned (.int .u64 ((sfin (v, l, m) : Nat) : Int)) ∧ Solo g w w' := by
  have hs : Solo g w w := Solo.refl
  obtain ⟨y, ey⟩ : ∃ y, y = l ||| (m * 2 ^ 56 % M64) := ⟨_, rfl⟩
  have v1 := val_or56 l m hl
  rw [← ey] at v1
  have h_y : y < 18446744073709551616 := by rw [ey]; exact or_lt hl (Nat.mod_lt _ (by decide))
  have HS : Hid (sfin (v, l, m) = fin4 (rndN ((tk v y).1, (tk v y).2.1, (tk v y).2.2.1 ^^^ 255, (tk v y).2.2.2) 4)) := Lib.hid (by rw [ey]; rfl)
  clear ey
  have HV := Lib.hid hv
  clear hv
  have k4 := hw.c4
  have k5 := hw.c5
  have HW := Lib.hid hw
  clear hw
  go_enter Tryd.func20, Tryd.ntmps20
  go_wp2_with fail
  refine wp_region_still_tail 11 (by kernel_rfl) (by kernel_rfl) ?_
  simp only [List.take_succ_cons, List.take_zero, List.drop_succ_cons, List.drop_zero]
  repeat still_step
  refine wpStill_nil ?_
  change wpList _ _ _ _ _ w.drew
  clear k4 k5 v1
  replace HW := Lib.hid HW.out.drew
  replace hs := hs.drew
  generalize w.drew = w1 at HW hs ⊢
  go_wp2_with fail
  refine (take_any g v l m y w1 HW.out HV.out h_y).mono ?_
  rintro e w2 ⟨⟨u, rfl⟩, hw2, hs2⟩
  replace hs := hs.trans hs2
  have hok := HV.out.tk h_y
  obtain ⟨z, hz⟩ : ∃ z, z = tk v y := ⟨_, rfl⟩
  rw [← hz] at hw2 hok HS
  clear hz hs2 HW HV h_y
  obtain ⟨a, b, c, d⟩ := z
  have h_c : c < 18446744073709551616 := hok.2.2.1
  obtain ⟨c1, ec⟩ : ∃ c1, c1 = c ^^^ 255 := ⟨_, rfl⟩
  have v2 : bits .xor .u64 ((c : Nat) : Int) 255 = ((c ^^^ 255 : Nat) : Int) := val_xor c 255 h_c (by omega)
  rw [← ec] at v2
  have HS : Hid (sfin (v, l, m) = fin4 (rndN (a, b, c ^^^ 255, d) 4)) := HS
  have hok2 : Ok (a, b, c ^^^ 255, d) := hok.x2 (m := 255) (by omega)
  rw [← ec] at HS hok2
  have HOK := Lib.hid hok2
  clear ec hok hok2
  have k2 : w2.cell? ⟨g, 2, none⟩ = some (.int .u64 ((c : Nat) : Int)) := hw2.c2
  have HW := Lib.hid hw2
  clear hw2
  go_wp2_with fail
  refine wp_region_still_tail 9 (by kernel_rfl) (by kernel_rfl) ?_
  simp only [List.take_succ_cons, List.take_zero, List.drop_succ_cons, List.drop_zero]
  repeat still_step
  refine wpStill_nil ?_
  change wpList _ _ _ _ _ w2.drew
  clear k2
  replace HW := Lib.hid HW.out.drew
  replace hs := hs.drew
  generalize w2.drew = w3 at HW hs ⊢
  have k2 : w3.cell? ⟨g, 2, none⟩ = some (.int .u64 ((c : Nat) : Int)) := HW.out.c2
  have f2 := HW.out.frozen 2
  go_wp2_with fail
  have hw4 := HW.out.set2 c1
  replace hs := hs.setCell 2 (.int .u64 ((c1 : Nat) : Int))
  generalize w3.setCell ⟨g, 2, none⟩ (.int .u64 ((c1 : Nat) : Int)) = w4 at hw4 hs ⊢
  clear k2 f2 HW
  refine (rounds_any g (a, b, c1, d) l m 4 w4 hw4 HOK.out (by omega)).mono ?_
  rintro e w5 ⟨⟨u, rfl⟩, hw5, hs5⟩
  replace hs := hs.trans hs5
  have hok := HOK.out.rndN 4
  obtain ⟨z, hz⟩ : ∃ z, z = rndN (a, b, c1, d) 4 := ⟨_, rfl⟩
  rw [← hz] at hw5 hok HS
  clear hz hs5 HOK hw4 v2 h_c
  obtain ⟨z0, z1, z2, z3⟩ := z
  have h0 : z0 < 18446744073709551616 := hok.1
  have h1 : z1 < 18446744073709551616 := hok.2.1
  have h2 : z2 < 18446744073709551616 := hok.2.2.1
  have h3 : z3 < 18446744073709551616 := hok.2.2.2
  have k0 : w5.cell? ⟨g, 0, none⟩ = some (.int .u64 ((z0 : Nat) : Int)) := hw5.c0
  have k1 : w5.cell? ⟨g, 1, none⟩ = some (.int .u64 ((z1 : Nat) : Int)) := hw5.c1
  have k2 : w5.cell? ⟨g, 2, none⟩ = some (.int .u64 ((z2 : Nat) : Int)) := hw5.c2
  have k3 : w5.cell? ⟨g, 3, none⟩ = some (.int .u64 ((z3 : Nat) : Int)) := hw5.c3
  clear hw5 hok
  obtain ⟨p1, e1⟩ : ∃ p1, p1 = 0 ^^^ z0 := ⟨_, rfl⟩
  have q1 : p1 < 18446744073709551616 := by rw [e1]; exact xor_lt (by omega) h0
  have x1 : bits .xor .u64 (0 : Int) ((z0 : Nat) : Int) = ((p1 : Nat) : Int) := by rw [e1]; exact val_xor 0 z0 (by omega) h0
  obtain ⟨p2, e2⟩ : ∃ p2, p2 = p1 ^^^ z1 := ⟨_, rfl⟩
  have q2 : p2 < 18446744073709551616 := by rw [e2]; exact xor_lt q1 h1
  have x2 : bits .xor .u64 ((p1 : Nat) : Int) ((z1 : Nat) : Int) = ((p2 : Nat) : Int) := by rw [e2]; exact val_xor p1 z1 q1 h1
  obtain ⟨p3, e3⟩ : ∃ p3, p3 = p2 ^^^ z2 := ⟨_, rfl⟩
  have q3 : p3 < 18446744073709551616 := by rw [e3]; exact xor_lt q2 h2
  have x3 : bits .xor .u64 ((p2 : Nat) : Int) ((z2 : Nat) : Int) = ((p3 : Nat) : Int) := by rw [e3]; exact val_xor p2 z2 q2 h2
  obtain ⟨p4, e4⟩ : ∃ p4, p4 = p3 ^^^ z3 := ⟨_, rfl⟩
  have x4 : bits .xor .u64 ((p3 : Nat) : Int) ((z3 : Nat) : Int) = ((p4 : Nat) : Int) := by rw [e4]; exact val_xor p3 z3 q3 h3
  have HP : Hid (sfin (v, l, m) = p4) := Lib.hid (by rw [HS.out, e4, e3, e2, e1]; rfl)
  clear HS e1 e2 e3 e4
  go_wp2_with fail
  go_loopw [3, 33] (fun av iv wr => wr = w5 ∧ ((iv = .int .i64 (0 : Nat) ∧ av = .int .u64 0) ∨ (iv = .int .i64 (1 : Nat) ∧ av = .int .u64 (p1 : Nat)) ∨ (iv = .int .i64 (2 : Nat) ∧ av = .int .u64 (p2 : Nat)) ∨ (iv = .int .i64 (3 : Nat) ∧ av = .int .u64 (p3 : Nat)) ∨ (iv = .int .i64 (4 : Nat) ∧ av = .int .u64 (p4 : Nat)))) (fun _ iv _ => 4 - (intOf iv).toNat)
  case atStart => exact ⟨rfl, Or.inl ⟨rfl, rfl⟩⟩
  case round =>
    have H := fun k hk => run_idx ((z0 : Nat) : Int) ((z1 : Nat) : Int) ((z2 : Nat) : Int) ((z3 : Nat) : Int) w5 k hk
    obtain ⟨rfl, ⟨rfl, rfl⟩ | ⟨rfl, rfl⟩ | ⟨rfl, rfl⟩ | ⟨rfl, rfl⟩ | ⟨rfl, rfl⟩⟩ := hrel
    · have hx := H 0 (by omega)
      simp only [Int.cast_ofNat_Int] at hx
      clear H
      go_wp2_with fail
      exact ⟨⟨trivial, Or.inr (Or.inl ⟨rfl, rfl⟩)⟩, by simp [intOf]⟩
    · have hx := H 1 (by omega)
      simp only [Int.cast_ofNat_Int] at hx
      clear H
      go_wp2_with fail
      exact ⟨⟨trivial, Or.inr (Or.inr (Or.inl ⟨rfl, rfl⟩))⟩, by simp [intOf]⟩
    · have hx := H 2 (by omega)
      simp only [Int.cast_ofNat_Int] at hx
      clear H
      go_wp2_with fail
      exact ⟨⟨trivial, Or.inr (Or.inr (Or.inr (Or.inl ⟨rfl, rfl⟩)))⟩, by simp [intOf]⟩
    · have hx := H 3 (by omega)
      simp only [Int.cast_ofNat_Int] at hx
      clear H
      go_wp2_with fail
      exact ⟨⟨trivial, Or.inr (Or.inr (Or.inr (Or.inr (⟨rfl, rfl⟩))))⟩, by simp [intOf]⟩
    · clear H
      go_wp2_with fail
      go_ret
      exact ⟨ret_int (by rw [HP.out]), hs⟩
end Go.Proofs.YtbiimgfocgbdaaaDoor
