/- Layer 6's law: the chapter's example. -/
import Derived.Test.YtiabafnfiedlcaaSpr
namespace Go.Proofs.Ytiabafnfiedlcaa
open Go.RowKit
set_option linter.unusedVariables false
set_option maxRecDepth 20000 in
set_option maxHeartbeats 4000000 in
theorem alive_any (w : World) : Calls Try.prog 29 #[] w fun e w' => e = .returned (.bool true) ∧ Below w.heap.size w w' := by
  have hnil := fun (w : World) (a : Addr) => (by go_simp : (binOp .eql 26 (.pointer (some a)) (.pointer none)).run Try.prog w = .ok (.bool false) w)
  clear hnil
  go_enter Try.func29, Try.ntmps29
  go_wp2_with fail
  refine (new_any 9 w (by omega)).mono ?_
  rintro e w1 ⟨rfl, hS1, hb1⟩
  obtain ⟨g, hg⟩ : ∃ g, g = w.heap.size := ⟨_, rfl⟩
  rw [← hg] at hS1 ⊢
  have HG := Lib.hid hg
  have HB1 := Lib.hid hb1
  have HS1 := Lib.hid (show SetI w1 g g 9 (.slice none 0 0) [] from hS1)
  clear hS1 hb1 hg
  go_wp2_with fail
  refine (add_any g g 9 _ [] 1 3 w1 HS1.out (by decide) (by decide)).mono ?_
  rintro e w2 ⟨rfl, ⟨v2, hS2, _⟩, hb2⟩
  have e2 : (addS 9 [] 1 3).2 = true := by decide
  rw [e2]
  have HS2 := Lib.hid (show SetI w2 g g 9 v2 [(1, 3)] from hS2)
  have HB2 := Lib.hid hb2
  clear hS2 hb2 e2
  go_wp2_with fail
  refine (add_any g g 9 _ [(1, 3)] 5 6 w2 HS2.out (by decide) (by decide)).mono ?_
  rintro e w3 ⟨rfl, ⟨v3, hS3, _⟩, hb3⟩
  have e3 : (addS 9 [(1, 3)] 5 6).2 = true := by decide
  rw [e3]
  have HS3 := Lib.hid (show SetI w3 g g 9 v3 [(1, 3), (5, 6)] from hS3)
  have HB3 := Lib.hid hb3
  clear hS3 hb3 e3
  go_wp2_with fail
  refine (add_any g g 9 _ [(1, 3), (5, 6)] 3 4 w3 HS3.out (by decide) (by decide)).mono ?_
  rintro e w4 ⟨rfl, ⟨v4, hS4, _⟩, hb4⟩
  have e4 : (addS 9 [(1, 3), (5, 6)] 3 4).2 = true := by decide
  rw [e4]
  have HS4 := Lib.hid (show SetI w4 g g 9 v4 [(1, 4), (5, 6)] from hS4)
  have HB4 := Lib.hid hb4
  clear hS4 hb4 e4
  go_wp2_with fail
  refine (gaps_any g g 9 v4 [(1, 4), (5, 6)] 0 7 w4 HS4.out).mono ?_
  rintro e w5 ⟨v5, rfl, hP5, hb5⟩
  have hP5' : Pcs w5 49 w4.heap.size v5 [(0, 1), (4, 5), (6, 7)] := hP5
  obtain ⟨A5, n5, c5, rfl, _, _, hl5, hr5⟩ := hP5'.out
  have hn5 : n5 = 3 := hl5.out.symm
  subst hn5
  have HS5 := Lib.hid (HS4.out.below hb5 (Nat.le_refl _))
  have HB5 := Lib.hid hb5
  clear hP5 hP5' hb5 hl5
  go_wp2_with fail
  refine (plain_any A5 3 c5 _ [(0, 1), (4, 5), (6, 7)] w5 hr5.out (Nat.le_refl _) (by omega)).mono ?_
  rintro e w6 ⟨v6, rfl, hP6, hb6⟩
  obtain ⟨A6, n6, c6, rfl, _, _, hl6, hr6⟩ := hP6.out
  have hn6 : n6 = 3 := hl6.out.symm
  subst hn6
  have HS6 := Lib.hid (HS5.out.below hb6 (Nat.le_refl _))
  have HB6 := Lib.hid hb6
  clear hP6 hb6 hl6
  go_wp2_with fail
  have hlit : Rd (w6.alloc (.cells #[.int .u64 0, .int .u64 1, .int .u64 4, .int .u64 5, .int .u64 6, .int .u64 7] 40)) (w6.heap.size + 1) 2 (some ⟨w6.heap.size, 0, none⟩) 3 (cels [(0, 1), (4, 5), (6, 7)]) := Rd.made w6 40 #[.int .u64 0, .int .u64 1, .int .u64 4, .int .u64 5, .int .u64 6, .int .u64 7] rfl
  have hr6' := hr6.out.alloc (Nat.le_refl _) (.cells #[.int .u64 0, .int .u64 1, .int .u64 4, .int .u64 5, .int .u64 6, .int .u64 7] 40)
  have HB7 := Lib.hid ((Below.refl w6.heap.size w6).alloc (Nat.le_refl _) (.cells #[.int .u64 0, .int .u64 1, .int .u64 4, .int .u64 5, .int .u64 6, .int .u64 7] 40))
  refine (same_any A6 _ 3 c6 3 3 _ _ _ _ _ hr6' hlit (by omega)).mono ?_
  rintro e w7 ⟨rfl, hb8⟩
  rw [decide_eq_true (rfl : [((0 : Nat), (1 : Nat)), (4, 5), (6, 7)] = [(0, 1), (4, 5), (6, 7)])]
  have hb67 : Below w6.heap.size w6 w7 := HB7.out.trans (hb8.mono (by simp))
  have HB67 := Lib.hid hb67
  have HS7 := Lib.hid (HS6.out.below hb67 (Nat.le_refl _))
  clear hlit hr6' hb8 hb67
  go_wp2_with fail
  refine (many_any g g 9 v4 _ w7 HS7.out).mono ?_
  rintro e w8 ⟨rfl, hb8⟩
  rw [show manyL [(1, 4), (5, 6)] = 4 from rfl]
  have HB8 := Lib.hid hb8
  have HS8 := Lib.hid (HS7.out.below hb8 (Nat.le_refl _))
  clear hb8
  go_wp2_with fail
  refine (has_any g g 9 v4 _ 3 w8 HS8.out).mono ?_
  rintro e w9 ⟨rfl, hb9⟩
  rw [show decide (3 < runL [(1, 4), (5, 6)] 3) = true by decide]
  have HB9 := Lib.hid hb9
  have HS9 := Lib.hid (HS8.out.below hb9 (Nat.le_refl _))
  clear hb9
  go_wp2_with fail
  refine (has_any g g 9 v4 _ 4 w9 HS9.out).mono ?_
  rintro e w10 ⟨rfl, hb10⟩
  rw [show decide (4 < runL [(1, 4), (5, 6)] 4) = false by decide]
  have HB10 := Lib.hid hb10
  clear hb10
  go_wp2_with fail
  go_ret
  refine ⟨rfl, ?_⟩
  have s2 := HB1.out.size
  have t1 : Below w.heap.size w w4 := by
    rw [HG.out] at HB2 HB3 HB4
    exact ((HB1.out.trans HB2.out).trans HB3.out).trans HB4.out
  have t2 := t1.trans (HB5.out.mono t1.size)
  have t3 := t2.trans (HB6.out.mono t2.size)
  have t4 := t3.trans (HB67.out.mono t3.size)
  have t5 := t4.trans (HB8.out.mono t4.size)
  have t6 := t5.trans (HB9.out.mono t5.size)
  exact t6.trans (HB10.out.mono t6.size)
end Go.Proofs.Ytiabafnfiedlcaa
