/- Layer 16: the example. -/
import Derived.Test.YtbipcnboammpeaaFlr5
namespace Go.Proofs.Ytbipcnboammpeaa
open Go.RowKit
set_option linter.unusedVariables false
set_option linter.unusedSimpArgs false
def exC : Chk := ⟨0, 5, false, 1, 10, 3, 0, false, false⟩
def exD : Chk := ⟨0, 5, false, 1, 10, 3, 0, false, true⟩
theorem exD_ok : exD.ok := ⟨by decide, by decide, by decide, by unfold U32; decide, by decide, by decide⟩
theorem exC_ok : exC.ok := ⟨by decide, by decide, by decide, by unfold U32; decide, by decide, by decide⟩
set_option maxRecDepth 20000 in
set_option maxHeartbeats 4000000 in
theorem alive16 (w : World) : Calls Try.prog 20 #[] w fun e w' => e = .returned (.bool true) ∧ Below w.heap.size w w' := by
  have HN : Hid (∀ w, Calls Try.prog 5 #[.int .i64 4] w fun e w' => e = .returned (.pointer (some ⟨w.heap.size, 0, none⟩)) ∧ FL w' w.heap.size w.heap.size 4 [] ∧ Below w.heap.size w w') := Lib.hid fun w => fl_new 4 w (by decide)
  have HA : Hid (∀ B g w, FL w B g 4 [] → Calls Try.prog 21 #[.pointer (some ⟨g, 0, none⟩), .agg #[.int .u64 0, .int .i64 5, .bool false, .int .i64 1, .int .u32 10, .int .i64 3, .int .i64 0, .bool false, .bool false]] w fun e w' => e = .returned (.bool true) ∧ FL w' B g 4 [exC] ∧ Kp B g w w') := Lib.hid fun B g w h => (fl_add B g 4 [] exC w h (by simp) (by omega)).mono fun e w' ⟨a, b, c⟩ => ⟨a, b, c⟩
  have HT : Hid (∀ B g w, FL w B g 4 [exC] → Calls Try.prog 27 #[.pointer (some ⟨g, 0, none⟩), .int .i64 1, .int .i64 7, .int .i64 4] w fun e w' => ∃ v, e = .returned v ∧ FL w' B g 4 [exD] ∧ w'.ownsRow w.heap.size 30 9 v 1 (chs [exD]) ∧ Kp B g w w') := Lib.hid fun B g w h => (fl_late B g 4 [exC] 1 7 4 w h (by simp) (by intro c hc; simp at hc; subst hc; exact exC_ok) (by omega)).mono fun e w' ⟨v, a, b, c, d⟩ => ⟨v, a, b, c, d⟩
  have HG : Hid (∀ B g w, FL w B g 4 [exD] → Calls Try.prog 9 #[.pointer (some ⟨g, 0, none⟩)] w fun e w' => e = .returned (.tuple #[.agg #[.int .u64 0, .int .i64 5, .bool false, .int .i64 1, .int .u32 10, .int .i64 3, .int .i64 0, .bool false, .bool true], .bool true]) ∧ Below w.heap.size w w') := Lib.hid fun B g w h => (fl_again B g 4 [exD] w h (by simp)).mono fun e w' ⟨a, b⟩ => ⟨a, b⟩
  have HO : Hid (∀ w, Calls Try.prog 18 #[.agg #[.int .u64 0, .int .i64 5, .bool false, .int .i64 1, .int .u32 10, .int .i64 3, .int .i64 0, .bool false, .bool true]] w fun e w' => e = .returned (.int .u64 5) ∧ Below w.heap.size w w') := Lib.hid fun w => (flto_any exD w exD_ok).mono fun e w' ⟨a, b⟩ => ⟨a, b⟩
  have HL : Hid (∀ B g w, FL w B g 4 [exD] → Calls Try.prog 14 #[.pointer (some ⟨g, 0, none⟩)] w fun e w' => e = .returned (.int .i64 1) ∧ Below w.heap.size w w') := Lib.hid fun B g w h => (fl_leng B g 4 [exD] w h).mono fun e w' ⟨a, b⟩ => ⟨a, b ▸ Below.refl _ _⟩
  have HF : Hid (∀ B g w, FL w B g 4 [exD] → Calls Try.prog 15 #[.pointer (some ⟨g, 0, none⟩)] w fun e w' => e = .returned (.int .i64 3) ∧ Below w.heap.size w w') := Lib.hid fun B g w h => (fl_free B g 4 [exD] w h (by simp) (by omega)).mono fun e w' ⟨a, b⟩ => ⟨a, b⟩
  go_enter Try.func20, Try.ntmps20
  go_wp2_with fail
  refine (HN.out w).mono ?_
  rintro e w1 ⟨rfl, f1, b1⟩
  have F1 := Lib.hid f1
  have B1 := Lib.hid b1
  obtain ⟨G, hG⟩ : ∃ G, G = w.heap.size := ⟨_, rfl⟩
  have HGW := Lib.hid hG
  rw [← hG] at F1 ⊢
  clear f1 b1 HN hG
  go_wp2_with fail
  refine (HA.out _ _ w1 F1.out).mono ?_
  rintro e w2 ⟨rfl, f2, k2⟩
  have F2 := Lib.hid f2
  have B2 := Lib.hid (B1.out.trans (k2.below (Nat.le_of_eq HGW.out.symm) F1.out.hB B1.out.size))
  clear f2 k2 HA F1 B1
  go_wp2_with fail
  refine (HT.out _ _ w2 F2.out).mono ?_
  rintro e w3 ⟨v, rfl, f3, o3, k3⟩
  have F3 := Lib.hid f3
  have B3 := Lib.hid (B2.out.trans (k3.below (Nat.le_of_eq HGW.out.symm) F2.out.hB B2.out.size))
  obtain ⟨A, n, c, rfl, hnc, hcm, hn, HR⟩ := own_open2 (l := [exD]) o3
  obtain rfl : n = 1 := hn.out.symm
  clear f3 k3 HT F2 B2 o3 hcm hn
  go_wp2_with fail
  refine (HG.out _ _ w3 F3.out).mono ?_
  rintro e w4 ⟨rfl, hb4⟩
  have F4 := Lib.hid (F3.out.into hb4)
  have R4 := Lib.hid (HR.out.into hb4)
  have B4 := Lib.hid (B3.out.trans (hb4.mono B3.out.size))
  clear hb4 F3 HR B3 HG
  go_upto_region 7 with fail
  have hb5 := (Below.refl w4.heap.size w4).alloc (Nat.le_refl _) (.cells #[.int .u64 0, .int .i64 5, .bool false, .int .i64 1, .int .u32 10, .int .i64 3, .int .i64 0, .bool false, .bool true] 30)
  have K5 := Lib.hid (show Blk (w4.alloc (.cells #[.int .u64 0, .int .i64 5, .bool false, .int .i64 1, .int .u32 10, .int .i64 3, .int .i64 0, .bool false, .bool true] 30)) w4.heap.size 30 exD.cells from Blk.new w4 30 #[.int .u64 0, .int .i64 5, .bool false, .int .i64 1, .int .u32 10, .int .i64 3, .int .i64 0, .bool false, .bool true])
  have F5 := Lib.hid (F4.out.into hb5)
  have R5 := Lib.hid (R4.out.into hb5)
  have B5 := Lib.hid (B4.out.trans (hb5.mono B4.out.size))
  obtain ⟨X, hX⟩ : ∃ X, X = w4.heap.size := ⟨_, rfl⟩
  rw [← hX] at K5 ⊢
  clear hb5 F4 R4 B4 hX
  generalize w4.alloc (.cells #[.int .u64 0, .int .i64 5, .bool false, .int .i64 1, .int .u32 10, .int .i64 3, .int .i64 0, .bool false, .bool true] 30) = w5 at *
  obtain ⟨rb, off, x, hA, hrb, HC, HX⟩ := R5.out.chk (i := 0) (by omega)
  subst hA
  obtain rfl : x = exD := by have := HX.out; simp at this; exact this.symm
  have a8 : w5.cell? ⟨rb, off + 8, none⟩ = some (.bool true) := by have := HC.out 8 (.bool true) rfl; simpa using this
  obtain ⟨b0, b1, b2, b3, b4, b5, b6, b7, b8⟩ := ckb (c := exD) K5.out
  simp only [exD] at b0 b1 b2 b3 b4 b5 b6 b7 b8
  clear HX HC
  go_wp2_with fail
  refine (HO.out _).mono ?_
  rintro e w6 ⟨rfl, hb6⟩
  have F6 := Lib.hid (F5.out.into hb6)
  have B6 := Lib.hid (B5.out.trans (hb6.mono B5.out.size))
  clear hb6 F5 B5 HO b0 b1 b2 b3 b4 b5 b6 b7 b8 a8
  go_wp2_with fail
  refine (HL.out _ _ w6 F6.out).mono ?_
  rintro e w7 ⟨rfl, hb7⟩
  have F7 := Lib.hid (F6.out.into hb7)
  have B7 := Lib.hid (B6.out.trans (hb7.mono B6.out.size))
  clear hb7 F6 B6 HL
  go_wp2_with fail
  refine (HF.out _ _ w7 F7.out).mono ?_
  rintro e w8 ⟨rfl, hb8⟩
  have B8 := Lib.hid (B7.out.trans (hb8.mono B7.out.size))
  clear hb8 F7 B7 HF
  go_wp2_with fail
  go_ret
  exact ⟨rfl, B8.out⟩
end Go.Proofs.Ytbipcnboammpeaa
