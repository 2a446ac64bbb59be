/- Layer 43, VarintReads: the law answers true, and nothing that was there has turned. -/
import Derived.Test.YtnnhndgeedlpgaaVar6
namespace Go.Proofs.Ytnnhndgeedlpgaa
open Go.RowKit
set_option linter.unusedVariables false

set_option maxRecDepth 20000 in
theorem varintReads_walk (A : Option Addr) (n c : Nat) (l : List Nat) (w : World) (hr : Rd w w.heap.size 1 A n (ns .u8 l)) (hnc : n ≤ c) (hmax : c ≤ maxLen) (hb : ∀ x ∈ l, x < 256) :
    Calls Try.prog 7 #[.slice A n c] w fun e w' => e = .returned (.bool true) ∧ Below w.heap.size w w' := by
  have HR := Lib.hid hr; have HB := Lib.hid hb
  clear hr hb
  unfold maxLen at hmax
  by_cases hn : 2000 < n
  · go_enter Try.func7, Try.ntmps7
    go_wp2_with fail
    go_ret
    exact ⟨rfl, Below.refl _ _⟩
  · have HM := Lib.hid hmax; clear hmax
    have hn2 : n ≤ 2000 := by omega
    clear hn
    go_enter Try.func7, Try.ntmps7
    go_wp2_with fail
    refine (get_any A n c l w HR.out hnc HB.out (by omega)).mono ?_
    rintro e w1 ⟨rfl, rfl⟩
    go_wp2_with fail
    refine (refGet_any A n c l w HR.out hnc HB.out (by omega)).mono ?_
    rintro e w2 ⟨rfl, hb2⟩
    have R2 := Lib.hid (HR.out.into hb2)
    go_wp2_with fail
    refine (all_any A n c l w2 R2.out hnc HB.out (by omega)).mono ?_
    rintro e w3 ⟨hb3, hc3⟩
    have R3 := Lib.hid (R2.out.into hb3)
    rcases hc3 with ⟨xs, hv, v3, rfl, h3⟩ | ⟨hv, rfl⟩
    · have HV := Lib.hid hv; clear hv
      obtain ⟨A3, c3, rfl, hc3⟩ := h3.form
      go_wp2_with fail
      refine (refAll_any A n c l w3 R3.out hnc HB.out (by omega)).mono ?_
      rintro e w4 ⟨hb4, hc4⟩
      rcases hc4 with ⟨ys, hv, v4, rfl, h4⟩ | ⟨hv, rfl⟩
      · obtain rfl : xs = ys := by have := HV.out.symm.trans hv; injection this
        obtain ⟨A4, c4, rfl, hc4⟩ := h4.form
        go_wp2_with fail
        have hx := vall_len HV.out
        rw [HR.out.natLen] at hx
        refine (row_any A3 A4 _ _ c3 c4 xs xs w4 (h3.rd.into hb4) h4.rd (by omega) (by omega)).mono ?_
        rintro e w5 ⟨rfl, q, rfl⟩
        rw [decide_eq_true rfl]
        go_wp2_with fail
        refine (alive43 _).mono ?_
        rintro e w6 ⟨rfl, hb6⟩
        go_wp2_with fail
        go_ret
        exact ⟨rfl, hb2.trans ((hb3.mono hb2.size).trans ((hb4.mono (Nat.le_trans hb2.size hb3.size)).trans ((below_drewN (Below.refl _ _) q).trans (hb6.mono (Nat.le_trans hb2.size (Nat.le_trans hb3.size hb4.size))))))⟩
      · have := HV.out.symm.trans hv
        cases this
    · have HV := Lib.hid hv; clear hv
      go_wp2_with fail
      refine (refAll_any A n c l w3 R3.out hnc HB.out (by omega)).mono ?_
      rintro e w4 ⟨hb4, hc4⟩
      rcases hc4 with ⟨ys, hv, v4, rfl, h4⟩ | ⟨hv, rfl⟩
      · have := HV.out.symm.trans hv
        cases this
      · go_wp2_with fail
        refine (row_any none none 0 0 0 0 [] [] w4 (Rd.nil _ _ _ _) (Rd.nil _ _ _ _) (by omega) (by omega)).mono ?_
        rintro e w5 ⟨rfl, q, rfl⟩
        rw [decide_eq_true rfl]
        go_wp2_with fail
        refine (alive43 _).mono ?_
        rintro e w6 ⟨rfl, hb6⟩
        go_wp2_with fail
        go_ret
        exact ⟨rfl, hb2.trans ((hb3.mono hb2.size).trans ((hb4.mono (Nat.le_trans hb2.size hb3.size)).trans ((below_drewN (Below.refl _ _) q).trans (hb6.mono (Nat.le_trans hb2.size (Nat.le_trans hb3.size hb4.size))))))⟩
end Go.Proofs.Ytnnhndgeedlpgaa
