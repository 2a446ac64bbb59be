/- slices.Repeat at a row of one whole number. -/
import Derived.Test.YtpnnadnmkiobcaaG22SackBack
import Derived.Test.YtpnnadnmkiobcaaG18SackBack
import Derived.Test.YtpnnadnmkiobcaaOrd
import Derived.Test.YtpnnadnmkiobcaaG8SackBack
import Derived.Test.YtpnnadnmkiobcaaRows
import Derived.OwnWalk
import Derived.BigQuiet
import Derived.RegionTactic
import Derived.LoopTactic
import Derived.ChangeAlike
import Derived.Deep.Cut
import Derived.Deep.OwnRows

namespace Go.Proofs.Ytpnnadnmkiobcaa
open Go.RowKit
set_option linter.unusedVariables false
set_option linter.unusedSimpArgs false
theorem iEl : El Try.prog 55 3 (.int .i64 0) 1 8 := ⟨Try.underlying55, by kernel_rfl, rfl, by decide, by decide⟩
/-- So many of one number, and noughts behind. -/
def rpt (x c k : Nat) : List Nat := List.replicate k x ++ List.replicate (c - k) 0
theorem rpt_len {x c k : Nat} (h : k ≤ c) : (rpt x c k).length = c := by simp [rpt]; omega
theorem rpt_take {x c k : Nat} (h : k ≤ c) : (rpt x c k).take k = List.replicate k x := by
  unfold rpt
  rw [List.take_append_of_le_length (by simp)]
  simp
theorem rpt_spl {x c k j : Nat} (h : k + j ≤ c) : spl (rpt x c k) k (List.replicate j x) = rpt x c (k + j) := by
  unfold spl rpt
  rw [List.take_append_of_le_length (by simp), List.take_of_length_le (by simp), List.length_replicate, List.drop_append]
  rw [List.drop_eq_nil_of_le (by simp)]
  simp
  omega
theorem made_zero (c : Nat) : madeCells #[.int .i64 0] c = (ns .i64 (List.replicate c 0)).toArray := by
  apply Array.ext_getElem?
  intro i
  by_cases h : i < c
  · simp [madeCells, ns, h, Nat.mod_one]
  · rw [Array.getElem?_eq_none (by rw [size_madeCells]; omega), Array.getElem?_eq_none (by simp [ns]; omega)]
set_option maxRecDepth 20000 in
set_option maxHeartbeats 4000000 in
theorem repeat_any (A : Option Addr) (x c : Nat) (w : World) (hr : Rd w w.heap.size 1 A 1 (ns .i64 [x])) (hc1 : 1 ≤ c) (hc : c ≤ 1000) :
    Calls Try.prog 19 #[.slice A 1 1, .int .i64 (c : Nat)] w fun e w' => e = .returned (.slice (some ⟨w.heap.size, 0, none⟩) c c) ∧ Mem w' w.heap.size 3 .i64 (List.replicate c x) ∧ Below w.heap.size w w' := by
  have CM := Lib.hid (fun w' => Try.bits_Mul 1 c (by omega) (by omega) w')
  have HR := Lib.hid hr
  rw [show 1 * c / 18446744073709551616 = 0 by omega, show 1 * c % 18446744073709551616 = c by omega] at CM
  have hc0 : ¬ (c : Int) < 0 := by omega
  have hmk : (Instr.makeSlice 55 (.int .i64 (c : Nat)) (.int .i64 (c : Nat))).run Try.prog w = .ok (.slice (some ⟨w.heap.size, 0, none⟩) c c) (w.alloc (.cells (ns .i64 (List.replicate c 0)).toArray 3)) := by
    have h := run_make_row' (P := Try.prog) 55 3 (.int .i64 0) 8 Try.underlying55 (by kernel_rfl) rfl .i64 .i64 c (by omega) (by omega) w
    rw [made_zero] at h
    exact h
  have hbig : ¬ (9223372036854775807 : Int) < (c : Int) := by omega
  clear hr
  go_enter Try.func19, Try.ntmps19
  go_wp2_with fail
  refine (CM.out _).mono ?_
  rintro e w1 ⟨rfl, rfl⟩
  have HM0 : Mem (w1.alloc (.cells (ns .i64 (List.replicate c 0)).toArray 3)) w1.heap.size 3 .i64 (List.replicate c 0) := Blk.new _ _ _
  have HR0 := Lib.hid (HR.out.alloc (Nat.le_refl _) (.cells (ns .i64 (List.replicate c 0)).toArray 3))
  have HB0 := Lib.hid ((Below.refl w1.heap.size w1).alloc (Nat.le_refl _) (.cells (ns .i64 (List.replicate c 0)).toArray 3))
  have HL0 : 0 + c ≤ (List.replicate c 0).length := by simp
  have hbn : ¬ 9223372036854775807 < c := by omega
  go_wp2_with (refine cpy iEl rfl (.tmp 31) (.tmp 32) rfl rfl HM0 HL0 rfl HR0.out ?_)
  intro w2 hm2 hs2
  have hm2 : Mem w2 w1.heap.size 3 .i64 (rpt x c 1) := by
    have e : spl (List.replicate c 0) 0 [x] = rpt x c 1 := by
      have h := rpt_spl (x := x) (c := c) (k := 0) (j := 1) (by omega)
      simpa [rpt] using h
    rw [e] at hm2
    exact hm2
  have M2 := Lib.hid hm2
  have B2 := Lib.hid (HB0.out.trans hs2.1)
  clear hm2 hs2 HM0 HR0 HB0 HL0 hmk CM HR
  go_wp2_with fail
  go_loopw [8] (fun kv wr => ∃ (k : Nat), k ≤ c ∧ 1 ≤ k ∧ kv = .int .i64 (k : Nat) ∧ Hid (Mem wr w1.heap.size 3 .i64 (rpt x c k)) ∧ Hid (Below w1.heap.size w1 wr)) (fun kv _ => c - (intOf kv).toNat)
  case atStart => exact ⟨1, hc1, Nat.le_refl _, rfl, M2, B2⟩
  case round =>
    clear M2 B2
    obtain ⟨k, hk, hk1, rfl, HM, BB⟩ := hrel
    by_cases hlt : k < c
    · have hlt' : (k : Int) < (c : Int) := by omega
      obtain ⟨d, hd⟩ : ∃ d, d = c - k := ⟨_, rfl⟩
      have HD := Lib.hid hd
      have hs1 : ∀ w', (Instr.slice 55 (.slice (some ⟨w1.heap.size, 0, none⟩) c c) (some (.int .i64 (k : Int))) none none).run Try.prog w' = .ok (.slice (some ⟨w1.heap.size, k, none⟩) d d) w' := fun w' => by
        have h := run_cut_l iEl (some ⟨w1.heap.size, 0, none⟩) c c k hk w'
        rw [h, hd]
        unfold cutA
        rw [if_neg (by omega)]
        simp [addr_add]
      have hs2 : ∀ w', (Instr.slice 55 (.slice (some ⟨w1.heap.size, 0, none⟩) c c) none (some (.int .i64 (k : Int))) none).run Try.prog w' = .ok (.slice (some ⟨w1.heap.size, 0, none⟩) k c) w' := fun w' => run_cut_h iEl _ _ _ _ hk w'
      have hdb : d ≤ 1000 := by omega
      clear hd
      by_cases hkd : k ≤ d
      · obtain ⟨k2, hk2⟩ : ∃ k2, k2 = k + k := ⟨_, rfl⟩
        have hji : (k : Int) + (k : Int) = (k2 : Nat) := by omega
        have hwj : IntKind.i64.wrap (k2 : Int) = (k2 : Nat) := by rw [IntKind.wrap_i64]; omega
        have HK2 := Lib.hid hk2
        clear hk2
        go_upto_region 9 with fail
        refine wp_ord [(0, .pure), (1, .pure), (2, .pure), (3, .pure), (4, .pure), (5, .pure), (6, .pure), (7, .sole), (8, .pure), (9, .pure)] [7] (by kernel_rfl) (by kernel_rfl) (fun QQ hQ wd hwd => ?_); simp only [List.map_cons, List.map_nil, List.getD_cons_zero, List.getD_cons_succ]
        iterate 7 (refine o_pure (v := ?_) (by rfl) (fun w' => ?_) ?_; rotate_left; (focus (go_simp; (try with_reducible rfl); (try (rw [if_pos (by omega)]; (try with_reducible rfl))))); (try simp only [Act.put, List.setIfInBounds_toArray, List.set_cons_zero, List.set_cons_succ]))
        refine o_sole (fun K hK => ?_)
        have hm3 : Mem wd w1.heap.size 3 .i64 (rpt x c k) := by rw [hwd.out]; exact HM.out
        have hr3 : Rd wd (w1.heap.size + 1) 1 (some ⟨w1.heap.size, 0, none⟩) k (ns .i64 (List.replicate k x)) := by
          have h := hm3.rd (B := w1.heap.size + 1) (o := 0) (n := k) (Nat.lt_succ_self _) (by rw [rpt_len hk]; omega)
          rw [List.drop_zero, rpt_take hk] at h
          exact h
        have hf3 : k + d ≤ (rpt x c k).length := by rw [rpt_len hk]; have := HD.out; omega
        have hbd : Below w1.heap.size w1 wd := by rw [hwd.out]; exact BB.out.drew
        go_wp2_with (refine cpy iEl rfl (.tmp 41) (.tmp 44) rfl rfl hm3 hf3 rfl hr3 ?_)
        intro w4 hm4 hs4
        have M4 := Lib.hid (show Mem w4 w1.heap.size 3 .i64 (rpt x c (k + k)) from by
          have e : spl (rpt x c k) k (List.replicate k x) = rpt x c (k + k) := rpt_spl (by have := HD.out; omega)
          rw [← e]
          have h := hm4
          (try simp [hkd] at h)
          exact h)
        have B4 := Lib.hid (hbd.trans hs4.1)
        clear hm3 hr3 hf3 hbd hm4 hs4 HM BB
        go_wp2_with fail
        refine hK _ _ (fun h => by cases h) ?_; clear hK K
        (refine o_pure (v := ?_) (by rfl) (fun w' => ?_) ?_; rotate_left; (focus (go_simp; (try with_reducible rfl); (try (rw [if_pos (by omega)]; (try with_reducible rfl))))); (try simp only [Act.put, List.setIfInBounds_toArray, List.set_cons_zero, List.set_cons_succ]))
        (refine o_pure (v := ?_) (by rfl) (fun w' => ?_) ?_; rotate_left; (focus (go_simp; (try with_reducible rfl); (try (rw [if_pos (by omega)]; (try with_reducible rfl))))); (try simp only [Act.put, List.setIfInBounds_toArray, List.set_cons_zero, List.set_cons_succ]))
        refine o_nil (hQ.out _ _ ?_); clear hQ QQ
        go_wp2_with fail
        go_roundw
        case rel => exact ⟨k2, by have := HD.out; have := HK2.out; omega, by have := HK2.out; omega, rfl, by rw [HK2.out]; exact M4, B4⟩
        case measure => have := HD.out; have := HK2.out; simp [intOf]; omega
      · have hkd' : d ≤ k := by omega
        have hmn : min k d = d := by omega
        obtain ⟨k2, hk2⟩ : ∃ k2, k2 = k + d := ⟨_, rfl⟩
        have hji : (k : Int) + (d : Int) = (k2 : Nat) := by omega
        have hwj : IntKind.i64.wrap (k2 : Int) = (k2 : Nat) := by rw [IntKind.wrap_i64]; omega
        have HK2 := Lib.hid hk2
        clear hk2
        go_upto_region 9 with fail
        refine wp_ord [(0, .pure), (1, .pure), (2, .pure), (3, .pure), (4, .pure), (5, .pure), (6, .pure), (7, .sole), (8, .pure), (9, .pure)] [7] (by kernel_rfl) (by kernel_rfl) (fun QQ hQ wd hwd => ?_); simp only [List.map_cons, List.map_nil, List.getD_cons_zero, List.getD_cons_succ]
        iterate 7 (refine o_pure (v := ?_) (by rfl) (fun w' => ?_) ?_; rotate_left; (focus (go_simp; (try with_reducible rfl); (try (rw [if_pos (by omega)]; (try with_reducible rfl))))); (try simp only [Act.put, List.setIfInBounds_toArray, List.set_cons_zero, List.set_cons_succ]))
        refine o_sole (fun K hK => ?_)
        have hm3 : Mem wd w1.heap.size 3 .i64 (rpt x c k) := by rw [hwd.out]; exact HM.out
        have hr3 : Rd wd (w1.heap.size + 1) 1 (some ⟨w1.heap.size, 0, none⟩) k (ns .i64 (List.replicate k x)) := by
          have h := hm3.rd (B := w1.heap.size + 1) (o := 0) (n := k) (Nat.lt_succ_self _) (by rw [rpt_len hk]; omega)
          rw [List.drop_zero, rpt_take hk] at h
          exact h
        have hf3 : k + d ≤ (rpt x c k).length := by rw [rpt_len hk]; have := HD.out; omega
        have hbd : Below w1.heap.size w1 wd := by rw [hwd.out]; exact BB.out.drew
        go_wp2_with (refine cpy iEl rfl (.tmp 41) (.tmp 44) rfl rfl hm3 hf3 rfl hr3 ?_)
        intro w4 hm4 hs4
        have M4 := Lib.hid (show Mem w4 w1.heap.size 3 .i64 (rpt x c (k + d)) from by
          have e : spl (rpt x c k) k (List.replicate d x) = rpt x c (k + d) := rpt_spl (by have := HD.out; omega)
          rw [← e]
          have h := hm4
          (try simp [hmn, hkd'] at h)
          exact h)
        have B4 := Lib.hid (hbd.trans hs4.1)
        clear hm3 hr3 hf3 hbd hm4 hs4 HM BB
        go_wp2_with fail
        refine hK _ _ (fun h => by cases h) ?_; clear hK K
        (refine o_pure (v := ?_) (by rfl) (fun w' => ?_) ?_; rotate_left; (focus (go_simp; (try with_reducible rfl); (try (rw [if_pos (by omega)]; (try with_reducible rfl))))); (try simp only [Act.put, List.setIfInBounds_toArray, List.set_cons_zero, List.set_cons_succ]))
        (refine o_pure (v := ?_) (by rfl) (fun w' => ?_) ?_; rotate_left; (focus (go_simp; (try with_reducible rfl); (try (rw [if_pos (by omega)]; (try with_reducible rfl))))); (try simp only [Act.put, List.setIfInBounds_toArray, List.set_cons_zero, List.set_cons_succ]))
        refine o_nil (hQ.out _ _ ?_); clear hQ QQ
        go_wp2_with fail
        go_roundw
        case rel => exact ⟨k2, by have := HD.out; have := HK2.out; omega, by have := HK2.out; omega, rfl, by rw [HK2.out]; exact M4, B4⟩
        case measure => have := HD.out; have := HK2.out; simp [intOf]; omega
    · obtain rfl : k = c := by omega
      clear hlt
      go_wp2_with fail
      go_ret
      refine ⟨rfl, ?_, BB.out⟩
      have := HM.out
      unfold rpt at this
      simpa using this
end Go.Proofs.Ytpnnadnmkiobcaa
