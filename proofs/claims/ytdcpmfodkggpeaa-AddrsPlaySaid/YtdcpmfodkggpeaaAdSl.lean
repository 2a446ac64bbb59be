/- Package slices at []addrs.Addr: Clone, Delete, Insert, Replace of one. -/
import Derived.Test.YtdcpmfodkggpeaaSz2
import Derived.Test.YtdcpmfodkggpeaaRows
import Derived.OwnWalk
import Derived.RegionTactic
import Derived.LoopTactic
import Derived.StillTailTactics
import Derived.Laws.Externs
import Derived.WalkSpells
namespace Go.Proofs.Ytdcpmfodkggpeaa
open Go.RowKit
set_option linter.unusedVariables false
theorem adrEl : El Try.prog 26 36 (.agg #[.int .i64 0, .int .i64 0]) 2 16 := ⟨Try.underlying26, by kernel_rfl, rfl, by omega, by omega⟩
theorem adrZ1 : ∀ v ∈ ((.agg #[.int .i64 0, .int .i64 0]) : Value).cells.toList, v.oneCell' = true := by
  intro v hv
  simp [Value.cells] at hv
  first | (subst hv; rfl) | (rcases hv with rfl | rfl <;> rfl) | (rcases hv with rfl | rfl | rfl <;> rfl) | (rcases hv with rfl | rfl | rfl | rfl <;> rfl) | (rcases hv with rfl | rfl | rfl | rfl | rfl <;> rfl)
theorem adrClone (A : Option Addr) (n c B : Nat) (xs : List Value) (w : World) (h : Rd w B 2 A n xs) (hB : B ≤ w.heap.size) (h1 : ∀ v ∈ xs, v.oneCell' = true) (hn : n ≤ 1000000) :
    Calls Try.prog 32 #[.slice A n c] w fun e w' => ∃ v, e = .returned v ∧ w'.ownsRow w.heap.size 36 2 v n xs ∧ Below w.heap.size w w' := by
  have HR := Lib.hid h
  have H1 := Lib.hid h1
  have HL := Lib.hid h.len
  clear h h1
  have hnil := fun (w : World) (A : Option Addr) (n c n' c' : Nat) => Lib.run_eql_slice_nil w 26 36 A n c n' c' Try.underlying26
  cases A with
  | none =>
    have h0 : n = 0 := by
      rcases Nat.eq_zero_or_pos n with h | h
      · exact h
      · obtain ⟨_, _, e, _⟩ := HR.out.2 h; cases e
    subst h0
    have hx : xs = [] := List.eq_nil_of_length_eq_zero (by rw [HL.out, Nat.zero_mul])
    subst hx
    clear HR H1 HL
    go_enter Try.func32, Try.ntmps32
    go_wp2_with fail
    go_ret
    exact ⟨_, rfl, World.ownsRow_nil _ _ _ _, Below.refl _ _⟩
  | some ad =>
    have hroom : (0 + n) * 16 ≤ room := room_ge (by omega)
    have hown : (w.alloc (.cells #[] 36)).ownsRow w.heap.size 36 2 (.slice (some ⟨w.heap.size, 0, none⟩) 0 0) 0 [] := World.ownsRow_made w #[] 0 (Nat.le_refl _) (Nat.zero_le _) (by simp)
    have hb0 : Below w.heap.size w (w.alloc (.cells #[] 36)) := (Below.refl _ _).alloc (Nat.le_refl _) _
    have HO := Lib.hid hown
    have HB0 := Lib.hid hb0
    have HB := Lib.hid hB
    clear hown hb0 hB
    go_enter Try.func32, Try.ntmps32
    go_wp2_with (refine app adrEl rfl (.tmp 5) (.tmp 6) rfl rfl HO.out rfl (HR.out.alloc HB.out _) H1.out hroom (by simp) ?_)
    intro v' w1 ho hg hb
    have HO1 := Lib.hid ho
    clear ho hg
    go_wp2
    go_ret
    exact ⟨_, rfl, HO1.out, HB0.out.trans hb⟩
/-- Cells that are part of a row. -/
theorem adrone {L : List Value} {k : Nat} (h : ∀ v ∈ L.take k, v.oneCell' = true) (j : Nat) : ∀ v ∈ (L.take k).drop j, v.oneCell' = true := fun v hv => h v (List.mem_of_mem_drop hv)
set_option maxRecDepth 20000 in
set_option maxHeartbeats 1000000 in
theorem adrDelete (v : Value) (n i j B : Nat) (xs : List Value) (w : World) (h : w.ownsRow B 36 2 v n xs) (h1 : ∀ v ∈ xs, v.oneCell' = true) (hn : n ≤ 1000000) (hij : i ≤ j) (hjn : j ≤ n) :
    Calls Try.prog 26 #[v, .int .i64 (i : Int), .int .i64 (j : Int)] w fun e w' => ∃ v', e = .returned v' ∧ w'.ownsRow B 36 2 v' (n - (j - i)) (xs.take (i * 2) ++ xs.drop (j * 2)) ∧ w.grownBy w' v.ownBlock ∧ v'.ownBlock = v.ownBlock ∧ w'.heap.size = w.heap.size := by
  by_cases he : i = j
  · subst he
    obtain ⟨A, c, rfl, hnc, hcm, hr⟩ := own_form h
    unfold maxLen at hcm
    have e1 : n - (i - i) = n := by omega
    rw [e1, List.take_append_drop]
    have hc1 := run_cut_lhm adrEl A n c i i n (Nat.le_refl _) hjn hnc
    have hu : Try.prog.underlying 26 = some (.slice (Try.prog.elem 26)) := by unfold Program.elem; rw [Try.underlying26]
    have hc2 : ∀ w, (Instr.sliceAt 26 (.slice A n c) (some (.int .i64 (i : Int))) (some (.int .i64 (i : Int))) (some (.int .i64 (n : Int)))).run Try.prog w = _ := fun w => (run_sliceAt_slice w _ _ _ _ _ hu).trans (hc1 w)
    have HO := Lib.hid h
    clear h h1 hu
    generalize cutA A n i 2 = X at hc1 hc2
    go_enter Try.func26, Try.ntmps26
    go_wp2_with fail
    go_ret
    exact ⟨_, rfl, HO.out, grownBy_refl _ _, rfl, rfl⟩
  · have hlt : i < j := by omega
    rcases own_open h with ⟨_, h0, _⟩ | ⟨g, c, L, rfl, hBg, hb, hnc, hcm, hl, hx⟩
    · omega
    have hcm' := hcm
    unfold maxLen at hcm
    have hne : ((i : Int) == (j : Int)) = false := by simpa using (show ¬ (i : Int) = (j : Int) by omega)
    have hne' : ¬ (i : Int) = (j : Int) := by omega
    have hu : Try.prog.underlying 26 = some (.slice (Try.prog.elem 26)) := by unfold Program.elem; rw [Try.underlying26]
    have hc1 := run_cut_lhm adrEl (some ⟨g, 0, none⟩) n c i j n hij hjn hnc
    have hc2 : ∀ w, (Instr.sliceAt 26 (.slice (some ⟨g, 0, none⟩) n c) (some (.int .i64 (i : Int))) (some (.int .i64 (j : Int))) (some (.int .i64 (n : Int)))).run Try.prog w = _ := fun w => (run_sliceAt_slice w _ _ _ _ _ hu).trans (hc1 w)
    have hc3 := run_cut_h adrEl (some ⟨g, 0, none⟩) n c i (by omega)
    have hc4 : ∀ w, (Instr.sliceAt 26 (.slice (some ⟨g, 0, none⟩) n c) none (some (.int .i64 (i : Int))) none).run Try.prog w = _ := fun w => (run_sliceAt_slice w _ _ _ _ _ hu).trans (hc3 w)
    have hc5 := run_cut_l adrEl (some ⟨g, 0, none⟩) n c j hjn
    have hc6 : ∀ w, (Instr.sliceAt 26 (.slice (some ⟨g, 0, none⟩) n c) (some (.int .i64 (j : Int))) none none).run Try.prog w = _ := fun w => (run_sliceAt_slice w _ _ _ _ _ hu).trans (hc5 w)
    obtain ⟨k, hk⟩ : ∃ k, k = i + (n - j) := ⟨_, rfl⟩
    have hkn : k < n := by omega
    have hkk : n - (j - i) = k := by omega
    have hc7 := run_cut_lh adrEl (some ⟨g, 0, none⟩) k c k n (by omega) hnc
    have hc8 : ∀ w, (Instr.sliceAt 26 (.slice (some ⟨g, 0, none⟩) k c) (some (.int .i64 (k : Int))) (some (.int .i64 (n : Int))) none).run Try.prog w = _ := fun w => (run_sliceAt_slice w _ _ _ _ _ hu).trans (hc7 w)
    have HC := Lib.hid (show (0 < n - j → cutA (some ⟨g, 0, none⟩) c j 2 = some ⟨g, j * 2, none⟩) ∧ (0 < n - k → cutA (some ⟨g, 0, none⟩) c k 2 = some ⟨g, k * 2, none⟩) from ⟨fun _ => by rw [cutA_pos (by omega), Nat.zero_add], fun _ => by rw [cutA_pos (by omega), Nat.zero_add]⟩)
    have hcs : ((L.drop (j * 2)).take ((n - j) * 2)) = xs.drop (j * 2) := by
      rw [← hx, List.drop_take]
      congr 1
      omega
    have hcl : (xs.drop (j * 2)).length = (n - j) * 2 := by rw [List.length_drop, own_len h, Nat.sub_mul]
    have hfit : i * 2 + (xs.drop (j * 2)).length ≤ L.length := by rw [hcl, hl]; omega
    have hfit2 : k * 2 + (n - k) * 2 ≤ (splv L (i * 2) (xs.drop (j * 2))).length := by rw [splv_len hfit, hl]; omega
    have hrow := fun zs (hz : zs.length = (n - k) * 2) => del_row (zs := zs) hl hx hij hjn hnc (by rw [hz]; congr 1; omega)
    have hL2 := splv_len hfit
    rw [hkk] at hrow ⊢
    have h1d : ∀ v ∈ xs.drop (j * 2), v.oneCell' = true := fun v hv => h1 v (List.mem_of_mem_drop hv)
    have HB := Lib.hid hb
    have HX := Lib.hid hcs
    have HL := Lib.hid hcl
    have HF := Lib.hid hfit
    have HF2 := Lib.hid hfit2
    have HRW := Lib.hid hrow
    have H1 := Lib.hid h1d
    have HLL := Lib.hid hl
    have HL2 := Lib.hid hL2
    have HCM := Lib.hid hcm'
    have HK := Lib.hid hk
    have HKK := Lib.hid hkk
    clear h h1 hb hcs hcl hfit hfit2 hrow h1d hl hx hu hL2 hcm' hk hkk he
    generalize cutA (some ⟨g, 0, none⟩) n i 2 = X1 at hc1 hc2
    generalize cutA (some ⟨g, 0, none⟩) c j 2 = X2 at hc5 hc6 HC
    generalize cutA (some ⟨g, 0, none⟩) c k 2 = X3 at hc7 hc8 HC
    generalize hys : xs.drop (j * 2) = ys at HX HL HF HF2 HRW H1 HL2
    have HYS := Lib.hid hys
    clear hys
    go_enter Try.func26, Try.ntmps26
    go_wp2_with fail
    refine wp_region_still_tail 6 (by kernel_rfl) (by kernel_rfl) ?_
    simp only [List.take_succ_cons, List.take_zero, List.drop_succ_cons, List.drop_zero]
    repeat still_step
    refine wpStill_nil ?_
    change wpList _ _ _ _ _ w.drew
    refine appB adrEl rfl (.tmp 22) (.tmp 25) rfl rfl rfl (L := L) HB.out.drew HL.out (fun h0 => ⟨_, HC.out.1 h0, fun q u hq => blk_cells (w := w.drew) HB.out.drew q u (by rw [HX.out]; exact hq)⟩) (by omega) HF.out H1.out ?_
    rw [← HK.out]
    intro w1 hb1 hs1
    have HB1 := Lib.hid hb1
    have HS1 := Lib.hid hs1
    clear hb1 hs1 HB
    go_wp2_with (refine clrB adrEl adrZ1 rfl (.tmp 31) rfl rfl HB1.out HC.out.2 HF2.out ?_)
    intro w2 zs hz hb2 hs2
    have HB2 := Lib.hid hb2
    have HS2 := Lib.hid hs2
    have HZ := Lib.hid hz
    clear hb2 hs2 hz HB1
    go_wp2
    go_ret
    refine ⟨_, rfl, ?_, ?_, rfl, ?_⟩
    · refine own_shut hBg HB2.out (by omega) HCM.out ?_ ?_
      · rw [splv_len (by rw [HZ.out]; exact HF2.out), HL2.out, HLL.out]
      · exact HRW.out zs HZ.out
    · exact grownBy_trans (grownBy_drew (grownBy_refl w _)) (grownBy_trans HS1.out.grownBy HS2.out.grownBy)
    · rw [HS2.out.2.1, HS1.out.2.1]; rfl
end Go.Proofs.Ytdcpmfodkggpeaa
