/- Layer 1's reference: Hex. -/
import Derived.Test.YtefnojomjdeghaaDoorNum7
import Derived.Test.YtefnojomjdeghaaDoorUnd2
namespace Go.Proofs.YtefnojomjdeghaaDoor
open Go.RowKit
set_option linter.unusedVariables false
theorem nel8 : El Tryd.prog 30 5 (.int .u8 0) 1 1 := ⟨Tryd.underlying30, by kernel_rfl, rfl, by omega, by omega⟩
theorem run_dig (w : World) (k : Nat) (hk : k < 16) : (Instr.index 9 (.string ⟨#[48, 49, 50, 51, 52, 53, 54, 55, 56, 57, 97, 98, 99, 100, 101, 102]⟩) (.int .u8 (k : Int))).run Tryd.prog w = .ok (.int .u8 ((dg k : Nat) : Int)) w := by
  rcases (show k = 0 ∨ k = 1 ∨ k = 2 ∨ k = 3 ∨ k = 4 ∨ k = 5 ∨ k = 6 ∨ k = 7 ∨ k = 8 ∨ k = 9 ∨ k = 10 ∨ k = 11 ∨ k = 12 ∨ k = 13 ∨ k = 14 ∨ k = 15 by omega) with rfl | rfl | rfl | rfl | rfl | rfl | rfl | rfl | rfl | rfl | rfl | rfl | rfl | rfl | rfl | rfl <;> rfl
theorem dig_step (k : Nat) (hk : k < 16) (w : World) : (do let v ← Instr.index 9 (.string ⟨#[48, 49, 50, 51, 52, 53, 54, 55, 56, 57, 97, 98, 99, 100, 101, 102]⟩) (.int .u8 (k : Int)); pure (.value v) : Sem Next).run Tryd.prog w = .ok (.value (.int .u8 ((dg k : Nat) : Int))) w := by
  rw [Sem.run_bind, run_dig w k hk]
  rfl
set_option maxRecDepth 20000 in
theorem rhex_any (A : Option Addr) (n c : Nat) (l : List Nat) (w : World) (hr : Rd w w.heap.size 1 A n (ns .u8 l)) (hb : ∀ x ∈ l, x < 256) (hn : n ≤ 1000000) :
    Calls Tryd.prog 14 #[.slice A n c] w fun e w' => e = .returned (.string (strN (hexT l))) ∧ Below w.heap.size w w' := by
  have hlen := hr.natLen
  have HR := Lib.hid hr
  have HB := Lib.hid hb
  have HL := Lib.hid hlen
  clear hr hb hlen
  by_cases h0 : n = 0
  · subst h0
    go_enter Tryd.func14, Tryd.ntmps14
    go_wp2_with fail
    go_ret
    refine ⟨?_, Below.refl _ _⟩
    have : l = [] := List.eq_nil_of_length_eq_zero HL.out
    subst this
    rfl
  have hn0 : ((n : Int) == 0) = false := by simp; omega
  go_enter Tryd.func14, Tryd.ntmps14
  go_wp2_with fail
  go_loopw [3, 4] (fun v iv wr => ∃ i : Nat, i ≤ n ∧ iv = .int .i64 i ∧ Hid (Nats wr 5 .u8 w.heap.size v (hexN (l.take i))) ∧ Below w.heap.size w wr) (fun _ iv _ => n - (intOf iv).toNat)
  case atStart => exact ⟨0, by omega, rfl, Lib.hid (Nats.nil _ _ _ _), Below.refl _ _⟩
  case round =>
    obtain ⟨i, hi, rfl, HN, hbw⟩ := hrel
    by_cases hin : i < n
    · obtain ⟨bb, off, x, rfl, hbb, hc, hx⟩ := (HR.out.below hbw).nth hin
      have hx' : x < 256 := HB.out x (nth_mem hx)
      have hll : (hexN (l.take i)).length ≤ 2 * i := by rw [hexN_len, List.length_take]; omega
      go_wp2_with fail
      refine U.wp_opend (B := w.heap.size) [([0, 1, 2, 3, 4, 5, 6, 7, 8, 9, 10, 11, 12], some 13), ([], some 14), ([15], none)] (by kernel_rfl) (by kernel_rfl) (by kernel_rfl) (fun QQ hQ wd hwd => ?_)
      have hc' : wd.cell? ⟨bb, off + i, none⟩ = some (.int .u8 (x : Int)) := by rw [hwd.out]; exact hc
      have HN' := Lib.hid (HN.out.drawn hwd)
      have hb2' := hbw.trans (drawn_below hwd _)
      clear hc HN hbw
      obtain ⟨p, hp⟩ : ∃ p, p = x / 16 := ⟨_, rfl⟩
      obtain ⟨q, hq⟩ : ∃ q, q = x % 16 := ⟨_, rfl⟩
      have hp16 : p < 16 := by omega
      have hq16 : q < 16 := by omega
      have w1' : IntKind.u8.wrap ((x : Int) / 16) = (p : Int) := by rw [IntKind.wrap_u8]; omega
      have w2' : IntKind.u8.wrap ((x : Int).tmod 16) = (q : Int) := by rw [Int.tmod_eq_emod_of_nonneg (by omega), IntKind.wrap_u8]; omega
      have w3' : IntKind.u8.wrap ((x : Int) % 16) = (q : Int) := by rw [IntKind.wrap_u8]; omega
      have w4' : IntKind.u8.wrap ((x : Int).tdiv 16) = (p : Int) := by rw [Int.tdiv_eq_ediv_of_nonneg (by omega), IntKind.wrap_u8]; omega
      have w5' : (x : Int).tmod 16 = (q : Int) := by rw [Int.tmod_eq_emod_of_nonneg (by omega)]; omega
      have HP := Lib.hid hp
      have HQ := Lib.hid hq
      clear hp hq
      refine U.walkS_sole fun R hR => ?_; simp only [List.map_cons, List.map_nil, List.getD_cons_zero, List.getD_cons_succ]; (repeat (first | (refine qskip (by rfl) ?_; simp only [Act.put, List.setIfInBounds_toArray, List.set_cons_zero, List.set_cons_succ]) | (refine qstep (by rfl) (fun K hK => U.qval (v := ?_) (fun w' hx => ?_) (hK _ ?_)); rotate_left; (go_simp; with_reducible rfl); clear hK K; (try simp only [Act.put, List.setIfInBounds_toArray, List.set_cons_zero, List.set_cons_succ])) | (refine qstep (by rfl) (fun K hK => U.qload _ rfl rfl (by first | assumption | omega) (by assumption) (by kernel_rfl) (hK _ ?_)); clear hK K; simp only [Act.put, List.setIfInBounds_toArray, List.set_cons_zero, List.set_cons_succ])))
      refine qstep (by rfl) (fun K hK => U.qval (v := .int .u8 ((dg p : Nat) : Int)) (fun w' hx => dig_step p hp16 w') (hK _ ?_)); clear hK K; simp only [Act.put, List.setIfInBounds_toArray, List.set_cons_zero, List.set_cons_succ]; (repeat (first | (refine qskip (by rfl) ?_; simp only [Act.put, List.setIfInBounds_toArray, List.set_cons_zero, List.set_cons_succ]) | (refine qstep (by rfl) (fun K hK => U.qval (v := ?_) (fun w' hx => ?_) (hK _ ?_)); rotate_left; (go_simp; with_reducible rfl); clear hK K; (try simp only [Act.put, List.setIfInBounds_toArray, List.set_cons_zero, List.set_cons_succ])) | (refine qstep (by rfl) (fun K hK => U.qload _ rfl rfl (by first | assumption | omega) (by assumption) (by kernel_rfl) (hK _ ?_)); clear hK K; simp only [Act.put, List.setIfInBounds_toArray, List.set_cons_zero, List.set_cons_succ])))
      refine qstep (by rfl) (fun K hK => U.qval (v := .int .u8 ((dg q : Nat) : Int)) (fun w' hx => dig_step q hq16 w') (hK _ ?_)); clear hK K; simp only [Act.put, List.setIfInBounds_toArray, List.set_cons_zero, List.set_cons_succ]; (repeat (first | (refine qskip (by rfl) ?_; simp only [Act.put, List.setIfInBounds_toArray, List.set_cons_zero, List.set_cons_succ]) | (refine qstep (by rfl) (fun K hK => U.qval (v := ?_) (fun w' hx => ?_) (hK _ ?_)); rotate_left; (go_simp; with_reducible rfl); clear hK K; (try simp only [Act.put, List.setIfInBounds_toArray, List.set_cons_zero, List.set_cons_succ])) | (refine qstep (by rfl) (fun K hK => U.qload _ rfl rfl (by first | assumption | omega) (by assumption) (by kernel_rfl) (hK _ ?_)); clear hK K; simp only [Act.put, List.setIfInBounds_toArray, List.set_cons_zero, List.set_cons_succ])))
      refine wpQuiet_nil ?_
      intro K hK
      go_wp2_with fail
      have hs2 := hb2'.size
      have hb3 : Below w.heap.size wd (wd.alloc (.cells #[.int .u8 ((dg p : Nat) : Int), .int .u8 ((dg q : Nat) : Int)] 5)) := (Below.refl _ wd).alloc hs2 _
      have HN3 := Lib.hid (HN'.out.alloc (.cells #[.int .u8 ((dg p : Nat) : Int), .int .u8 ((dg q : Nat) : Int)] 5))
      have HL3 : Hid (Rd (wd.alloc (.cells #[.int .u8 ((dg p : Nat) : Int), .int .u8 ((dg q : Nat) : Int)] 5)) (wd.heap.size + 1) 1 (some ⟨wd.heap.size, 0, none⟩) 2 (ns .u8 [dg p, dg q])) := Lib.hid (Rd.lit [dg p, dg q] rfl (by omega) rfl rfl)
      have hb4 := hb2'.trans hb3
      refine hK _ _ (Upto.of hb3) (hR.out _ _ ?_); clear hR hK R K
      clear hb3 w1' w2' w3' w4' w5' hc' HN' hwd hb2'
      generalize wd.alloc (.cells #[.int .u8 ((dg p : Nat) : Int), .int .u8 ((dg q : Nat) : Int)] 5) = w4 at HN3 HL3 hb4 ⊢
      refine U.walkS_sole fun R hR => ?_
      simp only [List.map_nil, List.getD_cons_zero, List.getD_cons_succ]
      refine wpQuiet_nil ?_
      intro K hK
      go_wp2_with (at_builtin; go_must (refine appn nel8 rfl _ _ rfl rfl HN3.out rfl HL3.out ?_ ?_ ?_))
      · exact room_ge (by simp only [List.length_cons, List.length_nil]; omega)
      · exact hb4.size
      intro v5 w5 h5 _ hb5
      go_wp2_with fail
      refine hK _ _ (Upto.of hb5) (hR.out _ _ ?_); clear hR hK R K
      refine U.walkS_last ?_; simp only [List.map_cons, List.map_nil, List.getD_cons_zero, List.getD_cons_succ]; (repeat (first | (refine qskip (by rfl) ?_; simp only [Act.put, List.setIfInBounds_toArray, List.set_cons_zero, List.set_cons_succ]) | (refine qstep (by rfl) (fun K hK => U.qval (v := ?_) (fun w' hx => ?_) (hK _ ?_)); rotate_left; (go_simp; with_reducible rfl); clear hK K; (try simp only [Act.put, List.setIfInBounds_toArray, List.set_cons_zero, List.set_cons_succ])) | (refine qstep (by rfl) (fun K hK => U.qload _ rfl rfl (by first | assumption | omega) (by assumption) (by kernel_rfl) (hK _ ?_)); clear hK K; simp only [Act.put, List.setIfInBounds_toArray, List.set_cons_zero, List.set_cons_succ]))); refine wpQuiet_nil (hQ.out _ _ ?_); clear hQ
      go_wp2_with fail
      have h6 : Hid (Nats w5 5 .u8 w.heap.size v5 (hexN (l.take (i + 1)))) := Lib.hid (by
        rw [nth_take hx, hexN_append]
        rw [HP.out, HQ.out] at h5
        exact h5)
      go_roundw
      case rel => exact ⟨i + 1, by omega, by go_num, h6, hb4.trans hb5⟩
      case measure => simp [intOf]; omega
    · have hie : i = n := by omega
      subst hie
      obtain ⟨A', n', c', rfl, hnc, hn', hr'⟩ := HN.out.out
      go_wp2_with (refine wpList_conv Tryd.underlying30 Tryd.underlying5 Tryd.underlying9 rfl _ rfl rfl hr'.out ?_)
      go_wp2_with fail
      go_ret
      refine ⟨?_, hbw⟩
      have h1 : l.take i = l := by rw [← HL.out]; exact List.take_length
      have h2 : l ≠ [] := by intro h; rw [h] at HL; exact h0 HL.out.symm
      rw [h1]
      unfold hexT
      rw [if_neg h2]
      rfl
end Go.Proofs.YtefnojomjdeghaaDoor
