/- Layer 43, VarintWrites: the law answers true, and nothing that was there has turned. -/
import Derived.Test.YtnnhndgeedlpgaaVar6
namespace Go.Proofs.Ytnnhndgeedlpgaa
open Go.RowKit
set_option linter.unusedVariables false

set_option maxRecDepth 20000 in
theorem varintWrites_walk (A : Option Addr) (n c : Nat) (b : List Nat) (C : Option Addr) (m d : Nat) (l : List Nat) (w : World)
    (hr : Rd w w.heap.size 1 A n (ns .u8 b)) (hnc : n ≤ c) (hmax : c ≤ maxLen) (hb : ∀ x ∈ b, x < 256) (hs : Rd w w.heap.size 1 C m (ns .u64 l)) (hmd : m ≤ d) (hmax2 : d ≤ maxLen) (hl : ∀ x ∈ l, x < 18446744073709551616) :
    Calls Try.prog 6 #[.slice A n c, .slice C m d] w fun e w' => e = .returned (.bool true) ∧ Below w.heap.size w w' := by
  have HR := Lib.hid hr; have HB := Lib.hid hb; have HS := Lib.hid hs; have HL := Lib.hid hl
  have hlb := hr.natLen; have hll := hs.natLen
  clear hr hb hs hl
  unfold maxLen at hmax hmax2
  by_cases hn : 1000 < n
  · go_enter Try.func6, Try.ntmps6
    go_wp2_with fail
    go_ret
    exact ⟨rfl, Below.refl _ _⟩
  by_cases hm : 300 < m
  · go_enter Try.func6, Try.ntmps6
    go_wp2_with fail
    go_ret
    exact ⟨rfl, Below.refl _ _⟩
  have hm2 : decide ((300 : Int) < (m : Int)) = false := by simp; omega
  have hm3 : m ≤ 300 := by omega
  have hn3 : n ≤ 1000 := by omega
  have HLB := Lib.hid hlb; have HLL := Lib.hid hll
  clear hm hmax hmax2 hlb hll
  go_enter Try.func6, Try.ntmps6
  go_wp2_with (at_builtin; go_must (refine appn el8 rfl _ _ rfl rfl (Nats.lit0 w 5 .u8 (Nat.le_refl _)) rfl ((HR.out.alloc (Nat.le_refl _) _)) ?_ ?_ ?_))
  · have := HLB.out; simp; exact room_ge (by omega)
  · simp
  intro v1 w1 h1 _ hb1
  have hb1 := ((Below.refl w.heap.size w).alloc (Nat.le_refl _) _).trans hb1
  clear hm2 hn
  go_wp2
  go_loopw [5, 6, 7] (fun v i _ wr => ∃ k : Nat, k ≤ m ∧ i = .int .i64 k ∧ Nats wr 5 .u8 w.heap.size v (b ++ vbs (l.take k)) ∧ Below w.heap.size w wr) (fun _ i _ _ => m - (intOf i).toNat)
  case atStart => exact ⟨0, Nat.zero_le _, rfl, by simpa [vbs] using h1, hb1⟩
  case round =>
    obtain ⟨k, hk, rfl, h2, hb2⟩ := hrel
    have hv2 : (vbs (l.take k)).length ≤ 10 * k := by
      have h1 := vbs_len (l.take k) fun x hx => HL.out x (List.mem_of_mem_take hx)
      have h2 := List.length_take_le k l
      omega
    clear h1 hb1
    by_cases hlt : k < m
    · obtain ⟨bb, off, x, rfl, hbk, hcell, hx⟩ := (HS.out.below hb2).nth hlt
      have hx64 := Lib.hid (HL.out _ (nth_mem hx))
      go_wp2_with fail
      refine (refPut x wr hx64.out).mono ?_
      rintro e w3 ⟨v3, rfl, h3, hb3⟩
      obtain ⟨A3, c3, rfl, hc3⟩ := h3.form
      have h2' := h2.below hb3
      have hbl3 := hb2.trans (hb3.mono hb2.size)
      have hcell3 : w3.cell? ⟨bb, off + k, none⟩ = some (.int .u64 (x : Int)) := by rw [hb3.cell (p := ⟨bb, off + k, none⟩) (by have := hb2.size; simp; omega)]; exact hcell
      clear h2 hcell
      go_wp2_with fail
      refine (size_any x w3 hx64.out).mono ?_
      rintro e w4 ⟨rfl, rfl⟩
      have hv3 := vb_len64 hx64.out
      go_wp2_with (at_builtin; go_must (refine appn el8 rfl _ _ rfl rfl h2' rfl h3.rd ?_ ?_ ?_))
      · have := HLB.out; simp; exact room_ge (by omega)
      · exact hbl3.size
      intro v5 w5 h5 _ hb5
      go_wp2
      go_roundw
      case rel => exact ⟨k + 1, by omega, by go_num, by rw [nth_take hx, vbs_snoc]; simpa using h5, hbl3.trans hb5⟩
      case measure => simp [intOf]; omega
    · have hk : k = m := by omega
      subst hk
      rw [List.take_of_length_le (by have := HLL.out; omega)] at h2 hv2
      obtain ⟨A2, c2, rfl, hc2⟩ := h2.form
      go_wp2_with fail
      refine wp_open [([0, 1, 4, 5], some 2), ([3, 6, 7], some 8), ([9, 10], none)] (by kernel_rfl) (by kernel_rfl) (by kernel_rfl) (fun QQ hQ => ?_)
      refine walkS_sole fun R hR => ?_
      simp only [List.map_cons, List.map_nil, List.getD_cons_zero, List.getD_cons_succ]
      repeat (first | (refine qskip (by rfl) ?_; simp only [Act.put, List.setIfInBounds_toArray, List.set_cons_zero, List.set_cons_succ]) | (refine qstep (by rfl) (fun K hK => qval (v := ?_) (fun w' hx => ?_) (hK _ ?_)); rotate_left; (go_simp; with_reducible rfl); clear hK K; (try simp only [Act.put, List.setIfInBounds_toArray, List.set_cons_zero, List.set_cons_succ])))
      refine qstep (by rfl) (fun K hK => qconv Try.underlying22 Try.underlying5 Try.underlying9 _ rfl rfl (h2.rd.drew.re (by simp)) (Nat.le_refl _) (hK _ ?_)); clear hK K; simp only [Act.put, List.setIfInBounds_toArray, List.set_cons_zero, List.set_cons_succ]
      refine wpQuiet_nil ?_
      intro K hK
      go_wp2_with fail
      refine (put_any A C n k c d b l wr.drew ((HR.out.below hb2).mono hb2.size).drew ((HS.out.below hb2).mono hb2.size).drew HL.out (by omega)).mono ?_
      rintro e w3 ⟨v3, rfl, h3, hb3⟩
      obtain ⟨A3, c3, rfl, hc3⟩ := h3.form
      go_wp2_with fail
      refine hK _ _ (Ext.of hb3) (hR.out _ _ ?_)
      clear hR hK R K
      refine walkS_sole fun R hR => ?_
      simp only [List.map_cons, List.map_nil, List.getD_cons_zero, List.getD_cons_succ]
      have HSELF := strN_self (b ++ vbs l)
      refine qstep (by rfl) (fun K hK => qconv Try.underlying22 Try.underlying5 Try.underlying9 _ rfl rfl (h3.rd.re (by simp)) (Nat.le_refl _) (hK _ ?_)); clear hK K; simp only [Act.put, List.setIfInBounds_toArray, List.set_cons_zero, List.set_cons_succ]
      repeat (first | (refine qskip (by rfl) ?_; simp only [Act.put, List.setIfInBounds_toArray, List.set_cons_zero, List.set_cons_succ]) | (refine qstep (by rfl) (fun K hK => qval (v := ?_) (fun w' hx => ?_) (hK _ ?_)); rotate_left; (go_simp; with_reducible rfl); clear hK K; (try simp only [Act.put, List.setIfInBounds_toArray, List.set_cons_zero, List.set_cons_succ])))
      refine wpQuiet_nil ?_
      intro K hK
      go_wp2_with fail
      refine (alive43 _).mono ?_
      rintro e w4 ⟨rfl, hb4⟩
      go_wp2_with fail
      refine hK _ _ (Ext.of hb4) (hR.out _ _ (walkS_last ?_))
      clear hR hK R K
      simp only [List.map_cons, List.map_nil, List.getD_cons_zero, List.getD_cons_succ]
      repeat (first | (refine qskip (by rfl) ?_; simp only [Act.put, List.setIfInBounds_toArray, List.set_cons_zero, List.set_cons_succ]) | (refine qstep (by rfl) (fun K hK => qval (v := ?_) (fun w' hx => ?_) (hK _ ?_)); rotate_left; (go_simp; with_reducible rfl); clear hK K; (try simp only [Act.put, List.setIfInBounds_toArray, List.set_cons_zero, List.set_cons_succ])))
      refine wpQuiet_nil (hQ.out _ _ ?_)
      clear hQ
      go_wp2_with fail
      go_ret
      exact ⟨rfl, hb2.trans ((Below.refl _ _).drew.trans ((hb3.mono hb2.size).trans (hb4.mono (Nat.le_trans hb2.size hb3.size))))⟩
end Go.Proofs.Ytnnhndgeedlpgaa
