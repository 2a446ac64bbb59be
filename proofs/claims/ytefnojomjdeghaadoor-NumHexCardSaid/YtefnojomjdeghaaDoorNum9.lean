/- Layer 1: the reference's Unhex. -/
import Derived.Test.YtefnojomjdeghaaDoorNum8
namespace Go.Proofs.YtefnojomjdeghaaDoor
open Go.RowKit
set_option linter.unusedVariables false
theorem row_snoc (l : List Nat) (j : Nat) : row l (j + 1) (2 * (j + 1)) = row l j (2 * j) ++ [hd (l.getD (2 * j) 0) * 16 + hd (l.getD (2 * j + 1) 0)] := by
  unfold row
  rw [List.range_succ, List.map_append]
  congr 1
  · apply List.map_congr_left
    intro k hk
    have hk' : k < j := by simpa using hk
    unfold at_
    rw [if_pos (by omega), if_pos (by omega)]
  · simp only [List.map_cons, List.map_nil]
    unfold at_
    rw [if_pos (by omega)]
theorem rdigit_ok (r : Nat) (w : World) (hr : r < 256) (h : hok r = true) :
    Calls Tryd.prog 22 #[.int .u8 (r : Int)] w fun e w' => e = .returned (.int .i64 ((hd r : Nat) : Int)) ∧ w' = w := by
  have := rdigit_any r w hr
  rw [h] at this
  exact this
theorem rdigit_bad (r : Nat) (w : World) (hr : r < 256) (h : hok r = false) :
    Calls Tryd.prog 22 #[.int .u8 (r : Int)] w fun e w' => e = .returned (.int .i64 (-1)) ∧ w' = w := by
  have := rdigit_any r w hr
  rw [h] at this
  exact this
set_option maxHeartbeats 1000000 in
set_option maxRecDepth 20000 in
theorem runhex_any (s : ByteArray) (w : World) (hs : s.size ≤ 4096) :
    Calls Tryd.prog 12 #[.string s] w fun e w' => Unh s w e w' := by
  by_cases h1 : s.toList = [45]
  · have hq : unhex (nats s) = some [] := by rw [← nats_toList, h1]; rfl
    have g1 : (s.toList == [45]) = true := by rw [h1]; rfl
    go_enter Tryd.func12, Tryd.ntmps12
    go_wp2_with fail
    go_ret2
    unfold Unh
    rw [hq]
    exact ⟨_, rfl, Nats.nil _ _ _ _, Below.refl _ _⟩
  have g1 : (s.toList == [45]) = false := by simpa using h1
  have hn1 : nats s ≠ [45] := by
    intro h
    rw [← nats_toList] at h
    apply h1
    match hl : s.toList, h with
    | [x], h =>
      simp at h
      have : x = 45 := UInt8.toNat_inj.1 (by rw [h]; rfl)
      rw [this]
    | [], h => simp at h
    | _ :: _ :: _, h => simp at h
  by_cases h2 : s.size = 0
  · have hq : unhex (nats s) = none := by
      have : nats s = [] := List.eq_nil_of_length_eq_zero (by rw [nats_len]; exact h2)
      unfold unhex
      rw [if_neg hn1, if_pos this]
    have h3 : s.toList = [] := by
      apply List.eq_nil_of_length_eq_zero
      have := nats_len s
      rw [← nats_toList, List.length_map] at this
      omega
    have g2 : s.toList.isEmpty = true := by rw [h3]; rfl
    go_enter Tryd.func12, Tryd.ntmps12
    go_wp2_with fail
    go_ret2
    unfold Unh
    rw [hq]
    exact ⟨_, rfl, Nats.nil _ _ _ _, Below.refl _ _⟩
  have hn2 : nats s ≠ [] := by
    intro h
    have := nats_len s
    rw [h] at this
    exact h2 this.symm
  have hq : unhex (nats s) = unh (nats s) := by unfold unhex; rw [if_neg hn1, if_neg hn2]
  have h3 : s.toList ≠ [] := by
    intro h
    rw [← nats_toList, h] at hn2
    exact hn2 rfl
  have g2 : s.toList.isEmpty = false := by simpa using h3
  by_cases h4 : s.size % 2 = 1
  · have hz : unh (nats s) = none := unh_odd (s.size / 2) _ (by rw [nats_len]; omega)
    go_enter Tryd.func12, Tryd.ntmps12
    go_wp2_with fail
    go_ret2
    unfold Unh
    rw [hq, hz]
    exact ⟨_, rfl, Nats.nil _ _ _ _, Below.refl _ _⟩
  obtain ⟨m, hm⟩ : ∃ m, s.size = 2 * m := ⟨s.size / 2, by omega⟩
  have hmx : m ≤ 2048 := by omega
  have HQ := Lib.hid hq
  clear hq hn1 hn2
  go_enter Tryd.func12, Tryd.ntmps12
  go_wp2_with fail
  go_loopw [4, 5] (fun v iv wr => ∃ i j : Nat, i = 2 * j ∧ j ≤ m ∧ iv = .int .i64 i ∧ Hid (Nats wr 5 .u8 w.heap.size v (row (nats s) j (2 * j))) ∧ Below w.heap.size w wr ∧ Hid (∀ k, k < 2 * j → hok ((nats s).getD k 0) = true)) (fun _ iv _ => s.size - (intOf iv).toNat)
  case atStart => exact ⟨0, 0, rfl, by omega, rfl, Lib.hid (Nats.nil _ _ _ _), Below.refl _ _, Lib.hid (fun k hk => by omega)⟩
  case round =>
    obtain ⟨i, j, hij, hj, rfl, HN, hbw, hoks⟩ := hrel
    by_cases hjm : j < m
    · have hi1 : i < s.size := by omega
      have hi2 : i + 1 < s.size := by omega
      have n1 := nats_nth s i hi1
      have n2 := nats_nth s (i + 1) hi2
      have l1 : (s[i]'hi1).toNat < 256 := (s[i]'hi1).toNat_lt
      have l2 : (s[i + 1]'hi2).toNat < 256 := (s[i + 1]'hi2).toNat_lt
      have him : i < 2 * m := by omega
      have him2 : i + 1 < 2 * m := by omega
      have HIJ := Lib.hid hij
      clear hij
      cases k1 : hok (s[i]'hi1).toNat with
      | false =>
        have HBD := Lib.hid (unh_bad m _ (by rw [nats_len]; exact hm) i him (by rw [n1]; exact k1))
        clear n1 n2
        go_wp2_with fail
        refine (rdigit_bad _ _ l1 k1).mono ?_
        rintro e w2 ⟨rfl, rfl⟩
        go_wp2_with fail
        go_ret2
        unfold Unh
        rw [HQ.out, HBD.out]
        exact ⟨_, rfl, Nats.nil _ _ _ _, hbw⟩
      | true =>
        cases k2 : hok (s[i + 1]'hi2).toNat with
        | false =>
          have HBD := Lib.hid (unh_bad m _ (by rw [nats_len]; exact hm) (i + 1) him2 (by rw [n2]; exact k2))
          clear n1 n2
          go_wp2_with fail
          refine (rdigit_ok _ _ l1 k1).mono ?_
          rintro e w2 ⟨rfl, rfl⟩
          go_wp2_with fail
          refine (rdigit_bad _ _ l2 k2).mono ?_
          rintro e w2 ⟨rfl, rfl⟩
          go_wp2_with fail
          go_ret2
          unfold Unh
          rw [HQ.out, HBD.out]
          exact ⟨_, rfl, Nats.nil _ _ _ _, hbw⟩
        | true =>
          have r1 := rdigit_ok _ wr l1 k1
          have r2 := rdigit_ok _ wr l2 k2
          have p16 := hd_lt k1
          have q16 := hd_lt k2
          have HN1 := Lib.hid n1
          have HN2 := Lib.hid n2
          have HR1 := Lib.hid k1
          have HR2 := Lib.hid k2
          clear n1 n2
          go_wp2_with fail
          refine (rdigit_ok _ _ l1 k1).mono ?_
          rintro e w2 ⟨rfl, rfl⟩
          go_wp2_with fail
          refine (rdigit_ok _ _ l2 k2).mono ?_
          rintro e w2 ⟨rfl, rfl⟩
          go_wp2_with fail
          obtain ⟨p, hp⟩ : ∃ p, p = hd (s[i]'hi1).toNat := ⟨_, rfl⟩
          obtain ⟨q, hq⟩ : ∃ q, q = hd (s[i + 1]'hi2).toNat := ⟨_, rfl⟩
          rw [← hp] at p16
          rw [← hq] at q16
          obtain ⟨z, hz⟩ : ∃ z, z = p * 16 + q := ⟨_, rfl⟩
          have m0 : IntKind.i64.wrap ((i : Int) + 1) = ((i + 1 : Nat) : Int) := by rw [IntKind.wrap_i64]; omega
          have m1 : IntKind.i64.wrap ((p : Int) * 16) = ((p * 16 : Nat) : Int) := by rw [IntKind.wrap_i64]; omega
          have m2 : IntKind.i64.wrap (((p * 16 : Nat) : Int) + (q : Int)) = (z : Int) := by rw [IntKind.wrap_i64]; omega
          have m3 : IntKind.u8.wrap (z : Int) = (z : Int) := by rw [IntKind.wrap_u8]; omega
          have HZI := Lib.hid (show (p : Int) * 16 + (q : Int) = (z : Int) by omega)
          have HP := Lib.hid hp
          have HQ' := Lib.hid hq
          have HZ := Lib.hid hz
          clear hp hq hz
          refine U.wp_opend (B := w.heap.size) [([0, 1, 2, 3, 6, 7, 8, 9], some 4), ([5], some 10), ([11, 12], some 13), ([], some 14), ([15], none)] (by kernel_rfl) (by kernel_rfl) (by kernel_rfl) (fun QQ hQ wd hwd => ?_)
          have HN' := Lib.hid (HN.out.drawn hwd)
          have hb2' := hbw.trans (drawn_below hwd _)
          clear HN hbw
          refine U.walkS_sole fun R hR => ?_; simp only [List.map_cons, List.map_nil, List.getD_cons_zero, List.getD_cons_succ]; (repeat (first | (refine qskip (by rfl) ?_; simp only [Act.put, List.setIfInBounds_toArray, List.set_cons_zero, List.set_cons_succ]) | (refine qstep (by rfl) (fun K hK => U.qval (v := ?_) (fun w' hx => ?_) (hK _ ?_)); rotate_left; (go_simp; with_reducible rfl); clear hK K; (try simp only [Act.put, List.setIfInBounds_toArray, List.set_cons_zero, List.set_cons_succ])) | (refine qstep (by rfl) (fun K hK => U.qload _ rfl rfl (by first | assumption | omega) (by assumption) (by kernel_rfl) (hK _ ?_)); clear hK K; simp only [Act.put, List.setIfInBounds_toArray, List.set_cons_zero, List.set_cons_succ]))); refine wpQuiet_nil ?_; intro K hK; go_wp2_with fail; refine (rdigit_ok _ _ l1 k1).mono ?_; rintro e w3 ⟨rfl, rfl⟩; go_wp2_with fail
          refine hK _ _ (Upto.refl _ _) (hR.out _ _ ?_); clear hR hK R K
          rw [← HP.out]
          refine U.walkS_sole fun R hR => ?_; simp only [List.map_cons, List.map_nil, List.getD_cons_zero, List.getD_cons_succ]; (repeat (first | (refine qskip (by rfl) ?_; simp only [Act.put, List.setIfInBounds_toArray, List.set_cons_zero, List.set_cons_succ]) | (refine qstep (by rfl) (fun K hK => U.qval (v := ?_) (fun w' hx => ?_) (hK _ ?_)); rotate_left; (go_simp; with_reducible rfl); clear hK K; (try simp only [Act.put, List.setIfInBounds_toArray, List.set_cons_zero, List.set_cons_succ])) | (refine qstep (by rfl) (fun K hK => U.qload _ rfl rfl (by first | assumption | omega) (by assumption) (by kernel_rfl) (hK _ ?_)); clear hK K; simp only [Act.put, List.setIfInBounds_toArray, List.set_cons_zero, List.set_cons_succ]))); refine wpQuiet_nil ?_; intro K hK; go_wp2_with fail; refine (rdigit_ok _ _ l2 k2).mono ?_; rintro e w4 ⟨rfl, rfl⟩; go_wp2_with fail
          refine hK _ _ (Upto.refl _ _) (hR.out _ _ ?_); clear hR hK R K
          rw [← HQ'.out]
          refine U.walkS_sole fun R hR => ?_; simp only [List.map_cons, List.map_nil, List.getD_cons_zero, List.getD_cons_succ]; (repeat (first | (refine qskip (by rfl) ?_; simp only [Act.put, List.setIfInBounds_toArray, List.set_cons_zero, List.set_cons_succ]) | (refine qstep (by rfl) (fun K hK => U.qval (v := ?_) (fun w' hx => ?_) (hK _ ?_)); rotate_left; (go_simp; with_reducible rfl); clear hK K; (try simp only [Act.put, List.setIfInBounds_toArray, List.set_cons_zero, List.set_cons_succ])) | (refine qstep (by rfl) (fun K hK => U.qload _ rfl rfl (by first | assumption | omega) (by assumption) (by kernel_rfl) (hK _ ?_)); clear hK K; simp only [Act.put, List.setIfInBounds_toArray, List.set_cons_zero, List.set_cons_succ]))); refine wpQuiet_nil ?_; intro K hK; go_wp2_with (fail)
          rw [HZI.out]
          have hs2 := hb2'.size
          have hb3 : Below w.heap.size w4 (w4.alloc (.cells #[.int .u8 ((z : Nat) : Int)] 5)) := (Below.refl _ w4).alloc hs2 _
          have HN3 := Lib.hid (HN'.out.alloc (.cells #[.int .u8 ((z : Nat) : Int)] 5))
          have HL3 : Hid (Rd (w4.alloc (.cells #[.int .u8 ((z : Nat) : Int)] 5)) (w4.heap.size + 1) 1 (some ⟨w4.heap.size, 0, none⟩) 1 (ns .u8 [z])) := Lib.hid (Rd.lit [z] rfl (by omega) rfl rfl)
          have hb4 := hb2'.trans hb3
          refine hK _ _ (Upto.of hb3) (hR.out _ _ ?_); clear hR hK R K
          clear hb3 m0 m1 m2 m3 HN' hwd hb2'
          generalize w4.alloc (.cells #[.int .u8 ((z : Nat) : Int)] 5) = w6 at HN3 HL3 hb4 ⊢
          refine U.walkS_sole fun R hR => ?_
          simp only [List.map_nil, List.getD_cons_zero, List.getD_cons_succ]
          refine wpQuiet_nil ?_
          intro K hK
          go_wp2_with (at_builtin; go_must (refine appn nel8 rfl _ _ rfl rfl HN3.out rfl HL3.out ?_ ?_ ?_))
          · exact room_ge (by rw [row_len]; simp only [List.length_cons, List.length_nil]; omega)
          · exact hb4.size
          intro v5 w5 h5 _ hb5
          go_wp2_with fail
          refine hK _ _ (Upto.of hb5) (hR.out _ _ ?_); clear hR hK R K
          refine U.walkS_last ?_; simp only [List.map_cons, List.map_nil, List.getD_cons_zero, List.getD_cons_succ]; (repeat (first | (refine qskip (by rfl) ?_; simp only [Act.put, List.setIfInBounds_toArray, List.set_cons_zero, List.set_cons_succ]) | (refine qstep (by rfl) (fun K hK => U.qval (v := ?_) (fun w' hx => ?_) (hK _ ?_)); rotate_left; (go_simp; with_reducible rfl); clear hK K; (try simp only [Act.put, List.setIfInBounds_toArray, List.set_cons_zero, List.set_cons_succ])) | (refine qstep (by rfl) (fun K hK => U.qload _ rfl rfl (by first | assumption | omega) (by assumption) (by kernel_rfl) (hK _ ?_)); clear hK K; simp only [Act.put, List.setIfInBounds_toArray, List.set_cons_zero, List.set_cons_succ]))); refine wpQuiet_nil (hQ.out _ _ ?_); clear hQ
          go_wp2_with fail
          have hij := HIJ.out
          have hg1 : (nats s).getD (2 * j) 0 = (s[i]'hi1).toNat := by rw [← hij]; exact HN1.out
          have hg2 : (nats s).getD (2 * j + 1) 0 = (s[i + 1]'hi2).toNat := by rw [← hij]; exact HN2.out
          have h6 : Hid (Nats w5 5 .u8 w.heap.size v5 (row (nats s) (j + 1) (2 * (j + 1)))) := Lib.hid (by
            rw [row_snoc, hg1, hg2, ← HP.out, ← HQ'.out, ← HZ.out]
            exact h5)
          have h7 : Hid (∀ k, k < 2 * (j + 1) → hok ((nats s).getD k 0) = true) := Lib.hid (by
            intro k hk
            rcases (show k < 2 * j ∨ k = 2 * j ∨ k = 2 * j + 1 by omega) with h | rfl | rfl
            · exact hoks.out k h
            · rw [hg1]; exact HR1.out
            · rw [hg2]; exact HR2.out)
          clear hg1 hg2
          go_roundw
          case rel => exact ⟨i + 2, j + 1, by omega, by omega, by go_num, h6, hb4.trans hb5, h7⟩
          case measure => simp [intOf]; omega
    · have hie : j = m := by omega
      subst hie
      have HF := Lib.hid (unh_row j _ (by rw [nats_len]; exact hm) hoks.out)
      go_wp2_with fail
      go_ret2
      unfold Unh
      rw [HQ.out, HF.out]
      exact ⟨_, rfl, HN.out, hbw⟩
end Go.Proofs.YtefnojomjdeghaaDoor
