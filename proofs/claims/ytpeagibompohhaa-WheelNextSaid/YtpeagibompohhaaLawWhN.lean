/- Layer 29: the law WheelNext answers true, and nothing that was there has turned. -/
import Derived.Test.YtpeagibompohhaaOpenWh
namespace Go.Proofs.Ytpeagibompohhaa
open Go.RowKit
set_option linter.unusedVariables false
set_option linter.unusedSimpArgs false
theorem dueL_none {L : List Tm} {t : Nat} (h : ∀ x ∈ L, x.2 ≠ t) : dueL L t = [] ∧ leftL L t = L := by
  unfold dueL leftL
  constructor
  · rw [List.map_eq_nil_iff, List.filter_eq_nil_iff]
    intro x hx
    simpa using h x hx
  · rw [List.filter_eq_self]
    intro x hx
    simpa using h x hx
theorem dueL_pos {L : List Tm} {t : Nat} {x : Tm} (hx : x ∈ L) (h : x.2 = t) : 0 < (dueL L t).length := by
  unfold dueL
  rw [List.length_map]
  exact List.length_pos_of_mem (List.mem_filter.2 ⟨hx, by simpa using h⟩)
/-- A wheel's tick. -/
def nowOf (w : World) (g : Nat) : Nat := match w.cell? ⟨g, 1, none⟩ with | some (.int _ k) => k.toNat | _ => 0
theorem WA.nowOf {w : World} {g B mb most now : Nat} {sl : List Value} {L : List Tm} (h : WA w g B mb most now sl L) : nowOf w g = now := by
  obtain ⟨S, f, h1, _, _⟩ := h.ex
  unfold Proofs.Ytpeagibompohhaa.nowOf
  rw [h1.c1]
  simp
set_option maxRecDepth 20000 in
set_option maxHeartbeats 8000000 in
theorem wheelNext_walk (A : Option Addr) (n c : Nat) (l : List Tr) (w : World) (hr : Rd w w.heap.size 3 A n (trs l)) (hnc : n ≤ c) (hmax : c ≤ maxLen) (hok : ∀ p ∈ l, okTr p) :
    Calls Try.prog 5 #[.slice A n c] w fun e w' => e = .returned (.bool true) ∧ Below w.heap.size w w' := by
  have HR := Lib.hid hr
  have HOK := Lib.hid hok
  unfold maxLen at hmax
  clear hr hok
  by_cases hn : 20 < n
  · have hn2 : (20 : Int) < (n : Int) := by omega
    go_enter Try.func5, Try.ntmps5
    go_wp2_with fail
    go_ret
    exact ⟨rfl, Below.refl _ _⟩
  have hn2 : ¬ (20 : Int) < (n : Int) := by omega
  have hn20 : n ≤ 20 := by omega
  go_enter Try.func5, Try.ntmps5
  go_wp2_with fail
  refine (wnewI 64 w (by unfold I64; omega)).mono ?_
  rintro e w1 ⟨g, mb, sl1, rfl, hmb, h1, hb1⟩
  rw [show mostN 64 = 64 by decide] at h1
  have H1 := Lib.hid h1
  have B1 := Lib.hid hb1
  clear h1 hb1 hn hn2
  obtain ⟨B, hB⟩ : ∃ B, B = w.heap.size := ⟨_, rfl⟩
  rw [← hB] at H1 B1 hmb
  have HBB := Lib.hid hB
  clear hB
  go_wp2_with fail
  go_loopw [4] (fun iv wr => ∃ (i : Nat) (sl : List Value) (L : List Tm), i ≤ n ∧ iv = .int .i64 (i : Nat) ∧ L.length ≤ i ∧ Hid (∀ x ∈ L, x.2 ≤ 3000) ∧ Hid (WA wr g B mb 64 0 sl L) ∧ Hid (Below B w wr)) (fun iv _ => n - (intOf iv).toNat)
  case atStart => exact ⟨0, sl1, [], Nat.zero_le _, rfl, by simp, Lib.hid (by simp), H1, B1⟩
  case round =>
    clear H1 B1
    obtain ⟨i, sl, L, hi, rfl, hLi, HB, HW, BB⟩ := hrel
    by_cases hlt : i < n
    · have hlt' : (i : Int) < (n : Int) := by omega
      obtain ⟨ab, ao, kd, ta, wh, hA, hab, HX, hx⟩ := (HR.out.below (by rw [← HBB.out]; exact BB.out)).tr hlt
      subst hA
      have hta : I64 ta := by have := (HOK.out _ (List.mem_of_getElem? hx.out)).2.1; unfold I64; simp at this; omega
      have hab2 : ab < wr.heap.size := Nat.lt_of_lt_of_le hab BB.out.size
      have xl1 := HX.out 1 _ rfl
      have xl2 := HX.out 2 _ rfl
      clear HX hx
      by_cases hw1 : wh < 1
      · have d1 : decide (wh < 1) = true := decide_eq_true hw1
        clear HB HW
        go_wp2_with fail
        refine wp_ord [(0, .pure), (1, .pure), (2, .pure), (3, .pure), (4, .read), (5, .pure), (6, .pure), (7, .pure), (8, .pure), (9, .pure), (10, .pure), (11, .read), (12, .pure), (13, .pure), (14, .pure), (15, .pure), (16, .pure), (17, .pure), (18, .pure), (19, .pure), (20, .read), (21, .pure), (22, .pure), (23, .pure), (24, .pure), (25, .read), (26, .sole), (27, .pure), (28, .pure)] [26] (by kernel_rfl) (by kernel_rfl) (fun QQ hQ wd hwd => ?_); simp only [List.map_cons, List.map_nil, List.getD_cons_zero, List.getD_cons_succ]
        have hD : Below wr.heap.size wr wd := by rw [hwd.out]; exact (Below.refl _ _).drew
        have HBD := Lib.hid (BB.out.trans (hD.mono (by rw [HBB.out]; exact BB.out.size)))
        have yl1 := (hD.cell (p := ⟨ab, ao + i * 3 + 1, none⟩) hab2).trans xl1
        have yl2 := (hD.cell (p := ⟨ab, ao + i * 3 + 2, none⟩) hab2).trans xl2
        clear hD hwd xl1 xl2
        iterate 29 (first | (refine o_load _ (by rfl) rfl rfl (by assumption) (by kernel_rfl) ?_; simp only [Act.put, List.setIfInBounds_toArray, List.set_cons_zero, List.set_cons_succ]) | (refine o_pure (v := ?_) (by rfl) (fun w' => ?_) ?_; rotate_left; (focus (go_simp; (try with_reducible rfl); (try (rw [if_pos (by omega)]; (try with_reducible rfl))))); (try simp only [Act.put, List.setIfInBounds_toArray, List.set_cons_zero, List.set_cons_succ])) | (refine o_pass (by rfl) ?_; simp only [Act.put, List.setIfInBounds_toArray, List.set_cons_zero, List.set_cons_succ]) | (refine o_skip (by intro h; cases h) (by rfl) ?_; simp only [Act.put, List.setIfInBounds_toArray, List.set_cons_zero, List.set_cons_succ]))
        refine o_nil (hQ.out _ _ ?_); clear hQ QQ
        go_wp2_with fail
        go_ret
        exact ⟨rfl, by rw [← HBB.out]; exact HBD.out⟩
      by_cases hw2 : 3000 < wh
      · have d1 : decide (wh < 1) = false := decide_eq_false hw1
        have d2 : decide (3000 < wh) = true := decide_eq_true hw2
        clear HB HW
        go_wp2_with fail
        refine wp_ord [(0, .pure), (1, .pure), (2, .pure), (3, .pure), (4, .read), (5, .pure), (6, .pure), (7, .pure), (8, .pure), (9, .pure), (10, .pure), (11, .read), (12, .pure), (13, .pure), (14, .pure), (15, .pure), (16, .pure), (17, .pure), (18, .pure), (19, .pure), (20, .read), (21, .pure), (22, .pure), (23, .pure), (24, .pure), (25, .read), (26, .sole), (27, .pure), (28, .pure)] [26] (by kernel_rfl) (by kernel_rfl) (fun QQ hQ wd hwd => ?_); simp only [List.map_cons, List.map_nil, List.getD_cons_zero, List.getD_cons_succ]
        have hD : Below wr.heap.size wr wd := by rw [hwd.out]; exact (Below.refl _ _).drew
        have HBD := Lib.hid (BB.out.trans (hD.mono (by rw [HBB.out]; exact BB.out.size)))
        have yl1 := (hD.cell (p := ⟨ab, ao + i * 3 + 1, none⟩) hab2).trans xl1
        have yl2 := (hD.cell (p := ⟨ab, ao + i * 3 + 2, none⟩) hab2).trans xl2
        clear hD hwd xl1 xl2
        iterate 29 (first | (refine o_load _ (by rfl) rfl rfl (by assumption) (by kernel_rfl) ?_; simp only [Act.put, List.setIfInBounds_toArray, List.set_cons_zero, List.set_cons_succ]) | (refine o_pure (v := ?_) (by rfl) (fun w' => ?_) ?_; rotate_left; (focus (go_simp; (try with_reducible rfl); (try (rw [if_pos (by omega)]; (try with_reducible rfl))))); (try simp only [Act.put, List.setIfInBounds_toArray, List.set_cons_zero, List.set_cons_succ])) | (refine o_pass (by rfl) ?_; simp only [Act.put, List.setIfInBounds_toArray, List.set_cons_zero, List.set_cons_succ]) | (refine o_skip (by intro h; cases h) (by rfl) ?_; simp only [Act.put, List.setIfInBounds_toArray, List.set_cons_zero, List.set_cons_succ]))
        refine o_nil (hQ.out _ _ ?_); clear hQ QQ
        go_wp2_with fail
        go_ret
        exact ⟨rfl, by rw [← HBB.out]; exact HBD.out⟩
      obtain ⟨k, hwk⟩ : ∃ k : Nat, (k : Int) = wh := ⟨wh.toNat, by omega⟩
      have hk1 : 1 ≤ k := by omega
      have hk5 : k ≤ 3000 := by omega
      have HWK := Lib.hid hwk
      clear hwk
      have hrm := rmL_le L ta
      have d1 : decide (wh < 1) = false := decide_eq_false hw1
      have d2 : decide (3000 < wh) = false := decide_eq_false hw2
      go_wp2_with fail
      refine wp_ord [(0, .pure), (1, .pure), (2, .pure), (3, .pure), (4, .read), (5, .pure), (6, .pure), (7, .pure), (8, .pure), (9, .pure), (10, .pure), (11, .read), (12, .pure), (13, .pure), (14, .pure), (15, .pure), (16, .pure), (17, .pure), (18, .pure), (19, .pure), (20, .read), (21, .pure), (22, .pure), (23, .pure), (24, .pure), (25, .read), (26, .sole), (27, .pure), (28, .pure)] [26] (by kernel_rfl) (by kernel_rfl) (fun QQ hQ wd hwd => ?_); simp only [List.map_cons, List.map_nil, List.getD_cons_zero, List.getD_cons_succ]
      have hD : Below wr.heap.size wr wd := by rw [hwd.out]; exact (Below.refl _ _).drew
      have HBD := Lib.hid (BB.out.trans (hD.mono (by rw [HBB.out]; exact BB.out.size)))
      have HWD := Lib.hid (HW.out.into hD)
      have yl1 := (hD.cell (p := ⟨ab, ao + i * 3 + 1, none⟩) hab2).trans xl1
      have yl2 := (hD.cell (p := ⟨ab, ao + i * 3 + 2, none⟩) hab2).trans xl2
      clear hD hwd xl1 xl2 HW BB
      have HAD := Lib.hid (waddI_put g B mb 64 0 k ta sl L wd HWD.out (by omega) hta hk1 (by omega) (by omega))
      rw [HWK.out] at HAD
      iterate 26 (first | (refine o_load _ (by rfl) rfl rfl (by assumption) (by kernel_rfl) ?_; simp only [Act.put, List.setIfInBounds_toArray, List.set_cons_zero, List.set_cons_succ]) | (refine o_pure (v := ?_) (by rfl) (fun w' => ?_) ?_; rotate_left; (focus (go_simp; (try with_reducible rfl); (try (rw [if_pos (by omega)]; (try with_reducible rfl))))); (try simp only [Act.put, List.setIfInBounds_toArray, List.set_cons_zero, List.set_cons_succ])) | (refine o_pass (by rfl) ?_; simp only [Act.put, List.setIfInBounds_toArray, List.set_cons_zero, List.set_cons_succ]) | (refine o_skip (by intro h; cases h) (by rfl) ?_; simp only [Act.put, List.setIfInBounds_toArray, List.set_cons_zero, List.set_cons_succ]))
      refine o_sole (fun K hK => ?_)
      go_wp2_with fail
      refine HAD.out.mono ?_
      rintro e w2 ⟨rfl, sl2, h2, hk2⟩
      have B2 := Lib.hid (HBD.out.trans (HWD.out.below hk2 hmb))
      have H2 := Lib.hid h2
      clear h2 hk2 HAD HWD HBD yl1 yl2
      go_wp2_with fail
      refine hK _ _ (fun h => by cases h) ?_; clear hK K
      (refine o_pure (v := ?_) (by rfl) (fun w' => ?_) ?_; rotate_left; (focus (go_simp; (try with_reducible rfl); (try (rw [if_pos (by omega)]; (try with_reducible rfl))))); (try simp only [Act.put, List.setIfInBounds_toArray, List.set_cons_zero, List.set_cons_succ]))
      (refine o_pure (v := ?_) (by rfl) (fun w' => ?_) ?_; rotate_left; (focus (go_simp; (try with_reducible rfl); (try (rw [if_pos (by omega)]; (try with_reducible rfl))))); (try simp only [Act.put, List.setIfInBounds_toArray, List.set_cons_zero, List.set_cons_succ]))
      refine o_nil (hQ.out _ _ ?_); clear hQ QQ
      have HB2 : Hid (∀ x ∈ rmL L ta ++ [(ta, 0 + k)], x.2 ≤ 3000) := Lib.hid fun x hx => by
        rcases List.mem_append.1 hx with hx | hx
        · exact HB.out x (rmL_mem.1 hx).1
        · obtain rfl := List.mem_singleton.1 hx
          show 0 + k ≤ 3000
          omega
      have hl2 : (rmL L ta ++ [(ta, 0 + k)]).length ≤ i + 1 := by rw [List.length_append]; simp; omega
      go_wp2_with fail
      go_roundw
      case rel => exact ⟨i + 1, sl2, _, by omega, by go_num, hl2, HB2, H2, B2⟩
      case measure => simp [intOf]; omega
    · have hie : i = n := by omega
      subst hie
      go_wp2_with fail
      generalize wr = wa at HW BB ⊢
      go_loopw [] (fun wr => ∃ (now : Nat) (sl : List Value) (L : List Tm), now ≤ 3000 ∧ Hid (∀ x ∈ L, x.2 ≤ 3000) ∧ Hid (WA wr g B mb 64 now sl L) ∧ Hid (Below B w wr)) (fun wr => 3001 - nowOf wr g)
      case atStart => exact ⟨0, sl, L, by omega, HB, HW, BB⟩
      case round =>
        clear HW BB HB
        obtain ⟨now, sl, L, hnow, HB, HW, BB⟩ := hrel
        have hll : L.length ≤ 64 := HW.out.len
        by_cases hL : L = []
        · subst hL
          go_wp2_with fail
          refine (wlenI g B mb 64 now sl [] wr HW.out).mono ?_
          rintro e w2 ⟨rfl, rfl⟩
          simp only [List.length_nil]
          go_wp2_with fail
          refine (wnextI g B mb 64 now sl [] w2 HW.out (by omega)).mono ?_
          rintro e w3 ⟨h1, hb3⟩
          rcases h1 with ⟨_, rfl⟩ | ⟨t, ⟨⟨x, hx, _⟩, _⟩, _⟩
          rotate_left
          · cases hx
          have B3 := Lib.hid (BB.out.trans (hb3.mono (by rw [HBB.out]; exact BB.out.size)))
          clear hb3
          go_wp2_with fail
          refine (alive29 w3).mono ?_
          rintro e w4 ⟨rfl, hb4⟩
          have B4 := Lib.hid (B3.out.trans (hb4.mono (by rw [HBB.out]; exact B3.out.size)))
          clear hb4
          go_wp2_with fail
          go_ret
          exact ⟨rfl, by rw [← HBB.out]; exact B4.out⟩
        · obtain ⟨m, hm⟩ : ∃ m, m = L.length := ⟨_, rfl⟩
          have hm0 : 0 < m := by rw [hm]; exact List.length_pos_iff.2 hL
          have hm0' : (0 : Int) < (m : Int) := by omega
          have HLN := Lib.hid (wlenI g B mb 64 now sl L wr HW.out)
          rw [← hm] at HLN
          have HMM := Lib.hid hm
          have HLL := Lib.hid hL
          clear hm hL
          go_wp2_with fail
          refine HLN.out.mono ?_
          rintro e w2 ⟨rfl, rfl⟩
          clear HLN
          go_wp2_with fail
          refine (wnextI g B mb 64 now sl L w2 HW.out (by omega)).mono ?_
          rintro e w3 ⟨h1, hb3⟩
          rcases h1 with ⟨hnil, _⟩ | ⟨t, hmin, rfl⟩
          · exact absurd hnil HLL.out
          have HMIN := Lib.hid hmin
          have H3 := Lib.hid (HW.out.into hb3)
          have B3 := Lib.hid (BB.out.trans (hb3.mono (by rw [HBB.out]; exact BB.out.size)))
          have htb : now < t ∧ t ≤ 3000 := by
            obtain ⟨⟨x, hx, hxt⟩, _⟩ := hmin
            have h1 := HW.out.due x hx
            have h2 := HB.out x hx
            omega
          have HMEA : Hid (nowOf w2 g = now) := Lib.hid HW.out.nowOf
          obtain ⟨d, hd⟩ : ∃ d, d = t - now := ⟨_, rfl⟩
          have hd1 : 1 ≤ d := by omega
          have hd3 : d ≤ 3000 := by omega
          rw [← hd]
          have HD := Lib.hid (show t = now + d by omega)
          have hn0 : ¬ (d : Int) < 1 := by omega
          have hn1 : ¬ (3000 : Int) < (d : Int) := by omega
          have hn2 : ¬ d < 1 := by omega
          have hn3 : ¬ 3000 < d := by omega
          have hn4 : ¬ d = 0 := by omega
          have HT3 := Lib.hid htb.2
          clear hb3 hmin htb hd HW BB
          go_wp2_with fail
          generalize w3 = wb at H3 B3 ⊢
          go_loopw [7] (fun iv wr => ∃ (i k : Nat) (sl : List Value), i = k + 1 ∧ i ≤ d ∧ iv = .int .i64 (i : Nat) ∧ Hid (WA wr g B mb 64 (now + k) sl L) ∧ Hid (Below B w wr)) (fun iv _ => d - (intOf iv).toNat)
          case atStart => exact ⟨1, 0, sl, rfl, hd1, rfl, H3, B3⟩
          case round =>
            clear H3 B3
            obtain ⟨i, k, sl, hik, hid, rfl, HW, BB⟩ := hrel
            by_cases hlt : i < d
            · have hlt' : (i : Int) < (d : Int) := by omega
              have HN := Lib.hid (dueL_none (L := L) (t := now + k + 1) fun x hx e => by
                have := HMIN.out.2 x hx
                have := HD.out
                omega)
              go_wp2_with fail
              refine (wtickI g B mb 64 (now + k) sl L wr HW.out (by omega)).mono ?_
              rintro e w4 ⟨v4, sl4, rfl, hz4, h4, hk4⟩
              rw [HN.out.1, sortI_nil] at hz4
              rw [HN.out.2] at h4
              obtain ⟨A4, c4, rfl, _⟩ := hz4.form
              have H4 := Lib.hid (show WA w4 g B mb 64 (now + i) sl4 L by rw [hik, ← Nat.add_assoc]; exact h4)
              have B4 := Lib.hid (BB.out.trans (HW.out.below hk4 hmb))
              clear hz4 h4 hk4 HW BB
              simp only [List.length_nil]
              go_wp2_with fail
              go_roundw
              case rel => exact ⟨i + 1, i, sl4, rfl, by omega, by go_num, H4, B4⟩
              case measure => simp [intOf]; omega
            · have hlt' : ¬ (i : Int) < (d : Int) := by omega
              have hie : i = d := by omega
              have HPOS : Hid (0 < (sortI (dueL L (now + k + 1))).length) := Lib.hid (by
                rw [sortI_len]
                obtain ⟨⟨x, hx, hxt⟩, _⟩ := HMIN.out
                exact dueL_pos hx (by have := HD.out; omega))
              go_wp2_with fail
              refine (wtickI g B mb 64 (now + k) sl L wr HW.out (by omega)).mono ?_
              rintro e w4 ⟨v4, sl4, rfl, hz4, h4, hk4⟩
              obtain ⟨A4, c4, rfl, _⟩ := hz4.form
              have H4 := Lib.hid h4
              have B4 := Lib.hid (BB.out.trans (HW.out.below hk4 hmb))
              have HBL : Hid (∀ x ∈ leftL L (now + k + 1), x.2 ≤ 3000) := Lib.hid fun x hx => HB.out x (leftL_mem.1 hx).1
              have HM4 : Hid (nowOf w4 g = now + k + 1) := Lib.hid h4.nowOf
              clear hz4 h4 hk4 HW BB
              obtain ⟨q, hq⟩ : ∃ q, q = (sortI (dueL L (now + k + 1))).length := ⟨_, rfl⟩
              have hq0 : ¬ q = 0 := by have := HPOS.out; omega
              have hq1 : ¬ (q : Int) = 0 := by omega
              rw [← hq]
              clear hq
              go_wp2_with fail
              go_roundw
              case rel => exact ⟨now + k + 1, sl4, _, by have := HD.out; have := HT3.out; omega, HBL, H4, B4⟩
              case measure => rw [HMEA.out, HM4.out]; omega
end Go.Proofs.Ytpeagibompohhaa
