/- Layer 29: the law WheelOnce answers true, and nothing that was there has turned. -/
import Derived.Test.YtpeagibompohhaaWhO
import Derived.Test.YtpeagibompohhaaQx
namespace Go.Proofs.Ytpeagibompohhaa
open Go.RowKit
set_option linter.unusedVariables false
set_option linter.unusedSimpArgs false
def nOf (l : List Tr) (j : Nat) : Nat := (l.getD j (0, 0, 0)).2.2.toNat
theorem nOf_at {l : List Tr} {j : Nat} {x y z : Int} (h : l[j]? = some (x, y, z)) : nOf l j = z.toNat := by unfold nOf; rw [List.getD_eq_getElem?_getD, h]; rfl
/-- What is due, of the first so many. -/
def Lw (l : List Tr) (i : Nat) : List Tm := (List.range i).map fun j : Nat => ((j : Int), nOf l j)
theorem Lw_zero (l : List Tr) : Lw l 0 = [] := rfl
theorem Lw_succ (l : List Tr) (i : Nat) : Lw l (i + 1) = Lw l i ++ [((i : Int), 0 + nOf l i)] := by unfold Lw; rw [List.range_succ, List.map_append, Nat.zero_add]; rfl
theorem Lw_mem {l : List Tr} {i : Nat} {x : Tm} (h : x ∈ Lw l i) : ∃ j, j < i ∧ x = ((j : Int), nOf l j) := by
  obtain ⟨j, hj, rfl⟩ := List.mem_map.1 h
  exact ⟨j, List.mem_range.1 hj, rfl⟩
theorem Lw_len (l : List Tr) (i : Nat) : (Lw l i).length = i := by simp [Lw]
theorem Lw_rm (l : List Tr) (i : Nat) : rmL (Lw l i) (i : Int) = Lw l i := rmL_none fun t h => by
  obtain ⟨j, hj, e⟩ := Lw_mem h
  injection e with e _
  omega
/-- What is left of it behind so many ticks. -/
def Lt (l : List Tr) (n k : Nat) : List Tm := (Lw l n).filter fun x => decide (k < x.2)
theorem Lt_mem {l : List Tr} {n k : Nat} {x : Tm} (h : x ∈ Lt l n k) : k < x.2 ∧ ∃ j, j < n ∧ x = ((j : Int), nOf l j) := by
  obtain ⟨h1, h2⟩ := List.mem_filter.1 h
  exact ⟨by simpa using h2, Lw_mem h1⟩
theorem Lt_left (l : List Tr) (n k : Nat) : leftL (Lt l n k) (k + 1) = Lt l n (k + 1) := by
  unfold leftL Lt
  rw [List.filter_filter]
  congr 1
  funext x
  rw [← Bool.decide_and]
  exact decide_eq_decide.2 ⟨fun h => by omega, fun h => by omega⟩
theorem Lt_zero (l : List Tr) (n : Nat) (h : ∀ j, j < n → 1 ≤ nOf l j) : Lt l n 0 = Lw l n := by
  unfold Lt
  rw [List.filter_eq_self]
  intro x hx
  obtain ⟨j, hj, rfl⟩ := Lw_mem hx
  exact decide_eq_true (h j hj)
theorem Lt_last (l : List Tr) (n k : Nat) (h : ∀ j, j < n → nOf l j ≤ k) : Lt l n k = [] := by
  unfold Lt
  rw [List.filter_eq_nil_iff]
  intro x hx
  obtain ⟨j, hj, rfl⟩ := Lw_mem hx
  have := h j hj
  simp
  omega
theorem Lt_due {l : List Tr} {n k : Nat} {i : Nat} {x : Int} (h : (sortI (dueL (Lt l n k) (k + 1)))[i]? = some x) : ∃ j, j < n ∧ x = (j : Int) ∧ nOf l j = k + 1 := by
  have hm := (sortI_perm _).mem_iff.1 (List.mem_of_getElem? h)
  obtain ⟨y, hy, rfl⟩ := List.mem_map.1 hm
  obtain ⟨h1, h2⟩ := List.mem_filter.1 hy
  obtain ⟨_, j, hj, rfl⟩ := Lt_mem h1
  exact ⟨j, hj, rfl, by simpa using h2⟩
theorem dueL_nodup {L : List Tm} (h : (L.map (·.1)).Nodup) (t : Nat) : (dueL L t).Nodup := (List.Sublist.map _ List.filter_sublist).nodup h
theorem WA.nd {w : World} {g B mb most now : Nat} {sl : List Value} {L : List Tm} (h : WA w g B mb most now sl L) : (L.map (·.1)).Nodup := by
  obtain ⟨_, _, _, _, h3⟩ := h.ex
  exact h3.nd
set_option maxRecDepth 20000 in
set_option maxHeartbeats 8000000 in
theorem wheelOnce_walk (A : Option Addr) (n c : Nat) (l : List Tr) (w : World) (hr : Rd w w.heap.size 3 A n (trs l)) (hnc : n ≤ c) (hmax : c ≤ maxLen) :
    Calls Try.prog 4 #[.slice A n c] w fun e w' => e = .returned (.bool true) ∧ Below w.heap.size w w' := by
  have HR := Lib.hid hr
  unfold maxLen at hmax
  clear hr
  by_cases hn : 20 < n
  · have hn2 : (20 : Int) < (n : Int) := by omega
    go_enter Try.func4, Try.ntmps4
    go_wp2_with fail
    go_ret
    exact ⟨rfl, Below.refl _ _⟩
  have hn2 : ¬ (20 : Int) < (n : Int) := by omega
  have hn20 : n ≤ 20 := by omega
  go_enter Try.func4, Try.ntmps4
  go_wp2_with fail
  refine (wnewI 64 w (by unfold I64; omega)).mono ?_
  rintro e w1 ⟨g, mb, sl1, rfl, hmb, h1, hb1⟩
  rw [show mostN 64 = 64 by decide] at h1
  have H1 := Lib.hid h1
  have B1 := Lib.hid hb1
  clear h1 hb1 hn hn2
  obtain ⟨B, hB⟩ : ∃ B, B = w.heap.size := ⟨_, rfl⟩
  rw [← hB] at H1 B1 hmb
  have HBB := Lib.hid hB
  clear hB
  go_wp2_with fail
  go_loopw [4, 5] (fun mv iv wr => ∃ (i last : Nat) (sl : List Value), i ≤ n ∧ iv = .int .i64 (i : Nat) ∧ mv = .int .i64 (last : Nat) ∧ last ≤ 5000 ∧ Hid (∀ j, j < i → 1 ≤ nOf l j ∧ nOf l j ≤ last) ∧ Hid (∀ j, j < i → ∃ x y, l[j]? = some (x, y, (nOf l j : Int))) ∧ Hid (WA wr g B mb 64 0 sl (Lw l i)) ∧ Hid (Below B w wr)) (fun _ iv _ => n - (intOf iv).toNat)
  case atStart => exact ⟨0, 0, sl1, Nat.zero_le _, rfl, rfl, by omega, Lib.hid (fun j hj => by omega), Lib.hid (fun j hj => by omega), by rw [Lw_zero]; exact H1, B1⟩
  case round =>
    clear H1 B1
    obtain ⟨i, last, sl, hi, rfl, rfl, hlast, HB, HV, HW, BB⟩ := hrel
    by_cases hlt : i < n
    · have hlt' : (i : Int) < (n : Int) := by omega
      obtain ⟨ab, ao, kd, ta, wh, hA, hab, HX, hx⟩ := (HR.out.below (by rw [← HBB.out]; exact BB.out)).tr hlt
      subst hA
      have xl2 := HX.out 2 _ rfl
      clear HX
      by_cases hw1 : wh < 1
      · clear HB HV HW
        go_wp2_with fail
        go_ret
        exact ⟨rfl, by rw [← HBB.out]; exact BB.out⟩
      by_cases hw2 : 5000 < wh
      · clear HB HV HW
        go_wp2_with fail
        go_ret
        exact ⟨rfl, by rw [← HBB.out]; exact BB.out⟩
      obtain ⟨k, rfl⟩ : ∃ k : Nat, wh = (k : Int) := ⟨wh.toNat, by omega⟩
      have hk1 : 1 ≤ k := by omega
      have hk5 : k ≤ 5000 := by omega
      have hnk : nOf l i = k := by rw [nOf_at hx.out]; simp
      have hw1' : ¬ k < 1 := by omega
      have hw2' : ¬ 5000 < k := by omega
      have HAD := Lib.hid (waddI_put g B mb 64 0 k i sl (Lw l i) wr HW.out (by omega) (by unfold I64; omega) hk1 (by omega) (by rw [Lw_rm, Lw_len]; omega))
      have HNK := Lib.hid hnk
      have HV2 : Hid (∀ j, j < i + 1 → ∃ x y, l[j]? = some (x, y, (nOf l j : Int))) := Lib.hid fun j hj => by
        by_cases e : j = i
        · subst e; exact ⟨_, _, by rw [HNK.out]; exact hx.out⟩
        · exact HV.out j (by omega)
      clear hnk hx
      go_wp2_with fail
      refine HAD.out.mono ?_
      rintro e w2 ⟨rfl, sl2, h2, hk2⟩
      rw [Lw_rm, ← HNK.out, ← Lw_succ] at h2
      have B2 := Lib.hid (BB.out.trans (HW.out.below hk2 hmb))
      have H2 := Lib.hid h2
      have xl2' := ((HW.out.below hk2 hmb).cell (p := ⟨ab, ao + i * 3 + 2, none⟩) (by rw [HBB.out]; exact hab)).trans xl2
      clear h2 hk2 HAD HW BB xl2 HV
      by_cases hgt : last < k
      · have hgt' : (last : Int) < (k : Int) := by omega
        have HB2 : Hid (∀ j, j < i + 1 → 1 ≤ nOf l j ∧ nOf l j ≤ k) := Lib.hid fun j hj => by
          by_cases e : j = i
          · subst e; rw [HNK.out]; omega
          · have := HB.out j (by omega); omega
        go_wp2_with fail
        go_roundw
        case rel => exact ⟨i + 1, k, sl2, by omega, by go_num, rfl, hk5, HB2, HV2, H2, B2⟩
        case measure => simp [intOf]; omega
      · have hgt' : ¬ (last : Int) < (k : Int) := by omega
        have HB2 : Hid (∀ j, j < i + 1 → 1 ≤ nOf l j ∧ nOf l j ≤ last) := Lib.hid fun j hj => by
          by_cases e : j = i
          · subst e; rw [HNK.out]; omega
          · have := HB.out j (by omega); omega
        go_wp2_with fail
        go_roundw
        case rel => exact ⟨i + 1, last, sl2, by omega, by go_num, rfl, hlast, HB2, HV2, H2, B2⟩
        case measure => simp [intOf]; omega
    · have hie : i = n := by omega
      subst hie
      have HW0 : Hid (WA wr g B mb 64 0 sl (Lt l i 0)) := Lib.hid (by rw [Lt_zero l i fun j hj => (HB.out j hj).1]; exact HW.out)
      clear HW
      go_wp2_with fail
      generalize wr = wa at HW0 BB ⊢
      go_loopw [6, 7] (fun cv tv wr => ∃ (t k came : Nat) (sl : List Value), k ≤ last ∧ t = k + 1 ∧ tv = .int .i64 (t : Nat) ∧ cv = .int .i64 (came : Nat) ∧ Hid (came + (Lt l i k).length = i) ∧ Hid (WA wr g B mb 64 k sl (Lt l i k)) ∧ Hid (Below B w wr)) (fun _ tv _ => last + 1 - (intOf tv).toNat)
      case atStart => exact ⟨1, 0, 0, sl, by omega, rfl, rfl, rfl, Lib.hid (by rw [Lt_zero l i fun j hj => (HB.out j hj).1, Lw_len]; omega), HW0, BB⟩
      case round =>
        clear HW0 BB
        obtain ⟨t, k, came, sl, hk, ht, rfl, rfl, HC, HW, BB⟩ := hrel
        by_cases hlt : t ≤ last
        · have hlt' : (t : Int) ≤ (last : Int) := by omega
          have hdue := Lib.hid (left_due (Lt l i k) (k + 1))
          rw [Lt_left] at hdue
          have HT := Lib.hid ht
          clear ht
          go_wp2_with fail
          refine (wtickI g B mb 64 k sl (Lt l i k) wr HW.out (by omega)).mono ?_
          rintro e w2 ⟨v2, sl2, rfl, hz2, h2, hk2⟩
          rw [Lt_left] at h2
          have B2 := Lib.hid (BB.out.trans (HW.out.below hk2 hmb))
          have H2 := Lib.hid h2
          have HZ2 := Lib.hid hz2
          have HND := Lib.hid (dueL_nodup HW.out.nd (k + 1))
          clear h2 hk2 hz2 HW BB
          obtain ⟨A2, n2, cc2, rfl, hnc2, hln2, _⟩ := HZ2.out.out
          have HL2 : Hid (came + n2 + (Lt l i (k + 1)).length = i) := Lib.hid (by
            have h1 := HC.out
            have h2 := hdue.out
            have h3 := hln2.out
            rw [sortI_len] at h3
            omega)
          have hn2b : n2 ≤ 20 := by have := HL2.out; omega
          have hcame : came ≤ 20 := by have := HL2.out; omega
          go_wp2_with fail
          go_loopw [6, 9] (fun cv iv wk => ∃ (m : Nat), m ≤ n2 ∧ iv = .int .i64 (m : Nat) ∧ cv = .int .i64 (came + m : Nat) ∧ Hid (Below w2.heap.size w2 wk)) (fun _ iv _ => n2 - (intOf iv).toNat)
          case atStart => exact ⟨0, by omega, rfl, rfl, Lib.hid (Below.refl _ _)⟩
          case round =>
            obtain ⟨m, hm, rfl, rfl, HBQ⟩ := hrel
            by_cases hlt2 : m < n2
            · have hlt2' : (m : Int) < (n2 : Int) := by omega
              obtain ⟨x, hx⟩ : ∃ x, (sortI (dueL (Lt l i k) (k + 1)))[m]? = some x := ⟨_, List.getElem?_eq_getElem (by rw [hln2.out]; exact hlt2)⟩
              obtain ⟨j, hj, rfl, hnj⟩ := Lt_due hx
              obtain ⟨db, hdA, dq⟩ := ZatsAt (own_below HZ2.out HBQ.out fun k hk => (HZ2.out.lt k hk).2) hx
              subst hdA
              obtain ⟨ab, ao, kd, ta, wh, hA, hab, HX, hlx⟩ := (HR.out.below (by rw [← HBB.out]; exact B2.out.trans (HBQ.out.mono (by rw [HBB.out]; exact B2.out.size)))).tr hj
              subst hA
              have xl2 := HX.out 2 _ rfl
              have hwh : wh = (t : Int) := by
                obtain ⟨x', y', hv⟩ := HV.out j hj
                rw [hlx.out] at hv
                injection hv with hv
                injection hv with _ hv
                injection hv with _ hv
                rw [hv, hnj, HT.out]
              subst hwh
              have hj' : (j : Int) < (i : Int) := by omega
              have hj0 : ¬ (j : Int) < 0 := by omega
              have hji : ¬ (i : Int) ≤ (j : Int) := by omega
              have hji2 : ¬ i ≤ j := by omega
              have HX2 := Lib.hid hx
              clear HX hlx hnj hx
              by_cases hm0 : m = 0
              · subst hm0
                have d0 : decide (j < 0) = false := decide_eq_false (by omega)
                have d1 : decide (i ≤ j) = false := decide_eq_false (by omega)
                go_wp2_with fail
                refine wp_ext (by kernel_rfl) (by kernel_rfl) (fun QQ hQ => ?_)
                iterate 42 (first | (refine x_skip (by rfl) ?_; simp only [Act.put, List.setIfInBounds_toArray, List.set_cons_zero, List.set_cons_succ]) | (first | (refine x_load _ (by rfl) rfl rfl (by assumption) (by kernel_rfl) ?_; simp only [Act.put, List.setIfInBounds_toArray, List.set_cons_zero, List.set_cons_succ]) | (refine x_val (v := ?_) (by rfl) (fun w' hx => ?_) ?_; rotate_left; (focus (go_simp; (try with_reducible rfl))); (try simp only [Act.put, List.setIfInBounds_toArray, List.set_cons_zero, List.set_cons_succ]))))
                refine x_nil (hQ.out _ ?_); clear hQ QQ
                intro w9 hb9
                have B9 := Lib.hid (HBQ.out.trans (hb9.mono HBQ.out.size))
                clear hb9
                go_wp2_with fail
                go_roundw
                case rel => exact ⟨0 + 1, by omega, by go_num, by go_num, B9⟩
                case measure => simp [intOf]; omega
              · obtain ⟨m', hmm⟩ : ∃ m', m = m' + 1 := ⟨m - 1, by omega⟩
                have hm'lt : (m' : Int) < (n2 : Int) := by omega
                obtain ⟨x', hx'⟩ : ∃ x, (sortI (dueL (Lt l i k) (k + 1)))[m']? = some x := ⟨_, List.getElem?_eq_getElem (by rw [hln2.out]; omega)⟩
                have hri := sortI_rises HND.out (show m' < m by omega) hx' HX2.out
                obtain ⟨j', hj'', rfl, _⟩ := Lt_due hx'
                obtain ⟨db2, hdA2, dq2⟩ := ZatsAt (own_below HZ2.out HBQ.out fun k hk => (HZ2.out.lt k hk).2) hx'
                injection hdA2 with hdA2
                injection hdA2 with hdA2
                subst hdA2
                have hle : ¬ (j : Int) ≤ (j' : Int) := by omega
                have hle2 : ¬ j ≤ j' := by omega
                clear hri hx'
                have d0 : decide (j < 0) = false := decide_eq_false (by omega)
                have d1 : decide (i ≤ j) = false := decide_eq_false (by omega)
                have d2 : decide (j ≤ j') = false := decide_eq_false (by omega)
                have hm1 : (m : Int) - 1 = (m' : Nat) := by omega
                have hm2 : IntKind.i64.wrap (m' : Int) = (m' : Nat) := by rw [IntKind.wrap_i64]; omega
                have hm3 : (0 : Int) < (m : Int) := by omega
                have hm4 : 0 < m := by omega
                clear hmm hm0
                go_wp2_with fail
                refine wp_ext (by kernel_rfl) (by kernel_rfl) (fun QQ hQ => ?_)
                iterate 42 (first | (refine x_skip (by rfl) ?_; simp only [Act.put, List.setIfInBounds_toArray, List.set_cons_zero, List.set_cons_succ]) | (first | (refine x_load _ (by rfl) rfl rfl (by assumption) (by kernel_rfl) ?_; simp only [Act.put, List.setIfInBounds_toArray, List.set_cons_zero, List.set_cons_succ]) | (refine x_val (v := ?_) (by rfl) (fun w' hx => ?_) ?_; rotate_left; (focus (go_simp; (try with_reducible rfl))); (try simp only [Act.put, List.setIfInBounds_toArray, List.set_cons_zero, List.set_cons_succ]))))
                refine x_nil (hQ.out _ ?_); clear hQ QQ
                intro w9 hb9
                have B9 := Lib.hid (HBQ.out.trans (hb9.mono HBQ.out.size))
                clear hb9 hm1 hm2 hm3 hm4
                go_wp2_with fail
                go_roundw
                case rel => exact ⟨m + 1, by omega, by go_num, by go_num, B9⟩
                case measure => simp [intOf]; omega
            · have hme : m = n2 := by omega
              subst hme
              have HW9 := Lib.hid (H2.out.into HBQ.out)
              have B9 := Lib.hid (B2.out.trans (HBQ.out.mono (by rw [HBB.out]; exact B2.out.size)))
              clear H2 B2 HBQ
              go_wp2_with fail
              go_roundw
              case rel => exact ⟨t + 1, k + 1, came + m, sl2, by have := HT.out; omega, by rw [HT.out], by go_num, rfl, HL2, HW9, B9⟩
              case measure => simp [intOf]; omega
        · have hlt' : ¬ (t : Int) ≤ (last : Int) := by omega
          have hkl : k = last := by omega
          have hnil : Lt l i k = [] := Lt_last l i k fun j hj => by rw [hkl]; exact (HB.out j hj).2
          rw [hnil] at HC HW
          obtain rfl : came = i := by have := HC.out; simpa using this
          clear HB HV
          go_wp2_with fail
          refine (wlenI g B mb 64 k sl [] wr HW.out).mono ?_
          rintro e w2 ⟨rfl, rfl⟩
          go_wp2_with fail
          refine (alive29 w2).mono ?_
          rintro e w3 ⟨rfl, hb3⟩
          have B3 := Lib.hid (BB.out.trans (hb3.mono (by rw [HBB.out]; exact BB.out.size)))
          clear hb3
          go_wp2_with fail
          go_ret
          exact ⟨rfl, by rw [← HBB.out]; exact B3.out⟩
end Go.Proofs.Ytpeagibompohhaa
