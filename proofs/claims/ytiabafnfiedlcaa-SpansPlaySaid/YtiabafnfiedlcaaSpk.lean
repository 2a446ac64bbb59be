/- Layer 6's reference: Add, Cut, Run, Gaps. -/
import Derived.Test.YtiabafnfiedlcaaSpj
namespace Go.Proofs.Ytiabafnfiedlcaa
open Go.RowKit
set_option linter.unusedVariables false
theorem addS_ref {most f t : Nat} {l : List Sp} (hft : f < t) (hlen : l.length ≤ most) : addS most l f t = if most < (addL l f t).length ∧ l.length < (addL l f t).length then (l, false) else (addL l f t, true) := by
  unfold addS
  rw [if_neg (by omega)]
  have hl := addL_len l f t
  by_cases hm : spTouch l f t = false
  · have := congrArg List.length (mid_nil.1 hm)
    simp only [List.length_nil] at this
    by_cases h2 : most ≤ l.length
    · rw [if_pos ⟨hm, h2⟩, if_pos (by omega)]
    · rw [if_neg (by omega), if_neg (by omega)]
  · rw [if_neg (fun h => hm h.1), if_neg]
    have : spMid (spRest l f) t ≠ [] := fun e => hm (mid_nil.2 e)
    have := List.length_pos_iff.2 this
    omega
set_option maxRecDepth 20000 in
set_option maxHeartbeats 1000000 in
theorem radd_any (v : Value) (l : List Sp) (f t most B : Nat) (w : World) (h : Pcs w 40 B v l) (hB : B ≤ w.heap.size) (hr : Rise l) (hlen : l.length ≤ most) (hm : most ≤ 64) :
    Calls Try.prog 16 #[v, .int .u64 (f : Int), .int .u64 (t : Int), .int .i64 (most : Int)] w fun e w' => ∃ v', e = .returned (.tuple #[v', .bool (addS most l f t).2]) ∧ Pcs w' 40 B v' (addS most l f t).1 ∧ Below w.heap.size w w' := by
  obtain ⟨A, n, c, rfl, hnc, hcm, hl, hrd⟩ := h.out
  have HH := Lib.hid h
  by_cases h0 : t ≤ f
  · have h0' : (t : Int) ≤ (f : Int) := by omega
    have HA := Lib.hid (show addS most l f t = (l, true) from if_pos h0)
    clear hrd h
    go_enter Try.func16, Try.ntmps16
    go_wp2_with fail
    go_ret2
    rw [HA.out]
    exact ⟨_, rfl, HH.out, Below.refl _ _⟩
  · have h0' : ¬ (t : Int) ≤ (f : Int) := by omega
    have hj := Lib.hid (join_any A n c w.heap.size l f t w hrd.out (Nat.le_refl _) hr (by omega) (by have := hl.out; omega))
    have HA := Lib.hid (addS_ref (most := most) (show f < t by omega) hlen)
    have HL := hl
    clear hrd h
    go_enter Try.func16, Try.ntmps16
    go_wp2_with fail
    refine hj.out.mono ?_
    rintro e w2 ⟨v2, rfl, hP, hb⟩
    obtain ⟨A2, n2, c2, rfl, _, _, hl2, _⟩ := hP.out
    have HP := Lib.hid hP
    have HB := Lib.hid hb
    clear hP hb hj
    by_cases hc : most < n2 ∧ n < n2
    · have hc1 : (most : Int) < (n2 : Int) := by omega
      have hc2 : (n : Int) < (n2 : Int) := by omega
      have HA2 := Lib.hid (HA.out.trans (if_pos (by rw [hl2.out, HL.out]; exact hc)))
      clear HA hc
      go_wp2_with fail
      go_ret2
      rw [HA2.out]
      exact ⟨_, rfl, HH.out.below HB.out, HB.out⟩
    · have HA2 := Lib.hid (HA.out.trans (if_neg (by rw [hl2.out, HL.out]; exact hc)))
      by_cases hd : most < n2
      · have hc1 : (most : Int) < (n2 : Int) := by omega
        have hc2 : ¬ (n : Int) < (n2 : Int) := by omega
        clear HA hc
        go_wp2_with fail
        go_ret2
        rw [HA2.out]
        exact ⟨_, rfl, own_mono HP.out hB, HB.out⟩
      · have hc1 : ¬ (most : Int) < (n2 : Int) := by omega
        have hc3 : decide (most < n2) = false := decide_eq_false hd
        clear HA hc
        go_wp2_with fail
        go_ret2
        rw [HA2.out]
        exact ⟨_, rfl, own_mono HP.out hB, HB.out⟩
set_option maxRecDepth 20000 in
set_option maxHeartbeats 2000000 in
theorem rcut_any (v : Value) (l : List Sp) (d B : Nat) (w : World) (h : Pcs w 40 B v l) (hr : Rise l) (hn : l.length ≤ 1000) :
    Calls Try.prog 15 #[v, .int .u64 (d : Int)] w fun e w' => ∃ v', e = .returned v' ∧ Pcs w' 40 w.heap.size v' (cutL l d) ∧ Below w.heap.size w w' := by
  obtain ⟨A, n, c, rfl, hnc, hcm, hl, hrd⟩ := h.out
  have HL := hl
  have HR := hrd
  have HRI := Lib.hid hr
  have hn2 : n ≤ 1000 := by have := hl.out; omega
  clear hrd h hl hr hn
  go_enter Try.func15, Try.ntmps15
  go_wp2_with fail
  go_loopw [5, 6] (fun ov iv wr => ∃ (k : Nat) (o : List Sp), k ≤ n ∧ iv = .int .i64 k ∧ Hid (cutK l d k = o) ∧ Hid (Pcs wr 40 w.heap.size ov o) ∧ Below w.heap.size w wr ∧ o.length ≤ k) (fun _ iv _ => n - (intOf iv).toNat)
  case atStart => exact ⟨0, [], Nat.zero_le _, rfl, Lib.hid rfl, Lib.hid (Pcs.nil _ _ _), Below.refl _ _, Nat.le_refl _⟩
  case round =>
    obtain ⟨k, o, hk, rfl, hj, ho, hbw, hol⟩ := hrel
    obtain ⟨A7, n7, c7, rfl, _, _, hl7, _⟩ := ho.out.out
    have hbs := hbw.size
    have hroom : (o.length + 1) * 16 ≤ room := room_ge (by omega)
    by_cases hlt : k < n
    · have hlt' : (k : Int) < (n : Int) := by omega
      obtain ⟨b, off, x, y, rfl, hbb, p0, p1, hp⟩ := (HR.out.below hbw).pc hlt
      have hst := cutK_step (b := d) hp.out
      have hpos := HRI.out.pos _ (List.mem_of_getElem? hp.out)
      dsimp only at hst hpos
      rw [hj.out] at hst
      clear hj hl7
      by_cases hxd : x < d
      · have hxd' : (x : Int) < (d : Int) := by omega
        rw [show max x d = d by omega] at hst
        by_cases hdy : d < y
        · have hdy' : (d : Int) < (y : Int) := by omega
          rw [if_pos hdy] at hst
          have HST := Lib.hid hst
          clear hst hp hpos
          go_wp2_with (at_builtin; refine app1p prfEl d y rfl (.tmp 29) (.tmp 31) rfl rfl (ho.out.alloc _) rfl (by simp) hroom (Nat.le_trans hbs (by simp)) ?_)
          intro v2 w2 ho2 hg2 hb2
          have HO2 := Lib.hid ho2
          have HB2 := Lib.hid ((hbw.alloc hbs _).trans hb2)
          clear ho2 hg2 hb2
          go_wp2_with fail
          go_roundw
          case rel => exact ⟨k + 1, o ++ [(d, y)], by omega, by go_num, HST, HO2, HB2.out, by rw [List.length_append]; simp; omega⟩
          case measure => simp [intOf]; omega
        · have hdy' : ¬ (d : Int) < (y : Int) := by omega
          rw [if_neg hdy] at hst
          have HST := Lib.hid hst
          clear hst hp hpos
          go_wp2_with fail
          go_roundw
          case rel => exact ⟨k + 1, o, by omega, by go_num, HST, Lib.hid (ho.out.alloc _), hbw.alloc hbs _, by omega⟩
          case measure => simp [intOf]; omega
      · have hxd' : ¬ (x : Int) < (d : Int) := by omega
        have hxy' : (x : Int) < (y : Int) := by omega
        rw [show max x d = x by omega, if_pos hpos] at hst
        have HST := Lib.hid hst
        clear hst hp hpos
        go_wp2_with (at_builtin; refine app1p prfEl x y rfl (.tmp 29) (.tmp 31) rfl rfl (ho.out.alloc _) rfl (by simp) hroom (Nat.le_trans hbs (by simp)) ?_)
        intro v2 w2 ho2 hg2 hb2
        have HO2 := Lib.hid ho2
        have HB2 := Lib.hid ((hbw.alloc hbs _).trans hb2)
        clear ho2 hg2 hb2
        go_wp2_with fail
        go_roundw
        case rel => exact ⟨k + 1, o ++ [(x, y)], by omega, by go_num, HST, HO2, HB2.out, by rw [List.length_append]; simp; omega⟩
        case measure => simp [intOf]; omega
    · have hge : ¬ (k : Int) < (n : Int) := by omega
      have hall : cutL l d = o := by
        rw [← hj.out]
        unfold cutK
        rw [List.take_of_length_le (by rw [HL.out]; omega)]
      have HA := Lib.hid hall
      clear hall hj
      go_wp2_with fail
      go_ret
      exact ⟨_, rfl, by rw [HA.out]; exact ho.out, hbw⟩
set_option maxRecDepth 20000 in
set_option maxHeartbeats 1000000 in
theorem rrun_any (A : Option Addr) (n c B : Nat) (l : List Sp) (f : Nat) (w : World) (h : Rd w B 2 A n (cels l)) (hr : Rise l) (hn : n ≤ 1000) :
    Calls Try.prog 22 #[.slice A n c, .int .u64 (f : Int)] w fun e w' => e = .returned (.int .u64 (runL l f : Int)) ∧ Below w.heap.size w w' := by
  have HR := Lib.hid h
  have HL := Lib.hid h.pcLen
  have HRI := Lib.hid hr
  clear h hr
  go_enter Try.func22, Try.ntmps22
  go_wp2_with fail
  go_loopw [5] (fun iv wr => ∃ k : Nat, k ≤ n ∧ iv = .int .i64 k ∧ Hid (∀ (i : Nat) (p : Sp), i < k → l[i]? = some p → ¬ (p.1 ≤ f ∧ f < p.2)) ∧ wr = w) (fun iv _ => n - (intOf iv).toNat)
  case atStart => exact ⟨0, Nat.zero_le _, rfl, Lib.hid (fun i p hi => by omega), rfl⟩
  case round =>
    obtain ⟨k, hk, rfl, hj, rfl⟩ := hrel
    by_cases hlt : k < n
    · have hlt' : (k : Int) < (n : Int) := by omega
      obtain ⟨b, off, x, y, rfl, hbb, p0, p1, hp⟩ := HR.out.pc hlt
      have hnext : ¬ (x ≤ f ∧ f < y) → ∀ (i : Nat) (p : Sp), i < k + 1 → l[i]? = some p → ¬ (p.1 ≤ f ∧ f < p.2) := by
        intro hno i p hi hp2
        rcases Nat.lt_or_ge i k with h1 | h1
        · exact hj.out i p h1 hp2
        · obtain rfl : i = k := by omega
          rw [hp.out] at hp2
          injection hp2 with hp2
          subst hp2
          exact hno
      by_cases hxf : x ≤ f
      · have hxf' : (x : Int) ≤ (f : Int) := by omega
        by_cases hfy : f < y
        · have hfy' : (f : Int) < (y : Int) := by omega
          have HRES := Lib.hid (run_some HRI.out hp.out ⟨hxf, hfy⟩)
          clear hnext hp
          go_wp2_with fail
          go_ret
          exact ⟨ret_int (by rw [HRES.out]), Below.refl _ _⟩
        · have hfy' : ¬ (f : Int) < (y : Int) := by omega
          have HN := Lib.hid (hnext fun h => hfy h.2)
          clear hnext hp
          go_wp2_with fail
          go_roundw
          case rel => exact ⟨k + 1, by omega, by go_num, HN, trivial⟩
          case measure => simp [intOf]; omega
      · have hxf' : ¬ (x : Int) ≤ (f : Int) := by omega
        have hxfd : decide (x ≤ f) = false := decide_eq_false hxf
        have HN := Lib.hid (hnext fun h => hxf h.1)
        clear hnext hp
        go_wp2_with fail
        go_roundw
        case rel => exact ⟨k + 1, by omega, by go_num, HN, trivial⟩
        case measure => simp [intOf]; omega
    · have hge : ¬ (k : Int) < (n : Int) := by omega
      have HRES := Lib.hid (run_none (l := l) (f := f) fun i p hp => hj.out i p (by have := (List.getElem?_eq_some_iff.1 hp).1; have := HL.out; omega) hp)
      clear hj
      go_wp2_with fail
      go_ret
      exact ⟨ret_int (by rw [HRES.out]), Below.refl _ _⟩
set_option maxRecDepth 20000 in
set_option maxHeartbeats 2000000 in
theorem rgaps_any (A : Option Addr) (n c B : Nat) (l : List Sp) (f t : Nat) (w : World) (h : Rd w B 2 A n (cels l)) (hB : B ≤ w.heap.size) (hr : Rise l) (hn : n ≤ 1000) :
    Calls Try.prog 27 #[.slice A n c, .int .u64 (f : Int), .int .u64 (t : Int)] w fun e w' => ∃ v', e = .returned v' ∧ Pcs w' 40 w.heap.size v' (gapL l f t) ∧ Below w.heap.size w w' := by
  have HR := Lib.hid (h.mono hB)
  have HL := Lib.hid h.pcLen
  have HRI := Lib.hid hr
  have HGL := Lib.hid ((gapL_facts f t hr).2.2.1)
  clear h hr
  go_enter Try.func27, Try.ntmps27
  go_wp2_with fail
  go_loopw [1, 7] (fun fv ov wr => ∃ (g : Nat) (o : List Sp), fv = .int .u64 (g : Int) ∧ Hid (gapL l f t = o ++ gapL l g t) ∧ Hid (Pcs wr 40 w.heap.size ov o) ∧ Below w.heap.size w wr) (fun fv _ _ => t - (intOf fv).toNat)
  case atStart => exact ⟨f, [], rfl, Lib.hid rfl, Lib.hid (Pcs.nil _ _ _), Below.refl _ _⟩
  case round =>
    obtain ⟨g, o, rfl, hg, ho, hbw⟩ := hrel
    obtain ⟨A7, n7, c7, rfl, _, _, hl7, _⟩ := ho.out.out
    have hbs := hbw.size
    have hol : o.length ≤ n + 1 := by
      have h1 := HGL.out
      rw [hg.out, List.length_append, HL.out] at h1
      omega
    have hroom : (o.length + 1) * 16 ≤ room := room_ge (by omega)
    clear hl7
    by_cases hgt : g < t
    · have hgt' : (g : Int) < (t : Int) := by omega
      have hrun := Lib.hid (rrun_any A n c w.heap.size l g wr (HR.out.below hbw) HRI.out hn)
      go_wp2_with fail
      refine hrun.out.mono ?_
      rintro e w2 ⟨rfl, hb2⟩
      have hbw2 := hbw.trans (hb2.mono hbs)
      have ho2 := Lib.hid (ho.out.below hb2)
      have hbs2 := hbw2.size
      obtain ⟨x, hx⟩ : ∃ x, x = runL l g := ⟨_, rfl⟩
      rw [← hx]
      have HX := Lib.hid hx
      clear hx hb2 hrun ho hbw
      by_cases hxt : t ≤ x
      · have hxt' : (t : Int) ≤ (x : Int) := by omega
        have hful := gap_full (f := g) HRI.out (by rw [← HX.out]; exact hxt)
        have hg2 := hg.out
        rw [hful, List.append_nil] at hg2
        have HG2 := Lib.hid hg2
        clear hful hg2
        go_wp2_with fail
        go_ret
        exact ⟨_, rfl, by rw [HG2.out]; exact ho2.out, hbw2⟩
      · have hxt' : ¬ (t : Int) ≤ (x : Int) := by omega
        have hrd := gap_round (f := g) (t := t) HRI.out (by rw [← HX.out]; omega)
        have hge := run_ge l g
        rw [← HX.out] at hrd hge
        have hgtn := nextF_gt (l := l) (show x < t by omega)
        have HRD := Lib.hid hrd
        have HGT := Lib.hid hgtn
        have HGE := Lib.hid hge
        clear hrd hge hgtn
        go_wp2_with fail
        go_loopw [9, 10] (fun nv iv wq => ∃ (k y : Nat), k ≤ n ∧ iv = .int .i64 k ∧ nv = .int .u64 (y : Int) ∧ Hid (nextF (l.take k) x t = y) ∧ wq = w2) (fun _ iv _ => n - (intOf iv).toNat)
        case atStart => exact ⟨0, t, Nat.zero_le _, rfl, rfl, Lib.hid rfl, rfl⟩
        case round =>
          obtain ⟨k, y, hk, rfl, rfl, hy, rfl⟩ := hrel
          by_cases hlt : k < n
          · have hlt' : (k : Int) < (n : Int) := by omega
            obtain ⟨b, off, u, v, rfl, hbb, p0, p1, hp⟩ := (HR.out.below hbw2).pc hlt
            have hst := nextF_snoc (l.take k) (u, v) x t
            rw [← nth_take hp, hy.out] at hst
            dsimp only at hst
            clear hy hp
            by_cases c1 : x < u
            · have c1' : (x : Int) < (u : Int) := by omega
              by_cases c2 : u < y
              · have c2' : (u : Int) < (y : Int) := by omega
                rw [if_pos ⟨c1, c2⟩] at hst
                have HST := Lib.hid hst
                clear hst
                go_wp2_with fail
                go_roundw
                case rel => exact ⟨k + 1, u, by omega, by go_num, rfl, HST, trivial⟩
                case measure => simp [intOf]; omega
              · have c2' : ¬ (u : Int) < (y : Int) := by omega
                rw [if_neg (fun h => c2 h.2)] at hst
                have HST := Lib.hid hst
                clear hst
                go_wp2_with fail
                go_roundw
                case rel => exact ⟨k + 1, y, by omega, by go_num, rfl, HST, trivial⟩
                case measure => simp [intOf]; omega
            · have c1' : ¬ (x : Int) < (u : Int) := by omega
              have c1d : decide (x < u) = false := decide_eq_false c1
              rw [if_neg (fun h => c1 h.1)] at hst
              have HST := Lib.hid hst
              clear hst
              go_wp2_with fail
              go_roundw
              case rel => exact ⟨k + 1, y, by omega, by go_num, rfl, HST, trivial⟩
              case measure => simp [intOf]; omega
          · have hge : ¬ (k : Int) < (n : Int) := by omega
            have hyy : nextF l x t = y := by rw [← hy.out, List.take_of_length_le (by rw [HL.out]; omega)]
            have hrd := HRD.out
            have hgg := HGT.out
            rw [hyy] at hrd hgg
            have hg2 := hg.out
            rw [hrd] at hg2
            have hgy : g < y := by have := HGE.out; omega
            have HG2 := Lib.hid (show gapL l f t = (o ++ [(x, y)]) ++ gapL l y t by rw [List.append_assoc]; exact hg2)
            clear hyy hrd hgg hg2 hy
            go_wp2_with (at_builtin; refine app1p prfEl x y rfl (.tmp 49) (.tmp 53) rfl rfl ho2.out rfl rfl hroom hbs2 ?_)
            intro v2 w3 ho3 hg3 hb3
            have HO3 := Lib.hid ho3
            have HB3 := Lib.hid (hbw2.trans hb3)
            clear ho3 hg3 hb3
            go_wp2_with fail
            go_roundw
            case rel => exact ⟨y, o ++ [(x, y)], rfl, HG2, HO3, HB3.out⟩
            case measure => simp [intOf]; omega
    · have hgt' : ¬ (g : Int) < (t : Int) := by omega
      have hful := gap_end (f := g) (t := t) HRI.out (by omega)
      have hg2 := hg.out
      rw [hful, List.append_nil] at hg2
      have HG2 := Lib.hid hg2
      clear hful hg2
      go_wp2_with fail
      go_ret
      exact ⟨_, rfl, by rw [HG2.out]; exact ho.out, hbw⟩
end Go.Proofs.Ytiabafnfiedlcaa
