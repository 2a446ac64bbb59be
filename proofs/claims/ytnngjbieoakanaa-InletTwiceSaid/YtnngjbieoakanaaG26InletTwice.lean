/- Package spans: Cut. -/
import Derived.Test.YtnngjbieoakanaaG25InletTwice

namespace Go.Proofs.Ytnngjbieoakanaa
open Go.RowKit
set_option linter.unusedVariables false
/-- A cell of an owned row is written. -/
theorem own_setCell {w : World} {B sz n g c i : Nat} {e : TypeId} {u : Value} {xs : List Value} (h : w.ownsRow B e sz (.slice (some ⟨g, 0, none⟩) n c) n xs) (hi : i < n * sz) :
    (w.setCell ⟨g, i, none⟩ u).ownsRow B e sz (.slice (some ⟨g, 0, none⟩) n c) n (xs.set i u) := by
  rcases own_open h with ⟨hv, _⟩ | ⟨g', c', L, hv, hBg, hb, hnc, hcm, hl, hx⟩
  · cases hv
  · injection hv with h1 _ h3
    injection h1 with h1
    injection h1 with h1 _ _
    subst h1 h3
    have hb2 := hb.set i u
    rw [List.setIfInBounds_toArray] at hb2
    refine own_shut hBg hb2 hnc hcm (by simpa using hl) ?_
    rw [← hx, List.take_set]
theorem cels_cutR (p : Sp) (r : List Sp) (b : Nat) : cels (cutR (p :: r) b) = (cels (p :: r)).set 0 (.int .u64 ((max p.1 b : Nat) : Int)) := rfl
theorem ifmax2 (x b : Nat) : (if x < b then (b : Int) else (x : Int)) = ((max x b : Nat) : Int) := by split <;> omega
/-- A set behind a cut. -/
theorem SetI.cut {w : World} {g B most b : Nat} {v v' : Value} {l : List Sp} (hI : SetI w g B most v l) {w2 : World} (hb : Blk w2 g 62 #[.int .i64 (most : Int), v']) (ho : w2.ownsRow B 71 2 v' (cutL l b).length (cels (cutL l b))) : SetI w2 g B most v' (cutL l b) :=
  ⟨hb, ho, cutL_rise hI.rise, cutL_bd hI.bd, Nat.le_trans (cutL_len l b) hI.len, hI.ms, hI.bg⟩
theorem KeptS.cut {g : Nat} {v v' u : Value} {w w1 w2 : World} (h1 : Below w.heap.size w w1) (hg : w1.grownBy w2 v.ownBlock) (hv : v'.ownBlock = v.ownBlock) (hs : w2.heap.size = w1.heap.size) : KeptS g v v' w (w2.setCell ⟨g, 1, none⟩ u) :=
  ⟨fun k hk hkg hkv => (Below.heap_setCell _ _ _ _ hkg).trans ((hg.block k (Nat.lt_of_lt_of_le hk h1.size) (fun e => hkv e.symm)).trans (h1.block k hk)), NewOr.same hv, by have := h1.size; simp [World.setCell]; omega⟩
theorem KeptS.set {g g' : Nat} {v v' u : Value} {w w3 : World} {i : Nat} (h : KeptS g v v' w w3) (hv : v'.ownBlock = some g') : KeptS g v v' w (w3.setCell ⟨g', i, none⟩ u) :=
  ⟨fun k hk hkg hkv => (Below.heap_setCell _ _ _ _ (by
    rintro rfl
    rcases h.2.1 _ hv with h1 | h1
    · exact hkv h1
    · omega)).trans (h.1 k hk hkg hkv), h.2.1, by have := h.2.2; simpa [World.setCell] using this⟩
theorem KeptS.drew {g : Nat} {v v' : Value} {w w3 : World} (h : KeptS g v v' w w3) : KeptS g v v' w w3.drew := h
set_option maxRecDepth 20000 in
set_option maxHeartbeats 4000000 in
theorem cut_any (g B most : Nat) (v : Value) (l : List Sp) (b : Nat) (w : World) (h : SetI w g B most v l) :
    Calls Try.prog 47 #[.pointer (some ⟨g, 0, none⟩), .int .u64 (b : Int)] w fun e w' => (∃ u, e = .returned u) ∧ (∃ v', SetI w' g B most v' (cutL l b) ∧ KeptS g v v' w w') ∧ Below B w w' := by
  have hfi := find_any g B most v l b b w h
  have hat := spAt_le l b
  have hgl := h.lt
  obtain ⟨sc1, sc2⟩ := spCut_of (b := b) h.rise rfl
  have hce := cutL_eq (b := b) h.rise
  obtain ⟨A, c, rfl, hnc, hcm, hr⟩ := own_form h.own
  have HR := Lib.hid hr
  have HS := Lib.hid h
  have HCE := Lib.hid hce
  have hms := h.ms
  have hl := h.len
  have c1 := h.c1
  have hBw : B ≤ w.heap.size := Nat.le_trans h.bg (Nat.le_of_lt hgl)
  clear h hr hce
  obtain ⟨n, hn⟩ : ∃ n, n = l.length := ⟨_, rfl⟩
  have hnone : l.length ≤ spAt l b → spCut l b = spAt l b := fun hle => sc2 fun p hp => by rw [List.getElem?_eq_none hle] at hp; cases hp
  rw [← hn] at hnc hl c1 HR hat HS hnone
  have HN := Lib.hid hn
  clear hn
  generalize spAt l b = i at *
  have key : ∀ (i' : Nat) (w1 : World), spCut l b = i' → i' ≤ n → Below w.heap.size w w1 → SetI w1 g B most (.slice A n c) l := fun i' w1 _ _ hb => HS.out.below hb (Nat.le_refl _)
  clear key
  by_cases hin : i < n
  · have hin' : (i : Int) < (n : Int) := by omega
    obtain ⟨bb, off, x, y, rfl, hbb, p0, p1, hp⟩ := HR.out.pc hin
    by_cases hyb : y = b
    · have hcut := sc1 _ hp.out hyb
      have hyb2 : (y : Int) = (b : Int) := by omega
      have hyb' : ((y : Int) == (b : Int)) = true := beq_iff_eq.2 hyb2
      obtain ⟨j, hj⟩ : ∃ j, j = i + 1 := ⟨_, rfl⟩
      rw [← hj] at hcut
      have ej : (i : Int) + 1 = (j : Int) := by omega
      have hjn : j ≤ n := by omega
      have HCUT := Lib.hid hcut
      clear sc1 sc2 hnone hcut hp hj hyb
      go_enter Try.func47, Try.ntmps47
      go_wp2_with fail
      refine hfi.mono ?_
      rintro e w1 ⟨rfl, hb1⟩
      have d1 := (hb1.cell (p := ⟨g, 1, none⟩) hgl).trans c1
      have q1 := (hb1.cell (p := ⟨bb, off + i * 2 + 1, none⟩) hbb).trans p1
      have S1 := HS.out.below hb1 (Nat.le_refl _)
      have hbl := hb1.mono hBw
      have HBW := Lib.hid hb1
      clear c1 p0 p1 hfi hb1
      have HS1 := Lib.hid S1
      clear S1
      go_wp2_with fail
      clear q1 hyb' hyb2
      refine (spnDelete (.slice (some ⟨bb, off, none⟩) n c) n 0 j B (cels l) w1 (by have := HS1.out.own; rw [← HN.out] at this; exact this) (cels_one l) (by omega) (Nat.zero_le _) hjn).mono ?_
      rintro e w2 ⟨v', rfl, ho, hg, hvo, hsz⟩
      rw [Nat.zero_mul, List.take_zero, List.nil_append, cels_drop, Nat.sub_zero] at ho
      obtain ⟨A5, c5, rfl, _, hcm5, hr5⟩ := own_form ho
      obtain ⟨m, hm⟩ : ∃ m, m = n - j := ⟨_, rfl⟩
      have hlr : (l.drop j).length = m := by rw [List.length_drop, ← HN.out, hm]
      rw [← hm] at ho hr5 ⊢
      have hbg2 := HS1.out.blk.far2 HS1.out.own (by decide) hg
      have hbl2 : Below B w w2 := hbl.trans ((Below.refl _ _).grown hg (Nat.le_trans HS1.out.bg (Nat.le_of_lt HS1.out.lt)) fun q hq => (HS1.out.own.lt q hq).1)
      have g21 : w2.cell? ⟨g, 1, none⟩ = some (.slice (some ⟨bb, off, none⟩) n c) := by rw [hbg2.cell]; rfl
      have gf21 := hbg2.frozen 1
      have hbg3 := hbg2.set 1 (.slice A5 m c5)
      have ho3 := own_set (i := 1) (u := .slice A5 m c5) ho hbg2 (by decide)
      have hbl3 : Below B w (w2.setCell ⟨g, 1, none⟩ (.slice A5 m c5)) := hbl2.setCell HS1.out.bg _
      have HBG3 := Lib.hid (show Blk (w2.setCell ⟨g, 1, none⟩ (.slice A5 m c5)) g 62 #[.int .i64 (most : Int), .slice A5 m c5] from hbg3)
      have HO3 := Lib.hid ho3
      have HBL3 := Lib.hid hbl3
      have HLR := Lib.hid hlr
      have HKP := Lib.hid (KeptS.cut (g := g) (v' := .slice A5 m c5) (u := .slice A5 m c5) HBW.out hg ((own_irr A5 _ _ c5).trans hvo) hsz)
      clear ho hg hr5 hbg2 hbl2 hbg3 ho3 hbl3 hlr hm d1 hbl hsz hvo
      cases hrest : l.drop j with
      | nil =>
        have hm0 : m = 0 := by rw [← HLR.out, hrest]; rfl
        subst hm0
        have hres : cutL l b = [] := by rw [HCE.out, HCUT.out, hrest]; rfl
        have HRES := Lib.hid hres
        have HO4 := Lib.hid (by have := HO3.out; rw [hrest] at this; exact this : (w2.setCell ⟨g, 1, none⟩ (.slice A5 0 c5)).ownsRow B 71 2 (.slice A5 0 c5) 0 (cels []))
        clear hres hrest
        go_wp2_with fail
        generalize w2.setCell ⟨g, 1, none⟩ (.slice A5 0 c5) = w3 at *
        go_end0
        refine ⟨⟨_, rfl⟩, ⟨.slice A5 0 c5, ?_, KeptS.len (n := n) HKP.out⟩, HBL3.out⟩
        refine HS1.out.cut HBG3.out ?_
        rw [HRES.out]
        exact HO4.out
      | cons p r =>
        have hm0 : 0 < m := by rw [← HLR.out, hrest]; simp
        have hres : cutL l b = cutR (p :: r) b := by rw [HCE.out, HCUT.out, hrest]
        have hlen4 : (p :: r).length = m := by rw [← hrest]; exact HLR.out
        have hm0' : (0 : Int) < (m : Int) := by omega
        have HO4 := Lib.hid (by have := HO3.out; rw [hrest] at this; exact this : (w2.setCell ⟨g, 1, none⟩ (.slice A5 m c5)).ownsRow B 71 2 (.slice A5 m c5) m (cels (p :: r)))
        have HRES := Lib.hid hres
        have HLN := Lib.hid hlen4
        clear hres hrest hlen4
        go_wp2_with fail
        generalize w2.setCell ⟨g, 1, none⟩ (.slice A5 m c5) = w3 at *
        have e31 := HBG3.out.cell 1
        simp only [List.getElem?_toArray, List.getElem?_cons_zero, List.getElem?_cons_succ] at e31
        clear g21 gf21
        rcases own_open HO4.out with ⟨_, h0, _⟩ | ⟨g', c', L, hv, hBg, hb, hnc', hcm', hl', hx'⟩
        · omega
        injection hv with hv1 _ hv3
        subst hv1 hv3
        have hL0 : L[0]? = some (.int .u64 (p.1 : Int)) := by
          have : (L.take (m * 2))[0]? = (cels (p :: r))[0]? := by rw [hx']
          rw [List.getElem?_take_of_lt (by omega)] at this
          exact this
        have r0 : w3.cell? ⟨g', 0, none⟩ = some (.int .u64 (p.1 : Int)) := by rw [hb.cell]; simpa using hL0
        have rf0 := hb.frozen 0
        have ho5 := fun u => own_setCell (u := u) HO4.out (show 0 < m * 2 by omega)
        have hgg : g' ≠ g := fun e => by
          have h1 := HBG3.out
          subst e
          unfold Blk at h1 hb
          rw [h1] at hb
          injection hb with hb
          injection hb with _ ht
          exact absurd ht (by decide)
        have hb5 := fun u => (Solo.refl.setCell (g := g') 0 u : Solo g' w3 _).blk HBG3.out (Ne.symm hgg)
        have HO5 := Lib.hid ho5
        have HB5 := Lib.hid hb5
        have HBGB := Lib.hid hBg
        obtain ⟨x0, y0⟩ := p
        dsimp only at r0
        clear hb hl' hx' hL0 ho5 hb5 hcm' hnc' hBg
        rcases Nat.lt_or_ge x0 b with hx0 | hx0
        · have hxI : (x0 : Int) < (b : Int) := by omega
          have hmx : max x0 b = b := by omega
          have HMX := Lib.hid hmx
          clear hmx
          go_wp2_with fail
          refine wp_region_still_tail 15 (by kernel_rfl) (by kernel_rfl) ?_
          simp only [List.take_succ_cons, List.take_zero, List.drop_succ_cons, List.drop_zero]
          repeat still_step
          refine wpStill_nil ?_
          change wpList _ _ _ _ _ w3.drew
          go_wp2_with fail
          go_end0
          refine ⟨⟨_, rfl⟩, ⟨.slice (some ⟨g', 0, none⟩) m c5, ?_, KeptS.len (n := n) (HKP.out.set rfl).drew⟩, ?_⟩
          · refine HS1.out.cut (HB5.out _).drew ?_
            rw [HRES.out, cels_cutR, show (cutR ((x0, y0) :: r) b).length = m from HLN.out, HMX.out]
            exact HO5.out _
          · exact (HBL3.out.setCell HBGB.out _).drew
        · have hxI : ¬ (x0 : Int) < (b : Int) := by omega
          have hmx : max x0 b = x0 := by omega
          have HMX := Lib.hid hmx
          clear hmx
          go_wp2_with fail
          refine wp_region_still_tail 15 (by kernel_rfl) (by kernel_rfl) ?_
          simp only [List.take_succ_cons, List.take_zero, List.drop_succ_cons, List.drop_zero]
          repeat still_step
          refine wpStill_nil ?_
          change wpList _ _ _ _ _ w3.drew
          go_wp2_with fail
          go_end0
          refine ⟨⟨_, rfl⟩, ⟨.slice (some ⟨g', 0, none⟩) m c5, ?_, KeptS.len (n := n) (HKP.out.set rfl).drew⟩, ?_⟩
          · refine HS1.out.cut (HB5.out _).drew ?_
            rw [HRES.out, cels_cutR, show (cutR ((x0, y0) :: r) b).length = m from HLN.out, HMX.out]
            exact HO5.out _
          · exact (HBL3.out.setCell HBGB.out _).drew
    · have hcut := sc2 fun p hp2 => by rw [hp.out] at hp2; injection hp2 with hp2; subst hp2; exact hyb
      have hyb2 : ¬ (y : Int) = (b : Int) := by omega
      have hyb' : ((y : Int) == (b : Int)) = false := beq_eq_false_iff_ne.2 hyb2
      obtain ⟨j, hj⟩ : ∃ j, j = i := ⟨_, rfl⟩
      have hjn : j ≤ n := by omega
      subst hj
      have HCUT := Lib.hid hcut
      clear sc1 sc2 hnone hcut hp
      go_enter Try.func47, Try.ntmps47
      go_wp2_with fail
      refine hfi.mono ?_
      rintro e w1 ⟨rfl, hb1⟩
      have d1 := (hb1.cell (p := ⟨g, 1, none⟩) hgl).trans c1
      have q1 := (hb1.cell (p := ⟨bb, off + j * 2 + 1, none⟩) hbb).trans p1
      have S1 := HS.out.below hb1 (Nat.le_refl _)
      have hbl := hb1.mono hBw
      have HBW := Lib.hid hb1
      clear c1 p0 p1 hfi hb1
      have HS1 := Lib.hid S1
      clear S1
      go_wp2_with fail
      clear q1 hyb' hyb2
      refine (spnDelete (.slice (some ⟨bb, off, none⟩) n c) n 0 j B (cels l) w1 (by have := HS1.out.own; rw [← HN.out] at this; exact this) (cels_one l) (by omega) (Nat.zero_le _) hjn).mono ?_
      rintro e w2 ⟨v', rfl, ho, hg, hvo, hsz⟩
      rw [Nat.zero_mul, List.take_zero, List.nil_append, cels_drop, Nat.sub_zero] at ho
      obtain ⟨A5, c5, rfl, _, hcm5, hr5⟩ := own_form ho
      obtain ⟨m, hm⟩ : ∃ m, m = n - j := ⟨_, rfl⟩
      have hlr : (l.drop j).length = m := by rw [List.length_drop, ← HN.out, hm]
      rw [← hm] at ho hr5 ⊢
      have hbg2 := HS1.out.blk.far2 HS1.out.own (by decide) hg
      have hbl2 : Below B w w2 := hbl.trans ((Below.refl _ _).grown hg (Nat.le_trans HS1.out.bg (Nat.le_of_lt HS1.out.lt)) fun q hq => (HS1.out.own.lt q hq).1)
      have g21 : w2.cell? ⟨g, 1, none⟩ = some (.slice (some ⟨bb, off, none⟩) n c) := by rw [hbg2.cell]; rfl
      have gf21 := hbg2.frozen 1
      have hbg3 := hbg2.set 1 (.slice A5 m c5)
      have ho3 := own_set (i := 1) (u := .slice A5 m c5) ho hbg2 (by decide)
      have hbl3 : Below B w (w2.setCell ⟨g, 1, none⟩ (.slice A5 m c5)) := hbl2.setCell HS1.out.bg _
      have HBG3 := Lib.hid (show Blk (w2.setCell ⟨g, 1, none⟩ (.slice A5 m c5)) g 62 #[.int .i64 (most : Int), .slice A5 m c5] from hbg3)
      have HO3 := Lib.hid ho3
      have HBL3 := Lib.hid hbl3
      have HLR := Lib.hid hlr
      have HKP := Lib.hid (KeptS.cut (g := g) (v' := .slice A5 m c5) (u := .slice A5 m c5) HBW.out hg ((own_irr A5 _ _ c5).trans hvo) hsz)
      clear ho hg hr5 hbg2 hbl2 hbg3 ho3 hbl3 hlr hm d1 hbl hsz hvo
      cases hrest : l.drop j with
      | nil =>
        have hm0 : m = 0 := by rw [← HLR.out, hrest]; rfl
        subst hm0
        have hres : cutL l b = [] := by rw [HCE.out, HCUT.out, hrest]; rfl
        have HRES := Lib.hid hres
        have HO4 := Lib.hid (by have := HO3.out; rw [hrest] at this; exact this : (w2.setCell ⟨g, 1, none⟩ (.slice A5 0 c5)).ownsRow B 71 2 (.slice A5 0 c5) 0 (cels []))
        clear hres hrest
        go_wp2_with fail
        generalize w2.setCell ⟨g, 1, none⟩ (.slice A5 0 c5) = w3 at *
        go_end0
        refine ⟨⟨_, rfl⟩, ⟨.slice A5 0 c5, ?_, KeptS.len (n := n) HKP.out⟩, HBL3.out⟩
        refine HS1.out.cut HBG3.out ?_
        rw [HRES.out]
        exact HO4.out
      | cons p r =>
        have hm0 : 0 < m := by rw [← HLR.out, hrest]; simp
        have hres : cutL l b = cutR (p :: r) b := by rw [HCE.out, HCUT.out, hrest]
        have hlen4 : (p :: r).length = m := by rw [← hrest]; exact HLR.out
        have hm0' : (0 : Int) < (m : Int) := by omega
        have HO4 := Lib.hid (by have := HO3.out; rw [hrest] at this; exact this : (w2.setCell ⟨g, 1, none⟩ (.slice A5 m c5)).ownsRow B 71 2 (.slice A5 m c5) m (cels (p :: r)))
        have HRES := Lib.hid hres
        have HLN := Lib.hid hlen4
        clear hres hrest hlen4
        go_wp2_with fail
        generalize w2.setCell ⟨g, 1, none⟩ (.slice A5 m c5) = w3 at *
        have e31 := HBG3.out.cell 1
        simp only [List.getElem?_toArray, List.getElem?_cons_zero, List.getElem?_cons_succ] at e31
        clear g21 gf21
        rcases own_open HO4.out with ⟨_, h0, _⟩ | ⟨g', c', L, hv, hBg, hb, hnc', hcm', hl', hx'⟩
        · omega
        injection hv with hv1 _ hv3
        subst hv1 hv3
        have hL0 : L[0]? = some (.int .u64 (p.1 : Int)) := by
          have : (L.take (m * 2))[0]? = (cels (p :: r))[0]? := by rw [hx']
          rw [List.getElem?_take_of_lt (by omega)] at this
          exact this
        have r0 : w3.cell? ⟨g', 0, none⟩ = some (.int .u64 (p.1 : Int)) := by rw [hb.cell]; simpa using hL0
        have rf0 := hb.frozen 0
        have ho5 := fun u => own_setCell (u := u) HO4.out (show 0 < m * 2 by omega)
        have hgg : g' ≠ g := fun e => by
          have h1 := HBG3.out
          subst e
          unfold Blk at h1 hb
          rw [h1] at hb
          injection hb with hb
          injection hb with _ ht
          exact absurd ht (by decide)
        have hb5 := fun u => (Solo.refl.setCell (g := g') 0 u : Solo g' w3 _).blk HBG3.out (Ne.symm hgg)
        have HO5 := Lib.hid ho5
        have HB5 := Lib.hid hb5
        have HBGB := Lib.hid hBg
        obtain ⟨x0, y0⟩ := p
        dsimp only at r0
        clear hb hl' hx' hL0 ho5 hb5 hcm' hnc' hBg
        rcases Nat.lt_or_ge x0 b with hx0 | hx0
        · have hxI : (x0 : Int) < (b : Int) := by omega
          have hmx : max x0 b = b := by omega
          have HMX := Lib.hid hmx
          clear hmx
          go_wp2_with fail
          refine wp_region_still_tail 15 (by kernel_rfl) (by kernel_rfl) ?_
          simp only [List.take_succ_cons, List.take_zero, List.drop_succ_cons, List.drop_zero]
          repeat still_step
          refine wpStill_nil ?_
          change wpList _ _ _ _ _ w3.drew
          go_wp2_with fail
          go_end0
          refine ⟨⟨_, rfl⟩, ⟨.slice (some ⟨g', 0, none⟩) m c5, ?_, KeptS.len (n := n) (HKP.out.set rfl).drew⟩, ?_⟩
          · refine HS1.out.cut (HB5.out _).drew ?_
            rw [HRES.out, cels_cutR, show (cutR ((x0, y0) :: r) b).length = m from HLN.out, HMX.out]
            exact HO5.out _
          · exact (HBL3.out.setCell HBGB.out _).drew
        · have hxI : ¬ (x0 : Int) < (b : Int) := by omega
          have hmx : max x0 b = x0 := by omega
          have HMX := Lib.hid hmx
          clear hmx
          go_wp2_with fail
          refine wp_region_still_tail 15 (by kernel_rfl) (by kernel_rfl) ?_
          simp only [List.take_succ_cons, List.take_zero, List.drop_succ_cons, List.drop_zero]
          repeat still_step
          refine wpStill_nil ?_
          change wpList _ _ _ _ _ w3.drew
          go_wp2_with fail
          go_end0
          refine ⟨⟨_, rfl⟩, ⟨.slice (some ⟨g', 0, none⟩) m c5, ?_, KeptS.len (n := n) (HKP.out.set rfl).drew⟩, ?_⟩
          · refine HS1.out.cut (HB5.out _).drew ?_
            rw [HRES.out, cels_cutR, show (cutR ((x0, y0) :: r) b).length = m from HLN.out, HMX.out]
            exact HO5.out _
          · exact (HBL3.out.setCell HBGB.out _).drew
  · have hin' : ¬ (i : Int) < (n : Int) := by omega
    have hcut := hnone (by omega)
    obtain ⟨j, hj⟩ : ∃ j, j = i := ⟨_, rfl⟩
    have hjn : j ≤ n := by omega
    subst hj
    have HCUT := Lib.hid hcut
    clear sc1 sc2 hnone hcut
    go_enter Try.func47, Try.ntmps47
    go_wp2_with fail
    refine hfi.mono ?_
    rintro e w1 ⟨rfl, hb1⟩
    have d1 := (hb1.cell (p := ⟨g, 1, none⟩) hgl).trans c1
    have S1 := HS.out.below hb1 (Nat.le_refl _)
    have hbl := hb1.mono hBw
    have HBW := Lib.hid hb1
    clear c1 hfi hb1
    have HS1 := Lib.hid S1
    clear S1
    go_wp2_with fail
    refine (spnDelete (.slice A n c) n 0 j B (cels l) w1 (by have := HS1.out.own; rw [← HN.out] at this; exact this) (cels_one l) (by omega) (Nat.zero_le _) hjn).mono ?_
    rintro e w2 ⟨v', rfl, ho, hg, hvo, hsz⟩
    rw [Nat.zero_mul, List.take_zero, List.nil_append, cels_drop, Nat.sub_zero] at ho
    obtain ⟨A5, c5, rfl, _, hcm5, hr5⟩ := own_form ho
    obtain ⟨m, hm⟩ : ∃ m, m = n - j := ⟨_, rfl⟩
    have hlr : (l.drop j).length = m := by rw [List.length_drop, ← HN.out, hm]
    rw [← hm] at ho hr5 ⊢
    have hbg2 := HS1.out.blk.far2 HS1.out.own (by decide) hg
    have hbl2 : Below B w w2 := hbl.trans ((Below.refl _ _).grown hg (Nat.le_trans HS1.out.bg (Nat.le_of_lt HS1.out.lt)) fun q hq => (HS1.out.own.lt q hq).1)
    have g21 : w2.cell? ⟨g, 1, none⟩ = some (.slice A n c) := by rw [hbg2.cell]; rfl
    have gf21 := hbg2.frozen 1
    have hbg3 := hbg2.set 1 (.slice A5 m c5)
    have ho3 := own_set (i := 1) (u := .slice A5 m c5) ho hbg2 (by decide)
    have hbl3 : Below B w (w2.setCell ⟨g, 1, none⟩ (.slice A5 m c5)) := hbl2.setCell HS1.out.bg _
    have HBG3 := Lib.hid (show Blk (w2.setCell ⟨g, 1, none⟩ (.slice A5 m c5)) g 62 #[.int .i64 (most : Int), .slice A5 m c5] from hbg3)
    have HO3 := Lib.hid ho3
    have HBL3 := Lib.hid hbl3
    have HLR := Lib.hid hlr
    have HKP := Lib.hid (KeptS.cut (g := g) (v' := .slice A5 m c5) (u := .slice A5 m c5) HBW.out hg ((own_irr A5 _ _ c5).trans hvo) hsz)
    clear ho hg hr5 hbg2 hbl2 hbg3 ho3 hbl3 hlr hm d1 hbl hsz hvo
    cases hrest : l.drop j with
    | nil =>
      have hm0 : m = 0 := by rw [← HLR.out, hrest]; rfl
      subst hm0
      have hres : cutL l b = [] := by rw [HCE.out, HCUT.out, hrest]; rfl
      have HRES := Lib.hid hres
      have HO4 := Lib.hid (by have := HO3.out; rw [hrest] at this; exact this : (w2.setCell ⟨g, 1, none⟩ (.slice A5 0 c5)).ownsRow B 71 2 (.slice A5 0 c5) 0 (cels []))
      clear hres hrest
      go_wp2_with fail
      generalize w2.setCell ⟨g, 1, none⟩ (.slice A5 0 c5) = w3 at *
      go_end0
      refine ⟨⟨_, rfl⟩, ⟨.slice A5 0 c5, ?_, KeptS.len (n := n) HKP.out⟩, HBL3.out⟩
      refine HS1.out.cut HBG3.out ?_
      rw [HRES.out]
      exact HO4.out
    | cons p r =>
      have hm0 : 0 < m := by rw [← HLR.out, hrest]; simp
      have hres : cutL l b = cutR (p :: r) b := by rw [HCE.out, HCUT.out, hrest]
      have hlen4 : (p :: r).length = m := by rw [← hrest]; exact HLR.out
      have hm0' : (0 : Int) < (m : Int) := by omega
      have HO4 := Lib.hid (by have := HO3.out; rw [hrest] at this; exact this : (w2.setCell ⟨g, 1, none⟩ (.slice A5 m c5)).ownsRow B 71 2 (.slice A5 m c5) m (cels (p :: r)))
      have HRES := Lib.hid hres
      have HLN := Lib.hid hlen4
      clear hres hrest hlen4
      go_wp2_with fail
      generalize w2.setCell ⟨g, 1, none⟩ (.slice A5 m c5) = w3 at *
      have e31 := HBG3.out.cell 1
      simp only [List.getElem?_toArray, List.getElem?_cons_zero, List.getElem?_cons_succ] at e31
      clear g21 gf21
      rcases own_open HO4.out with ⟨_, h0, _⟩ | ⟨g', c', L, hv, hBg, hb, hnc', hcm', hl', hx'⟩
      · omega
      injection hv with hv1 _ hv3
      subst hv1 hv3
      have hL0 : L[0]? = some (.int .u64 (p.1 : Int)) := by
        have : (L.take (m * 2))[0]? = (cels (p :: r))[0]? := by rw [hx']
        rw [List.getElem?_take_of_lt (by omega)] at this
        exact this
      have r0 : w3.cell? ⟨g', 0, none⟩ = some (.int .u64 (p.1 : Int)) := by rw [hb.cell]; simpa using hL0
      have rf0 := hb.frozen 0
      have ho5 := fun u => own_setCell (u := u) HO4.out (show 0 < m * 2 by omega)
      have hgg : g' ≠ g := fun e => by
        have h1 := HBG3.out
        subst e
        unfold Blk at h1 hb
        rw [h1] at hb
        injection hb with hb
        injection hb with _ ht
        exact absurd ht (by decide)
      have hb5 := fun u => (Solo.refl.setCell (g := g') 0 u : Solo g' w3 _).blk HBG3.out (Ne.symm hgg)
      have HO5 := Lib.hid ho5
      have HB5 := Lib.hid hb5
      have HBGB := Lib.hid hBg
      obtain ⟨x0, y0⟩ := p
      dsimp only at r0
      clear hb hl' hx' hL0 ho5 hb5 hcm' hnc' hBg
      rcases Nat.lt_or_ge x0 b with hx0 | hx0
      · have hxI : (x0 : Int) < (b : Int) := by omega
        have hmx : max x0 b = b := by omega
        have HMX := Lib.hid hmx
        clear hmx
        go_wp2_with fail
        refine wp_region_still_tail 15 (by kernel_rfl) (by kernel_rfl) ?_
        simp only [List.take_succ_cons, List.take_zero, List.drop_succ_cons, List.drop_zero]
        repeat still_step
        refine wpStill_nil ?_
        change wpList _ _ _ _ _ w3.drew
        go_wp2_with fail
        go_end0
        refine ⟨⟨_, rfl⟩, ⟨.slice (some ⟨g', 0, none⟩) m c5, ?_, KeptS.len (n := n) (HKP.out.set rfl).drew⟩, ?_⟩
        · refine HS1.out.cut (HB5.out _).drew ?_
          rw [HRES.out, cels_cutR, show (cutR ((x0, y0) :: r) b).length = m from HLN.out, HMX.out]
          exact HO5.out _
        · exact (HBL3.out.setCell HBGB.out _).drew
      · have hxI : ¬ (x0 : Int) < (b : Int) := by omega
        have hmx : max x0 b = x0 := by omega
        have HMX := Lib.hid hmx
        clear hmx
        go_wp2_with fail
        refine wp_region_still_tail 15 (by kernel_rfl) (by kernel_rfl) ?_
        simp only [List.take_succ_cons, List.take_zero, List.drop_succ_cons, List.drop_zero]
        repeat still_step
        refine wpStill_nil ?_
        change wpList _ _ _ _ _ w3.drew
        go_wp2_with fail
        go_end0
        refine ⟨⟨_, rfl⟩, ⟨.slice (some ⟨g', 0, none⟩) m c5, ?_, KeptS.len (n := n) (HKP.out.set rfl).drew⟩, ?_⟩
        · refine HS1.out.cut (HB5.out _).drew ?_
          rw [HRES.out, cels_cutR, show (cutR ((x0, y0) :: r) b).length = m from HLN.out, HMX.out]
          exact HO5.out _
        · exact (HBL3.out.setCell HBGB.out _).drew
end Go.Proofs.Ytnngjbieoakanaa
