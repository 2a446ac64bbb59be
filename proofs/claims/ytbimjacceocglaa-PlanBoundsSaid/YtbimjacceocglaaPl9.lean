/- Package plan: Make. -/
import Derived.Test.YtbimjacceocglaaPl8
namespace Go.Proofs.Ytbimjacceocglaa
open Go.RowKit Go.Sort
set_option linter.unusedVariables false
set_option linter.unusedSimpArgs false
def gdN (u : List Plp) : Nat := (u.filter gdP).length
def askN (way most : Int) (u : List Plp) : Nat :=
  if way = 1 then (roomI most u.length).toNat else if way = 2 then (min (roomI most u.length) (2 - (gdN u : Int))).toNat else if way = 3 ∧ gdN u = 0 then (min (roomI most u.length) 1).toNat else 0
/-- What is planned: asked for, given up, spared. -/
structure MkP (way most : Int) (l f u : List Plp) (ask drop spare : List Int) : Prop where
  pf : f.Perm (l.filter frP)
  qf : f.Pairwise (fun x y => ltOf cfF y x = false)
  pu : u.Perm (l.filter usP)
  qu : u.Pairwise (fun x y => ltOf cfU y x = false)
  ask : ask = (f.take (askN way most u)).map Plp.id
  drop : drop = (l.filter baP).map Plp.id ++ (if way = 3 ∧ gdN u ≠ 0 then (u.drop 1).map Plp.id else [])
  spare : spare = if way = 2 then ((u.drop 1).filter opP).map Plp.id else []
theorem take_min {f : List Plp} {q k : Nat} (h : q = min k f.length) : f.take q = f.take k := by
  rw [h]
  rcases Nat.le_total k f.length with h1 | h1
  · rw [Nat.min_eq_left h1]
  · rw [Nat.min_eq_right h1, List.take_length, List.take_of_length_le h1]
set_option maxRecDepth 20000 in
set_option maxHeartbeats 4000000 in
theorem pl_make1 (most : Int) (A : Option Addr) (n c : Nat) (l : List Plp) (w : World) (h : Rd w w.heap.size 7 A n (plps l)) (hm : n ≤ 100) :
    Calls Try.prog 4 #[.int .i64 1, .int .i64 most, .slice A n c] w fun e w' => ∃ va vd vs ask drop spare f u, e = .returned (.agg #[va, vd, vs]) ∧ Zats w' 3 .i64 w.heap.size va ask ∧ Zats w' 3 .i64 w.heap.size vd drop ∧ Zats w' 3 .i64 w.heap.size vs spare ∧ Below w.heap.size w w' ∧ MkP 1 most l f u ask drop spare := by
  have HR := Lib.hid h
  have HL := Lib.hid h.plpLen
  have HM := Lib.hid hm
  clear h hm
  have KX := Lib.hid (Blk.new w 28 #[.slice none 0 0, .slice none 0 0, .slice none 0 0])
  have BB := Lib.hid ((Below.refl w.heap.size w).alloc (Nat.le_refl _) (.cells #[.slice none 0 0, .slice none 0 0, .slice none 0 0] 28))
  go_enter Try.func4, Try.ntmps4
  go_upto_region 1 with fail
  generalize w.alloc (.cells #[.slice none 0 0, .slice none 0 0, .slice none 0 0] 28) = w1 at KX BB ⊢
  obtain ⟨X, hX⟩ : ∃ X, X = w.heap.size := ⟨_, rfl⟩
  have HX := Sh.mk hX
  rw [← hX] at KX ⊢
  clear hX
  have HC := Lib.hid (pl_free A n c l w1 ((HR.out.below BB.out).mono BB.out.size) HM.out)
  go_wp2_with fail
  refine (HC.out).mono ?_
  rintro e w2 ⟨vf, f, rfl, ho, hb, hp, hq⟩
  obtain ⟨Af, cf, rfl, hnc, _, _⟩ := own_form ho
  have hfl : f.length ≤ 100 := by rw [hp.length_eq]; have := List.length_filter_le frP l; have := HL.out; have := HM.out; omega
  have PF := Sh.mk hp
  have QF := Sh.mk hq
  have NF := Lib.hid hnc
  have WF := Lib.hid (own_mono ho BB.out.size)
  replace KX := Lib.hid (KX.out.below hb KX.out.lt)
  replace BB := Lib.hid (BB.out.trans ((hb).mono BB.out.size))
  clear ho hb hp hq hnc HC
  obtain ⟨fn, hfn⟩ : ∃ fn, fn = f.length := ⟨_, rfl⟩
  have HFN := Sh.mk hfn
  rw [← hfn] at WF NF hfl ⊢
  clear hfn
  have HC := Lib.hid (pl_used A n c l w2 ((HR.out.below BB.out).mono BB.out.size) HM.out)
  go_wp2_with fail
  refine (HC.out).mono ?_
  rintro e w3 ⟨vu, u, rfl, ho, hb, hp, hq⟩
  obtain ⟨Au, cu, rfl, hnc, _, _⟩ := own_form ho
  have hul : u.length ≤ 100 := by rw [hp.length_eq]; have := List.length_filter_le usP l; have := HL.out; have := HM.out; omega
  have PU := Sh.mk hp
  have QU := Sh.mk hq
  have NU := Lib.hid hnc
  have WU := Lib.hid (own_mono ho BB.out.size)
  replace KX := Lib.hid (KX.out.below hb KX.out.lt)
  replace BB := Lib.hid (BB.out.trans ((hb).mono BB.out.size))
  replace WF := Lib.hid (own_below WF.out hb fun g hg => (WF.out.lt g hg).2)
  clear ho hb hp hq hnc HC
  obtain ⟨un, hun⟩ : ∃ un, un = u.length := ⟨_, rfl⟩
  have HUN := Sh.mk hun
  rw [← hun] at WU NU hul ⊢
  clear hun
  obtain ⟨ro, hro⟩ : ∃ ro, ro = roomI most un := ⟨_, rfl⟩
  have HRO := Sh.mk hro
  have HR1 := Lib.hid (show Calls Try.prog 8 #[.int .i64 most, .int .i64 (un : Nat)] w3 fun e w' => e = .returned (.int .i64 ro) ∧ w' = w3 by rw [hro]; exact pl_room most un hul w3)
  clear hro
  have HC := Lib.hid (pl_picked 10 gdP (enters_of Try.func10 (by kernel_rfl) rfl) p_good Au un cu u w3 (Rd.of_own WU.out) hul)
  go_wp2_with fail
  refine (HR1.out).mono ?_
  rintro e w4 ⟨rfl, hw⟩
  have hw := hw.symm
  subst hw
  go_wp2_with fail
  refine (HC.out).mono ?_
  rintro e w4 ⟨vg, rfl, ho, hb⟩
  obtain ⟨Ag, cg, rfl, _, _, _⟩ := own_form ho
  have hgl : (u.filter gdP).length ≤ 100 := by have := List.length_filter_le gdP u; have := HUN.out; omega
  replace KX := Lib.hid (KX.out.below hb KX.out.lt)
  replace BB := Lib.hid (BB.out.trans ((hb).mono BB.out.size))
  replace WF := Lib.hid (own_below WF.out hb fun g hg => (WF.out.lt g hg).2)
  replace WU := Lib.hid (own_below WU.out hb fun g hg => (WU.out.lt g hg).2)
  clear ho hb HC HR1
  obtain ⟨gn, hgn⟩ : ∃ gn, gn = (u.filter gdP).length := ⟨_, rfl⟩
  have HGN := Sh.mk (show gn = gdN u from hgn)
  rw [← hgn] at hgl ⊢
  clear hgn
  have HC := Lib.hid (pl_picked 12 baP (enters_of Try.func12 (by kernel_rfl) rfl) p_bar A n c l w4 ((HR.out.below BB.out).mono BB.out.size) HM.out)
  go_wp2_with fail
  refine (HC.out).mono ?_
  rintro e w5 ⟨vb, rfl, ho, hb⟩
  obtain ⟨Ab, cb, rfl, _, _, hr⟩ := own_form ho
  have zbl : (l.filter baP).length ≤ 100 := by have := List.length_filter_le baP l; have := HL.out; have := HM.out; omega
  have RB := Lib.hid hr
  replace KX := Lib.hid (KX.out.below hb KX.out.lt)
  replace BB := Lib.hid (BB.out.trans ((hb).mono BB.out.size))
  replace WF := Lib.hid (own_below WF.out hb fun g hg => (WF.out.lt g hg).2)
  replace WU := Lib.hid (own_below WU.out hb fun g hg => (WU.out.lt g hg).2)
  clear ho hb hr HC
  obtain ⟨bl, hbl⟩ : ∃ bl, bl = l.filter baP := ⟨_, rfl⟩
  have HBL := Sh.mk hbl
  rw [← hbl] at RB zbl ⊢
  clear hbl
  generalize hbn : bl.length = bn at *
  have HC := Lib.hid (pl_ids Ab bn cb bl w5 RB.out zbl)
  clear hbn
  go_wp2_with fail
  refine (HC.out).mono ?_
  rintro e w6 ⟨vd, rfl, ho, hb⟩
  obtain ⟨Ad, cd, rfl, _⟩ := ho.form
  have hdl : (bl.map Plp.id).length = bn := by rw [List.length_map]; exact RB.out.plpLen
  have OD := Lib.hid (ho.mono BB.out.size)
  rw [hdl] at OD ⊢
  have HDL := Sh.mk hdl
  replace KX := Lib.hid (KX.out.below hb KX.out.lt)
  replace BB := Lib.hid (BB.out.trans ((hb).mono BB.out.size))
  replace WF := Lib.hid (own_below WF.out hb fun g hg => (WF.out.lt g hg).2)
  replace WU := Lib.hid (own_below WU.out hb fun g hg => (WU.out.lt g hg).2)
  clear ho hb hdl HC RB
  go_upto_region 4 with fail
  have KY := Lib.hid (Blk.new w6 28 #[.slice none 0 0, .slice Ad bn cd, .slice none 0 0])
  have hb := (Below.refl w6.heap.size w6).alloc (Nat.le_refl _) (.cells #[.slice none 0 0, .slice Ad bn cd, .slice none 0 0] 28)
  have XY := Sh.mk (show X ≠ w6.heap.size from Nat.ne_of_lt KX.out.lt)
  have YW := Lib.hid (show w.heap.size ≤ w6.heap.size from BB.out.size)
  replace KX := Lib.hid (KX.out.below hb KX.out.lt)
  replace BB := Lib.hid (BB.out.trans ((hb).mono BB.out.size))
  replace WF := Lib.hid (own_below WF.out hb fun g hg => (WF.out.lt g hg).2)
  replace WU := Lib.hid (own_below WU.out hb fun g hg => (WU.out.lt g hg).2)
  replace OD := Lib.hid (OD.out.below hb)
  obtain ⟨Y, hY⟩ : ∃ Y, Y = w6.heap.size := ⟨_, rfl⟩
  rw [← hY] at KY XY YW ⊢
  clear hb hY
  generalize w6.alloc (.cells #[.slice none 0 0, .slice Ad bn cd, .slice none 0 0] 28) = w7 at *
  have HFI := Lib.hid (pl_first Af fn cf ro NF.out)
  obtain ⟨q, hq⟩ : ∃ q, q = min (ro).toNat fn := ⟨_, rfl⟩
  have HQ := Sh.mk (show f.take q = f.take (ro).toNat from take_min (by rw [hq, HFN.out]))
  rw [← hq] at HFI
  have hqf : q ≤ fn := by omega
  have RQ := Lib.hid (show Rd w7 w7.heap.size 7 Af q (plps (f.take q)) by
    have := (Rd.of_own WF.out).take hqf
    rwa [show (plps f).take (q * 7) = plps (f.take q) from fm_take plp_len f q] at this)
  clear hq
  go_wp2_with fail
  refine (HFI.out w7).mono ?_
  rintro e w9 ⟨rfl, hw⟩
  have hw := hw.symm
  subst hw
  have HC := Lib.hid (pl_ids Af q cf (f.take q) w7 RQ.out (by omega))
  go_wp2_with fail
  refine (HC.out).mono ?_
  rintro e w10 ⟨va, rfl, ho, hb⟩
  obtain ⟨Aa, ca, rfl, _⟩ := ho.form
  have Oa := Lib.hid (ho.mono BB.out.size)
  replace KX := Lib.hid (KX.out.below hb KX.out.lt)
  replace BB := Lib.hid (BB.out.trans ((hb).mono BB.out.size))
  replace WF := Lib.hid (own_below WF.out hb fun g hg => (WF.out.lt g hg).2)
  replace WU := Lib.hid (own_below WU.out hb fun g hg => (WU.out.lt g hg).2)
  replace OD := Lib.hid (OD.out.below hb)
  replace KY := Lib.hid (KY.out.below hb KY.out.lt)
  clear ho hb HC
  generalize hna : ((f.take q).map Plp.id).length = na at *
  have HNa := Sh.mk hna
  clear hna
  clear RQ HFI hqf
  have fz := KY.out.frozen 0
  have cz := KY.out.cell 0
  simp only [List.getElem?_toArray, List.getElem?_cons_zero, List.getElem?_cons_succ] at cz
  go_upto_region 14 with fail
  have hs : Solo Y w10 (w10.setCell ⟨Y, 0, none⟩ (.slice Aa na ca)) := Solo.refl.setCell 0 _
  replace KX := Lib.hid (hs.blk KX.out XY.out)
  replace BB := Lib.hid (BB.out.trans (hs.1.mono YW.out))
  replace WF := Lib.hid (own_kept WF.out fun g hg => hs.2.2 g (fun e => own_nt WF.out KY.out (by decide) (by rw [hg, e])))
  replace WU := Lib.hid (own_kept WU.out fun g hg => hs.2.2 g (fun e => own_nt WU.out KY.out (by decide) (by rw [hg, e])))
  replace OD := Lib.hid (OD.out.kept fun g hg => hs.2.2 g (fun e => own_nt OD.out KY.out (by decide) (by rw [hg, e])))
  replace Oa := Lib.hid (Oa.out.kept fun g hg => hs.2.2 g (fun e => own_nt Oa.out KY.out (by decide) (by rw [hg, e])))
  replace KY := Lib.hid (show Blk _ _ _ #[.slice Aa na ca, .slice Ad bn cd, .slice none 0 0] from KY.out.set 0 (.slice Aa na ca))
  clear hs fz cz
  generalize w10.setCell ⟨Y, 0, none⟩ (.slice Aa na ca) = w11 at *
  obtain ⟨c0, c1, c2⟩ : w11.cell? ⟨Y, 0, none⟩ = some (.slice Aa na ca) ∧ w11.cell? ⟨Y, 1, none⟩ = some (.slice Ad bn cd) ∧ w11.cell? ⟨Y, 2, none⟩ = some (.slice none 0 0) := ⟨(KY.out.cell 0).trans rfl, (KY.out.cell 1).trans rfl, (KY.out.cell 2).trans rfl⟩
  go_wp2_with (refine stm_store (cs' := #[.slice Aa na ca, .slice Ad bn cd, .slice none 0 0]) KX.out rfl _ _ rfl rfl rfl (by simp) (by kernel_rfl) (by simp [Value.oneCell']) (by simp [setL]) fun w99 hk hs => ?_)
  have hx : w.heap.size ≤ X := by rw [HX.out]; exact Nat.le_refl _
  replace BB := Lib.hid (BB.out.trans (hs.1.mono hx))
  replace WF := Lib.hid (own_kept WF.out fun g hg => hs.2.2 g (fun e => own_nt WF.out KX.out (by decide) (by rw [hg, e])))
  replace WU := Lib.hid (own_kept WU.out fun g hg => hs.2.2 g (fun e => own_nt WU.out KX.out (by decide) (by rw [hg, e])))
  replace OD := Lib.hid (OD.out.kept fun g hg => hs.2.2 g (fun e => own_nt OD.out KX.out (by decide) (by rw [hg, e])))
  replace KY := Lib.hid (hs.blk KY.out (fun e => XY.out e.symm))
  replace Oa := Lib.hid (Oa.out.kept fun g hg => hs.2.2 g (fun e => own_nt Oa.out KX.out (by decide) (by rw [hg, e])))
  refine bodyPost_ret (results_agg Try.results4 hk (by rfl) (by kernel_rfl) (by kernel_rfl)) rfl ?_
  exact ⟨_, _, _, _, _, _, f, u, rfl, Oa.out, OD.out, Zats.nil _ _ _ _, BB.out, ⟨PF.out, QF.out, PU.out, QU.out, by unfold askN; rw [if_pos rfl, ← HUN.out, ← HRO.out, HQ.out], by rw [HBL.out, if_neg (by omega), List.append_nil], by rw [if_neg (by omega)]⟩⟩
set_option maxRecDepth 20000 in
set_option maxHeartbeats 4000000 in
theorem pl_make2 (most : Int) (A : Option Addr) (n c : Nat) (l : List Plp) (w : World) (h : Rd w w.heap.size 7 A n (plps l)) (hm : n ≤ 100) :
    Calls Try.prog 4 #[.int .i64 2, .int .i64 most, .slice A n c] w fun e w' => ∃ va vd vs ask drop spare f u, e = .returned (.agg #[va, vd, vs]) ∧ Zats w' 3 .i64 w.heap.size va ask ∧ Zats w' 3 .i64 w.heap.size vd drop ∧ Zats w' 3 .i64 w.heap.size vs spare ∧ Below w.heap.size w w' ∧ MkP 2 most l f u ask drop spare := by
  have HR := Lib.hid h
  have HL := Lib.hid h.plpLen
  have HM := Lib.hid hm
  clear h hm
  have KX := Lib.hid (Blk.new w 28 #[.slice none 0 0, .slice none 0 0, .slice none 0 0])
  have BB := Lib.hid ((Below.refl w.heap.size w).alloc (Nat.le_refl _) (.cells #[.slice none 0 0, .slice none 0 0, .slice none 0 0] 28))
  go_enter Try.func4, Try.ntmps4
  go_upto_region 1 with fail
  generalize w.alloc (.cells #[.slice none 0 0, .slice none 0 0, .slice none 0 0] 28) = w1 at KX BB ⊢
  obtain ⟨X, hX⟩ : ∃ X, X = w.heap.size := ⟨_, rfl⟩
  have HX := Sh.mk hX
  rw [← hX] at KX ⊢
  clear hX
  have HC := Lib.hid (pl_free A n c l w1 ((HR.out.below BB.out).mono BB.out.size) HM.out)
  go_wp2_with fail
  refine (HC.out).mono ?_
  rintro e w2 ⟨vf, f, rfl, ho, hb, hp, hq⟩
  obtain ⟨Af, cf, rfl, hnc, _, _⟩ := own_form ho
  have hfl : f.length ≤ 100 := by rw [hp.length_eq]; have := List.length_filter_le frP l; have := HL.out; have := HM.out; omega
  have PF := Sh.mk hp
  have QF := Sh.mk hq
  have NF := Lib.hid hnc
  have WF := Lib.hid (own_mono ho BB.out.size)
  replace KX := Lib.hid (KX.out.below hb KX.out.lt)
  replace BB := Lib.hid (BB.out.trans ((hb).mono BB.out.size))
  clear ho hb hp hq hnc HC
  obtain ⟨fn, hfn⟩ : ∃ fn, fn = f.length := ⟨_, rfl⟩
  have HFN := Sh.mk hfn
  rw [← hfn] at WF NF hfl ⊢
  clear hfn
  have HC := Lib.hid (pl_used A n c l w2 ((HR.out.below BB.out).mono BB.out.size) HM.out)
  go_wp2_with fail
  refine (HC.out).mono ?_
  rintro e w3 ⟨vu, u, rfl, ho, hb, hp, hq⟩
  obtain ⟨Au, cu, rfl, hnc, _, _⟩ := own_form ho
  have hul : u.length ≤ 100 := by rw [hp.length_eq]; have := List.length_filter_le usP l; have := HL.out; have := HM.out; omega
  have PU := Sh.mk hp
  have QU := Sh.mk hq
  have NU := Lib.hid hnc
  have WU := Lib.hid (own_mono ho BB.out.size)
  replace KX := Lib.hid (KX.out.below hb KX.out.lt)
  replace BB := Lib.hid (BB.out.trans ((hb).mono BB.out.size))
  replace WF := Lib.hid (own_below WF.out hb fun g hg => (WF.out.lt g hg).2)
  clear ho hb hp hq hnc HC
  obtain ⟨un, hun⟩ : ∃ un, un = u.length := ⟨_, rfl⟩
  have HUN := Sh.mk hun
  rw [← hun] at WU NU hul ⊢
  clear hun
  obtain ⟨ro, hro⟩ : ∃ ro, ro = roomI most un := ⟨_, rfl⟩
  have HRO := Sh.mk hro
  have HR1 := Lib.hid (show Calls Try.prog 8 #[.int .i64 most, .int .i64 (un : Nat)] w3 fun e w' => e = .returned (.int .i64 ro) ∧ w' = w3 by rw [hro]; exact pl_room most un hul w3)
  clear hro
  have HC := Lib.hid (pl_picked 10 gdP (enters_of Try.func10 (by kernel_rfl) rfl) p_good Au un cu u w3 (Rd.of_own WU.out) hul)
  go_wp2_with fail
  refine (HR1.out).mono ?_
  rintro e w4 ⟨rfl, hw⟩
  have hw := hw.symm
  subst hw
  go_wp2_with fail
  refine (HC.out).mono ?_
  rintro e w4 ⟨vg, rfl, ho, hb⟩
  obtain ⟨Ag, cg, rfl, _, _, _⟩ := own_form ho
  have hgl : (u.filter gdP).length ≤ 100 := by have := List.length_filter_le gdP u; have := HUN.out; omega
  replace KX := Lib.hid (KX.out.below hb KX.out.lt)
  replace BB := Lib.hid (BB.out.trans ((hb).mono BB.out.size))
  replace WF := Lib.hid (own_below WF.out hb fun g hg => (WF.out.lt g hg).2)
  replace WU := Lib.hid (own_below WU.out hb fun g hg => (WU.out.lt g hg).2)
  clear ho hb HC HR1
  obtain ⟨gn, hgn⟩ : ∃ gn, gn = (u.filter gdP).length := ⟨_, rfl⟩
  have HGN := Sh.mk (show gn = gdN u from hgn)
  rw [← hgn] at hgl ⊢
  clear hgn
  have HC := Lib.hid (pl_picked 12 baP (enters_of Try.func12 (by kernel_rfl) rfl) p_bar A n c l w4 ((HR.out.below BB.out).mono BB.out.size) HM.out)
  go_wp2_with fail
  refine (HC.out).mono ?_
  rintro e w5 ⟨vb, rfl, ho, hb⟩
  obtain ⟨Ab, cb, rfl, _, _, hr⟩ := own_form ho
  have zbl : (l.filter baP).length ≤ 100 := by have := List.length_filter_le baP l; have := HL.out; have := HM.out; omega
  have RB := Lib.hid hr
  replace KX := Lib.hid (KX.out.below hb KX.out.lt)
  replace BB := Lib.hid (BB.out.trans ((hb).mono BB.out.size))
  replace WF := Lib.hid (own_below WF.out hb fun g hg => (WF.out.lt g hg).2)
  replace WU := Lib.hid (own_below WU.out hb fun g hg => (WU.out.lt g hg).2)
  clear ho hb hr HC
  obtain ⟨bl, hbl⟩ : ∃ bl, bl = l.filter baP := ⟨_, rfl⟩
  have HBL := Sh.mk hbl
  rw [← hbl] at RB zbl ⊢
  clear hbl
  generalize hbn : bl.length = bn at *
  have HC := Lib.hid (pl_ids Ab bn cb bl w5 RB.out zbl)
  clear hbn
  go_wp2_with fail
  refine (HC.out).mono ?_
  rintro e w6 ⟨vd, rfl, ho, hb⟩
  obtain ⟨Ad, cd, rfl, _⟩ := ho.form
  have hdl : (bl.map Plp.id).length = bn := by rw [List.length_map]; exact RB.out.plpLen
  have OD := Lib.hid (ho.mono BB.out.size)
  rw [hdl] at OD ⊢
  have HDL := Sh.mk hdl
  replace KX := Lib.hid (KX.out.below hb KX.out.lt)
  replace BB := Lib.hid (BB.out.trans ((hb).mono BB.out.size))
  replace WF := Lib.hid (own_below WF.out hb fun g hg => (WF.out.lt g hg).2)
  replace WU := Lib.hid (own_below WU.out hb fun g hg => (WU.out.lt g hg).2)
  clear ho hb hdl HC RB
  go_upto_region 4 with fail
  have KY := Lib.hid (Blk.new w6 28 #[.slice none 0 0, .slice Ad bn cd, .slice none 0 0])
  have hb := (Below.refl w6.heap.size w6).alloc (Nat.le_refl _) (.cells #[.slice none 0 0, .slice Ad bn cd, .slice none 0 0] 28)
  have XY := Sh.mk (show X ≠ w6.heap.size from Nat.ne_of_lt KX.out.lt)
  have YW := Lib.hid (show w.heap.size ≤ w6.heap.size from BB.out.size)
  replace KX := Lib.hid (KX.out.below hb KX.out.lt)
  replace BB := Lib.hid (BB.out.trans ((hb).mono BB.out.size))
  replace WF := Lib.hid (own_below WF.out hb fun g hg => (WF.out.lt g hg).2)
  replace WU := Lib.hid (own_below WU.out hb fun g hg => (WU.out.lt g hg).2)
  replace OD := Lib.hid (OD.out.below hb)
  obtain ⟨Y, hY⟩ : ∃ Y, Y = w6.heap.size := ⟨_, rfl⟩
  rw [← hY] at KY XY YW ⊢
  clear hb hY
  generalize w6.alloc (.cells #[.slice none 0 0, .slice Ad bn cd, .slice none 0 0] 28) = w7 at *
  obtain ⟨mn, hmn⟩ : ∃ mn, mn = 2 - (gn : Int) := ⟨_, rfl⟩
  obtain ⟨mi, hmi⟩ : ∃ mi, mi = min ro mn := ⟨_, rfl⟩
  have g1 : 2 - (gn : Int) = mn := hmn.symm
  have g2 : IntKind.i64.wrap mn = mn := by rw [IntKind.wrap_i64]; omega
  have g3 : min ro mn = mi := hmi.symm
  have g4 : (if ro < mn then ro else mn) = mi := by split <;> omega
  have g5 : (if mn < ro then mn else ro) = mi := by split <;> omega
  have HMI := Sh.mk (show mi = min (roomI most un) (2 - (gdN u : Int)) by rw [hmi, HRO.out, hmn, HGN.out])
  clear hmn hmi
  have HFI := Lib.hid (pl_first Af fn cf mi NF.out)
  obtain ⟨q, hq⟩ : ∃ q, q = min (mi).toNat fn := ⟨_, rfl⟩
  have HQ := Sh.mk (show f.take q = f.take (mi).toNat from take_min (by rw [hq, HFN.out]))
  rw [← hq] at HFI
  have hqf : q ≤ fn := by omega
  have RQ := Lib.hid (show Rd w7 w7.heap.size 7 Af q (plps (f.take q)) by
    have := (Rd.of_own WF.out).take hqf
    rwa [show (plps f).take (q * 7) = plps (f.take q) from fm_take plp_len f q] at this)
  clear hq
  go_wp2_with fail
  refine (HFI.out w7).mono ?_
  rintro e w9 ⟨rfl, hw⟩
  have hw := hw.symm
  subst hw
  have HC := Lib.hid (pl_ids Af q cf (f.take q) w7 RQ.out (by omega))
  go_wp2_with fail
  refine (HC.out).mono ?_
  rintro e w10 ⟨va, rfl, ho, hb⟩
  obtain ⟨Aa, ca, rfl, _⟩ := ho.form
  have Oa := Lib.hid (ho.mono BB.out.size)
  replace KX := Lib.hid (KX.out.below hb KX.out.lt)
  replace BB := Lib.hid (BB.out.trans ((hb).mono BB.out.size))
  replace WF := Lib.hid (own_below WF.out hb fun g hg => (WF.out.lt g hg).2)
  replace WU := Lib.hid (own_below WU.out hb fun g hg => (WU.out.lt g hg).2)
  replace OD := Lib.hid (OD.out.below hb)
  replace KY := Lib.hid (KY.out.below hb KY.out.lt)
  clear ho hb HC
  generalize hna : ((f.take q).map Plp.id).length = na at *
  have HNa := Sh.mk hna
  clear hna
  clear RQ HFI hqf
  clear g1 g2 g3 g4 g5
  have fz := KY.out.frozen 0
  have cz := KY.out.cell 0
  simp only [List.getElem?_toArray, List.getElem?_cons_zero, List.getElem?_cons_succ] at cz
  go_upto_region 9 with fail
  have hs : Solo Y w10 (w10.setCell ⟨Y, 0, none⟩ (.slice Aa na ca)) := Solo.refl.setCell 0 _
  replace KX := Lib.hid (hs.blk KX.out XY.out)
  replace BB := Lib.hid (BB.out.trans (hs.1.mono YW.out))
  replace WF := Lib.hid (own_kept WF.out fun g hg => hs.2.2 g (fun e => own_nt WF.out KY.out (by decide) (by rw [hg, e])))
  replace WU := Lib.hid (own_kept WU.out fun g hg => hs.2.2 g (fun e => own_nt WU.out KY.out (by decide) (by rw [hg, e])))
  replace OD := Lib.hid (OD.out.kept fun g hg => hs.2.2 g (fun e => own_nt OD.out KY.out (by decide) (by rw [hg, e])))
  replace Oa := Lib.hid (Oa.out.kept fun g hg => hs.2.2 g (fun e => own_nt Oa.out KY.out (by decide) (by rw [hg, e])))
  replace KY := Lib.hid (show Blk _ _ _ #[.slice Aa na ca, .slice Ad bn cd, .slice none 0 0] from KY.out.set 0 (.slice Aa na ca))
  clear hs fz cz
  generalize w10.setCell ⟨Y, 0, none⟩ (.slice Aa na ca) = w11 at *
  have HOT := Lib.hid (pl_others Au un cu NU.out)
  obtain ⟨k1, hk1⟩ : ∃ k1, k1 = min 1 un := ⟨_, rfl⟩
  rw [← hk1] at HOT
  have hku : k1 ≤ un := by omega
  have RO := Lib.hid (show Rd w11 w11.heap.size 7 (cutA Au cu k1 7) (un - k1) (plps (u.drop 1)) by
    have hd : u.drop k1 = u.drop 1 := by
      rcases Nat.eq_zero_or_pos un with h0 | h0
      · rw [show u = [] from List.eq_nil_of_length_eq_zero (by rw [← HUN.out]; exact h0)]; simp
      · rw [show k1 = 1 by omega]
    have : Rd w11 w11.heap.size 7 (cutA Au cu k1 7) (un - k1) ((plps u).drop (k1 * 7)) := (Rd.of_own WU.out).drop hku NU.out
    rwa [show (plps u).drop (k1 * 7) = plps (u.drop k1) from fm_drop plp_len u k1, hd] at this)
  generalize cutA Au cu k1 7 = Ao at *
  obtain ⟨un1, hun1⟩ : ∃ un1, un1 = un - k1 := ⟨_, rfl⟩
  obtain ⟨cu1, hcu1⟩ : ∃ cu1, cu1 = cu - k1 := ⟨_, rfl⟩
  rw [← hun1] at HOT RO
  rw [← hcu1] at HOT
  have hu1 : un1 ≤ 100 := by omega
  clear hun1 hcu1 hk1 hku
  go_wp2_with fail
  refine (HOT.out w11).mono ?_
  rintro e w12 ⟨rfl, hw⟩
  have hw := hw.symm
  subst hw
  have HC := Lib.hid (pl_picked 15 opP (enters_of Try.func15 (by kernel_rfl) rfl) p_open Ao un1 cu1 (u.drop 1) w11 RO.out hu1)
  go_wp2_with fail
  refine (HC.out).mono ?_
  rintro e w13 ⟨vo, rfl, ho, hb⟩
  obtain ⟨Ao2, co2, rfl, _, _, hr⟩ := own_form ho
  have zol : ((u.drop 1).filter opP).length ≤ 100 := by have := List.length_filter_le opP (u.drop 1); have := RO.out.plpLen; omega
  have RO2 := Lib.hid (hr)
  replace KX := Lib.hid (KX.out.below hb KX.out.lt)
  replace BB := Lib.hid (BB.out.trans ((hb).mono BB.out.size))
  replace WF := Lib.hid (own_below WF.out hb fun g hg => (WF.out.lt g hg).2)
  replace WU := Lib.hid (own_below WU.out hb fun g hg => (WU.out.lt g hg).2)
  replace OD := Lib.hid (OD.out.below hb)
  replace KY := Lib.hid (KY.out.below hb KY.out.lt)
  replace Oa := Lib.hid (Oa.out.below hb)
  clear ho hb HC
  clear hr
  obtain ⟨ol, hol⟩ : ∃ ol, ol = (u.drop 1).filter opP := ⟨_, rfl⟩
  have HOL := Sh.mk hol
  rw [← hol] at RO2 zol ⊢
  clear hol
  generalize hon : ol.length = on at *
  clear hon
  have HC := Lib.hid (pl_ids Ao2 on co2 (ol) w13 RO2.out (by omega))
  go_wp2_with fail
  refine (HC.out).mono ?_
  rintro e w14 ⟨vs, rfl, ho, hb⟩
  obtain ⟨As, cs, rfl, _⟩ := ho.form
  have Os := Lib.hid (ho.mono BB.out.size)
  replace KX := Lib.hid (KX.out.below hb KX.out.lt)
  replace BB := Lib.hid (BB.out.trans ((hb).mono BB.out.size))
  replace WF := Lib.hid (own_below WF.out hb fun g hg => (WF.out.lt g hg).2)
  replace WU := Lib.hid (own_below WU.out hb fun g hg => (WU.out.lt g hg).2)
  replace OD := Lib.hid (OD.out.below hb)
  replace KY := Lib.hid (KY.out.below hb KY.out.lt)
  replace Oa := Lib.hid (Oa.out.below hb)
  clear ho hb HC
  generalize hns : ((ol).map Plp.id).length = ns at *
  have HNs := Sh.mk hns
  clear hns
  have fz := KY.out.frozen 2
  have cz := KY.out.cell 2
  simp only [List.getElem?_toArray, List.getElem?_cons_zero, List.getElem?_cons_succ] at cz
  go_upto_region 14 with fail
  have hs : Solo Y w14 (w14.setCell ⟨Y, 2, none⟩ (.slice As ns cs)) := Solo.refl.setCell 2 _
  replace KX := Lib.hid (hs.blk KX.out XY.out)
  replace BB := Lib.hid (BB.out.trans (hs.1.mono YW.out))
  replace WF := Lib.hid (own_kept WF.out fun g hg => hs.2.2 g (fun e => own_nt WF.out KY.out (by decide) (by rw [hg, e])))
  replace WU := Lib.hid (own_kept WU.out fun g hg => hs.2.2 g (fun e => own_nt WU.out KY.out (by decide) (by rw [hg, e])))
  replace OD := Lib.hid (OD.out.kept fun g hg => hs.2.2 g (fun e => own_nt OD.out KY.out (by decide) (by rw [hg, e])))
  replace Oa := Lib.hid (Oa.out.kept fun g hg => hs.2.2 g (fun e => own_nt Oa.out KY.out (by decide) (by rw [hg, e])))
  replace Os := Lib.hid (Os.out.kept fun g hg => hs.2.2 g (fun e => own_nt Os.out KY.out (by decide) (by rw [hg, e])))
  replace KY := Lib.hid (show Blk _ _ _ #[.slice Aa na ca, .slice Ad bn cd, .slice As ns cs] from KY.out.set 2 (.slice As ns cs))
  clear hs fz cz
  generalize w14.setCell ⟨Y, 2, none⟩ (.slice As ns cs) = w15 at *
  obtain ⟨c0, c1, c2⟩ : w15.cell? ⟨Y, 0, none⟩ = some (.slice Aa na ca) ∧ w15.cell? ⟨Y, 1, none⟩ = some (.slice Ad bn cd) ∧ w15.cell? ⟨Y, 2, none⟩ = some (.slice As ns cs) := ⟨(KY.out.cell 0).trans rfl, (KY.out.cell 1).trans rfl, (KY.out.cell 2).trans rfl⟩
  go_wp2_with (refine stm_store (cs' := #[.slice Aa na ca, .slice Ad bn cd, .slice As ns cs]) KX.out rfl _ _ rfl rfl rfl (by simp) (by kernel_rfl) (by simp [Value.oneCell']) (by simp [setL]) fun w99 hk hs => ?_)
  have hx : w.heap.size ≤ X := by rw [HX.out]; exact Nat.le_refl _
  replace BB := Lib.hid (BB.out.trans (hs.1.mono hx))
  replace WF := Lib.hid (own_kept WF.out fun g hg => hs.2.2 g (fun e => own_nt WF.out KX.out (by decide) (by rw [hg, e])))
  replace WU := Lib.hid (own_kept WU.out fun g hg => hs.2.2 g (fun e => own_nt WU.out KX.out (by decide) (by rw [hg, e])))
  replace OD := Lib.hid (OD.out.kept fun g hg => hs.2.2 g (fun e => own_nt OD.out KX.out (by decide) (by rw [hg, e])))
  replace KY := Lib.hid (hs.blk KY.out (fun e => XY.out e.symm))
  replace Oa := Lib.hid (Oa.out.kept fun g hg => hs.2.2 g (fun e => own_nt Oa.out KX.out (by decide) (by rw [hg, e])))
  replace Os := Lib.hid (Os.out.kept fun g hg => hs.2.2 g (fun e => own_nt Os.out KX.out (by decide) (by rw [hg, e])))
  refine bodyPost_ret (results_agg Try.results4 hk (by rfl) (by kernel_rfl) (by kernel_rfl)) rfl ?_
  exact ⟨_, _, _, _, _, _, f, u, rfl, Oa.out, OD.out, Os.out, BB.out, ⟨PF.out, QF.out, PU.out, QU.out, by unfold askN; rw [if_neg (by omega), if_pos rfl, ← HUN.out, ← HMI.out, HQ.out], by rw [HBL.out, if_neg (by omega), List.append_nil], by rw [if_pos rfl, HOL.out]⟩⟩
set_option maxRecDepth 20000 in
set_option maxHeartbeats 4000000 in
theorem pl_make3 (most : Int) (A : Option Addr) (n c : Nat) (l : List Plp) (w : World) (h : Rd w w.heap.size 7 A n (plps l)) (hm : n ≤ 100) :
    Calls Try.prog 4 #[.int .i64 3, .int .i64 most, .slice A n c] w fun e w' => ∃ va vd vs ask drop spare f u, e = .returned (.agg #[va, vd, vs]) ∧ Zats w' 3 .i64 w.heap.size va ask ∧ Zats w' 3 .i64 w.heap.size vd drop ∧ Zats w' 3 .i64 w.heap.size vs spare ∧ Below w.heap.size w w' ∧ MkP 3 most l f u ask drop spare := by
  have HR := Lib.hid h
  have HL := Lib.hid h.plpLen
  have HM := Lib.hid hm
  clear h hm
  have KX := Lib.hid (Blk.new w 28 #[.slice none 0 0, .slice none 0 0, .slice none 0 0])
  have BB := Lib.hid ((Below.refl w.heap.size w).alloc (Nat.le_refl _) (.cells #[.slice none 0 0, .slice none 0 0, .slice none 0 0] 28))
  go_enter Try.func4, Try.ntmps4
  go_upto_region 1 with fail
  generalize w.alloc (.cells #[.slice none 0 0, .slice none 0 0, .slice none 0 0] 28) = w1 at KX BB ⊢
  obtain ⟨X, hX⟩ : ∃ X, X = w.heap.size := ⟨_, rfl⟩
  have HX := Sh.mk hX
  rw [← hX] at KX ⊢
  clear hX
  have HC := Lib.hid (pl_free A n c l w1 ((HR.out.below BB.out).mono BB.out.size) HM.out)
  go_wp2_with fail
  refine (HC.out).mono ?_
  rintro e w2 ⟨vf, f, rfl, ho, hb, hp, hq⟩
  obtain ⟨Af, cf, rfl, hnc, _, _⟩ := own_form ho
  have hfl : f.length ≤ 100 := by rw [hp.length_eq]; have := List.length_filter_le frP l; have := HL.out; have := HM.out; omega
  have PF := Sh.mk hp
  have QF := Sh.mk hq
  have NF := Lib.hid hnc
  have WF := Lib.hid (own_mono ho BB.out.size)
  replace KX := Lib.hid (KX.out.below hb KX.out.lt)
  replace BB := Lib.hid (BB.out.trans ((hb).mono BB.out.size))
  clear ho hb hp hq hnc HC
  obtain ⟨fn, hfn⟩ : ∃ fn, fn = f.length := ⟨_, rfl⟩
  have HFN := Sh.mk hfn
  rw [← hfn] at WF NF hfl ⊢
  clear hfn
  have HC := Lib.hid (pl_used A n c l w2 ((HR.out.below BB.out).mono BB.out.size) HM.out)
  go_wp2_with fail
  refine (HC.out).mono ?_
  rintro e w3 ⟨vu, u, rfl, ho, hb, hp, hq⟩
  obtain ⟨Au, cu, rfl, hnc, _, _⟩ := own_form ho
  have hul : u.length ≤ 100 := by rw [hp.length_eq]; have := List.length_filter_le usP l; have := HL.out; have := HM.out; omega
  have PU := Sh.mk hp
  have QU := Sh.mk hq
  have NU := Lib.hid hnc
  have WU := Lib.hid (own_mono ho BB.out.size)
  replace KX := Lib.hid (KX.out.below hb KX.out.lt)
  replace BB := Lib.hid (BB.out.trans ((hb).mono BB.out.size))
  replace WF := Lib.hid (own_below WF.out hb fun g hg => (WF.out.lt g hg).2)
  clear ho hb hp hq hnc HC
  obtain ⟨un, hun⟩ : ∃ un, un = u.length := ⟨_, rfl⟩
  have HUN := Sh.mk hun
  rw [← hun] at WU NU hul ⊢
  clear hun
  obtain ⟨ro, hro⟩ : ∃ ro, ro = roomI most un := ⟨_, rfl⟩
  have HRO := Sh.mk hro
  have HR1 := Lib.hid (show Calls Try.prog 8 #[.int .i64 most, .int .i64 (un : Nat)] w3 fun e w' => e = .returned (.int .i64 ro) ∧ w' = w3 by rw [hro]; exact pl_room most un hul w3)
  clear hro
  have HC := Lib.hid (pl_picked 10 gdP (enters_of Try.func10 (by kernel_rfl) rfl) p_good Au un cu u w3 (Rd.of_own WU.out) hul)
  go_wp2_with fail
  refine (HR1.out).mono ?_
  rintro e w4 ⟨rfl, hw⟩
  have hw := hw.symm
  subst hw
  go_wp2_with fail
  refine (HC.out).mono ?_
  rintro e w4 ⟨vg, rfl, ho, hb⟩
  obtain ⟨Ag, cg, rfl, _, _, _⟩ := own_form ho
  have hgl : (u.filter gdP).length ≤ 100 := by have := List.length_filter_le gdP u; have := HUN.out; omega
  replace KX := Lib.hid (KX.out.below hb KX.out.lt)
  replace BB := Lib.hid (BB.out.trans ((hb).mono BB.out.size))
  replace WF := Lib.hid (own_below WF.out hb fun g hg => (WF.out.lt g hg).2)
  replace WU := Lib.hid (own_below WU.out hb fun g hg => (WU.out.lt g hg).2)
  clear ho hb HC HR1
  obtain ⟨gn, hgn⟩ : ∃ gn, gn = (u.filter gdP).length := ⟨_, rfl⟩
  have HGN := Sh.mk (show gn = gdN u from hgn)
  rw [← hgn] at hgl ⊢
  clear hgn
  have HC := Lib.hid (pl_picked 12 baP (enters_of Try.func12 (by kernel_rfl) rfl) p_bar A n c l w4 ((HR.out.below BB.out).mono BB.out.size) HM.out)
  go_wp2_with fail
  refine (HC.out).mono ?_
  rintro e w5 ⟨vb, rfl, ho, hb⟩
  obtain ⟨Ab, cb, rfl, _, _, hr⟩ := own_form ho
  have zbl : (l.filter baP).length ≤ 100 := by have := List.length_filter_le baP l; have := HL.out; have := HM.out; omega
  have RB := Lib.hid hr
  replace KX := Lib.hid (KX.out.below hb KX.out.lt)
  replace BB := Lib.hid (BB.out.trans ((hb).mono BB.out.size))
  replace WF := Lib.hid (own_below WF.out hb fun g hg => (WF.out.lt g hg).2)
  replace WU := Lib.hid (own_below WU.out hb fun g hg => (WU.out.lt g hg).2)
  clear ho hb hr HC
  obtain ⟨bl, hbl⟩ : ∃ bl, bl = l.filter baP := ⟨_, rfl⟩
  have HBL := Sh.mk hbl
  rw [← hbl] at RB zbl ⊢
  clear hbl
  generalize hbn : bl.length = bn at *
  have HC := Lib.hid (pl_ids Ab bn cb bl w5 RB.out zbl)
  clear hbn
  go_wp2_with fail
  refine (HC.out).mono ?_
  rintro e w6 ⟨vd, rfl, ho, hb⟩
  obtain ⟨Ad, cd, rfl, _⟩ := ho.form
  have hdl : (bl.map Plp.id).length = bn := by rw [List.length_map]; exact RB.out.plpLen
  have OD := Lib.hid (ho.mono BB.out.size)
  rw [hdl] at OD ⊢
  have HDL := Sh.mk hdl
  replace KX := Lib.hid (KX.out.below hb KX.out.lt)
  replace BB := Lib.hid (BB.out.trans ((hb).mono BB.out.size))
  replace WF := Lib.hid (own_below WF.out hb fun g hg => (WF.out.lt g hg).2)
  replace WU := Lib.hid (own_below WU.out hb fun g hg => (WU.out.lt g hg).2)
  clear ho hb hdl HC RB
  go_upto_region 4 with fail
  have KY := Lib.hid (Blk.new w6 28 #[.slice none 0 0, .slice Ad bn cd, .slice none 0 0])
  have hb := (Below.refl w6.heap.size w6).alloc (Nat.le_refl _) (.cells #[.slice none 0 0, .slice Ad bn cd, .slice none 0 0] 28)
  have XY := Sh.mk (show X ≠ w6.heap.size from Nat.ne_of_lt KX.out.lt)
  have YW := Lib.hid (show w.heap.size ≤ w6.heap.size from BB.out.size)
  replace KX := Lib.hid (KX.out.below hb KX.out.lt)
  replace BB := Lib.hid (BB.out.trans ((hb).mono BB.out.size))
  replace WF := Lib.hid (own_below WF.out hb fun g hg => (WF.out.lt g hg).2)
  replace WU := Lib.hid (own_below WU.out hb fun g hg => (WU.out.lt g hg).2)
  replace OD := Lib.hid (OD.out.below hb)
  obtain ⟨Y, hY⟩ : ∃ Y, Y = w6.heap.size := ⟨_, rfl⟩
  rw [← hY] at KY XY YW ⊢
  clear hb hY
  generalize w6.alloc (.cells #[.slice none 0 0, .slice Ad bn cd, .slice none 0 0] 28) = w7 at *
  by_cases hg0 : gn = 0
  · subst hg0
    obtain ⟨mi, hmi⟩ : ∃ mi, mi = min ro 1 := ⟨_, rfl⟩
    have g3 : min ro 1 = mi := hmi.symm
    have g4 : (if ro < 1 then ro else 1) = mi := by split <;> omega
    have g5 : (if 1 < ro then 1 else ro) = mi := by split <;> omega
    have HMI := Sh.mk (show mi = min (roomI most un) 1 by rw [hmi, HRO.out])
    clear hmi
    have HFI := Lib.hid (pl_first Af fn cf mi NF.out)
    obtain ⟨q, hq⟩ : ∃ q, q = min (mi).toNat fn := ⟨_, rfl⟩
    have HQ := Sh.mk (show f.take q = f.take (mi).toNat from take_min (by rw [hq, HFN.out]))
    rw [← hq] at HFI
    have hqf : q ≤ fn := by omega
    have RQ := Lib.hid (show Rd w7 w7.heap.size 7 Af q (plps (f.take q)) by
      have := (Rd.of_own WF.out).take hqf
      rwa [show (plps f).take (q * 7) = plps (f.take q) from fm_take plp_len f q] at this)
    clear hq
    go_wp2_with fail
    refine (HFI.out w7).mono ?_
    rintro e w9 ⟨rfl, hw⟩
    have hw := hw.symm
    subst hw
    have HC := Lib.hid (pl_ids Af q cf (f.take q) w7 RQ.out (by omega))
    go_wp2_with fail
    refine (HC.out).mono ?_
    rintro e w10 ⟨va, rfl, ho, hb⟩
    obtain ⟨Aa, ca, rfl, _⟩ := ho.form
    have Oa := Lib.hid (ho.mono BB.out.size)
    replace KX := Lib.hid (KX.out.below hb KX.out.lt)
    replace BB := Lib.hid (BB.out.trans ((hb).mono BB.out.size))
    replace WF := Lib.hid (own_below WF.out hb fun g hg => (WF.out.lt g hg).2)
    replace WU := Lib.hid (own_below WU.out hb fun g hg => (WU.out.lt g hg).2)
    replace OD := Lib.hid (OD.out.below hb)
    replace KY := Lib.hid (KY.out.below hb KY.out.lt)
    clear ho hb HC
    generalize hna : ((f.take q).map Plp.id).length = na at *
    have HNa := Sh.mk hna
    clear hna
    clear RQ HFI hqf
    clear g3 g4 g5
    have fz := KY.out.frozen 0
    have cz := KY.out.cell 0
    simp only [List.getElem?_toArray, List.getElem?_cons_zero, List.getElem?_cons_succ] at cz
    go_upto_region 14 with fail
    have hs : Solo Y w10 (w10.setCell ⟨Y, 0, none⟩ (.slice Aa na ca)) := Solo.refl.setCell 0 _
    replace KX := Lib.hid (hs.blk KX.out XY.out)
    replace BB := Lib.hid (BB.out.trans (hs.1.mono YW.out))
    replace WF := Lib.hid (own_kept WF.out fun g hg => hs.2.2 g (fun e => own_nt WF.out KY.out (by decide) (by rw [hg, e])))
    replace WU := Lib.hid (own_kept WU.out fun g hg => hs.2.2 g (fun e => own_nt WU.out KY.out (by decide) (by rw [hg, e])))
    replace OD := Lib.hid (OD.out.kept fun g hg => hs.2.2 g (fun e => own_nt OD.out KY.out (by decide) (by rw [hg, e])))
    replace Oa := Lib.hid (Oa.out.kept fun g hg => hs.2.2 g (fun e => own_nt Oa.out KY.out (by decide) (by rw [hg, e])))
    replace KY := Lib.hid (show Blk _ _ _ #[.slice Aa na ca, .slice Ad bn cd, .slice none 0 0] from KY.out.set 0 (.slice Aa na ca))
    clear hs fz cz
    generalize w10.setCell ⟨Y, 0, none⟩ (.slice Aa na ca) = w11 at *
    obtain ⟨c0, c1, c2⟩ : w11.cell? ⟨Y, 0, none⟩ = some (.slice Aa na ca) ∧ w11.cell? ⟨Y, 1, none⟩ = some (.slice Ad bn cd) ∧ w11.cell? ⟨Y, 2, none⟩ = some (.slice none 0 0) := ⟨(KY.out.cell 0).trans rfl, (KY.out.cell 1).trans rfl, (KY.out.cell 2).trans rfl⟩
    go_wp2_with (refine stm_store (cs' := #[.slice Aa na ca, .slice Ad bn cd, .slice none 0 0]) KX.out rfl _ _ rfl rfl rfl (by simp) (by kernel_rfl) (by simp [Value.oneCell']) (by simp [setL]) fun w99 hk hs => ?_)
    have hx : w.heap.size ≤ X := by rw [HX.out]; exact Nat.le_refl _
    replace BB := Lib.hid (BB.out.trans (hs.1.mono hx))
    replace WF := Lib.hid (own_kept WF.out fun g hg => hs.2.2 g (fun e => own_nt WF.out KX.out (by decide) (by rw [hg, e])))
    replace WU := Lib.hid (own_kept WU.out fun g hg => hs.2.2 g (fun e => own_nt WU.out KX.out (by decide) (by rw [hg, e])))
    replace OD := Lib.hid (OD.out.kept fun g hg => hs.2.2 g (fun e => own_nt OD.out KX.out (by decide) (by rw [hg, e])))
    replace KY := Lib.hid (hs.blk KY.out (fun e => XY.out e.symm))
    replace Oa := Lib.hid (Oa.out.kept fun g hg => hs.2.2 g (fun e => own_nt Oa.out KX.out (by decide) (by rw [hg, e])))
    refine bodyPost_ret (results_agg Try.results4 hk (by rfl) (by kernel_rfl) (by kernel_rfl)) rfl ?_
    exact ⟨_, _, _, _, _, _, f, u, rfl, Oa.out, OD.out, Zats.nil _ _ _ _, BB.out, ⟨PF.out, QF.out, PU.out, QU.out, by unfold askN; rw [if_neg (by omega), if_neg (by omega), if_pos ⟨rfl, HGN.out.symm⟩, ← HUN.out, ← HMI.out, HQ.out], by rw [HBL.out, if_neg (by rintro ⟨h, hg⟩; exact hg HGN.out.symm), List.append_nil], by rw [if_neg (by omega)]⟩⟩
  · have HOT := Lib.hid (pl_others Au un cu NU.out)
    obtain ⟨k1, hk1⟩ : ∃ k1, k1 = min 1 un := ⟨_, rfl⟩
    rw [← hk1] at HOT
    have hku : k1 ≤ un := by omega
    have RO := Lib.hid (show Rd w7 w7.heap.size 7 (cutA Au cu k1 7) (un - k1) (plps (u.drop 1)) by
      have hd : u.drop k1 = u.drop 1 := by
        rcases Nat.eq_zero_or_pos un with h0 | h0
        · rw [show u = [] from List.eq_nil_of_length_eq_zero (by rw [← HUN.out]; exact h0)]; simp
        · rw [show k1 = 1 by omega]
      have : Rd w7 w7.heap.size 7 (cutA Au cu k1 7) (un - k1) ((plps u).drop (k1 * 7)) := (Rd.of_own WU.out).drop hku NU.out
      rwa [show (plps u).drop (k1 * 7) = plps (u.drop k1) from fm_drop plp_len u k1, hd] at this)
    generalize cutA Au cu k1 7 = Ao at *
    obtain ⟨un1, hun1⟩ : ∃ un1, un1 = un - k1 := ⟨_, rfl⟩
    obtain ⟨cu1, hcu1⟩ : ∃ cu1, cu1 = cu - k1 := ⟨_, rfl⟩
    rw [← hun1] at HOT RO
    rw [← hcu1] at HOT
    have hu1 : un1 ≤ 100 := by omega
    clear hun1 hcu1 hk1 hku
    have hg1 : ¬ (gn : Int) = 0 := by omega
    have hg2 : ((gn : Int) == 0) = false := by simpa using hg0
    go_upto_region 13 with fail
    refine wp_ord [(0, .pure), (1, .read), (2, .pure), (3, .sole), (4, .sole), (5, .sole), (6, .pure), (7, .sole)] [5, 7] (by kernel_rfl) (by kernel_rfl) (fun QQ hQ wd hwd => ?_); simp only [List.map_cons, List.map_nil, List.getD_cons_zero, List.getD_cons_succ]
    have hD : Below w7.heap.size w7 wd := by rw [hwd.out]; exact (Below.refl _ _).drew
    replace KX := Lib.hid (KX.out.below hD KX.out.lt)
    replace BB := Lib.hid (BB.out.trans ((hD).mono BB.out.size))
    replace WF := Lib.hid (own_below WF.out hD fun g hg => (WF.out.lt g hg).2)
    replace WU := Lib.hid (own_below WU.out hD fun g hg => (WU.out.lt g hg).2)
    replace OD := Lib.hid (OD.out.below hD)
    replace KY := Lib.hid (KY.out.below hD KY.out.lt)
    replace RO := Lib.hid ((RO.out.below hD).mono hD.size)
    have cD : wd.cell? ⟨Y, 1, none⟩ = some (.slice Ad bn cd) := by rw [KY.out.cell]; rfl
    clear hD hwd
    (refine o_pure (v := ?_) (by rfl) (fun w' => ?_) ?_; rotate_left; (focus (go_simp; (try with_reducible rfl); (try (rw [if_pos (by omega)]; (try with_reducible rfl))))); (try simp only [Act.put, List.setIfInBounds_toArray, List.set_cons_zero, List.set_cons_succ]))
    (refine o_load _ (by rfl) rfl rfl (by assumption) (by kernel_rfl) ?_; simp only [Act.put, List.setIfInBounds_toArray, List.set_cons_zero, List.set_cons_succ])
    (refine o_pure (v := ?_) (by rfl) (fun w' => ?_) ?_; rotate_left; (focus (go_simp; (try with_reducible rfl); (try (rw [if_pos (by omega)]; (try with_reducible rfl))))); (try simp only [Act.put, List.setIfInBounds_toArray, List.set_cons_zero, List.set_cons_succ]))
    refine o_sole (fun K hK => ?_)
    go_wp2_with fail
    refine (HOT.out wd).mono ?_
    rintro e w8 ⟨rfl, hw⟩
    have hw := hw.symm
    subst hw
    go_wp2_with fail
    refine hK _ _ (fun _ => Ext.of (Below.refl _ _)) ?_; clear hK K
    clear cD
    have HC := Lib.hid (pl_ids Ao un1 cu1 (u.drop 1) wd RO.out hu1)
    refine o_sole (fun K hK => ?_)
    go_wp2_with fail
    refine HC.out.mono ?_
    rintro e w8 ⟨vx, rfl, ho, hb⟩
    obtain ⟨Ax, cx, rfl, _⟩ := ho.form
    have RX := Lib.hid ho.rd
    have hul1 := RO.out.plpLen
    generalize hxs : (u.drop 1).map Plp.id = xs at *
    have HXS := Sh.mk hxs
    have hnx100 : xs.length ≤ 100 := by rw [← hxs, List.length_map]; omega
    generalize hnx : xs.length = nx at *
    clear hxs hnx
    go_wp2_with fail
    refine hK _ _ (fun _ => Ext.of hb) ?_; clear hK K
    replace KX := Lib.hid (KX.out.below hb KX.out.lt)
    replace BB := Lib.hid (BB.out.trans ((hb).mono BB.out.size))
    replace WF := Lib.hid (own_below WF.out hb fun g hg => (WF.out.lt g hg).2)
    replace WU := Lib.hid (own_below WU.out hb fun g hg => (WU.out.lt g hg).2)
    replace OD := Lib.hid (OD.out.below hb)
    replace KY := Lib.hid (KY.out.below hb KY.out.lt)
    clear ho hb HC hul1 RO HOT
    have hroom : (bn + nx) * 8 ≤ room := room_ge (by omega)
    have BS := Lib.hid BB.out.size
    have WD := Lib.hid (show w8.ownsRow w.heap.size 3 1 (.slice Ad bn cd) bn (zs .i64 (bl.map Plp.id)) by have := OD.out; unfold Zats at this; rwa [HDL.out] at this)
    clear OD
    refine o_sole (fun K hK => ?_)
    refine app pl_intEl rfl _ _ rfl rfl WD.out rfl RX.out (zs_one _ _) hroom BS.out ?_
    intro v9 w9 ho9 hg9 hb9
    obtain ⟨A9, c9, rfl, _, _, _⟩ := own_form ho9
    refine wpList_nil ?_
    refine hK _ _ (fun h => by cases h) ?_; clear hK K
    replace KX := Lib.hid (show Blk _ _ _ _ from (hg9.block _ KX.out.lt fun e => own_nt WD.out KX.out (by decide) e.symm).trans KX.out)
    replace BB := Lib.hid (BB.out.trans hb9)
    replace WF := Lib.hid (own_fr WF.out WD.out (by decide) hg9)
    replace WU := Lib.hid (own_fr WU.out WD.out (by decide) hg9)
    replace KY := Lib.hid (show Blk _ _ _ _ from (hg9.block _ KY.out.lt fun e => own_nt WD.out KY.out (by decide) e.symm).trans KY.out)
    have O9 := Lib.hid (show Zats w9 3 .i64 w.heap.size (.slice A9 (bn + nx) c9) (bl.map Plp.id ++ xs) by unfold Zats; rw [List.length_append, HDL.out, zs_append, show xs.length = nx by have := RX.out.1; rw [zs_len] at this; omega]; exact ho9)
    clear ho9 hg9 hb9 WD RX hroom BS
    (refine o_pure (v := ?_) (by rfl) (fun w' => ?_) ?_; rotate_left; (focus (go_simp; (try with_reducible rfl); (try (rw [if_pos (by omega)]; (try with_reducible rfl))))); (try simp only [Act.put, List.setIfInBounds_toArray, List.set_cons_zero, List.set_cons_succ]))
    refine o_sole (fun K hK => ?_)
    have fz := KY.out.frozen 1
    have cz := KY.out.cell 1
    simp only [List.getElem?_toArray, List.getElem?_cons_zero, List.getElem?_cons_succ] at cz
    go_wp2_with fail
    refine hK _ _ (fun h => by cases h) ?_; clear hK K
    have hs : Solo Y w9 (w9.setCell ⟨Y, 1, none⟩ (.slice A9 (bn + nx) c9)) := Solo.refl.setCell 1 _
    replace KX := Lib.hid (hs.blk KX.out XY.out)
    replace BB := Lib.hid (BB.out.trans (hs.1.mono YW.out))
    replace WF := Lib.hid (own_kept WF.out fun g hg => hs.2.2 g (fun e => own_nt WF.out KY.out (by decide) (by rw [hg, e])))
    replace WU := Lib.hid (own_kept WU.out fun g hg => hs.2.2 g (fun e => own_nt WU.out KY.out (by decide) (by rw [hg, e])))
    replace O9 := Lib.hid (O9.out.kept fun g hg => hs.2.2 g (fun e => own_nt O9.out KY.out (by decide) (by rw [hg, e])))
    replace KY := Lib.hid (KY.out.set 1 (.slice A9 (bn + nx) c9))
    clear hs fz cz
    generalize w9.setCell ⟨Y, 1, none⟩ (.slice A9 (bn + nx) c9) = w10 at *
    refine o_nil (hQ.out _ _ ?_); clear hQ QQ
    obtain ⟨c0, c1, c2⟩ : w10.cell? ⟨Y, 0, none⟩ = some (.slice none 0 0) ∧ w10.cell? ⟨Y, 1, none⟩ = some (.slice A9 (bn + nx) c9) ∧ w10.cell? ⟨Y, 2, none⟩ = some (.slice none 0 0) := ⟨(KY.out.cell 0).trans rfl, (KY.out.cell 1).trans rfl, (KY.out.cell 2).trans rfl⟩
    go_wp2_with (refine stm_store (cs' := #[.slice none 0 0, .slice A9 (bn + nx) c9, .slice none 0 0]) KX.out rfl _ _ rfl rfl rfl (by simp) (by kernel_rfl) (by simp [Value.oneCell']) (by simp [setL]) fun w99 hk hs => ?_)
    have hx : w.heap.size ≤ X := by rw [HX.out]; exact Nat.le_refl _
    replace BB := Lib.hid (BB.out.trans (hs.1.mono hx))
    replace WF := Lib.hid (own_kept WF.out fun g hg => hs.2.2 g (fun e => own_nt WF.out KX.out (by decide) (by rw [hg, e])))
    replace WU := Lib.hid (own_kept WU.out fun g hg => hs.2.2 g (fun e => own_nt WU.out KX.out (by decide) (by rw [hg, e])))
    replace KY := Lib.hid (hs.blk KY.out (fun e => XY.out e.symm))
    replace O9 := Lib.hid (O9.out.kept fun g hg => hs.2.2 g (fun e => own_nt O9.out KX.out (by decide) (by rw [hg, e])))
    refine bodyPost_ret (results_agg Try.results4 hk (by rfl) (by kernel_rfl) (by kernel_rfl)) rfl ?_
    exact ⟨_, _, _, _, _, _, f, u, rfl, Zats.nil _ _ _ _, O9.out, Zats.nil _ _ _ _, BB.out, ⟨PF.out, QF.out, PU.out, QU.out, by unfold askN; rw [if_neg (by omega), if_neg (by omega), if_neg (by rintro ⟨_, h⟩; rw [← HGN.out] at h; exact hg0 h)]; rfl, by rw [HBL.out, HXS.out, if_pos ⟨rfl, by rw [← HGN.out]; exact hg0⟩], by rw [if_neg (by omega)]⟩⟩
set_option maxRecDepth 20000 in
set_option maxHeartbeats 4000000 in
theorem pl_make4 (way : Int) (h1 : ¬ way = 1) (h2 : ¬ way = 2) (h3 : ¬ way = 3) (most : Int) (A : Option Addr) (n c : Nat) (l : List Plp) (w : World) (h : Rd w w.heap.size 7 A n (plps l)) (hm : n ≤ 100) :
    Calls Try.prog 4 #[.int .i64 way, .int .i64 most, .slice A n c] w fun e w' => ∃ va vd vs ask drop spare f u, e = .returned (.agg #[va, vd, vs]) ∧ Zats w' 3 .i64 w.heap.size va ask ∧ Zats w' 3 .i64 w.heap.size vd drop ∧ Zats w' 3 .i64 w.heap.size vs spare ∧ Below w.heap.size w w' ∧ MkP way most l f u ask drop spare := by
  have HR := Lib.hid h
  have HL := Lib.hid h.plpLen
  have HM := Lib.hid hm
  clear h hm
  have h1' : (way == 1) = false := by simpa using h1
  have h2' : (way == 2) = false := by simpa using h2
  have h3' : (way == 3) = false := by simpa using h3
  have KX := Lib.hid (Blk.new w 28 #[.slice none 0 0, .slice none 0 0, .slice none 0 0])
  have BB := Lib.hid ((Below.refl w.heap.size w).alloc (Nat.le_refl _) (.cells #[.slice none 0 0, .slice none 0 0, .slice none 0 0] 28))
  go_enter Try.func4, Try.ntmps4
  go_upto_region 1 with fail
  generalize w.alloc (.cells #[.slice none 0 0, .slice none 0 0, .slice none 0 0] 28) = w1 at KX BB ⊢
  obtain ⟨X, hX⟩ : ∃ X, X = w.heap.size := ⟨_, rfl⟩
  have HX := Sh.mk hX
  rw [← hX] at KX ⊢
  clear hX
  have HC := Lib.hid (pl_free A n c l w1 ((HR.out.below BB.out).mono BB.out.size) HM.out)
  go_wp2_with fail
  refine (HC.out).mono ?_
  rintro e w2 ⟨vf, f, rfl, ho, hb, hp, hq⟩
  obtain ⟨Af, cf, rfl, hnc, _, _⟩ := own_form ho
  have hfl : f.length ≤ 100 := by rw [hp.length_eq]; have := List.length_filter_le frP l; have := HL.out; have := HM.out; omega
  have PF := Sh.mk hp
  have QF := Sh.mk hq
  have NF := Lib.hid hnc
  have WF := Lib.hid (own_mono ho BB.out.size)
  replace KX := Lib.hid (KX.out.below hb KX.out.lt)
  replace BB := Lib.hid (BB.out.trans ((hb).mono BB.out.size))
  clear ho hb hp hq hnc HC
  obtain ⟨fn, hfn⟩ : ∃ fn, fn = f.length := ⟨_, rfl⟩
  have HFN := Sh.mk hfn
  rw [← hfn] at WF NF hfl ⊢
  clear hfn
  have HC := Lib.hid (pl_used A n c l w2 ((HR.out.below BB.out).mono BB.out.size) HM.out)
  go_wp2_with fail
  refine (HC.out).mono ?_
  rintro e w3 ⟨vu, u, rfl, ho, hb, hp, hq⟩
  obtain ⟨Au, cu, rfl, hnc, _, _⟩ := own_form ho
  have hul : u.length ≤ 100 := by rw [hp.length_eq]; have := List.length_filter_le usP l; have := HL.out; have := HM.out; omega
  have PU := Sh.mk hp
  have QU := Sh.mk hq
  have NU := Lib.hid hnc
  have WU := Lib.hid (own_mono ho BB.out.size)
  replace KX := Lib.hid (KX.out.below hb KX.out.lt)
  replace BB := Lib.hid (BB.out.trans ((hb).mono BB.out.size))
  replace WF := Lib.hid (own_below WF.out hb fun g hg => (WF.out.lt g hg).2)
  clear ho hb hp hq hnc HC
  obtain ⟨un, hun⟩ : ∃ un, un = u.length := ⟨_, rfl⟩
  have HUN := Sh.mk hun
  rw [← hun] at WU NU hul ⊢
  clear hun
  obtain ⟨ro, hro⟩ : ∃ ro, ro = roomI most un := ⟨_, rfl⟩
  have HRO := Sh.mk hro
  have HR1 := Lib.hid (show Calls Try.prog 8 #[.int .i64 most, .int .i64 (un : Nat)] w3 fun e w' => e = .returned (.int .i64 ro) ∧ w' = w3 by rw [hro]; exact pl_room most un hul w3)
  clear hro
  have HC := Lib.hid (pl_picked 10 gdP (enters_of Try.func10 (by kernel_rfl) rfl) p_good Au un cu u w3 (Rd.of_own WU.out) hul)
  go_wp2_with fail
  refine (HR1.out).mono ?_
  rintro e w4 ⟨rfl, hw⟩
  have hw := hw.symm
  subst hw
  go_wp2_with fail
  refine (HC.out).mono ?_
  rintro e w4 ⟨vg, rfl, ho, hb⟩
  obtain ⟨Ag, cg, rfl, _, _, _⟩ := own_form ho
  have hgl : (u.filter gdP).length ≤ 100 := by have := List.length_filter_le gdP u; have := HUN.out; omega
  replace KX := Lib.hid (KX.out.below hb KX.out.lt)
  replace BB := Lib.hid (BB.out.trans ((hb).mono BB.out.size))
  replace WF := Lib.hid (own_below WF.out hb fun g hg => (WF.out.lt g hg).2)
  replace WU := Lib.hid (own_below WU.out hb fun g hg => (WU.out.lt g hg).2)
  clear ho hb HC HR1
  obtain ⟨gn, hgn⟩ : ∃ gn, gn = (u.filter gdP).length := ⟨_, rfl⟩
  have HGN := Sh.mk (show gn = gdN u from hgn)
  rw [← hgn] at hgl ⊢
  clear hgn
  have HC := Lib.hid (pl_picked 12 baP (enters_of Try.func12 (by kernel_rfl) rfl) p_bar A n c l w4 ((HR.out.below BB.out).mono BB.out.size) HM.out)
  go_wp2_with fail
  refine (HC.out).mono ?_
  rintro e w5 ⟨vb, rfl, ho, hb⟩
  obtain ⟨Ab, cb, rfl, _, _, hr⟩ := own_form ho
  have zbl : (l.filter baP).length ≤ 100 := by have := List.length_filter_le baP l; have := HL.out; have := HM.out; omega
  have RB := Lib.hid hr
  replace KX := Lib.hid (KX.out.below hb KX.out.lt)
  replace BB := Lib.hid (BB.out.trans ((hb).mono BB.out.size))
  replace WF := Lib.hid (own_below WF.out hb fun g hg => (WF.out.lt g hg).2)
  replace WU := Lib.hid (own_below WU.out hb fun g hg => (WU.out.lt g hg).2)
  clear ho hb hr HC
  obtain ⟨bl, hbl⟩ : ∃ bl, bl = l.filter baP := ⟨_, rfl⟩
  have HBL := Sh.mk hbl
  rw [← hbl] at RB zbl ⊢
  clear hbl
  generalize hbn : bl.length = bn at *
  have HC := Lib.hid (pl_ids Ab bn cb bl w5 RB.out zbl)
  clear hbn
  go_wp2_with fail
  refine (HC.out).mono ?_
  rintro e w6 ⟨vd, rfl, ho, hb⟩
  obtain ⟨Ad, cd, rfl, _⟩ := ho.form
  have hdl : (bl.map Plp.id).length = bn := by rw [List.length_map]; exact RB.out.plpLen
  have OD := Lib.hid (ho.mono BB.out.size)
  rw [hdl] at OD ⊢
  have HDL := Sh.mk hdl
  replace KX := Lib.hid (KX.out.below hb KX.out.lt)
  replace BB := Lib.hid (BB.out.trans ((hb).mono BB.out.size))
  replace WF := Lib.hid (own_below WF.out hb fun g hg => (WF.out.lt g hg).2)
  replace WU := Lib.hid (own_below WU.out hb fun g hg => (WU.out.lt g hg).2)
  clear ho hb hdl HC RB
  go_upto_region 4 with fail
  have KY := Lib.hid (Blk.new w6 28 #[.slice none 0 0, .slice Ad bn cd, .slice none 0 0])
  have hb := (Below.refl w6.heap.size w6).alloc (Nat.le_refl _) (.cells #[.slice none 0 0, .slice Ad bn cd, .slice none 0 0] 28)
  have XY := Sh.mk (show X ≠ w6.heap.size from Nat.ne_of_lt KX.out.lt)
  have YW := Lib.hid (show w.heap.size ≤ w6.heap.size from BB.out.size)
  replace KX := Lib.hid (KX.out.below hb KX.out.lt)
  replace BB := Lib.hid (BB.out.trans ((hb).mono BB.out.size))
  replace WF := Lib.hid (own_below WF.out hb fun g hg => (WF.out.lt g hg).2)
  replace WU := Lib.hid (own_below WU.out hb fun g hg => (WU.out.lt g hg).2)
  replace OD := Lib.hid (OD.out.below hb)
  obtain ⟨Y, hY⟩ : ∃ Y, Y = w6.heap.size := ⟨_, rfl⟩
  rw [← hY] at KY XY YW ⊢
  clear hb hY
  generalize w6.alloc (.cells #[.slice none 0 0, .slice Ad bn cd, .slice none 0 0] 28) = w7 at *
  go_upto_region 14 with fail
  obtain ⟨c0, c1, c2⟩ : w7.cell? ⟨Y, 0, none⟩ = some (.slice none 0 0) ∧ w7.cell? ⟨Y, 1, none⟩ = some (.slice Ad bn cd) ∧ w7.cell? ⟨Y, 2, none⟩ = some (.slice none 0 0) := ⟨(KY.out.cell 0).trans rfl, (KY.out.cell 1).trans rfl, (KY.out.cell 2).trans rfl⟩
  go_wp2_with (refine stm_store (cs' := #[.slice none 0 0, .slice Ad bn cd, .slice none 0 0]) KX.out rfl _ _ rfl rfl rfl (by simp) (by kernel_rfl) (by simp [Value.oneCell']) (by simp [setL]) fun w99 hk hs => ?_)
  have hx : w.heap.size ≤ X := by rw [HX.out]; exact Nat.le_refl _
  replace BB := Lib.hid (BB.out.trans (hs.1.mono hx))
  replace WF := Lib.hid (own_kept WF.out fun g hg => hs.2.2 g (fun e => own_nt WF.out KX.out (by decide) (by rw [hg, e])))
  replace WU := Lib.hid (own_kept WU.out fun g hg => hs.2.2 g (fun e => own_nt WU.out KX.out (by decide) (by rw [hg, e])))
  replace OD := Lib.hid (OD.out.kept fun g hg => hs.2.2 g (fun e => own_nt OD.out KX.out (by decide) (by rw [hg, e])))
  replace KY := Lib.hid (hs.blk KY.out (fun e => XY.out e.symm))
  refine bodyPost_ret (results_agg Try.results4 hk (by rfl) (by kernel_rfl) (by kernel_rfl)) rfl ?_
  exact ⟨_, _, _, _, _, _, f, u, rfl, Zats.nil _ _ _ _, OD.out, Zats.nil _ _ _ _, BB.out, ⟨PF.out, QF.out, PU.out, QU.out, by unfold askN; rw [if_neg h1, if_neg h2, if_neg (by rintro ⟨h, _⟩; exact h3 h)]; rfl, by rw [HBL.out, if_neg (by rintro ⟨h, _⟩; exact h3 h), List.append_nil], by rw [if_neg h2]⟩⟩
theorem pl_make (way most : Int) (A : Option Addr) (n c : Nat) (l : List Plp) (w : World) (h : Rd w w.heap.size 7 A n (plps l)) (hm : n ≤ 100) :
    Calls Try.prog 4 #[.int .i64 way, .int .i64 most, .slice A n c] w fun e w' => ∃ va vd vs ask drop spare f u, e = .returned (.agg #[va, vd, vs]) ∧ Zats w' 3 .i64 w.heap.size va ask ∧ Zats w' 3 .i64 w.heap.size vd drop ∧ Zats w' 3 .i64 w.heap.size vs spare ∧ Below w.heap.size w w' ∧ MkP way most l f u ask drop spare := by
  by_cases h1 : way = 1
  · subst h1; exact pl_make1 most A n c l w h hm
  by_cases h2 : way = 2
  · subst h2; exact pl_make2 most A n c l w h hm
  by_cases h3 : way = 3
  · subst h3; exact pl_make3 most A n c l w h hm
  exact pl_make4 way h1 h2 h3 most A n c l w h hm
end Go.Proofs.Ytbimjacceocglaa
