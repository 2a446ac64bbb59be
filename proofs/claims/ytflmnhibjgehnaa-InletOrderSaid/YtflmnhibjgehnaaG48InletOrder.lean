/- Layer 18: the law InletOrder answers true, and nothing that was there has turned. -/
import Derived.Test.YtflmnhibjgehnaaG46InletOrder
import Derived.Test.YtflmnhibjgehnaaInO

namespace Go.Proofs.Ytflmnhibjgehnaa
open Go.RowKit
set_option linter.unusedVariables false
set_option linter.unusedSimpArgs false
theorem ns_cut {w : World} {B n c h k : Nat} {A : Option Addr} {l : List Nat} (hr : Rd w B 1 A n (ns .u8 l)) (h1 : h ≤ k) (h2 : k ≤ n) (hc : n ≤ c) : Rd w B 1 (cutA A c h 1) (k - h) (ns .u8 ((l.drop h).take (k - h))) := hr.cutTo h1 h2 hc
set_option maxRecDepth 20000 in
set_option maxHeartbeats 8000000 in
theorem inletOrder_walk (size : Int) (A A2 : Option Addr) (n c n2 c2 : Nat) (bs : List Nat) (l : List InOp) (w : World) (hz : -9223372036854775808 ≤ size ∧ size < 9223372036854775808) (hr : Rd w w.heap.size 1 A n (ns .u8 bs)) (hnc : n ≤ c) (hmax : c ≤ maxLen) (hlt : ∀ x ∈ bs, x < 256)
    (hr2 : Rd w w.heap.size 5 A2 n2 (incs l)) (hok : ∀ q ∈ l, q.ok w) :
    Calls Try.prog 3 #[.int .i64 size, .slice A n c, .slice A2 n2 c2] w fun e w' => e = .returned (.bool true) ∧ Below w.heap.size w w' := by
  have HR := Sh.mk hr; have HB := Sh.mk hlt; have HR2 := Sh.mk hr2; have HOK := Sh.mk hok; have HZ := Sh.mk hz
  have HGR := Sh.mk (great18 A2 n2 c2 l w hr2)
  have HL := Sh.mk (show bs.length = n by have := hr.1; simpa [ns] using this)
  have HL2 := Sh.mk (show l.length = n2 by have := hr2.1; rw [incs_len] at this; omega)
  unfold maxLen at hmax
  have HM := Sh.mk hmax
  clear hr hlt hr2 hok hz hmax
  by_cases h1 : size < 1
  · go_enter Try.func3, Try.ntmps3
    go_wp2_with fail
    go_ret
    exact ⟨rfl, Below.refl _ _⟩
  by_cases h2 : 200 < size
  · go_enter Try.func3, Try.ntmps3
    go_wp2_with fail
    go_ret
    exact ⟨rfl, Below.refl _ _⟩
  obtain ⟨z, rfl⟩ : ∃ z : Nat, size = (z : Int) := ⟨size.toNat, by omega⟩
  have hz1 : 1 ≤ z := by omega
  have hz2 : z ≤ 200 := by omega
  clear h1 h2
  have h1 : (1 : Int) ≤ (z : Int) := by omega
  have h2 : (z : Int) ≤ 200 := by omega
  by_cases hn : 500 < n
  · have hn' : (500 : Int) < (n : Int) := by omega
    go_enter Try.func3, Try.ntmps3
    go_wp2_with fail
    go_ret
    exact ⟨rfl, Below.refl _ _⟩
  have hn2 : n ≤ 500 := by omega
  have hn2' : (n : Int) ≤ 500 := by omega
  clear hn
  go_enter Try.func3, Try.ntmps3
  go_wp2_with fail
  refine HGR.out.mono ?_
  rintro e w0 ⟨b, rfl, hb0, hgr⟩
  cases b
  case true =>
    dsimp only
    go_wp2_with fail
    go_ret
    exact ⟨rfl, hb0⟩
  case false =>
  dsimp only
  obtain ⟨hn60, _⟩ := hgr rfl
  have HB0 := Sh.mk hb0
  clear hb0 hgr HGR
  go_wp2_with fail
  refine (in_new z 4 w0 hz1 (by omega) (by omega)).mono ?_
  rintro e w1 ⟨x, g, p, s, rfl, hi, hb1⟩
  have HI1 := Sh.mk (show IN w1 w0.heap.size x g p s ⟨0, z, 0, 4, 0, false, [], List.replicate z 0⟩ from hi)
  have HB1 := Sh.mk (HB0.out.trans (hb1.mono HB0.out.size))
  have c0 := hi.c0
  have HW0 := Sh.mk (show w.heap.size ≤ w0.heap.size ∧ w.heap.size ≤ p from ⟨HB0.out.size, Nat.le_trans HB0.out.size hi.bp⟩)
  clear hi hb1
  go_wp2_with fail
  clear c0
  generalize w0.heap.size = B0 at HI1 HW0
  go_loopw [9, 10] (fun outv iv wr => ∃ (i : Nat) (st : Ist) (so : ByteArray), i ≤ n2 ∧ iv = .int .i64 i ∧ outv = .string so ∧ Sh (IN wr B0 x g p s st) ∧ Sh (OrdI bs st ∧ st.size = z ∧ st.most = 4 ∧ so = strN (bs.take st.base)) ∧ Sh (Below w.heap.size w wr)) (fun _ iv _ => n2 - (intOf iv).toNat)
  case atStart => exact ⟨0, _, ByteArray.empty, Nat.zero_le _, rfl, rfl, HI1, Sh.mk ⟨OrdI.zero bs z 4, rfl, rfl, by rw [List.take_zero]; rfl⟩, HB1⟩
  case round =>
    obtain ⟨i, st, so, hi, rfl, rfl, HI, HO, HBW⟩ := hrel
    clear HI1 HB1 w1 HB0
    by_cases hlt : i < n2
    · have hlt' : (i : Int) < (n2 : Int) := by omega
      obtain ⟨b2, o2, q, rfl, hb2, c0, c1, c2', c3, c4, hq⟩ := (HR2.out.below HBW.out).inop hlt
      have hqo := HOK.out q (List.mem_of_getElem? hq)
      obtain ⟨k, nn, at_, far, Aq, mq, cq, lq⟩ := q
      have hk := hqo.k
      have hnn := hqo.nn
      have hat := hqo.at_
      dsimp only at c0 c1 c2' c3 c4 hk hnn hat
      clear c3 c4 hq hqo
      -- from, to
      obtain ⟨f, hf⟩ : ∃ f, f = at_ % (n + 1) := ⟨_, rfl⟩
      have hfn : f ≤ n := by have := Nat.mod_lt at_ (show 0 < n + 1 by omega); omega
      have w1' : IntKind.i64.wrap ((n : Int) + 1) = ((n + 1 : Nat) : Int) := by rw [IntKind.wrap_i64]; omega
      have w2' : IntKind.u64.wrap ((n + 1 : Nat) : Int) = ((n + 1 : Nat) : Int) := by rw [IntKind.wrap_u64]; omega
      obtain ⟨n1, hn1⟩ : ∃ n1, n1 = n + 1 := ⟨_, rfl⟩
      rw [← hn1] at w1' w2' hf
      have hmod : (at_ : Int).tmod (n1 : Int) = (f : Nat) := by rw [Int.tmod_eq_emod_of_nonneg (by omega)]; omega
      have hn10 : ((n1 : Int) == 0) = false := by simp; omega
      have hn11 : (n1 == 0) = false := by simp; omega
      have hn12 : (n1 : Int) ≠ 0 := by omega
      have hn13 : n1 ≠ 0 := by omega
      have w3' : IntKind.i64.wrap (f : Int) = (f : Nat) := by rw [IntKind.wrap_i64]; omega
      have w4' : IntKind.u64.wrap (f : Int) = (f : Nat) := by rw [IntKind.wrap_u64]; omega
      obtain ⟨r1, hr1⟩ : ∃ r1 : Int, nn.tmod 20 = r1 := ⟨_, rfl⟩
      have hr1a : r1 < 20 := by rw [← hr1]; exact Int.tmod_lt_of_pos nn (by omega)
      have hr1b : -20 < r1 := by rw [← hr1]; have := Int.lt_tmod_of_pos nn (show (0 : Int) < 20 by omega); omega
      have hr1w : IntKind.i64.wrap r1 = r1 := by rw [IntKind.wrap_i64]; omega
      obtain ⟨s1, hs1e⟩ : ∃ s1 : Nat, r1 + 20 = (s1 : Int) := ⟨(r1 + 20).toNat, by omega⟩
      have hs1w : IntKind.i64.wrap (s1 : Int) = (s1 : Nat) := by rw [IntKind.wrap_i64]; omega
      obtain ⟨m, hm⟩ : ∃ m, m = s1 % 20 := ⟨_, rfl⟩
      have hmt : (s1 : Int).tmod 20 = (m : Nat) := by rw [Int.tmod_eq_emod_of_nonneg (by omega)]; omega
      have hmw : IntKind.i64.wrap (m : Int) = (m : Nat) := by rw [IntKind.wrap_i64]; omega
      obtain ⟨t0, ht0⟩ : ∃ t0, t0 = f + m := ⟨_, rfl⟩
      have ht0w : IntKind.i64.wrap ((f : Int) + (m : Int)) = (t0 : Nat) := by rw [IntKind.wrap_i64]; omega
      obtain ⟨t, ht⟩ : ∃ t, t = min t0 n := ⟨_, rfl⟩
      have hft : f ≤ t ∧ t ≤ n := by omega
      obtain ⟨d, hd⟩ : ∃ d, d = t - f := ⟨_, rfl⟩
      have hrun : ∀ w, (Instr.slice 22 (.slice A n c) (some (.int .i64 (f : Int))) (some (.int .i64 (t : Int))) none).run Try.prog w = .ok (.slice (cutA A c f 1) d (c - f)) w := fun w => by rw [hd]; exact run_cut_lh elB A n c f t hft.1 (by omega) w
      have hU : Try.prog.underlying 22 = some (.slice (Try.prog.elem 22)) := by unfold Program.elem; rw [Try.underlying22]
      have hrun2 : ∀ w, (Instr.sliceAt 22 (.slice A n c) (some (.int .i64 (f : Int))) (some (.int .i64 (t : Int))) none).run Try.prog w = .ok (.slice (cutA A c f 1) d (c - f)) w := fun w => (run_sliceAt_slice w _ _ _ _ _ hU).trans (hrun w)
      have HFAR := Sh.mk (show FarI B0 x g p s wr (cutA A c f 1) d ((bs.drop f).take d) from fun w' k' => by
        have h := ((HR.out.below HBW.out).below ((HI.out.bel k').mono HW0.out.1)).cutTo hft.1 hft.2 hnc
        rw [← hd] at h
        exact h.mono HBW.out.size)
      have HAPT := Sh.mk (Apart.cut (m := d) (c := c) (h := f) (sz := 1) HR.out (HR.out.apt HW0.out.2) (by omega))
      have HLD := Sh.mk (show ((bs.drop f).take d).length = d ∧ d ≤ c - f ∧ d ≤ 1000000 ∧ f + d ≤ bs.length by have := HL.out; rw [List.length_take, List.length_drop]; omega)
      generalize cutA A c f 1 = AC at hrun hrun2 HFAR HAPT
      generalize c - f = cc at hrun hrun2 HLD
      have HF6 := Sh.mk (show f < pmax by unfold pmax; omega)
      clear hf hfn hn1 hr1a hr1b ht0 hft hd hU hm hk hat
      obtain ⟨st2, hst2⟩ : ∃ st2, st2 = (st.put f ((bs.drop f).take d)).1 := ⟨_, rfl⟩
      obtain ⟨b2', hb2'⟩ : ∃ b2', b2' = (st.put f ((bs.drop f).take d)).2 := ⟨_, rfl⟩
      have HPUT := Sh.mk (in_put B0 x g p s st f AC d cc ((bs.drop f).take d) wr HI.out HF6.out HLD.out.1 (fun y hy => HB.out y (List.mem_of_mem_drop (List.mem_of_mem_take hy))) HLD.out.2.1 HLD.out.2.2.1 HAPT.out HFAR.out)
      rw [← hst2, ← hb2'] at HPUT
      have HO2 := Sh.mk (show OrdI bs st2 ∧ st2.size = z ∧ st2.most = 4 ∧ so = strN (bs.take st2.base) by
        have hp := st.put_same (f := f) (bs := (bs.drop f).take d)
        rw [← hst2] at hp
        refine ⟨by rw [hst2]; exact HO.out.1.put HI.out.ok HLD.out.2.2.2, hp.2.1.trans HO.out.2.1, hp.2.2.1.trans HO.out.2.2.1, by rw [hp.1]; exact HO.out.2.2.2⟩)
      clear hst2 hb2' HFAR HAPT HLD
      have hcase : (n < t0 ∧ (n : Int) < (t0 : Int) ∧ n = t) ∨ (¬ n < t0 ∧ ¬ (n : Int) < (t0 : Int) ∧ t0 = t) := by omega
      clear ht
      rcases hcase with ⟨ca, cb, rfl⟩ | ⟨ca, cb, rfl⟩
      · go_wp2_with fail
        refine HPUT.out.mono ?_
        rintro e w3 ⟨rfl, h3, k3⟩
        have H3 := Sh.mk h3
        have HB3 := Sh.mk (HBW.out.trans ((HI.out.bel k3).mono HW0.out.1))
        have c0 := (HB3.out.cell (p := ⟨b2, o2 + i * 5, none⟩) hb2).trans ((HBW.out.cell (p := ⟨b2, o2 + i * 5, none⟩) hb2).symm.trans c0)
        have c1 := (HB3.out.cell (p := ⟨b2, o2 + i * 5 + 1, none⟩) hb2).trans ((HBW.out.cell (p := ⟨b2, o2 + i * 5 + 1, none⟩) hb2).symm.trans c1)
        clear h3 k3 HPUT HO HI HBW c2' hrun hrun2 w1' w2' hmod hn10 hn11 hn12 hn13 w3' w4' hr1 hr1w hs1w hs1e hmt hmw ht0w ca cb
        obtain ⟨k3, hk3⟩ : ∃ k3 : Int, k.tmod 3 = k3 := ⟨_, rfl⟩
        have hk3a : k3 < 3 := by rw [← hk3]; exact Int.tmod_lt_of_pos k (by omega)
        have hk3b : -3 < k3 := by rw [← hk3]; have := Int.lt_tmod_of_pos k (show (0 : Int) < 3 by omega); omega
        have hk3w : IntKind.i64.wrap k3 = k3 := by rw [IntKind.wrap_i64]; omega
        clear hk3a hk3b
        have hbs2 : st2.base ≤ n := by have := HO2.out.1.nx; unfold Ist.next at this; rw [HL.out] at this; omega
        by_cases hk0 : k3 = 0
        · have hk1 : (k3 == 0) = true := by simpa using hk0
          clear hk0
          obtain ⟨r1, hr1⟩ : ∃ r1 : Int, nn.tmod 9 = r1 := ⟨_, rfl⟩
          have hr1a : r1 < 9 := by rw [← hr1]; exact Int.tmod_lt_of_pos nn (by omega)
          have hr1b : -9 < r1 := by rw [← hr1]; have := Int.lt_tmod_of_pos nn (show (0 : Int) < 9 by omega); omega
          have hr1w : IntKind.i64.wrap r1 = r1 := by rw [IntKind.wrap_i64]; omega
          obtain ⟨s1, hs1e⟩ : ∃ s1 : Nat, r1 + 9 = (s1 : Int) := ⟨(r1 + 9).toNat, by omega⟩
          have hs1w : IntKind.i64.wrap (s1 : Int) = (s1 : Nat) := by rw [IntKind.wrap_i64]; omega
          obtain ⟨m9, hm⟩ : ∃ m, m = s1 % 9 := ⟨_, rfl⟩
          have hmt : (s1 : Int).tmod 9 = (m9 : Nat) := by rw [Int.tmod_eq_emod_of_nonneg (by omega)]; omega
          have hmw : IntKind.i64.wrap (m9 : Int) = (m9 : Nat) := by rw [IntKind.wrap_i64]; omega
          have HTK := Sh.mk (in_take B0 x g p s st2 (m9 : Int) w3 H3.out (by omega) (by have := HO2.out.2.1; unfold iLim; omega))
          clear hr1a hr1b hm
          obtain ⟨kk, hkk⟩ : ∃ kk, kk = st2.many (m9 : Int) := ⟨_, rfl⟩
          rw [← hkk] at HTK
          have hkt : kk ≤ st2.there := by rw [hkk]; unfold Ist.many; omega
          have hot := HO2.out.1.take H3.out.ok hkt
          obtain ⟨st3, hst3⟩ : ∃ st3, st3 = st2.take kk := ⟨_, rfl⟩
          have HO3 := Sh.mk (show OrdI bs st3 ∧ st3.size = z ∧ st3.most = 4 by rw [hst3]; exact ⟨hot.1, HO2.out.2.1, HO2.out.2.2.1⟩)
          rw [← hst3] at HTK
          obtain ⟨got, hgot⟩ : ∃ got, got = st2.L.take kk := ⟨_, rfl⟩
          rw [← hgot] at HTK
          have HCAT := Sh.mk (show bs.take st3.base = bs.take st2.base ++ got by rw [hst3, hgot]; exact hot.2.2)
          have HGL := Sh.mk (show got.length ≤ 500 by
            have h9 := congrArg List.length hot.2.2
            rw [← hgot, List.length_append, List.length_take, List.length_take, HL.out] at h9
            omega)
          generalize st2.terr (m9 : Int) = er at HTK
          clear hkk hkt hot hst3 hgot
          obtain ⟨b3, hb3⟩ : ∃ b3, b3 = st3.base := ⟨_, rfl⟩
          have hb3n : b3 ≤ n := by have := HO3.out.1.nx; unfold Ist.next at this; rw [HL.out] at this; omega
          obtain ⟨so3, hso3⟩ : ∃ so3, so3 = strN (bs.take b3) := ⟨_, rfl⟩
          have hpre : strN (bs.take b3) = so3 := hso3.symm
          have hsz : so3.size = b3 := by rw [hso3, strN_size, List.length_take, HL.out]; omega
          have HSO3 := Sh.mk (show so3 = strN (bs.take st3.base) by rw [hso3, hb3])
          have hrunh : ∀ w, (Instr.slice 22 (.slice A n c) none (some (.int .i64 (b3 : Int))) none).run Try.prog w = .ok (.slice A b3 c) w := fun w => run_cut_h elB A n c b3 (by omega) w
          have hUU : Try.prog.underlying 22 = some (.slice (Try.prog.elem 22)) := by unfold Program.elem; rw [Try.underlying22]
          have hrunh2 : ∀ w, (Instr.sliceAt 22 (.slice A n c) none (some (.int .i64 (b3 : Int))) none).run Try.prog w = .ok (.slice A b3 c) w := fun w => (run_sliceAt_slice w _ _ _ _ _ hUU).trans (hrunh w)
          have g1 : ¬ (n < b3) := by omega
          have g2 : ¬ ((n : Int) < (b3 : Int)) := by omega
          clear hUU hso3 hb3
          have hcat : so ++ strN got = so3 := by rw [HO2.out.2.2.2, ← strN_append, ← HCAT.out, HSO3.out]
          have hsb : so.size + (strN got).size ≤ 100000 := by
            have h8 := strN_size (bs.take st2.base)
            have h9 := strN_size got
            rw [← HO2.out.2.2.2, List.length_take] at h8
            have := HGL.out
            omega
          clear hbs2
          go_wp2_with fail
          refine HTK.out.mono ?_
          rintro e w5 ⟨⟨v, rfl, hv⟩, h5, k5⟩
          have HI3 := Sh.mk h5
          have HB5 := Sh.mk (HB3.out.trans ((H3.out.bel k5).mono HW0.out.1))
          obtain ⟨A5, n5, c5, rfl, hc5, hln5, hrd5⟩ := hv.out
          have HRD5 := Sh.mk hrd5.out
          have HPRE := Sh.mk ((HR.out.below HB5.out).takeN hb3n)
          clear h5 k5 hv hln5 hrd5 HTK H3 HB3 c0 c1 hr1 hr1w hs1e hs1w hmt hmw
          go_wp2_with (first | (refine wpList_conv Try.underlying22 Try.underlying5 Try.underlying9 rfl _ rfl rfl HRD5.out ?_) | (refine wpList_conv Try.underlying22 Try.underlying5 Try.underlying9 rfl _ rfl rfl HPRE.out ?_))
          go_wp2_with fail
          go_roundw
          case rel => exact ⟨i + 1, st3, so3, by omega, by go_num, rfl, HI3, Sh.mk ⟨HO3.out.1, HO3.out.2.1, HO3.out.2.2, HSO3.out⟩, HB5⟩
          case measure => simp [intOf]; omega
        · have hk1 : (k3 == 0) = false := by simpa using hk0
          clear hk0
          have HO3 := Sh.mk (show OrdI bs st2 ∧ st2.size = z ∧ st2.most = 4 from ⟨HO2.out.1, HO2.out.2.1, HO2.out.2.2.1⟩)
          obtain ⟨b3, hb3⟩ : ∃ b3, b3 = st2.base := ⟨_, rfl⟩
          have hb3n : b3 ≤ n := by have := HO3.out.1.nx; unfold Ist.next at this; rw [HL.out] at this; omega
          obtain ⟨so3, hso3⟩ : ∃ so3, so3 = strN (bs.take b3) := ⟨_, rfl⟩
          have hpre : strN (bs.take b3) = so3 := hso3.symm
          have hsz : so3.size = b3 := by rw [hso3, strN_size, List.length_take, HL.out]; omega
          have HSO3 := Sh.mk (show so3 = strN (bs.take st2.base) by rw [hso3, hb3])
          have hrunh : ∀ w, (Instr.slice 22 (.slice A n c) none (some (.int .i64 (b3 : Int))) none).run Try.prog w = .ok (.slice A b3 c) w := fun w => run_cut_h elB A n c b3 (by omega) w
          have hUU : Try.prog.underlying 22 = some (.slice (Try.prog.elem 22)) := by unfold Program.elem; rw [Try.underlying22]
          have hrunh2 : ∀ w, (Instr.sliceAt 22 (.slice A n c) none (some (.int .i64 (b3 : Int))) none).run Try.prog w = .ok (.slice A b3 c) w := fun w => (run_sliceAt_slice w _ _ _ _ _ hUU).trans (hrunh w)
          have g1 : ¬ (n < b3) := by omega
          have g2 : ¬ ((n : Int) < (b3 : Int)) := by omega
          clear hUU hso3 hb3
          have hss : so = so3 := by rw [HO2.out.2.2.2, HSO3.out]
          have HI3 := H3
          have HB5 := HB3
          have HPRE := Sh.mk ((HR.out.below HB5.out).takeN hb3n)
          subst hss
          clear hbs2 c1 H3 HB3
          go_wp2_with (refine wpList_conv Try.underlying22 Try.underlying5 Try.underlying9 rfl _ rfl rfl HPRE.out ?_)
          go_wp2_with fail
          go_roundw
          case rel => exact ⟨i + 1, st2, so, by omega, by go_num, rfl, HI3, Sh.mk ⟨HO3.out.1, HO3.out.2.1, HO3.out.2.2, HSO3.out⟩, HB5⟩
          case measure => simp [intOf]; omega
      · go_wp2_with fail
        refine HPUT.out.mono ?_
        rintro e w3 ⟨rfl, h3, k3⟩
        have H3 := Sh.mk h3
        have HB3 := Sh.mk (HBW.out.trans ((HI.out.bel k3).mono HW0.out.1))
        have c0 := (HB3.out.cell (p := ⟨b2, o2 + i * 5, none⟩) hb2).trans ((HBW.out.cell (p := ⟨b2, o2 + i * 5, none⟩) hb2).symm.trans c0)
        have c1 := (HB3.out.cell (p := ⟨b2, o2 + i * 5 + 1, none⟩) hb2).trans ((HBW.out.cell (p := ⟨b2, o2 + i * 5 + 1, none⟩) hb2).symm.trans c1)
        clear h3 k3 HPUT HO HI HBW c2' hrun hrun2 w1' w2' hmod hn10 hn11 hn12 hn13 w3' w4' hr1 hr1w hs1w hs1e hmt hmw ht0w ca cb
        obtain ⟨k3, hk3⟩ : ∃ k3 : Int, k.tmod 3 = k3 := ⟨_, rfl⟩
        have hk3a : k3 < 3 := by rw [← hk3]; exact Int.tmod_lt_of_pos k (by omega)
        have hk3b : -3 < k3 := by rw [← hk3]; have := Int.lt_tmod_of_pos k (show (0 : Int) < 3 by omega); omega
        have hk3w : IntKind.i64.wrap k3 = k3 := by rw [IntKind.wrap_i64]; omega
        clear hk3a hk3b
        have hbs2 : st2.base ≤ n := by have := HO2.out.1.nx; unfold Ist.next at this; rw [HL.out] at this; omega
        by_cases hk0 : k3 = 0
        · have hk1 : (k3 == 0) = true := by simpa using hk0
          clear hk0
          obtain ⟨r1, hr1⟩ : ∃ r1 : Int, nn.tmod 9 = r1 := ⟨_, rfl⟩
          have hr1a : r1 < 9 := by rw [← hr1]; exact Int.tmod_lt_of_pos nn (by omega)
          have hr1b : -9 < r1 := by rw [← hr1]; have := Int.lt_tmod_of_pos nn (show (0 : Int) < 9 by omega); omega
          have hr1w : IntKind.i64.wrap r1 = r1 := by rw [IntKind.wrap_i64]; omega
          obtain ⟨s1, hs1e⟩ : ∃ s1 : Nat, r1 + 9 = (s1 : Int) := ⟨(r1 + 9).toNat, by omega⟩
          have hs1w : IntKind.i64.wrap (s1 : Int) = (s1 : Nat) := by rw [IntKind.wrap_i64]; omega
          obtain ⟨m9, hm⟩ : ∃ m, m = s1 % 9 := ⟨_, rfl⟩
          have hmt : (s1 : Int).tmod 9 = (m9 : Nat) := by rw [Int.tmod_eq_emod_of_nonneg (by omega)]; omega
          have hmw : IntKind.i64.wrap (m9 : Int) = (m9 : Nat) := by rw [IntKind.wrap_i64]; omega
          have HTK := Sh.mk (in_take B0 x g p s st2 (m9 : Int) w3 H3.out (by omega) (by have := HO2.out.2.1; unfold iLim; omega))
          clear hr1a hr1b hm
          obtain ⟨kk, hkk⟩ : ∃ kk, kk = st2.many (m9 : Int) := ⟨_, rfl⟩
          rw [← hkk] at HTK
          have hkt : kk ≤ st2.there := by rw [hkk]; unfold Ist.many; omega
          have hot := HO2.out.1.take H3.out.ok hkt
          obtain ⟨st3, hst3⟩ : ∃ st3, st3 = st2.take kk := ⟨_, rfl⟩
          have HO3 := Sh.mk (show OrdI bs st3 ∧ st3.size = z ∧ st3.most = 4 by rw [hst3]; exact ⟨hot.1, HO2.out.2.1, HO2.out.2.2.1⟩)
          rw [← hst3] at HTK
          obtain ⟨got, hgot⟩ : ∃ got, got = st2.L.take kk := ⟨_, rfl⟩
          rw [← hgot] at HTK
          have HCAT := Sh.mk (show bs.take st3.base = bs.take st2.base ++ got by rw [hst3, hgot]; exact hot.2.2)
          have HGL := Sh.mk (show got.length ≤ 500 by
            have h9 := congrArg List.length hot.2.2
            rw [← hgot, List.length_append, List.length_take, List.length_take, HL.out] at h9
            omega)
          generalize st2.terr (m9 : Int) = er at HTK
          clear hkk hkt hot hst3 hgot
          obtain ⟨b3, hb3⟩ : ∃ b3, b3 = st3.base := ⟨_, rfl⟩
          have hb3n : b3 ≤ n := by have := HO3.out.1.nx; unfold Ist.next at this; rw [HL.out] at this; omega
          obtain ⟨so3, hso3⟩ : ∃ so3, so3 = strN (bs.take b3) := ⟨_, rfl⟩
          have hpre : strN (bs.take b3) = so3 := hso3.symm
          have hsz : so3.size = b3 := by rw [hso3, strN_size, List.length_take, HL.out]; omega
          have HSO3 := Sh.mk (show so3 = strN (bs.take st3.base) by rw [hso3, hb3])
          have hrunh : ∀ w, (Instr.slice 22 (.slice A n c) none (some (.int .i64 (b3 : Int))) none).run Try.prog w = .ok (.slice A b3 c) w := fun w => run_cut_h elB A n c b3 (by omega) w
          have hUU : Try.prog.underlying 22 = some (.slice (Try.prog.elem 22)) := by unfold Program.elem; rw [Try.underlying22]
          have hrunh2 : ∀ w, (Instr.sliceAt 22 (.slice A n c) none (some (.int .i64 (b3 : Int))) none).run Try.prog w = .ok (.slice A b3 c) w := fun w => (run_sliceAt_slice w _ _ _ _ _ hUU).trans (hrunh w)
          have g1 : ¬ (n < b3) := by omega
          have g2 : ¬ ((n : Int) < (b3 : Int)) := by omega
          clear hUU hso3 hb3
          have hcat : so ++ strN got = so3 := by rw [HO2.out.2.2.2, ← strN_append, ← HCAT.out, HSO3.out]
          have hsb : so.size + (strN got).size ≤ 100000 := by
            have h8 := strN_size (bs.take st2.base)
            have h9 := strN_size got
            rw [← HO2.out.2.2.2, List.length_take] at h8
            have := HGL.out
            omega
          clear hbs2
          go_wp2_with fail
          refine HTK.out.mono ?_
          rintro e w5 ⟨⟨v, rfl, hv⟩, h5, k5⟩
          have HI3 := Sh.mk h5
          have HB5 := Sh.mk (HB3.out.trans ((H3.out.bel k5).mono HW0.out.1))
          obtain ⟨A5, n5, c5, rfl, hc5, hln5, hrd5⟩ := hv.out
          have HRD5 := Sh.mk hrd5.out
          have HPRE := Sh.mk ((HR.out.below HB5.out).takeN hb3n)
          clear h5 k5 hv hln5 hrd5 HTK H3 HB3 c0 c1 hr1 hr1w hs1e hs1w hmt hmw
          go_wp2_with (first | (refine wpList_conv Try.underlying22 Try.underlying5 Try.underlying9 rfl _ rfl rfl HRD5.out ?_) | (refine wpList_conv Try.underlying22 Try.underlying5 Try.underlying9 rfl _ rfl rfl HPRE.out ?_))
          go_wp2_with fail
          go_roundw
          case rel => exact ⟨i + 1, st3, so3, by omega, by go_num, rfl, HI3, Sh.mk ⟨HO3.out.1, HO3.out.2.1, HO3.out.2.2, HSO3.out⟩, HB5⟩
          case measure => simp [intOf]; omega
        · have hk1 : (k3 == 0) = false := by simpa using hk0
          clear hk0
          have HO3 := Sh.mk (show OrdI bs st2 ∧ st2.size = z ∧ st2.most = 4 from ⟨HO2.out.1, HO2.out.2.1, HO2.out.2.2.1⟩)
          obtain ⟨b3, hb3⟩ : ∃ b3, b3 = st2.base := ⟨_, rfl⟩
          have hb3n : b3 ≤ n := by have := HO3.out.1.nx; unfold Ist.next at this; rw [HL.out] at this; omega
          obtain ⟨so3, hso3⟩ : ∃ so3, so3 = strN (bs.take b3) := ⟨_, rfl⟩
          have hpre : strN (bs.take b3) = so3 := hso3.symm
          have hsz : so3.size = b3 := by rw [hso3, strN_size, List.length_take, HL.out]; omega
          have HSO3 := Sh.mk (show so3 = strN (bs.take st2.base) by rw [hso3, hb3])
          have hrunh : ∀ w, (Instr.slice 22 (.slice A n c) none (some (.int .i64 (b3 : Int))) none).run Try.prog w = .ok (.slice A b3 c) w := fun w => run_cut_h elB A n c b3 (by omega) w
          have hUU : Try.prog.underlying 22 = some (.slice (Try.prog.elem 22)) := by unfold Program.elem; rw [Try.underlying22]
          have hrunh2 : ∀ w, (Instr.sliceAt 22 (.slice A n c) none (some (.int .i64 (b3 : Int))) none).run Try.prog w = .ok (.slice A b3 c) w := fun w => (run_sliceAt_slice w _ _ _ _ _ hUU).trans (hrunh w)
          have g1 : ¬ (n < b3) := by omega
          have g2 : ¬ ((n : Int) < (b3 : Int)) := by omega
          clear hUU hso3 hb3
          have hss : so = so3 := by rw [HO2.out.2.2.2, HSO3.out]
          have HI3 := H3
          have HB5 := HB3
          have HPRE := Sh.mk ((HR.out.below HB5.out).takeN hb3n)
          subst hss
          clear hbs2 c1 H3 HB3
          go_wp2_with (refine wpList_conv Try.underlying22 Try.underlying5 Try.underlying9 rfl _ rfl rfl HPRE.out ?_)
          go_wp2_with fail
          go_roundw
          case rel => exact ⟨i + 1, st2, so, by omega, by go_num, rfl, HI3, Sh.mk ⟨HO3.out.1, HO3.out.2.1, HO3.out.2.2, HSO3.out⟩, HB5⟩
          case measure => simp [intOf]; omega
    · obtain rfl : i = n2 := by omega
      clear hlt
      have HSO := Sh.mk HO.out.2.2.2
      go_wp2_with fail
      clear hi
      go_loopw [9, 15] (fun outv iv wr => ∃ (i : Nat) (st : Ist) (so : ByteArray), i ≤ n ∧ iv = .int .i64 i ∧ outv = .string so ∧ Sh (IN wr B0 x g p s st) ∧ Sh (OrdI bs st ∧ st.size = z ∧ so = strN (bs.take st.base) ∧ i ≤ st.next ∧ (0 < i → st.there = 0)) ∧ Sh (Below w.heap.size w wr)) (fun _ iv _ => n - (intOf iv).toNat)
      case atStart => exact ⟨0, st, so, Nat.zero_le _, rfl, rfl, HI, Sh.mk ⟨HO.out.1, HO.out.2.1, HO.out.2.2.2, Nat.zero_le _, fun h => absurd h (Nat.lt_irrefl _)⟩, HBW⟩
      case round =>
        clear HO HI HBW HSO
        obtain ⟨j, st, so, hj, rfl, rfl, HI, HO, HBW⟩ := hrel
        have hn0 : st.next ≤ n := by have := HO.out.1.nx; rw [HL.out] at this; exact this
        have HNXT := Sh.mk (in_next B0 x g p s st wr HI.out)
        by_cases hlt : j < n
        · have hlt' : (j : Int) < (n : Int) := by omega
          have w1' : IntKind.u64.wrap (j : Int) = (j : Nat) := by rw [IntKind.wrap_u64]; omega
          -- what Take takes, whatever came
          have HTAKE := Sh.mk (show ∀ st2 w4, IN w4 B0 x g p s st2 → OrdI bs st2 → st2.size = z → st2.base = st.base → j < st2.next → Below w.heap.size w w4 → Calls Try.prog 8 #[.pointer (some ⟨x, 0, none⟩), .int .i64 (z : Int)] w4 fun e w' => ∃ (A5 : Option Addr) (n5 c5 er : Nat) (got : List Nat) (st3 : Ist), e = .returned (.tuple #[.slice A5 n5 c5, .int .i64 (er : Int)]) ∧ Sh (Rd w' w'.heap.size 1 A5 n5 (ns .u8 got)) ∧ Sh (IN w' B0 x g p s st3) ∧ Sh (OrdI bs st3 ∧ st3.size = z ∧ bs.take st3.base = bs.take st.base ++ got ∧ j + 1 ≤ st3.next ∧ (0 < j + 1 → st3.there = 0)) ∧ Sh (Below w.heap.size w w') ∧ got.length ≤ 500 by
            intro st2 w4 h2 o2' hs2 hb2 hj2 hbw
            have hn2 := o2'.nx
            rw [HL.out] at hn2
            have hts := h2.ok.ts
            have hbn : st2.base ≤ n := by unfold Ist.next at hn2; omega
            refine (in_take B0 x g p s st2 (z : Int) w4 h2 (by omega) (by unfold iLim; omega)).mono ?_
            have hmz : st2.many (z : Int) = st2.there := by unfold Ist.many; omega
            rw [hmz]
            have hot := o2'.take h2.ok (Nat.le_refl st2.there)
            rintro e w5 ⟨⟨v, rfl, hv⟩, h5, k5⟩
            obtain ⟨A5, n5, c5, rfl, hc5, hln5, hrd5⟩ := hv.out
            refine ⟨A5, n5, c5, _, _, st2.take st2.there, rfl, Sh.mk hrd5.out, Sh.mk h5, Sh.mk ⟨hot.1, hs2, by rw [← hb2]; exact hot.2.2, ?_, fun _ => Nat.sub_self _⟩, Sh.mk (hbw.trans ((h2.bel k5).mono HW0.out.1)), ?_⟩
            · show j + 1 ≤ st2.base + st2.there + (st2.there - st2.there)
              unfold Ist.next at hj2
              omega
            · rw [List.length_take]
              have := h2.ok.ll
              omega)
          by_cases hnx : st.next ≤ j
          · have hnx' : (st.next : Int) ≤ (j : Int) := by omega
            have hjn : st.next = j := by have := HO.out.2.2.2.1; omega
            have hthere : st.there < st.size := by
              have h8 := HO.out.2.2.2.2
              have h9 := HI.out.ok.s0
              rcases Nat.eq_zero_or_pos j with h | h
              · unfold Ist.next at hjn; omega
              · have := h8 h; omega
            have HONE := Sh.mk (HO.out.1.one HI.out.ok hthere (by rw [HL.out]; omega))
            have HOP := Sh.mk (HO.out.1.put (f := j) (m := 1) HI.out.ok (by rw [HL.out]; omega))
            rw [hjn] at HONE
            have w2' : IntKind.i64.wrap ((j : Int) + 1) = ((j + 1 : Nat) : Int) := by rw [IntKind.wrap_i64]; omega
            obtain ⟨j1, hj1⟩ : ∃ j1, j1 = j + 1 := ⟨_, rfl⟩
            rw [← hj1] at w2'
            have hrun : ∀ w, (Instr.slice 22 (.slice A n c) (some (.int .i64 (j : Int))) (some (.int .i64 (j1 : Int))) none).run Try.prog w = .ok (.slice (cutA A c j 1) 1 (c - j)) w := fun w => by have h := run_cut_lh elB A n c j j1 (by omega) (by omega) w; rw [show j1 - j = 1 by omega] at h; exact h
            have hU : Try.prog.underlying 22 = some (.slice (Try.prog.elem 22)) := by unfold Program.elem; rw [Try.underlying22]
            have hrun2 : ∀ w, (Instr.sliceAt 22 (.slice A n c) (some (.int .i64 (j : Int))) (some (.int .i64 (j1 : Int))) none).run Try.prog w = .ok (.slice (cutA A c j 1) 1 (c - j)) w := fun w => (run_sliceAt_slice w _ _ _ _ _ hU).trans (hrun w)
            have HFAR := Sh.mk (show ∀ q, FarI B0 x g p s (wr.drewN q) (cutA A c j 1) 1 ((bs.drop j).take 1) from fun q w' k' => by
              have h := (((HR.out.below HBW.out).drewN q).below (((HI.out.drewN q).bel k').mono HW0.out.1 : Below w.heap.size (wr.drewN q) w')).cutTo (h := j) (k := j + 1) (by omega) (by omega) hnc
              rw [show j + 1 - j = 1 by omega] at h
              exact h.mono HBW.out.size)
            have HAPT := Sh.mk (Apart.cut (m := 1) (c := c) (h := j) (sz := 1) HR.out (HR.out.apt HW0.out.2) (by omega))
            have HLD := Sh.mk (show ((bs.drop j).take 1).length = 1 ∧ 1 ≤ c - j ∧ j < pmax by have := HL.out; rw [List.length_take, List.length_drop]; unfold pmax; omega)
            generalize cutA A c j 1 = AC at hrun hrun2 HFAR HAPT
            generalize c - j = cc at hrun hrun2 HLD
            have HPUT := Sh.mk fun q => in_put B0 x g p s st j AC 1 cc ((bs.drop j).take 1) (wr.drewN q) (HI.out.drewN q) HLD.out.2.2 HLD.out.1 (fun y hy => HB.out y (List.mem_of_mem_drop (List.mem_of_mem_take hy))) HLD.out.2.1 (by omega) HAPT.out (HFAR.out q)
            have hps := Sh.mk (st.put_same (f := j) (bs := (bs.drop j).take 1))
            have HONE2 := Sh.mk (show (st.put j ((bs.drop j).take 1)).2 = true from HONE.out.1)
            have HONE3 := Sh.mk (show j < (st.put j ((bs.drop j).take 1)).1.next from HONE.out.2)
            rw [HONE2.out] at HPUT
            generalize (st.put j ((bs.drop j).take 1)).1 = st2 at HPUT hps HOP HONE3
            generalize st.next = nx at HNXT hnx' hn0 hjn hnx
            clear HONE HONE2 HFAR HAPT HLD hU hjn hthere hj1 hn0 hnx
            go_wp2_with fail
            refine HNXT.out.mono ?_
            rintro e w3 ⟨rfl, q, rfl⟩
            go_wp2_with fail
            refine (HPUT.out q).mono ?_
            rintro e w4 ⟨rfl, h4, k4⟩
            have H4 := Sh.mk h4
            have HB4 := Sh.mk ((below_drewN HBW.out q).trans (((HI.out.drewN q).bel k4).mono HW0.out.1))
            have HT := Sh.mk (HTAKE.out st2 w4 h4 HOP.out (hps.out.2.1.trans HO.out.2.1) hps.out.1 HONE3.out HB4.out)
            have HSO := Sh.mk HO.out.2.2.1
            clear h4 k4 HTAKE HPUT HNXT hps HOP HONE3 HB4 H4 HO HBW HI hnx' w1' w2' hrun hrun2
            go_wp2_with fail
            refine HT.out.mono ?_
            rintro e w5 ⟨A5, n5, c5, er, got, st3, rfl, HRD, HI3, HO3, HB5, hgl⟩
            obtain ⟨so3, hso3⟩ : ∃ so3, so3 = strN (bs.take st3.base) := ⟨_, rfl⟩
            have hcat : so ++ strN got = so3 := by rw [HSO.out, ← strN_append, ← HO3.out.2.2.1, hso3]
            have hsb : so.size + (strN got).size ≤ 100000 := by
              have h8 := strN_size (bs.take st.base)
              have h9 := strN_size got
              rw [← HSO.out, List.length_take, HL.out] at h8
              omega
            have HSO3 := Sh.mk hso3
            clear HT hso3 hgl
            go_wp2_with (refine wpList_conv Try.underlying22 Try.underlying5 Try.underlying9 rfl _ rfl rfl HRD.out ?_)
            go_wp2_with fail
            go_roundw
            case rel => exact ⟨j + 1, st3, so3, by omega, by go_num, rfl, HI3, Sh.mk ⟨HO3.out.1, HO3.out.2.1, HSO3.out, HO3.out.2.2.2.1, HO3.out.2.2.2.2⟩, HB5⟩
            case measure => simp [intOf]; omega
          · have hnx' : ¬ (st.next : Int) ≤ (j : Int) := by omega
            have HT := Sh.mk fun q => HTAKE.out st (wr.drewN q) (HI.out.drewN q) HO.out.1 HO.out.2.1 rfl (by omega) (below_drewN HBW.out q)
            have HSO := Sh.mk HO.out.2.2.1
            generalize st.next = nx at HNXT hnx' hn0 hnx
            clear HTAKE HO HI HBW hn0 hnx
            go_wp2_with fail
            refine HNXT.out.mono ?_
            rintro e w3 ⟨rfl, q, rfl⟩
            replace HT := Sh.mk (HT.out q)
            generalize wr.drewN q = w4 at HT ⊢
            clear HNXT
            go_wp2_with fail
            refine HT.out.mono ?_
            rintro e w5 ⟨A5, n5, c5, er, got, st3, rfl, HRD, HI3, HO3, HB5, hgl⟩
            obtain ⟨so3, hso3⟩ : ∃ so3, so3 = strN (bs.take st3.base) := ⟨_, rfl⟩
            have hcat : so ++ strN got = so3 := by rw [HSO.out, ← strN_append, ← HO3.out.2.2.1, hso3]
            have hsb : so.size + (strN got).size ≤ 100000 := by
              have h8 := strN_size (bs.take st.base)
              have h9 := strN_size got
              rw [← HSO.out, List.length_take, HL.out] at h8
              omega
            have HSO3 := Sh.mk hso3
            clear HT hso3 hgl
            go_wp2_with (refine wpList_conv Try.underlying22 Try.underlying5 Try.underlying9 rfl _ rfl rfl HRD.out ?_)
            go_wp2_with fail
            go_roundw
            case rel => exact ⟨j + 1, st3, so3, by omega, by go_num, rfl, HI3, Sh.mk ⟨HO3.out.1, HO3.out.2.1, HSO3.out, HO3.out.2.2.2.1, HO3.out.2.2.2.2⟩, HB5⟩
            case measure => simp [intOf]; omega
        · obtain rfl : n = j := by omega
          clear hlt
          have hn9 : st.next = n := by have := HO.out.2.2.2.1; omega
          have ht0 : st.there = 0 := by
            rcases Nat.eq_zero_or_pos n with h | h
            · unfold Ist.next at hn9; omega
            · exact HO.out.2.2.2.2 h
          have hbase : st.base = n := by unfold Ist.next at hn9; omega
          have hsof : so = strN bs := by rw [HO.out.2.2.1, hbase, List.take_of_length_le (by rw [HL.out]; exact Nat.le_refl _)]
          have hfin : st.fin n = ({ st with en := n, kn := true }, true) := by
            unfold Ist.fin
            rw [HO.out.1.kn]
            have := HO.out.1.top
            rw [HL.out] at this
            rw [if_neg (by simp), if_neg (by omega)]
          have HF := Sh.mk (in_fin B0 x g p s st n wr HI.out (by unfold pmax; omega))
          rw [hfin] at HF
          have hE : ({ st with en := n, kn := true } : Ist).ended = true := by
            unfold Ist.ended
            show (true && decide (n ≤ st.next)) = true
            rw [hn9]
            simp
          obtain ⟨st4, hst4⟩ : ∃ st4, st4 = ({ st with en := n, kn := true } : Ist) := ⟨_, rfl⟩
          rw [← hst4] at HF hE
          have HT4 := Sh.mk (show st4.there = 0 ∧ st4.base ≤ 500 ∧ st4.size = z by rw [hst4]; exact ⟨ht0, by show st.base ≤ 500; omega, HO.out.2.1⟩)
          have HE := Sh.mk hE
          have HSO := Sh.mk hsof
          have w1' : IntKind.u64.wrap (n : Int) = (n : Nat) := by rw [IntKind.wrap_u64]; omega
          have HTAKE := Sh.mk (show ∀ (k : Int) w4, 1 ≤ k → k ≤ 200 → IN w4 B0 x g p s st4 → Below w.heap.size w w4 → Calls Try.prog 8 #[.pointer (some ⟨x, 0, none⟩), .int .i64 k] w4 fun e w' => ∃ (A5 : Option Addr) (c5 : Nat), e = .returned (.tuple #[.slice A5 0 c5, .int .i64 211]) ∧ Sh (IN w' B0 x g p s st4) ∧ Sh (Below w.heap.size w w') by
            intro k w4 hk hk2 h4 hbw
            have a1 : st4.many k = 0 := by unfold Ist.many; rw [HT4.out.1]; omega
            have a2 : st4.terr k = 211 := by unfold Ist.terr; rw [if_neg (by omega), if_neg (by rw [HT4.out.1]; omega), if_pos HE.out]
            refine (in_take B0 x g p s st4 k w4 h4 (by omega) (by have := HT4.out; unfold iLim; omega)).mono ?_
            rw [a1, a2, Ist.take0]
            rintro e w5 ⟨⟨v, rfl, hv⟩, h5, k5⟩
            obtain ⟨A5, n5, c5, rfl, hc5, hln5, hrd5⟩ := hv.out
            have : n5 = 0 := by have := hln5.out; simpa using this.symm
            subst this
            exact ⟨A5, c5, rfl, Sh.mk h5, Sh.mk (hbw.trans ((h4.bel k5).mono HW0.out.1))⟩)
          clear hn0 hn9 ht0 hsof hbase hfin hE hst4 HNXT hj
          go_wp2_with fail
          refine HF.out.mono ?_
          rintro e w3 ⟨rfl, h3, k3⟩
          have H3 := Sh.mk h3
          have HB3 := Sh.mk (HBW.out.trans ((HI.out.bel k3).mono HW0.out.1))
          clear h3 k3 HF HI HO HBW
          go_wp2_with fail
          refine (HTAKE.out (z : Int) w3 h1 h2 H3.out HB3.out).mono ?_
          rintro e w5 ⟨A5, c5, rfl, HI5, HB5⟩
          have HRD := Sh.mk (Rd.nil w5 w5.heap.size 1 A5)
          have hcat : so ++ strN [] = so := by rw [HSO.out, ← strN_append, List.append_nil]
          have hsb : so.size + (strN []).size ≤ 100000 := by
            have h8 := strN_size bs
            have h9 := strN_size []
            rw [← HSO.out, HL.out] at h8
            rw [List.length_nil] at h9
            omega
          clear H3 HB3
          go_wp2_with (refine wpList_conv Try.underlying22 Try.underlying5 Try.underlying9 rfl _ rfl rfl (show Rd w5 w5.heap.size 1 A5 0 (ns .u8 []) from HRD.out) ?_)
          go_wp2_with fail
          refine (HTAKE.out 1 w5 (by omega) (by omega) HI5.out HB5.out).mono ?_
          rintro e w6 ⟨A6, c6, rfl, HI6, HB6⟩
          have HRF := Sh.mk (HR.out.below HB6.out)
          have HEN := Sh.mk (in_ended B0 x g p s st4 w6 HI6.out)
          rw [HE.out] at HEN
          rw [HSO.out] at hcat hsb ⊢
          clear HTAKE HRD HI5 HB5 hcat hsb
          go_wp2_with (refine wpList_conv Try.underlying22 Try.underlying5 Try.underlying9 rfl _ rfl rfl HRF.out ?_)
          go_wp2_with fail
          refine HEN.out.mono ?_
          rintro e w7 ⟨rfl, q, hq⟩
          have HB7 := Sh.mk (show Below w.heap.size w w7 by rw [hq]; exact below_drewN HB6.out q)
          clear hq HEN
          go_wp2_with fail
          refine (alive18 w7).mono ?_
          rintro e w8 ⟨rfl, hb8⟩
          go_wp2_with fail
          go_ret
          exact ⟨rfl, HB7.out.trans (hb8.mono HB7.out.size)⟩
end Go.Proofs.Ytflmnhibjgehnaa
