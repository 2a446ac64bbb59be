/- Package wheel: turn. -/
import Derived.Test.YtpeagibompohhaaWhAd2
import Derived.Test.YtpeagibompohhaaWhT0
namespace Go.Proofs.Ytpeagibompohhaa
open Go.RowKit
set_option linter.unusedVariables false
set_option linter.unusedSimpArgs false
theorem KeptW.of_tou {g mb p : Nat} {sl : List Value} {w w' : World} (h : Tou g w w') : KeptW g mb sl (sl.set p (.slice none 0 0)) w w' where
  same k hk hg _ _ := h.2 k hk hg
  new q u k hu hk := by
    by_cases e : p = q
    · subst e
      have hp := get_lt hu
      rw [List.length_set] at hp
      rw [List.getElem?_set_self hp] at hu
      injection hu with hu
      subst hu
      simp [Value.ownBlock] at hk
    · rw [List.getElem?_set_ne e] at hu
      exact .inl ⟨q, u, hu, hk⟩
  size := h.1.size
  un := unB h.1
theorem ZatsAt {w : World} {e : TypeId} {B n c i : Nat} {A : Option Addr} {l : List Int} {x : Int} (h : Zats w e .i64 B (.slice A n c) l) (hx : l[i]? = some x) : ∃ ab, A = some ⟨ab, 0, none⟩ ∧ w.cell? ⟨ab, i, none⟩ = some (.int .i64 x) := by
  rcases own_open h with ⟨_, h0, _⟩ | ⟨rb, cc, L, hv, _, hr, _, _, hL, hT⟩
  · have := get_lt hx; omega
  · injection hv with hv _ _
    refine ⟨rb, hv, ?_⟩
    rw [hr.cell]
    have h1 : (L.take (l.length * 1))[i]? = (zs .i64 l)[i]? := by rw [hT]
    have hi := get_lt hx
    rw [List.getElem?_take, if_pos (by omega)] at h1
    simp only [List.getElem?_toArray]
    rw [h1]
    exact zs_get hx
def spn (r : Nat) : Nat := match r with | 1 => 16 | 2 => 256 | 3 => 4096 | _ => 65536
set_option maxRecDepth 20000 in
set_option maxHeartbeats 8000000 in
theorem wturn_any (g B mb most n n' sz : Nat) (sl : List Value) (S : List (List Int)) (f : Fm) (L : List Tm) (w : World) (h : WS w g B mb most n' sl S) (hm : MapW w mb f sz) (hl : WL (plW n) S f L) (hn' : n' = n + 1) (hn : n ≤ 4000000000) (hsz : sz ≤ 4096) (hll : L.length ≤ 4096) (hdu : ∀ x ∈ L, n < x.2 ∧ x.2 ≤ n + 65535) :
    Calls Try.prog 23 #[.pointer (some ⟨g, 0, none⟩)] w fun e w' => e = .returned (.tuple #[]) ∧ ∃ sl' S' f', WS w' g B mb most n' sl' S' ∧ MapW w' mb f' sz ∧ WL (plW n') S' f' L ∧ KeptW g mb sl sl' w w' := by
  have HW0 := Lib.hid h
  have HM0 := Lib.hid hm
  have HL0 := Lib.hid (hl.re (P' := plT n 1) fun id t _ hm => plT_one (hdu _ hm).1)
  have HDU := Lib.hid hdu
  have HNE := Lib.hid hn'
  have hnb : n' ≤ 4000000001 := by omega
  clear h hm hl hdu hn'
  go_enter Try.func23, Try.ntmps23
  go_wp2_with fail
  go_loopw [2, 3] (fun sv rv wr => ∃ (r : Nat) (sl1 : List Value) (S1 : List (List Int)) (f1 : Fm), 1 ≤ r ∧ r ≤ 4 ∧ sv = .int .i64 (spn r : Nat) ∧ rv = .int .i64 (r : Nat) ∧ Hid (WS wr g B mb most n' sl1 S1) ∧ Hid (MapW wr mb f1 sz) ∧ Hid (WL (plT n r) S1 f1 L) ∧ Hid (KeptW g mb sl sl1 w wr)) (fun _ rv _ => 4 - (intOf rv).toNat)
  case atStart => exact ⟨1, sl, S, f, by omega, by omega, rfl, rfl, HW0, HM0, HL0, Lib.hid (KeptW.refl _ _ _ _)⟩
  case round =>
    clear HW0 HM0 HL0
    obtain ⟨r, sl1, S1, f1, hr1, hr4, rfl, rfl, HW1, HM1, HL1, HK1⟩ := hrel
    have c1 := HW1.out.c1
    by_cases hr : r = 4
    · subst hr
      have HLE : Hid (WL (plW n') S1 f1 L) := Lib.hid (HL1.out.re fun id t _ _ => by rw [HNE.out, plT_four])
      simp only [spn]
      go_wp2_with fail
      go_end0
      exact ⟨rfl, sl1, S1, f1, HW1.out, HM1.out, HLE.out, HK1.out⟩
    by_cases hgo0 : (n + 1) % p16 r = 0
    case neg =>
      have HLE : Hid (WL (plW n') S1 f1 L) := Lib.hid (HL1.out.re fun id t _ hm => by rw [HNE.out, plT_rest (HDU.out _ hm).1 hr1 (by omega) hgo0])
      have hgo1 : n' % p16 r ≠ 0 := by rw [HNE.out]; exact hgo0
      have HGO := Lib.hid hgo1
      clear hgo0 hgo1
      rcases (show r = 1 ∨ r = 2 ∨ r = 3 by omega) with rfl | rfl | rfl
      · have hgo : ¬ n' % 16 = 0 := by have := HGO.out; simpa [p16] using this
        have hgo' : ¬ (n' : Int) % 16 = 0 := by omega
        simp only [spn]
        go_wp2_with fail
        go_end0
        exact ⟨rfl, sl1, S1, f1, HW1.out, HM1.out, HLE.out, HK1.out⟩
      · have hgo : ¬ n' % 256 = 0 := by have := HGO.out; simpa [p16] using this
        have hgo' : ¬ (n' : Int) % 256 = 0 := by omega
        simp only [spn]
        go_wp2_with fail
        go_end0
        exact ⟨rfl, sl1, S1, f1, HW1.out, HM1.out, HLE.out, HK1.out⟩
      · have hgo : ¬ n' % 4096 = 0 := by have := HGO.out; simpa [p16] using this
        have hgo' : ¬ (n' : Int) % 4096 = 0 := by omega
        simp only [spn]
        go_wp2_with fail
        go_end0
        exact ⟨rfl, sl1, S1, f1, HW1.out, HM1.out, HLE.out, HK1.out⟩
    have HGO := Lib.hid hgo0
    clear hgo0
    rcases (show r = 1 ∨ r = 2 ∨ r = 3 by omega) with rfl | rfl | rfl
    · simp only [spn]
      have hgo : n' % 16 = 0 := by have := HGO.out; rw [← HNE.out] at this; simpa [p16] using this
      have hgo' : (n' : Int) % 16 = 0 := by omega
      have hgz : ¬ ((n' : Int) % 16 ≠ 0) := by omega
      obtain ⟨s, hs⟩ : ∃ s, s = slW 1 n' := ⟨_, rfl⟩
      have hs16 : s < 16 := by rw [hs]; exact slW_lt 1 n'
      obtain ⟨p, hp⟩ : ∃ p, p = 16 * 1 + slW 1 n' := ⟨_, rfl⟩
      have hp64 : p < 64 := by omega
      have hpe : 3 + p = 19 + s := by omega
      obtain ⟨q, hq⟩ : ∃ q, q = n' / 16 := ⟨_, rfl⟩
      have hsq : s = q % 16 := by rw [hs, hq]; rfl
      have hw1 : IntKind.i64.wrap ((n' : Int) / 16) = (q : Nat) := by rw [IntKind.wrap_i64]; omega
      have hw2 : ((q : Nat) : Int).tmod 16 = (s : Nat) := by rw [Int.tmod_eq_emod_of_nonneg (by omega)]; omega
      have hs0 : (0 : Int) ≤ (s : Int) := by omega
      have hs1 : (s : Int) < 16 := by omega
      have HP := Lib.hid hp
      have HPE := Lib.hid hpe
      have HW12 := Lib.hid (And.intro hw1 hw2)
      clear hp hpe hs hq hsq hw1 hw2
      go_wp2_with fail
      clear c1 hgo hgo' hgz
      refine wp_ord [(0, .pure), (1, .pure), (2, .pure), (3, .pure), (4, .pure), (5, .read), (6, .pure), (7, .pure), (8, .pure), (9, .pure), (10, .pure), (11, .pure), (12, .pure), (15, .pure), (13, .sole), (14, .pure)] [13] (by kernel_rfl) (by kernel_rfl) (fun QQ hQ wd hwd => ?_); simp only [List.map_cons, List.map_nil, List.getD_cons_zero, List.getD_cons_succ]
      have hD : Below wr.heap.size wr wd := by rw [hwd.out]; exact (Below.refl _ _).drew
      have HWD := Lib.hid (HW1.out.into hD)
      have HMD := Lib.hid (HM1.out.same (hD.block mb HM1.out.lt))
      have HKD := Lib.hid (HK1.out.trans (KeptW.of_below hD))
      clear hD hwd
      have c1 := HWD.out.c1
      obtain ⟨hw1, hw2⟩ := HW12.out
      (refine o_pure (v := ?_) (by rfl) (fun w' => ?_) ?_; rotate_left; (focus (go_simp; (try with_reducible rfl); (try (rw [if_pos (by omega)]; (try with_reducible rfl))))); (try simp only [Act.put, List.setIfInBounds_toArray, List.set_cons_zero, List.set_cons_succ]))
      (refine o_pure (v := ?_) (by rfl) (fun w' => ?_) ?_; rotate_left; (focus (go_simp; (try with_reducible rfl); (try (rw [if_pos (by omega)]; (try with_reducible rfl))))); (try simp only [Act.put, List.setIfInBounds_toArray, List.set_cons_zero, List.set_cons_succ]))
      (refine o_pure (v := ?_) (by rfl) (fun w' => ?_) ?_; rotate_left; (focus (go_simp; (try with_reducible rfl); (try (rw [if_pos (by omega)]; (try with_reducible rfl))))); (try simp only [Act.put, List.setIfInBounds_toArray, List.set_cons_zero, List.set_cons_succ]))
      (refine o_pure (v := ?_) (by rfl) (fun w' => ?_) ?_; rotate_left; (focus (go_simp; (try with_reducible rfl); (try (rw [if_pos (by omega)]; (try with_reducible rfl))))); (try simp only [Act.put, List.setIfInBounds_toArray, List.set_cons_zero, List.set_cons_succ]))
      (refine o_pure (v := ?_) (by rfl) (fun w' => ?_) ?_; rotate_left; (focus (go_simp; (try with_reducible rfl); (try (rw [if_pos (by omega)]; (try with_reducible rfl))))); (try simp only [Act.put, List.setIfInBounds_toArray, List.set_cons_zero, List.set_cons_succ]))
      (refine o_load _ (by rfl) rfl rfl (by assumption) (by kernel_rfl) ?_; simp only [Act.put, List.setIfInBounds_toArray, List.set_cons_zero, List.set_cons_succ])
      (refine o_pure (v := ?_) (by rfl) (fun w' => ?_) ?_; rotate_left; (focus (go_simp; (try with_reducible rfl); (try (rw [if_pos (by omega)]; (try with_reducible rfl))))); (try simp only [Act.put, List.setIfInBounds_toArray, List.set_cons_zero, List.set_cons_succ]))
      (refine o_pure (v := ?_) (by rfl) (fun w' => ?_) ?_; rotate_left; (focus (go_simp; (try with_reducible rfl); (try (rw [if_pos (by omega)]; (try with_reducible rfl))))); (try simp only [Act.put, List.setIfInBounds_toArray, List.set_cons_zero, List.set_cons_succ]))
      (refine o_pure (v := ?_) (by rfl) (fun w' => ?_) ?_; rotate_left; (focus (go_simp; (try with_reducible rfl); (try (rw [if_pos (by omega)]; (try with_reducible rfl))))); (try simp only [Act.put, List.setIfInBounds_toArray, List.set_cons_zero, List.set_cons_succ]))
      (refine o_pure (v := ?_) (by rfl) (fun w' => ?_) ?_; rotate_left; (focus (go_simp; (try with_reducible rfl); (try (rw [if_pos (by omega)]; (try with_reducible rfl))))); (try simp only [Act.put, List.setIfInBounds_toArray, List.set_cons_zero, List.set_cons_succ]))
      (refine o_pure (v := ?_) (by rfl) (fun w' => ?_) ?_; rotate_left; (focus (go_simp; (try with_reducible rfl); (try (rw [if_pos (by omega)]; (try with_reducible rfl))))); (try simp only [Act.put, List.setIfInBounds_toArray, List.set_cons_zero, List.set_cons_succ]))
      (refine o_pure (v := ?_) (by rfl) (fun w' => ?_) ?_; rotate_left; (focus (go_simp; (try with_reducible rfl); (try (rw [if_pos (by omega)]; (try with_reducible rfl))))); (try simp only [Act.put, List.setIfInBounds_toArray, List.set_cons_zero, List.set_cons_succ]))
      (refine o_pure (v := ?_) (by rfl) (fun w' => ?_) ?_; rotate_left; (focus (go_simp; (try with_reducible rfl); (try (rw [if_pos (by omega)]; (try with_reducible rfl))))); (try simp only [Act.put, List.setIfInBounds_toArray, List.set_cons_zero, List.set_cons_succ]))
      (refine o_pure (v := ?_) (by rfl) (fun w' => ?_) ?_; rotate_left; (focus (go_simp; (try with_reducible rfl); (try (rw [if_pos (by omega)]; (try with_reducible rfl))))); (try simp only [Act.put, List.setIfInBounds_toArray, List.set_cons_zero, List.set_cons_succ]))
      obtain ⟨v0, l0, hv0, hl0, _, _⟩ := HWD.out.place hp64
      have hll := HL1.out.row_len hl0
      have HEM := Lib.hid (wempty_any g B mb most n' p sl1 S1 v0 l0 wd HWD.out hv0 hl0 (by omega))
      rw [HPE.out] at HEM
      have HV0 := Lib.hid hv0
      have HL0 := Lib.hid hl0
      clear c1 hv0 hl0 hw1 hw2
      refine o_sole (fun K hK => ?_)
      go_wp2_with fail
      refine HEM.out.mono ?_
      rintro e w2 ⟨v2, rfl, hz2, hw2, ht2⟩
      have HZ2 := Lib.hid (hz2.mono (B' := 0) (Nat.zero_le _))
      have HW2 := Lib.hid hw2
      have HM2 := Lib.hid (HMD.out.same (ht2.2 mb HMD.out.lt (Ne.symm (HMD.out.ne HWD.out.blk))))
      have HK2 := Lib.hid (HKD.out.trans (KeptW.of_tou (mb := mb) (p := p) ht2))
      have HX2 := Lib.hid ((WL.emptied HL1.out HL0.out).re (P' := plT n (1 + 1)) fun id t hr hm => by
        have hdu := (HDU.out _ hm).1
        refine plT_stay hdu (by omega) HGO.out fun e => hr ?_
        obtain ⟨k, hf⟩ := HL1.out.fnd hm
        have hwg := HL1.out.wg
        rw [Fm.wo_nil] at hwg
        obtain ⟨l', h1, h2⟩ := hwg.here id t k hf
        have e2 : plT n 1 t = p := by rw [HP.out, HNE.out]; exact e
        rw [e2, HL0.out] at h1
        injection h1 with h1
        subst h1
        exact List.mem_of_getElem? h2)
      have HA2 : Hid (∀ k, v2.ownBlock = some k → ∀ (q : Nat) (u : Value), (sl1.set p (.slice none 0 0))[q]? = some u → u.ownBlock ≠ some k) := Lib.hid fun k hk q u hu hku => by
        have hk1 := (hz2.lt k hk).1
        have hkl : k < wd.heap.size := by
          by_cases e : p = q
          · subst e
            rw [List.getElem?_set_self (get_lt HV0.out)] at hu
            injection hu with hu
            subst hu
            simp [Value.ownBlock] at hku
          · rw [List.getElem?_set_ne e] at hu
            obtain ⟨u', l, h1, h2, _, hz⟩ := HWD.out.place (p := q) (by rw [← HWD.out.sll]; exact get_lt hu)
            rw [hu] at h1
            injection h1 with h1
            subst h1
            exact (hz.lt k hku).2
        omega
      have HND := Lib.hid ((show WG (plT n 1) S1 f1 from by have := HL1.out.wg; rwa [Fm.wo_nil] at this).nodup HL0.out)
      have HIN : Hid (∀ x ∈ l0, ∃ t, (x, t) ∈ L ∧ plT n (1 + 1) t = plW n' t) := Lib.hid fun x hx => by
        obtain ⟨_, t, k, hf, hk, hpt, hm⟩ := HL1.out.row_mem HL0.out hx
        exact ⟨t, hm, by rw [HNE.out]; exact plT_here ((HDU.out _ hm).1) (slW_lt 1 n') (by rw [hpt, HP.out])⟩
      clear hz2 hw2 ht2 HEM HWD HMD HKD
      obtain ⟨A2, n2, cc2, rfl, hnc2, hln2, _⟩ := HZ2.out.out
      go_wp2_with fail
      refine hK _ _ (fun h => by cases h) ?_; clear hK K
      (refine o_pure (v := ?_) (by rfl) (fun w' => ?_) ?_; rotate_left; (focus (go_simp; (try with_reducible rfl); (try (rw [if_pos (by omega)]; (try with_reducible rfl))))); (try simp only [Act.put, List.setIfInBounds_toArray, List.set_cons_zero, List.set_cons_succ]))
      refine o_nil (hQ.out _ _ ?_); clear hQ QQ
      have hn2 : n2 ≤ 5000 := by rw [← hln2.out]; omega
      go_wp2_with fail
      go_loopw [34] (fun iv wk => ∃ (i : Nat) (sl2 : List Value) (S2 : List (List Int)) (f2 : Fm), i ≤ n2 ∧ iv = .int .i64 (i : Nat) ∧ Hid (WS wk g B mb most n' sl2 S2) ∧ Hid (MapW wk mb f2 sz) ∧ Hid (WX (plT n (1 + 1)) S2 f2 L (l0.drop i)) ∧ Hid (KeptW g mb sl sl2 w wk) ∧ Hid (Zats wk 3 .i64 0 (.slice A2 n2 cc2) l0) ∧ Hid (∀ k, (Value.slice A2 n2 cc2).ownBlock = some k → ∀ (q : Nat) (u : Value), sl2[q]? = some u → u.ownBlock ≠ some k)) (fun iv _ => n2 - (intOf iv).toNat)
      case atStart => exact ⟨0, _, _, _, Nat.zero_le _, rfl, HW2, HM2, HX2, HK2, HZ2, HA2⟩
      case round =>
        clear HW2 HM2 HX2 HK2 HZ2 HA2 HW1 HM1 HK1
        obtain ⟨i, sl2, S2, f2, hi, rfl, HW2, HM2, HX2, HK2, HZ2, HA2⟩ := hrel
        by_cases hlt : i < n2
        · have hlt' : (i : Int) < (n2 : Int) := by omega
          obtain ⟨x, hx⟩ : ∃ x, l0[i]? = some x := ⟨_, List.getElem?_eq_getElem (by rw [hln2.out]; exact hlt)⟩
          obtain ⟨t, hxm, hxt⟩ := HIN.out x (List.mem_of_getElem? hx)
          obtain ⟨k, hfx⟩ := HX2.out.fnd hxm
          obtain ⟨ab, hA, q0⟩ : ∃ ab, A2 = some ⟨ab, 0, none⟩ ∧ (_ : World).cell? ⟨ab, i, none⟩ = some (.int .i64 x) := ZatsAt HZ2.out hx
          subst hA
          have hix : I64 x := HX2.out.i64 _ hxm
          have hdu := HDU.out _ hxm
          have htb : t ≤ 4294967296 := by have := hdu.2; simp at this; omega
          obtain ⟨v3, l3, hv3, hl3, _, _⟩ := HW2.out.place (plW_lt n' t)
          have hl3n := HX2.out.row_len hl3
          have HPU := Lib.hid (wput_any g B mb most n' t sz (plW n' t) x sl2 S2 f2 v3 l3 _ HW2.out HM2.out (by omega) htb hix (by omega) rfl hv3 hl3 (by omega))
          rw [hfx] at HPU
          have hlk := HM2.out.at_some hix hfx
          have hfd : ∀ w' : World, (Instr.field 58 (.agg #[.int .i64 (t : Nat), .int .i64 (k : Nat)]) 0).run Try.prog w' = .ok (.int .i64 (t : Nat)) w' := fun w' => by kernel_rfl
          have c2 := HW2.out.c2
          have HXX := Lib.hid hx
          have HXT := Lib.hid hxt
          have HFX := Lib.hid hfx
          have HV3 := Lib.hid hv3
          have HL3 := Lib.hid hl3
          clear hx hxt hfx hv3 hl3 hxm hdu
          go_wp2_with fail
          refine HPU.out.mono ?_
          rintro e w4 ⟨rfl, v4, hw4, hm4, hk4⟩
          have HW4 := Lib.hid hw4
          have HM4 := Lib.hid (show MapW w4 mb (f2.upd x (some (t, l3.length))) sz from hm4)
          have HX4 : Hid (WX (plT n (1 + 1)) (S2.set (plW n' t) (l3 ++ [x])) (f2.upd x (some (t, l3.length))) L (l0.drop (i + 1))) := Lib.hid (by
            have h5 := HX2.out
            rw [drop_at HXX.out] at h5
            have h6 := h5.put (nodup_drop HND.out HXX.out) HFX.out (l := l3) (by rw [HXT.out]; exact HL3.out)
            rwa [HXT.out] at h6)
          have HZ4 := Lib.hid (HZ2.out.kept fun k hk => hk4.same k (HZ2.out.lt k hk).2 (fun e => own_nw HZ2.out HW2.out.blk (by decide) (by rw [← e]; exact hk)) (fun e => HM2.out.row (B := 0) (B' := 0) HZ2.out (by rw [← e]; exact hk)) (HA2.out k hk))
          have HA4 : Hid (∀ k, (Value.slice (some ⟨ab, 0, none⟩) n2 cc2).ownBlock = some k → ∀ (q : Nat) (u : Value), (sl2.set (plW n' t) v4)[q]? = some u → u.ownBlock ≠ some k) := Lib.hid fun k hk q u hu hku => by
            rcases hk4.new q u k hu hku with ⟨q', u', h1, h2⟩ | h1
            · exact HA2.out k hk q' u' h1 h2
            · have := (HZ2.out.lt k hk).2
              omega
          have HK4 := Lib.hid (HK2.out.trans hk4)
          clear hw4 hm4 hk4 q0 hlk hfd c2 HPU HW2 HM2 HX2 HK2 HZ2 HA2
          go_wp2_with fail
          go_roundw
          case rel => exact ⟨i + 1, _, _, _, by omega, by go_num, HW4, HM4, HX4, HK4, HZ4, HA4⟩
          case measure => simp [intOf]; omega
        · have hie : i = n2 := by omega
          subst hie
          have HLE : Hid (WL (plT n (1 + 1)) S2 f2 L) := Lib.hid (by
            have h5 := HX2.out
            rwa [List.drop_eq_nil_of_le (by rw [hln2.out]; exact Nat.le_refl _)] at h5)
          go_wp2_with fail
          go_roundw
          case rel => exact ⟨1 + 1, sl2, S2, f2, by omega, by omega, by go_num, by go_num, HW2, HM2, HLE, HK2⟩
          case measure => simp [intOf]
    · simp only [spn]
      have hgo : n' % 256 = 0 := by have := HGO.out; rw [← HNE.out] at this; simpa [p16] using this
      have hgo' : (n' : Int) % 256 = 0 := by omega
      have hgz : ¬ ((n' : Int) % 256 ≠ 0) := by omega
      obtain ⟨s, hs⟩ : ∃ s, s = slW 2 n' := ⟨_, rfl⟩
      have hs16 : s < 16 := by rw [hs]; exact slW_lt 2 n'
      obtain ⟨p, hp⟩ : ∃ p, p = 16 * 2 + slW 2 n' := ⟨_, rfl⟩
      have hp64 : p < 64 := by omega
      have hpe : 3 + p = 35 + s := by omega
      obtain ⟨q, hq⟩ : ∃ q, q = n' / 256 := ⟨_, rfl⟩
      have hsq : s = q % 16 := by rw [hs, hq]; rfl
      have hw1 : IntKind.i64.wrap ((n' : Int) / 256) = (q : Nat) := by rw [IntKind.wrap_i64]; omega
      have hw2 : ((q : Nat) : Int).tmod 16 = (s : Nat) := by rw [Int.tmod_eq_emod_of_nonneg (by omega)]; omega
      have hs0 : (0 : Int) ≤ (s : Int) := by omega
      have hs1 : (s : Int) < 16 := by omega
      have HP := Lib.hid hp
      have HPE := Lib.hid hpe
      have HW12 := Lib.hid (And.intro hw1 hw2)
      clear hp hpe hs hq hsq hw1 hw2
      go_wp2_with fail
      clear c1 hgo hgo' hgz
      refine wp_ord [(0, .pure), (1, .pure), (2, .pure), (3, .pure), (4, .pure), (5, .read), (6, .pure), (7, .pure), (8, .pure), (9, .pure), (10, .pure), (11, .pure), (12, .pure), (15, .pure), (13, .sole), (14, .pure)] [13] (by kernel_rfl) (by kernel_rfl) (fun QQ hQ wd hwd => ?_); simp only [List.map_cons, List.map_nil, List.getD_cons_zero, List.getD_cons_succ]
      have hD : Below wr.heap.size wr wd := by rw [hwd.out]; exact (Below.refl _ _).drew
      have HWD := Lib.hid (HW1.out.into hD)
      have HMD := Lib.hid (HM1.out.same (hD.block mb HM1.out.lt))
      have HKD := Lib.hid (HK1.out.trans (KeptW.of_below hD))
      clear hD hwd
      have c1 := HWD.out.c1
      obtain ⟨hw1, hw2⟩ := HW12.out
      (refine o_pure (v := ?_) (by rfl) (fun w' => ?_) ?_; rotate_left; (focus (go_simp; (try with_reducible rfl); (try (rw [if_pos (by omega)]; (try with_reducible rfl))))); (try simp only [Act.put, List.setIfInBounds_toArray, List.set_cons_zero, List.set_cons_succ]))
      (refine o_pure (v := ?_) (by rfl) (fun w' => ?_) ?_; rotate_left; (focus (go_simp; (try with_reducible rfl); (try (rw [if_pos (by omega)]; (try with_reducible rfl))))); (try simp only [Act.put, List.setIfInBounds_toArray, List.set_cons_zero, List.set_cons_succ]))
      (refine o_pure (v := ?_) (by rfl) (fun w' => ?_) ?_; rotate_left; (focus (go_simp; (try with_reducible rfl); (try (rw [if_pos (by omega)]; (try with_reducible rfl))))); (try simp only [Act.put, List.setIfInBounds_toArray, List.set_cons_zero, List.set_cons_succ]))
      (refine o_pure (v := ?_) (by rfl) (fun w' => ?_) ?_; rotate_left; (focus (go_simp; (try with_reducible rfl); (try (rw [if_pos (by omega)]; (try with_reducible rfl))))); (try simp only [Act.put, List.setIfInBounds_toArray, List.set_cons_zero, List.set_cons_succ]))
      (refine o_pure (v := ?_) (by rfl) (fun w' => ?_) ?_; rotate_left; (focus (go_simp; (try with_reducible rfl); (try (rw [if_pos (by omega)]; (try with_reducible rfl))))); (try simp only [Act.put, List.setIfInBounds_toArray, List.set_cons_zero, List.set_cons_succ]))
      (refine o_load _ (by rfl) rfl rfl (by assumption) (by kernel_rfl) ?_; simp only [Act.put, List.setIfInBounds_toArray, List.set_cons_zero, List.set_cons_succ])
      (refine o_pure (v := ?_) (by rfl) (fun w' => ?_) ?_; rotate_left; (focus (go_simp; (try with_reducible rfl); (try (rw [if_pos (by omega)]; (try with_reducible rfl))))); (try simp only [Act.put, List.setIfInBounds_toArray, List.set_cons_zero, List.set_cons_succ]))
      (refine o_pure (v := ?_) (by rfl) (fun w' => ?_) ?_; rotate_left; (focus (go_simp; (try with_reducible rfl); (try (rw [if_pos (by omega)]; (try with_reducible rfl))))); (try simp only [Act.put, List.setIfInBounds_toArray, List.set_cons_zero, List.set_cons_succ]))
      (refine o_pure (v := ?_) (by rfl) (fun w' => ?_) ?_; rotate_left; (focus (go_simp; (try with_reducible rfl); (try (rw [if_pos (by omega)]; (try with_reducible rfl))))); (try simp only [Act.put, List.setIfInBounds_toArray, List.set_cons_zero, List.set_cons_succ]))
      (refine o_pure (v := ?_) (by rfl) (fun w' => ?_) ?_; rotate_left; (focus (go_simp; (try with_reducible rfl); (try (rw [if_pos (by omega)]; (try with_reducible rfl))))); (try simp only [Act.put, List.setIfInBounds_toArray, List.set_cons_zero, List.set_cons_succ]))
      (refine o_pure (v := ?_) (by rfl) (fun w' => ?_) ?_; rotate_left; (focus (go_simp; (try with_reducible rfl); (try (rw [if_pos (by omega)]; (try with_reducible rfl))))); (try simp only [Act.put, List.setIfInBounds_toArray, List.set_cons_zero, List.set_cons_succ]))
      (refine o_pure (v := ?_) (by rfl) (fun w' => ?_) ?_; rotate_left; (focus (go_simp; (try with_reducible rfl); (try (rw [if_pos (by omega)]; (try with_reducible rfl))))); (try simp only [Act.put, List.setIfInBounds_toArray, List.set_cons_zero, List.set_cons_succ]))
      (refine o_pure (v := ?_) (by rfl) (fun w' => ?_) ?_; rotate_left; (focus (go_simp; (try with_reducible rfl); (try (rw [if_pos (by omega)]; (try with_reducible rfl))))); (try simp only [Act.put, List.setIfInBounds_toArray, List.set_cons_zero, List.set_cons_succ]))
      (refine o_pure (v := ?_) (by rfl) (fun w' => ?_) ?_; rotate_left; (focus (go_simp; (try with_reducible rfl); (try (rw [if_pos (by omega)]; (try with_reducible rfl))))); (try simp only [Act.put, List.setIfInBounds_toArray, List.set_cons_zero, List.set_cons_succ]))
      obtain ⟨v0, l0, hv0, hl0, _, _⟩ := HWD.out.place hp64
      have hll := HL1.out.row_len hl0
      have HEM := Lib.hid (wempty_any g B mb most n' p sl1 S1 v0 l0 wd HWD.out hv0 hl0 (by omega))
      rw [HPE.out] at HEM
      have HV0 := Lib.hid hv0
      have HL0 := Lib.hid hl0
      clear c1 hv0 hl0 hw1 hw2
      refine o_sole (fun K hK => ?_)
      go_wp2_with fail
      refine HEM.out.mono ?_
      rintro e w2 ⟨v2, rfl, hz2, hw2, ht2⟩
      have HZ2 := Lib.hid (hz2.mono (B' := 0) (Nat.zero_le _))
      have HW2 := Lib.hid hw2
      have HM2 := Lib.hid (HMD.out.same (ht2.2 mb HMD.out.lt (Ne.symm (HMD.out.ne HWD.out.blk))))
      have HK2 := Lib.hid (HKD.out.trans (KeptW.of_tou (mb := mb) (p := p) ht2))
      have HX2 := Lib.hid ((WL.emptied HL1.out HL0.out).re (P' := plT n (2 + 1)) fun id t hr hm => by
        have hdu := (HDU.out _ hm).1
        refine plT_stay hdu (by omega) HGO.out fun e => hr ?_
        obtain ⟨k, hf⟩ := HL1.out.fnd hm
        have hwg := HL1.out.wg
        rw [Fm.wo_nil] at hwg
        obtain ⟨l', h1, h2⟩ := hwg.here id t k hf
        have e2 : plT n 2 t = p := by rw [HP.out, HNE.out]; exact e
        rw [e2, HL0.out] at h1
        injection h1 with h1
        subst h1
        exact List.mem_of_getElem? h2)
      have HA2 : Hid (∀ k, v2.ownBlock = some k → ∀ (q : Nat) (u : Value), (sl1.set p (.slice none 0 0))[q]? = some u → u.ownBlock ≠ some k) := Lib.hid fun k hk q u hu hku => by
        have hk1 := (hz2.lt k hk).1
        have hkl : k < wd.heap.size := by
          by_cases e : p = q
          · subst e
            rw [List.getElem?_set_self (get_lt HV0.out)] at hu
            injection hu with hu
            subst hu
            simp [Value.ownBlock] at hku
          · rw [List.getElem?_set_ne e] at hu
            obtain ⟨u', l, h1, h2, _, hz⟩ := HWD.out.place (p := q) (by rw [← HWD.out.sll]; exact get_lt hu)
            rw [hu] at h1
            injection h1 with h1
            subst h1
            exact (hz.lt k hku).2
        omega
      have HND := Lib.hid ((show WG (plT n 2) S1 f1 from by have := HL1.out.wg; rwa [Fm.wo_nil] at this).nodup HL0.out)
      have HIN : Hid (∀ x ∈ l0, ∃ t, (x, t) ∈ L ∧ plT n (2 + 1) t = plW n' t) := Lib.hid fun x hx => by
        obtain ⟨_, t, k, hf, hk, hpt, hm⟩ := HL1.out.row_mem HL0.out hx
        exact ⟨t, hm, by rw [HNE.out]; exact plT_here ((HDU.out _ hm).1) (slW_lt 2 n') (by rw [hpt, HP.out])⟩
      clear hz2 hw2 ht2 HEM HWD HMD HKD
      obtain ⟨A2, n2, cc2, rfl, hnc2, hln2, _⟩ := HZ2.out.out
      go_wp2_with fail
      refine hK _ _ (fun h => by cases h) ?_; clear hK K
      (refine o_pure (v := ?_) (by rfl) (fun w' => ?_) ?_; rotate_left; (focus (go_simp; (try with_reducible rfl); (try (rw [if_pos (by omega)]; (try with_reducible rfl))))); (try simp only [Act.put, List.setIfInBounds_toArray, List.set_cons_zero, List.set_cons_succ]))
      refine o_nil (hQ.out _ _ ?_); clear hQ QQ
      have hn2 : n2 ≤ 5000 := by rw [← hln2.out]; omega
      go_wp2_with fail
      go_loopw [34] (fun iv wk => ∃ (i : Nat) (sl2 : List Value) (S2 : List (List Int)) (f2 : Fm), i ≤ n2 ∧ iv = .int .i64 (i : Nat) ∧ Hid (WS wk g B mb most n' sl2 S2) ∧ Hid (MapW wk mb f2 sz) ∧ Hid (WX (plT n (2 + 1)) S2 f2 L (l0.drop i)) ∧ Hid (KeptW g mb sl sl2 w wk) ∧ Hid (Zats wk 3 .i64 0 (.slice A2 n2 cc2) l0) ∧ Hid (∀ k, (Value.slice A2 n2 cc2).ownBlock = some k → ∀ (q : Nat) (u : Value), sl2[q]? = some u → u.ownBlock ≠ some k)) (fun iv _ => n2 - (intOf iv).toNat)
      case atStart => exact ⟨0, _, _, _, Nat.zero_le _, rfl, HW2, HM2, HX2, HK2, HZ2, HA2⟩
      case round =>
        clear HW2 HM2 HX2 HK2 HZ2 HA2 HW1 HM1 HK1
        obtain ⟨i, sl2, S2, f2, hi, rfl, HW2, HM2, HX2, HK2, HZ2, HA2⟩ := hrel
        by_cases hlt : i < n2
        · have hlt' : (i : Int) < (n2 : Int) := by omega
          obtain ⟨x, hx⟩ : ∃ x, l0[i]? = some x := ⟨_, List.getElem?_eq_getElem (by rw [hln2.out]; exact hlt)⟩
          obtain ⟨t, hxm, hxt⟩ := HIN.out x (List.mem_of_getElem? hx)
          obtain ⟨k, hfx⟩ := HX2.out.fnd hxm
          obtain ⟨ab, hA, q0⟩ : ∃ ab, A2 = some ⟨ab, 0, none⟩ ∧ (_ : World).cell? ⟨ab, i, none⟩ = some (.int .i64 x) := ZatsAt HZ2.out hx
          subst hA
          have hix : I64 x := HX2.out.i64 _ hxm
          have hdu := HDU.out _ hxm
          have htb : t ≤ 4294967296 := by have := hdu.2; simp at this; omega
          obtain ⟨v3, l3, hv3, hl3, _, _⟩ := HW2.out.place (plW_lt n' t)
          have hl3n := HX2.out.row_len hl3
          have HPU := Lib.hid (wput_any g B mb most n' t sz (plW n' t) x sl2 S2 f2 v3 l3 _ HW2.out HM2.out (by omega) htb hix (by omega) rfl hv3 hl3 (by omega))
          rw [hfx] at HPU
          have hlk := HM2.out.at_some hix hfx
          have hfd : ∀ w' : World, (Instr.field 58 (.agg #[.int .i64 (t : Nat), .int .i64 (k : Nat)]) 0).run Try.prog w' = .ok (.int .i64 (t : Nat)) w' := fun w' => by kernel_rfl
          have c2 := HW2.out.c2
          have HXX := Lib.hid hx
          have HXT := Lib.hid hxt
          have HFX := Lib.hid hfx
          have HV3 := Lib.hid hv3
          have HL3 := Lib.hid hl3
          clear hx hxt hfx hv3 hl3 hxm hdu
          go_wp2_with fail
          refine HPU.out.mono ?_
          rintro e w4 ⟨rfl, v4, hw4, hm4, hk4⟩
          have HW4 := Lib.hid hw4
          have HM4 := Lib.hid (show MapW w4 mb (f2.upd x (some (t, l3.length))) sz from hm4)
          have HX4 : Hid (WX (plT n (2 + 1)) (S2.set (plW n' t) (l3 ++ [x])) (f2.upd x (some (t, l3.length))) L (l0.drop (i + 1))) := Lib.hid (by
            have h5 := HX2.out
            rw [drop_at HXX.out] at h5
            have h6 := h5.put (nodup_drop HND.out HXX.out) HFX.out (l := l3) (by rw [HXT.out]; exact HL3.out)
            rwa [HXT.out] at h6)
          have HZ4 := Lib.hid (HZ2.out.kept fun k hk => hk4.same k (HZ2.out.lt k hk).2 (fun e => own_nw HZ2.out HW2.out.blk (by decide) (by rw [← e]; exact hk)) (fun e => HM2.out.row (B := 0) (B' := 0) HZ2.out (by rw [← e]; exact hk)) (HA2.out k hk))
          have HA4 : Hid (∀ k, (Value.slice (some ⟨ab, 0, none⟩) n2 cc2).ownBlock = some k → ∀ (q : Nat) (u : Value), (sl2.set (plW n' t) v4)[q]? = some u → u.ownBlock ≠ some k) := Lib.hid fun k hk q u hu hku => by
            rcases hk4.new q u k hu hku with ⟨q', u', h1, h2⟩ | h1
            · exact HA2.out k hk q' u' h1 h2
            · have := (HZ2.out.lt k hk).2
              omega
          have HK4 := Lib.hid (HK2.out.trans hk4)
          clear hw4 hm4 hk4 q0 hlk hfd c2 HPU HW2 HM2 HX2 HK2 HZ2 HA2
          go_wp2_with fail
          go_roundw
          case rel => exact ⟨i + 1, _, _, _, by omega, by go_num, HW4, HM4, HX4, HK4, HZ4, HA4⟩
          case measure => simp [intOf]; omega
        · have hie : i = n2 := by omega
          subst hie
          have HLE : Hid (WL (plT n (2 + 1)) S2 f2 L) := Lib.hid (by
            have h5 := HX2.out
            rwa [List.drop_eq_nil_of_le (by rw [hln2.out]; exact Nat.le_refl _)] at h5)
          go_wp2_with fail
          go_roundw
          case rel => exact ⟨2 + 1, sl2, S2, f2, by omega, by omega, by go_num, by go_num, HW2, HM2, HLE, HK2⟩
          case measure => simp [intOf]
    · simp only [spn]
      have hgo : n' % 4096 = 0 := by have := HGO.out; rw [← HNE.out] at this; simpa [p16] using this
      have hgo' : (n' : Int) % 4096 = 0 := by omega
      have hgz : ¬ ((n' : Int) % 4096 ≠ 0) := by omega
      obtain ⟨s, hs⟩ : ∃ s, s = slW 3 n' := ⟨_, rfl⟩
      have hs16 : s < 16 := by rw [hs]; exact slW_lt 3 n'
      obtain ⟨p, hp⟩ : ∃ p, p = 16 * 3 + slW 3 n' := ⟨_, rfl⟩
      have hp64 : p < 64 := by omega
      have hpe : 3 + p = 51 + s := by omega
      obtain ⟨q, hq⟩ : ∃ q, q = n' / 4096 := ⟨_, rfl⟩
      have hsq : s = q % 16 := by rw [hs, hq]; rfl
      have hw1 : IntKind.i64.wrap ((n' : Int) / 4096) = (q : Nat) := by rw [IntKind.wrap_i64]; omega
      have hw2 : ((q : Nat) : Int).tmod 16 = (s : Nat) := by rw [Int.tmod_eq_emod_of_nonneg (by omega)]; omega
      have hs0 : (0 : Int) ≤ (s : Int) := by omega
      have hs1 : (s : Int) < 16 := by omega
      have HP := Lib.hid hp
      have HPE := Lib.hid hpe
      have HW12 := Lib.hid (And.intro hw1 hw2)
      clear hp hpe hs hq hsq hw1 hw2
      go_wp2_with fail
      clear c1 hgo hgo' hgz
      refine wp_ord [(0, .pure), (1, .pure), (2, .pure), (3, .pure), (4, .pure), (5, .read), (6, .pure), (7, .pure), (8, .pure), (9, .pure), (10, .pure), (11, .pure), (12, .pure), (15, .pure), (13, .sole), (14, .pure)] [13] (by kernel_rfl) (by kernel_rfl) (fun QQ hQ wd hwd => ?_); simp only [List.map_cons, List.map_nil, List.getD_cons_zero, List.getD_cons_succ]
      have hD : Below wr.heap.size wr wd := by rw [hwd.out]; exact (Below.refl _ _).drew
      have HWD := Lib.hid (HW1.out.into hD)
      have HMD := Lib.hid (HM1.out.same (hD.block mb HM1.out.lt))
      have HKD := Lib.hid (HK1.out.trans (KeptW.of_below hD))
      clear hD hwd
      have c1 := HWD.out.c1
      obtain ⟨hw1, hw2⟩ := HW12.out
      (refine o_pure (v := ?_) (by rfl) (fun w' => ?_) ?_; rotate_left; (focus (go_simp; (try with_reducible rfl); (try (rw [if_pos (by omega)]; (try with_reducible rfl))))); (try simp only [Act.put, List.setIfInBounds_toArray, List.set_cons_zero, List.set_cons_succ]))
      (refine o_pure (v := ?_) (by rfl) (fun w' => ?_) ?_; rotate_left; (focus (go_simp; (try with_reducible rfl); (try (rw [if_pos (by omega)]; (try with_reducible rfl))))); (try simp only [Act.put, List.setIfInBounds_toArray, List.set_cons_zero, List.set_cons_succ]))
      (refine o_pure (v := ?_) (by rfl) (fun w' => ?_) ?_; rotate_left; (focus (go_simp; (try with_reducible rfl); (try (rw [if_pos (by omega)]; (try with_reducible rfl))))); (try simp only [Act.put, List.setIfInBounds_toArray, List.set_cons_zero, List.set_cons_succ]))
      (refine o_pure (v := ?_) (by rfl) (fun w' => ?_) ?_; rotate_left; (focus (go_simp; (try with_reducible rfl); (try (rw [if_pos (by omega)]; (try with_reducible rfl))))); (try simp only [Act.put, List.setIfInBounds_toArray, List.set_cons_zero, List.set_cons_succ]))
      (refine o_pure (v := ?_) (by rfl) (fun w' => ?_) ?_; rotate_left; (focus (go_simp; (try with_reducible rfl); (try (rw [if_pos (by omega)]; (try with_reducible rfl))))); (try simp only [Act.put, List.setIfInBounds_toArray, List.set_cons_zero, List.set_cons_succ]))
      (refine o_load _ (by rfl) rfl rfl (by assumption) (by kernel_rfl) ?_; simp only [Act.put, List.setIfInBounds_toArray, List.set_cons_zero, List.set_cons_succ])
      (refine o_pure (v := ?_) (by rfl) (fun w' => ?_) ?_; rotate_left; (focus (go_simp; (try with_reducible rfl); (try (rw [if_pos (by omega)]; (try with_reducible rfl))))); (try simp only [Act.put, List.setIfInBounds_toArray, List.set_cons_zero, List.set_cons_succ]))
      (refine o_pure (v := ?_) (by rfl) (fun w' => ?_) ?_; rotate_left; (focus (go_simp; (try with_reducible rfl); (try (rw [if_pos (by omega)]; (try with_reducible rfl))))); (try simp only [Act.put, List.setIfInBounds_toArray, List.set_cons_zero, List.set_cons_succ]))
      (refine o_pure (v := ?_) (by rfl) (fun w' => ?_) ?_; rotate_left; (focus (go_simp; (try with_reducible rfl); (try (rw [if_pos (by omega)]; (try with_reducible rfl))))); (try simp only [Act.put, List.setIfInBounds_toArray, List.set_cons_zero, List.set_cons_succ]))
      (refine o_pure (v := ?_) (by rfl) (fun w' => ?_) ?_; rotate_left; (focus (go_simp; (try with_reducible rfl); (try (rw [if_pos (by omega)]; (try with_reducible rfl))))); (try simp only [Act.put, List.setIfInBounds_toArray, List.set_cons_zero, List.set_cons_succ]))
      (refine o_pure (v := ?_) (by rfl) (fun w' => ?_) ?_; rotate_left; (focus (go_simp; (try with_reducible rfl); (try (rw [if_pos (by omega)]; (try with_reducible rfl))))); (try simp only [Act.put, List.setIfInBounds_toArray, List.set_cons_zero, List.set_cons_succ]))
      (refine o_pure (v := ?_) (by rfl) (fun w' => ?_) ?_; rotate_left; (focus (go_simp; (try with_reducible rfl); (try (rw [if_pos (by omega)]; (try with_reducible rfl))))); (try simp only [Act.put, List.setIfInBounds_toArray, List.set_cons_zero, List.set_cons_succ]))
      (refine o_pure (v := ?_) (by rfl) (fun w' => ?_) ?_; rotate_left; (focus (go_simp; (try with_reducible rfl); (try (rw [if_pos (by omega)]; (try with_reducible rfl))))); (try simp only [Act.put, List.setIfInBounds_toArray, List.set_cons_zero, List.set_cons_succ]))
      (refine o_pure (v := ?_) (by rfl) (fun w' => ?_) ?_; rotate_left; (focus (go_simp; (try with_reducible rfl); (try (rw [if_pos (by omega)]; (try with_reducible rfl))))); (try simp only [Act.put, List.setIfInBounds_toArray, List.set_cons_zero, List.set_cons_succ]))
      obtain ⟨v0, l0, hv0, hl0, _, _⟩ := HWD.out.place hp64
      have hll := HL1.out.row_len hl0
      have HEM := Lib.hid (wempty_any g B mb most n' p sl1 S1 v0 l0 wd HWD.out hv0 hl0 (by omega))
      rw [HPE.out] at HEM
      have HV0 := Lib.hid hv0
      have HL0 := Lib.hid hl0
      clear c1 hv0 hl0 hw1 hw2
      refine o_sole (fun K hK => ?_)
      go_wp2_with fail
      refine HEM.out.mono ?_
      rintro e w2 ⟨v2, rfl, hz2, hw2, ht2⟩
      have HZ2 := Lib.hid (hz2.mono (B' := 0) (Nat.zero_le _))
      have HW2 := Lib.hid hw2
      have HM2 := Lib.hid (HMD.out.same (ht2.2 mb HMD.out.lt (Ne.symm (HMD.out.ne HWD.out.blk))))
      have HK2 := Lib.hid (HKD.out.trans (KeptW.of_tou (mb := mb) (p := p) ht2))
      have HX2 := Lib.hid ((WL.emptied HL1.out HL0.out).re (P' := plT n (3 + 1)) fun id t hr hm => by
        have hdu := (HDU.out _ hm).1
        refine plT_stay hdu (by omega) HGO.out fun e => hr ?_
        obtain ⟨k, hf⟩ := HL1.out.fnd hm
        have hwg := HL1.out.wg
        rw [Fm.wo_nil] at hwg
        obtain ⟨l', h1, h2⟩ := hwg.here id t k hf
        have e2 : plT n 3 t = p := by rw [HP.out, HNE.out]; exact e
        rw [e2, HL0.out] at h1
        injection h1 with h1
        subst h1
        exact List.mem_of_getElem? h2)
      have HA2 : Hid (∀ k, v2.ownBlock = some k → ∀ (q : Nat) (u : Value), (sl1.set p (.slice none 0 0))[q]? = some u → u.ownBlock ≠ some k) := Lib.hid fun k hk q u hu hku => by
        have hk1 := (hz2.lt k hk).1
        have hkl : k < wd.heap.size := by
          by_cases e : p = q
          · subst e
            rw [List.getElem?_set_self (get_lt HV0.out)] at hu
            injection hu with hu
            subst hu
            simp [Value.ownBlock] at hku
          · rw [List.getElem?_set_ne e] at hu
            obtain ⟨u', l, h1, h2, _, hz⟩ := HWD.out.place (p := q) (by rw [← HWD.out.sll]; exact get_lt hu)
            rw [hu] at h1
            injection h1 with h1
            subst h1
            exact (hz.lt k hku).2
        omega
      have HND := Lib.hid ((show WG (plT n 3) S1 f1 from by have := HL1.out.wg; rwa [Fm.wo_nil] at this).nodup HL0.out)
      have HIN : Hid (∀ x ∈ l0, ∃ t, (x, t) ∈ L ∧ plT n (3 + 1) t = plW n' t) := Lib.hid fun x hx => by
        obtain ⟨_, t, k, hf, hk, hpt, hm⟩ := HL1.out.row_mem HL0.out hx
        exact ⟨t, hm, by rw [HNE.out]; exact plT_here ((HDU.out _ hm).1) (slW_lt 3 n') (by rw [hpt, HP.out])⟩
      clear hz2 hw2 ht2 HEM HWD HMD HKD
      obtain ⟨A2, n2, cc2, rfl, hnc2, hln2, _⟩ := HZ2.out.out
      go_wp2_with fail
      refine hK _ _ (fun h => by cases h) ?_; clear hK K
      (refine o_pure (v := ?_) (by rfl) (fun w' => ?_) ?_; rotate_left; (focus (go_simp; (try with_reducible rfl); (try (rw [if_pos (by omega)]; (try with_reducible rfl))))); (try simp only [Act.put, List.setIfInBounds_toArray, List.set_cons_zero, List.set_cons_succ]))
      refine o_nil (hQ.out _ _ ?_); clear hQ QQ
      have hn2 : n2 ≤ 5000 := by rw [← hln2.out]; omega
      go_wp2_with fail
      go_loopw [34] (fun iv wk => ∃ (i : Nat) (sl2 : List Value) (S2 : List (List Int)) (f2 : Fm), i ≤ n2 ∧ iv = .int .i64 (i : Nat) ∧ Hid (WS wk g B mb most n' sl2 S2) ∧ Hid (MapW wk mb f2 sz) ∧ Hid (WX (plT n (3 + 1)) S2 f2 L (l0.drop i)) ∧ Hid (KeptW g mb sl sl2 w wk) ∧ Hid (Zats wk 3 .i64 0 (.slice A2 n2 cc2) l0) ∧ Hid (∀ k, (Value.slice A2 n2 cc2).ownBlock = some k → ∀ (q : Nat) (u : Value), sl2[q]? = some u → u.ownBlock ≠ some k)) (fun iv _ => n2 - (intOf iv).toNat)
      case atStart => exact ⟨0, _, _, _, Nat.zero_le _, rfl, HW2, HM2, HX2, HK2, HZ2, HA2⟩
      case round =>
        clear HW2 HM2 HX2 HK2 HZ2 HA2 HW1 HM1 HK1
        obtain ⟨i, sl2, S2, f2, hi, rfl, HW2, HM2, HX2, HK2, HZ2, HA2⟩ := hrel
        by_cases hlt : i < n2
        · have hlt' : (i : Int) < (n2 : Int) := by omega
          obtain ⟨x, hx⟩ : ∃ x, l0[i]? = some x := ⟨_, List.getElem?_eq_getElem (by rw [hln2.out]; exact hlt)⟩
          obtain ⟨t, hxm, hxt⟩ := HIN.out x (List.mem_of_getElem? hx)
          obtain ⟨k, hfx⟩ := HX2.out.fnd hxm
          obtain ⟨ab, hA, q0⟩ : ∃ ab, A2 = some ⟨ab, 0, none⟩ ∧ (_ : World).cell? ⟨ab, i, none⟩ = some (.int .i64 x) := ZatsAt HZ2.out hx
          subst hA
          have hix : I64 x := HX2.out.i64 _ hxm
          have hdu := HDU.out _ hxm
          have htb : t ≤ 4294967296 := by have := hdu.2; simp at this; omega
          obtain ⟨v3, l3, hv3, hl3, _, _⟩ := HW2.out.place (plW_lt n' t)
          have hl3n := HX2.out.row_len hl3
          have HPU := Lib.hid (wput_any g B mb most n' t sz (plW n' t) x sl2 S2 f2 v3 l3 _ HW2.out HM2.out (by omega) htb hix (by omega) rfl hv3 hl3 (by omega))
          rw [hfx] at HPU
          have hlk := HM2.out.at_some hix hfx
          have hfd : ∀ w' : World, (Instr.field 58 (.agg #[.int .i64 (t : Nat), .int .i64 (k : Nat)]) 0).run Try.prog w' = .ok (.int .i64 (t : Nat)) w' := fun w' => by kernel_rfl
          have c2 := HW2.out.c2
          have HXX := Lib.hid hx
          have HXT := Lib.hid hxt
          have HFX := Lib.hid hfx
          have HV3 := Lib.hid hv3
          have HL3 := Lib.hid hl3
          clear hx hxt hfx hv3 hl3 hxm hdu
          go_wp2_with fail
          refine HPU.out.mono ?_
          rintro e w4 ⟨rfl, v4, hw4, hm4, hk4⟩
          have HW4 := Lib.hid hw4
          have HM4 := Lib.hid (show MapW w4 mb (f2.upd x (some (t, l3.length))) sz from hm4)
          have HX4 : Hid (WX (plT n (3 + 1)) (S2.set (plW n' t) (l3 ++ [x])) (f2.upd x (some (t, l3.length))) L (l0.drop (i + 1))) := Lib.hid (by
            have h5 := HX2.out
            rw [drop_at HXX.out] at h5
            have h6 := h5.put (nodup_drop HND.out HXX.out) HFX.out (l := l3) (by rw [HXT.out]; exact HL3.out)
            rwa [HXT.out] at h6)
          have HZ4 := Lib.hid (HZ2.out.kept fun k hk => hk4.same k (HZ2.out.lt k hk).2 (fun e => own_nw HZ2.out HW2.out.blk (by decide) (by rw [← e]; exact hk)) (fun e => HM2.out.row (B := 0) (B' := 0) HZ2.out (by rw [← e]; exact hk)) (HA2.out k hk))
          have HA4 : Hid (∀ k, (Value.slice (some ⟨ab, 0, none⟩) n2 cc2).ownBlock = some k → ∀ (q : Nat) (u : Value), (sl2.set (plW n' t) v4)[q]? = some u → u.ownBlock ≠ some k) := Lib.hid fun k hk q u hu hku => by
            rcases hk4.new q u k hu hku with ⟨q', u', h1, h2⟩ | h1
            · exact HA2.out k hk q' u' h1 h2
            · have := (HZ2.out.lt k hk).2
              omega
          have HK4 := Lib.hid (HK2.out.trans hk4)
          clear hw4 hm4 hk4 q0 hlk hfd c2 HPU HW2 HM2 HX2 HK2 HZ2 HA2
          go_wp2_with fail
          go_roundw
          case rel => exact ⟨i + 1, _, _, _, by omega, by go_num, HW4, HM4, HX4, HK4, HZ4, HA4⟩
          case measure => simp [intOf]; omega
        · have hie : i = n2 := by omega
          subst hie
          have HLE : Hid (WL (plT n (3 + 1)) S2 f2 L) := Lib.hid (by
            have h5 := HX2.out
            rwa [List.drop_eq_nil_of_le (by rw [hln2.out]; exact Nat.le_refl _)] at h5)
          go_wp2_with fail
          go_roundw
          case rel => exact ⟨3 + 1, sl2, S2, f2, by omega, by omega, by go_num, by go_num, HW2, HM2, HLE, HK2⟩
          case measure => simp [intOf]
end Go.Proofs.Ytpeagibompohhaa
