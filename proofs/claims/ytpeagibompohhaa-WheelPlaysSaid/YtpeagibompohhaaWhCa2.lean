/- Package wheel: Cancel of one that is there. -/
import Derived.Test.YtpeagibompohhaaWhCan
namespace Go.Proofs.Ytpeagibompohhaa
open Go.RowKit
set_option linter.unusedVariables false
set_option linter.unusedSimpArgs false
theorem wcs_cell {w : World} {g most now mb p : Nat} {sl : List Value} {v : Value} (h : Blk w g 54 (wcs most now mb sl).toArray) (hv : sl[p]? = some v) : w.cell? ⟨g, 3 + p, none⟩ = some v := by
  rw [h.cell, List.getElem?_toArray, ← hv, show 3 + p = p + 1 + 1 + 1 by omega]
  rfl
theorem zs_get {l : List Int} {i : Nat} {x : Int} (h : l[i]? = some x) : (zs .i64 l)[i]? = some (.int .i64 x) := by simp [zs, h]
theorem zs_set (l : List Int) (i : Nat) (x : Int) : (zs .i64 l).set i (.int .i64 x) = zs .i64 (l.set i x) := by simp [zs, List.map_set]
theorem Zats.cutm {w : World} {B rb c n m : Nat} {l : List Int} (h : w.ownsRow B 3 1 (.slice (some ⟨rb, 0, none⟩) n c) n (zs .i64 l)) (hm : m ≤ n) (hl : l.length = n) : Zats w 3 .i64 B (.slice (some ⟨rb, 0, none⟩) m c) (l.take m) := by
  have hlen : (l.take m).length = m := by rw [List.length_take, hl]; omega
  unfold Zats
  rw [hlen]
  rcases h.2 with ⟨h', _⟩ | ⟨g', cap, cur, h', hb, hg, hnc, hcm, hcs, htake⟩
  · simp at h'
  · simp only [Value.slice.injEq, Option.some.injEq, Addr.mk.injEq, and_true, true_and] at h'
    obtain ⟨rfl, rfl⟩ := h'
    refine ⟨by simp [zs, hl]; omega, .inr ⟨rb, c, cur, rfl, hb, hg, by omega, hcm, hcs, ?_⟩⟩
    have h1 : (cur.toList.take (n * 1)).take (m * 1) = (zs .i64 l).take (m * 1) := by rw [htake]
    rw [List.take_take, Nat.min_eq_left (by omega)] at h1
    rw [h1]
    simp [zs, List.map_take]
set_option maxRecDepth 20000 in
set_option maxHeartbeats 2000000 in
theorem wcancel_some (g B mb most now sz t k m p tl al : Nat) (id last : Int) (sl : List Value) (S : List (List Int)) (f : Fm) (v0 : Value) (l0 : List Int) (w : World) (h : WS w g B mb most now sl S) (hm : MapW w mb f sz) (hn : now ≤ 4294967296) (ht : t ≤ 4294967296) (hid : I64 id) (hlast : I64 last)
    (hf : f id = some (t, k)) (hp : plW now t = p) (hv0 : sl[p]? = some v0) (hl0 : S[p]? = some l0) (hll : l0.length = m + 1) (hm1 : m ≤ 10000) (hk : k ≤ m) (hla : l0[m]? = some last) (hfl : f last = some (tl, al)) (hsz : sz < 8999) :
    Calls Try.prog 9 #[.pointer (some ⟨g, 0, none⟩), .int .i64 id] w fun e w' => e = .returned (.bool true) ∧ ∃ v', WS w' g B mb most now (sl.set p v') (S.set p ((l0.set k last).take m)) ∧ MapW w' mb ((f.upd last (some (tl, k))).upd id none) (sz - 1) ∧ KeptW g mb sl (sl.set p v') w w' := by
  have HPL := Lib.hid (fun w' (h' : WS w' g B mb most now sl S) => wplace_any g B mb most now t sl S w' h' hn ht)
  rw [hp] at HPL
  have HW := Lib.hid h
  have HM := Lib.hid hm
  have HV0 := Lib.hid hv0
  have HL0 := Lib.hid hl0
  have HID := Lib.hid hid
  have HLA := Lib.hid hlast
  have HF := Lib.hid hf
  have HFL := Lib.hid hfl
  have HSZ := Lib.hid hsz
  have HLE := Lib.hid hll
  have HGL := Lib.hid hla
  obtain ⟨x0, hx0⟩ : ∃ x, l0[k]? = some x := ⟨_, List.getElem?_eq_getElem (by omega)⟩
  have HX0 := Lib.hid hx0
  obtain ⟨rb, c, rfl, hBr, hmc0⟩ : ∃ rb c, v0 = .slice (some ⟨rb, 0, none⟩) (m + 1) c ∧ B ≤ rb ∧ m + 1 ≤ c := by
    have hz := h.rows p v0 l0 hv0 hl0
    unfold Zats at hz
    rw [hll] at hz
    rcases own_open hz with ⟨_, h0, _⟩ | ⟨rb, c, L, rfl, hB, hr, hnc, _⟩
    · omega
    · exact ⟨rb, c, rfl, hB, hnc⟩
  have c2 := h.c2
  have hlk := hm.ok_some hid hf
  have hglt := h.lt
  clear h hm hn ht hid hf hp hv0 hl0 hll hla hfl hlast hx0
  go_enter Try.func9, Try.ntmps9
  go_upto_region 2 with fail
  have hA := (Below.refl w.heap.size w).alloc (Nat.le_refl _) (.cells #[.int .i64 (t : Nat), .int .i64 (k : Nat)] 58)
  have k2 := Lib.hid (Blk.new w 58 #[.int .i64 (t : Nat), .int .i64 (k : Nat)])
  have HW2 := Lib.hid (HW.out.into hA)
  have HM2 := Lib.hid (HM.out.same (hA.block mb HM.out.lt))
  have HB2 := Lib.hid hA
  obtain ⟨ib, hib⟩ : ∃ x, x = w.heap.size := ⟨_, rfl⟩
  rw [← hib] at k2 ⊢
  have HIB := Lib.hid hib
  obtain ⟨z0, z1⟩ := ptc2 k2.out
  clear hA c2 hlk hib
  generalize w.alloc (.cells #[.int .i64 (t : Nat), .int .i64 (k : Nat)] 58) = w2 at k2 HW2 HM2 HB2 z0 z1 ⊢
  go_wp2_with fail
  refine (HPL.out w2 HW2.out).mono ?_
  rintro e w3 ⟨rfl, hq⟩
  have hB3 : Below w2.heap.size w2 w3 := by obtain ⟨q, rfl⟩ := hq; exact below_drewN (Below.refl _ _) q
  have HW3 := Lib.hid (HW2.out.into hB3)
  have HM3 := Lib.hid (HM2.out.same (hB3.block mb HM2.out.lt))
  have k3 := Lib.hid (k2.out.below hB3 k2.out.lt)
  have HB3 := Lib.hid (HB2.out.trans (hB3.mono HB2.out.size))
  clear hq HPL hB3 z0 z1 HW2 HM2 HB2 k2
  have d3 := wcs_cell HW3.out.blk HV0.out
  have O3 : Hid (w3.ownsRow B 3 1 (.slice (some ⟨rb, 0, none⟩) (m + 1) c) (m + 1) (zs .i64 l0)) := Lib.hid (by have hz := HW3.out.rows p _ l0 HV0.out HL0.out; unfold Zats at hz; rw [HLE.out] at hz; exact hz)
  have dm : w3.cell? ⟨rb, m, none⟩ = some (.int .i64 last) := by rw [O3.out.cellAt m (by omega)]; exact zs_get HGL.out
  have hi1 : (m : Int) < (m : Int) + 1 := by omega
  go_wp2_with fail
  clear d3 dm hi1
  refine wp_ord [(0, .pure), (1, .pure), (2, .read), (3, .pure), (4, .read), (5, .pure), (6, .pure), (7, .sole)] [7] (by kernel_rfl) (by kernel_rfl) (fun QQ hQ wd hwd => ?_); simp only [List.map_cons, List.map_nil, List.getD_cons_zero, List.getD_cons_succ]
  have hD : Below w3.heap.size w3 wd := by rw [hwd.out]; exact (Below.refl _ _).drew
  have HW7 := Lib.hid (HW3.out.into hD)
  have HM7 := Lib.hid (HM3.out.same (hD.block mb HM3.out.lt))
  have k7 := Lib.hid (k3.out.below hD k3.out.lt)
  have HB7 := Lib.hid (HB3.out.trans (hD.mono HB3.out.size))
  have O7 : Hid (wd.ownsRow B 3 1 (.slice (some ⟨rb, 0, none⟩) (m + 1) c) (m + 1) (zs .i64 l0)) := Lib.hid (own_below O3.out hD fun k hk => (O3.out.lt k hk).2)
  clear hD hwd HW3 HM3 k3 HB3 O3
  obtain ⟨z0, z1⟩ := ptc2 k7.out
  have d3 := wcs_cell HW7.out.blk HV0.out
  have hi1 : (k : Int) < (m : Int) + 1 := by omega
  have dk : wd.cell? ⟨rb, k, none⟩ = some (.int .i64 x0) := by rw [O7.out.cellAt k (by omega)]; exact zs_get HX0.out
  have fk := O7.out.frozenAt k
  (refine o_pure (v := ?_) (by rfl) (fun w' => ?_) ?_; rotate_left; (focus (go_simp; (try with_reducible rfl); (try (rw [if_pos (by omega)]; (try with_reducible rfl))))); (try simp only [Act.put, List.setIfInBounds_toArray, List.set_cons_zero, List.set_cons_succ]))
  (refine o_pure (v := ?_) (by rfl) (fun w' => ?_) ?_; rotate_left; (focus (go_simp; (try with_reducible rfl); (try (rw [if_pos (by omega)]; (try with_reducible rfl))))); (try simp only [Act.put, List.setIfInBounds_toArray, List.set_cons_zero, List.set_cons_succ]))
  (refine o_load _ (by rfl) rfl rfl (by assumption) (by kernel_rfl) ?_; simp only [Act.put, List.setIfInBounds_toArray, List.set_cons_zero, List.set_cons_succ])
  (refine o_pure (v := ?_) (by rfl) (fun w' => ?_) ?_; rotate_left; (focus (go_simp; (try with_reducible rfl); (try (rw [if_pos (by omega)]; (try with_reducible rfl))))); (try simp only [Act.put, List.setIfInBounds_toArray, List.set_cons_zero, List.set_cons_succ]))
  (refine o_load _ (by rfl) rfl rfl (by assumption) (by kernel_rfl) ?_; simp only [Act.put, List.setIfInBounds_toArray, List.set_cons_zero, List.set_cons_succ])
  (refine o_pure (v := ?_) (by rfl) (fun w' => ?_) ?_; rotate_left; (focus (go_simp; (try with_reducible rfl); (try (rw [if_pos (by omega)]; (try with_reducible rfl))))); (try simp only [Act.put, List.setIfInBounds_toArray, List.set_cons_zero, List.set_cons_succ]))
  (refine o_pure (v := ?_) (by rfl) (fun w' => ?_) ?_; rotate_left; (focus (go_simp; (try with_reducible rfl); (try (rw [if_pos (by omega)]; (try with_reducible rfl))))); (try simp only [Act.put, List.setIfInBounds_toArray, List.set_cons_zero, List.set_cons_succ]))
  refine o_sole (fun K hK => ?_)
  go_wp2_with fail
  refine hK _ _ (fun h => by cases h) ?_; clear hK K
  refine o_nil (hQ.out _ _ ?_); clear hQ QQ
  obtain ⟨ho8, hg8⟩ := O7.out.stored k (.int .i64 last)
  rw [zs_set] at ho8
  have hrg : rb ≠ g := fun e => own_nw O7.out HW7.out.blk (by decide) (by rw [← e]; rfl)
  have hrm : rb ≠ mb := fun e => HM7.out.row (B := B) (B' := 0) (HW7.out.rows p _ l0 HV0.out HL0.out) (by rw [← e]; rfl)
  have hrt : rb ≠ ib := fun e => own_nw O7.out k7.out (by decide) (by rw [← e]; rfl)
  have O8 := Lib.hid ho8
  have HS8 : Hid (Solo rb wd (wd.setCell ⟨rb, k, none⟩ (.int .i64 last))) := Lib.hid (Solo.refl.setCell k _)
  have K8 := Lib.hid (HS8.out.blk HW7.out.blk (Ne.symm hrg))
  have k8 := Lib.hid (HS8.out.blk k7.out (Ne.symm hrt))
  have HM8 := Lib.hid (HM7.out.same (HS8.out.2.2 mb (Ne.symm hrm)))
  clear ho8 hg8 z0 z1 d3 dk fk hi1
  generalize wd.setCell ⟨rb, k, none⟩ (.int .i64 last) = w8 at O8 HS8 K8 k8 HM8 ⊢
  have d3 := wcs_cell K8.out HV0.out
  have f3 := K8.out.frozen (3 + p)
  have hc0 : ¬ c = 0 := by omega
  have hmc : (m : Int) ≤ (c : Int) := by omega
  go_upto_region 9 with fail
  clear d3 f3
  have hs9 : Solo g w8 (w8.setCell ⟨g, 3 + p, none⟩ (.slice (some ⟨rb, 0, none⟩) m c)) := Solo.refl.setCell (3 + p) _
  have hk9 := K8.out.set (3 + p) (.slice (some ⟨rb, 0, none⟩) m c)
  rw [wcs_set] at hk9
  have hz9 := own_kept (Zats.cutm O8.out (Nat.le_succ m) (by rw [List.length_set]; exact HLE.out)) fun k hk => hs9.2.2 k fun e => by injection hk with hk; exact hrg (hk.trans e)
  have hrow : ∀ (q : Nat) (u : Value) (k' : Nat), q ≠ p → sl[q]? = some u → u.ownBlock = some k' → (w8.setCell ⟨g, 3 + p, none⟩ (.slice (some ⟨rb, 0, none⟩) m c)).heap[k']? = wd.heap[k']? := fun q u k' hq hu hk' =>
    (hs9.2.2 k' fun e => by subst e; exact HW7.out.rowg hu hk').trans (HS8.out.2.2 k' fun e => by subst e; exact HW7.out.apart p q _ u k' (Ne.symm hq) HV0.out hu rfl hk')
  have HW9 := Lib.hid (HW7.out.set HV0.out hk9 hz9 hrow (NewOr.same rfl))
  have HM9 := Lib.hid (HM8.out.same (hs9.2.2 mb (Ne.symm (HM8.out.ne K8.out))))
  have k9 := Lib.hid (hs9.blk k8.out (by have := hglt; have := HIB.out; omega))
  have HS9 := Lib.hid hs9
  clear hs9 hk9 hz9 hrow
  generalize w8.setCell ⟨g, 3 + p, none⟩ (.slice (some ⟨rb, 0, none⟩) m c) = w9 at HW9 HM9 k9 HS9 ⊢
  have e9 := Lib.hid (show (f.upd last (some (tl, k))) id ≠ none by unfold Fm.upd; split <;> simp [HF.out])
  go_wp2_with fail
  refine wp_ord [(0, .pure), (1, .pure), (2, .pure), (3, .read), (4, .pure), (5, .pure), (6, .pure), (7, .pure), (8, .read), (9, .pure), (12, .pure), (13, .read), (10, .sole), (11, .pure), (14, .pure), (15, .sole)] [15] (by kernel_rfl) (by kernel_rfl) (fun QQ hQ wd hwd => ?_); simp only [List.map_cons, List.map_nil, List.getD_cons_zero, List.getD_cons_succ]
  have hD : Below w9.heap.size w9 wd := by rw [hwd.out]; exact (Below.refl _ _).drew
  have HWA := Lib.hid (HW9.out.into hD)
  have HMA := Lib.hid (HM9.out.same (hD.block mb HM9.out.lt))
  have kA := Lib.hid (k9.out.below hD k9.out.lt)
  have HBA := Lib.hid hD
  clear hD hwd HW9 HM9 k9
  obtain ⟨z0, z1⟩ := ptc2 kA.out
  have c2 := HWA.out.c2
  have hlk := HMA.out.at_some HLA.out HFL.out
  have hfd : ∀ w' : World, (Instr.field 58 (.agg #[.int .i64 (tl : Nat), .int .i64 (al : Nat)]) 0).run Try.prog w' = .ok (.int .i64 (tl : Nat)) w' := fun w' => by kernel_rfl
  (refine o_pure (v := ?_) (by rfl) (fun w' => ?_) ?_; rotate_left; (focus (go_simp; (try with_reducible rfl); (try (rw [if_pos (by omega)]; (try with_reducible rfl))))); (try simp only [Act.put, List.setIfInBounds_toArray, List.set_cons_zero, List.set_cons_succ]))
  (refine o_pure (v := ?_) (by rfl) (fun w' => ?_) ?_; rotate_left; (focus (go_simp; (try with_reducible rfl); (try (rw [if_pos (by omega)]; (try with_reducible rfl))))); (try simp only [Act.put, List.setIfInBounds_toArray, List.set_cons_zero, List.set_cons_succ]))
  (refine o_pure (v := ?_) (by rfl) (fun w' => ?_) ?_; rotate_left; (focus (go_simp; (try with_reducible rfl); (try (rw [if_pos (by omega)]; (try with_reducible rfl))))); (try simp only [Act.put, List.setIfInBounds_toArray, List.set_cons_zero, List.set_cons_succ]))
  (refine o_load _ (by rfl) rfl rfl (by assumption) (by kernel_rfl) ?_; simp only [Act.put, List.setIfInBounds_toArray, List.set_cons_zero, List.set_cons_succ])
  (refine o_pure (v := ?_) (by rfl) (fun w' => ?_) ?_; rotate_left; (focus (go_simp; (try with_reducible rfl); (try (rw [if_pos (by omega)]; (try with_reducible rfl))))); (try simp only [Act.put, List.setIfInBounds_toArray, List.set_cons_zero, List.set_cons_succ]))
  (refine o_pure (v := ?_) (by rfl) (fun w' => ?_) ?_; rotate_left; (focus (go_simp; (try with_reducible rfl); (try (rw [if_pos (by omega)]; (try with_reducible rfl))))); (try simp only [Act.put, List.setIfInBounds_toArray, List.set_cons_zero, List.set_cons_succ]))
  (refine o_pure (v := ?_) (by rfl) (fun w' => ?_) ?_; rotate_left; (focus (go_simp; (try with_reducible rfl); (try (rw [if_pos (by omega)]; (try with_reducible rfl))))); (try simp only [Act.put, List.setIfInBounds_toArray, List.set_cons_zero, List.set_cons_succ]))
  (refine o_pure (v := ?_) (by rfl) (fun w' => ?_) ?_; rotate_left; (focus (go_simp; (try with_reducible rfl); (try (rw [if_pos (by omega)]; (try with_reducible rfl))))); (try simp only [Act.put, List.setIfInBounds_toArray, List.set_cons_zero, List.set_cons_succ]))
  (refine o_load _ (by rfl) rfl rfl (by assumption) (by kernel_rfl) ?_; simp only [Act.put, List.setIfInBounds_toArray, List.set_cons_zero, List.set_cons_succ])
  (refine o_pure (v := ?_) (by rfl) (fun w' => ?_) ?_; rotate_left; (focus (go_simp; (try with_reducible rfl); (try (rw [if_pos (by omega)]; (try with_reducible rfl))))); (try simp only [Act.put, List.setIfInBounds_toArray, List.set_cons_zero, List.set_cons_succ]))
  (refine o_pure (v := ?_) (by rfl) (fun w' => ?_) ?_; rotate_left; (focus (go_simp; (try with_reducible rfl); (try (rw [if_pos (by omega)]; (try with_reducible rfl))))); (try simp only [Act.put, List.setIfInBounds_toArray, List.set_cons_zero, List.set_cons_succ]))
  (refine o_load _ (by rfl) rfl rfl (by assumption) (by kernel_rfl) ?_; simp only [Act.put, List.setIfInBounds_toArray, List.set_cons_zero, List.set_cons_succ])
  refine o_sole (fun K hK => ?_)
  go_wp2_with fail
  refine hK _ _ (fun _ => Ext.of (Below.refl _ _)) ?_; clear hK K
  (refine o_pure (v := ?_) (by rfl) (fun w' => ?_) ?_; rotate_left; (focus (go_simp; (try with_reducible rfl); (try (rw [if_pos (by omega)]; (try with_reducible rfl))))); (try simp only [Act.put, List.setIfInBounds_toArray, List.set_cons_zero, List.set_cons_succ]))
  (refine o_pure (v := ?_) (by rfl) (fun w' => ?_) ?_; rotate_left; (focus (go_simp; (try with_reducible rfl); (try (rw [if_pos (by omega)]; (try with_reducible rfl))))); (try simp only [Act.put, List.setIfInBounds_toArray, List.set_cons_zero, List.set_cons_succ]))
  obtain ⟨wb, hrun, hmb, htb⟩ := HMA.out.store HLA.out tl k HSZ.out
  rw [HFL.out] at hmb
  have hmb := (show MapW wb mb (f.upd last (some (tl, k))) sz from hmb)
  have HRUN := Lib.hid hrun
  have HMB := Lib.hid hmb
  have HTB := Lib.hid htb
  have HWB := Lib.hid (HWA.out.turned HMA.out htb)
  clear hrun hmb htb c2 hlk z0 z1
  refine o_sole (fun K hK => ?_)
  go_wp2_with (refine wpList_mapRun rfl _ _ _ _ rfl rfl rfl rfl HRUN.out ?_)
  refine hK _ _ (fun h => by cases h) ?_; clear hK K
  refine o_nil (hQ.out _ _ ?_); clear hQ QQ
  have c2 := HWB.out.c2
  obtain ⟨wc, hrun, hmc2, htc⟩ := HMB.out.drop HID.out 0
  rw [if_pos (by have := e9.out; cases hq : (f.upd last (some (tl, k))) id with | none => exact absurd hq this | some _ => rfl)] at hmc2
  have HMC := Lib.hid hmc2
  have HTC := Lib.hid htc
  have HWC := Lib.hid (HWB.out.turned HMB.out htc)
  clear hmc2 htc
  go_wp2_with fail
  go_ret
  have hkept : KeptW g mb sl (sl.set p (.slice (some ⟨rb, 0, none⟩) m c)) w wc := by
    have s1 := HB7.out.size
    have s2 := HS8.out.2.1
    have s3 := HS9.out.2.1
    have s4 := HBA.out.size
    have s5 := HTB.out.grown.size
    have s6 := HTC.out.grown.size
    refine ⟨fun q hq hqg hqm hr => ?_, fun q u j hu hj => ?_, by omega, (unB HB7.out).trans ((unB HS8.out.1).trans ((unB HS9.out.1).trans ((unB HBA.out).trans ((unG HTB.out.grown).trans (unG HTC.out.grown)))))⟩
    · refine (HTC.out.grown.block q (by omega) fun e => hqm (by injection e)).trans ((HTB.out.grown.block q (by omega) fun e => hqm (by injection e)).trans ((HBA.out.block q (by omega)).trans ((HS9.out.2.2 q hqg).trans ((HS8.out.2.2 q fun e => ?_).trans (HB7.out.block q hq)))))
      exact hr p _ HV0.out (by subst e; rfl)
    · have hp := (List.getElem?_eq_some_iff.1 HV0.out).1
      by_cases e : q = p
      · subst e
        rw [List.getElem?_set_self hp] at hu
        injection hu with hu
        subst hu
        exact .inl ⟨q, _, HV0.out, hj⟩
      · rw [List.getElem?_set_ne (Ne.symm e)] at hu
        exact .inl ⟨q, u, hu, hj⟩
  exact ⟨rfl, _, HWC.out, HMC.out, hkept⟩
end Go.Proofs.Ytpeagibompohhaa
