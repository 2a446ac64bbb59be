/- Package wheel: Cancel, Add, Due by the list of what is due. -/
import Derived.Test.YtpeagibompohhaaWhTk
namespace Go.Proofs.Ytpeagibompohhaa
open Go.RowKit
set_option linter.unusedVariables false
set_option linter.unusedSimpArgs false
def hasL (L : List Tm) (id : Int) : Bool := L.any fun x => decide (x.1 = id)
theorem hasL_true {L : List Tm} {id : Int} {t : Nat} (h : (id, t) ∈ L) : hasL L id = true := List.any_eq_true.2 ⟨_, h, by simp⟩
theorem hasL_false {L : List Tm} {id : Int} (h : ∀ t, (id, t) ∉ L) : hasL L id = false := by
  cases e : hasL L id with
  | false => rfl
  | true =>
    obtain ⟨x, hx, hd⟩ := List.any_eq_true.1 e
    have hd : x.1 = id := by simpa using hd
    exact absurd (by rw [← hd]; exact hx) (h x.2)
/-- A wheel with these timers. -/
structure WA (w : World) (g B mb most now : Nat) (sl : List Value) (L : List Tm) : Prop where
  ex : ∃ S f, WS w g B mb most now sl S ∧ MapW w mb f L.length ∧ WL (plW now) S f L
  due : ∀ x ∈ L, now < x.2 ∧ x.2 ≤ now + 65535
  len : L.length ≤ most
  most : most ≤ 4096
theorem WA.into {w w' : World} {g B mb most now : Nat} {sl : List Value} {L : List Tm} (h : WA w g B mb most now sl L) (hb : Below w.heap.size w w') : WA w' g B mb most now sl L := by
  obtain ⟨S, f, h1, h2, h3⟩ := h.ex
  exact ⟨⟨S, f, h1.into hb, h2.same (hb.block mb h2.lt), h3⟩, h.due, h.len, h.most⟩
theorem rmL_le (L : List Tm) (id : Int) : (rmL L id).length ≤ L.length := List.length_filter_le _ _
theorem wcancelI (g B mb most now : Nat) (id : Int) (sl : List Value) (L : List Tm) (w : World) (h : WA w g B mb most now sl L) (hn : now ≤ 4000000000) (hid : I64 id) :
    Calls Try.prog 9 #[.pointer (some ⟨g, 0, none⟩), .int .i64 id] w fun e w' => e = .returned (.bool (hasL L id)) ∧ ∃ sl', WA w' g B mb most now sl' (rmL L id) ∧ KeptW g mb sl sl' w w' := by
  obtain ⟨S, f, hw, hm, hl⟩ := h.ex
  have hll : L.length ≤ 4096 := Nat.le_trans h.len h.most
  have hrest : ∀ x ∈ rmL L id, now < x.2 ∧ x.2 ≤ now + 65535 := fun x hx => h.due x (rmL_mem.1 hx).1
  have hlen := rmL_le L id
  cases hf : f id with
  | none =>
    have hno := hl.none_iff.1 hf
    refine (wcancel_none g B mb most now L.length id sl S f w hw hm hid hf).mono ?_
    rintro e w' ⟨rfl, hb⟩
    refine ⟨by rw [hasL_false hno], sl, ?_, KeptW.of_below hb⟩
    rw [rmL_none hno]
    exact h.into hb
  | some x =>
    obtain ⟨t, k⟩ := x
    have hmem := hl.mem hf
    have hd := h.due _ hmem
    have hwg := hl.wg
    rw [Fm.wo_nil] at hwg
    obtain ⟨l0, hl0, hlk⟩ := hwg.here id t k hf
    obtain ⟨v0, l0', hv0, hl0', _, _⟩ := hw.place (plW_lt now t)
    rw [hl0] at hl0'
    injection hl0' with hl0'
    subst hl0'
    have hk := get_lt hlk
    obtain ⟨m, hm1⟩ : ∃ m, l0.length = m + 1 := ⟨l0.length - 1, by omega⟩
    obtain ⟨last, hla⟩ : ∃ x, l0[m]? = some x := ⟨_, List.getElem?_eq_getElem (by omega)⟩
    obtain ⟨tl, hfl, hpl⟩ := hwg.there _ l0 m last hl0 hla
    have hrow := hl.row_len hl0
    have h2 := rmL_len hl.nd hmem
    refine (wcancel_some g B mb most now L.length t k m (plW now t) tl m id last sl S f v0 l0 w hw hm (by omega) (by have := hd.2; simp at this; omega) hid (hl.i64 _ (hl.mem hfl)) hf rfl hv0 hl0 hm1 (by omega) (by omega) hla hfl (by omega)).mono ?_
    rintro e w' ⟨rfl, v', h3, h4, h5⟩
    refine ⟨by rw [hasL_true hmem], _, ⟨⟨_, _, h3, ?_, hl.cancel hf hl0 hm1 hla hfl hpl⟩, hrest, Nat.le_trans hlen h.len, h.most⟩, h5⟩
    rw [show (rmL L id).length = L.length - 1 by omega]
    exact h4
set_option maxRecDepth 20000 in
set_option maxHeartbeats 2000000 in
theorem waddI_full (g B mb most now : Nat) (id ticks : Int) (sl : List Value) (L : List Tm) (w : World) (h : WA w g B mb most now sl L) (hn : now ≤ 4000000000) (hid : I64 id) (h1 : 1 ≤ ticks) (h2 : ticks ≤ 65535) (hf : most ≤ (rmL L id).length) :
    Calls Try.prog 14 #[.pointer (some ⟨g, 0, none⟩), .int .i64 id, .int .i64 ticks] w fun e w' => e = .returned (.bool false) ∧ ∃ sl', WA w' g B mb most now sl' (rmL L id) ∧ KeptW g mb sl sl' w w' := by
  have HC := Lib.hid (wcancelI g B mb most now id sl L w h hn hid)
  obtain ⟨sz, hsz⟩ : ∃ sz, sz = (rmL L id).length := ⟨_, rfl⟩
  rw [← hsz] at hf
  have HSZ := Lib.hid hsz
  have t1 : ¬ ticks < 1 := by omega
  have t2 : ¬ 65535 < ticks := by omega
  clear h h1 h2 hsz
  go_enter Try.func14, Try.ntmps14
  go_wp2_with fail
  refine HC.out.mono ?_
  rintro e w1 ⟨rfl, sl1, hwa, hk1⟩
  have HA := Lib.hid hwa
  have HK := Lib.hid hk1
  obtain ⟨S, f, hs, hm, hl⟩ := hwa.ex
  rw [← HSZ.out] at hm
  have HW := Lib.hid hs
  have HM := Lib.hid hm
  clear hwa hk1 hs hm hl HC
  go_wp2_with fail
  refine wp_ord [(0, .pure), (1, .pure), (2, .pure), (3, .read), (5, .pure), (6, .pure), (7, .pure), (8, .read), (4, .sole), (9, .pure)] [] (by kernel_rfl) (by kernel_rfl) (fun QQ hQ wd hwd => ?_); simp only [List.map_cons, List.map_nil, List.getD_cons_zero, List.getD_cons_succ]
  have hD : Below w1.heap.size w1 wd := by rw [hwd.out]; exact (Below.refl _ _).drew
  have c2 := (HW.out.into hD).c2
  have c0 := (HW.out.into hD).c0
  have hl := fun ty => (HM.out.same (hD.block mb HM.out.lt)).len ty
  have HBD := Lib.hid hD
  clear hD hwd
  (refine o_pure (v := ?_) (by rfl) (fun w' => ?_) ?_; rotate_left; (focus (go_simp; (try with_reducible rfl); (try (rw [if_pos (by omega)]; (try with_reducible rfl))))); (try simp only [Act.put, List.setIfInBounds_toArray, List.set_cons_zero, List.set_cons_succ]))
  (refine o_pure (v := ?_) (by rfl) (fun w' => ?_) ?_; rotate_left; (focus (go_simp; (try with_reducible rfl); (try (rw [if_pos (by omega)]; (try with_reducible rfl))))); (try simp only [Act.put, List.setIfInBounds_toArray, List.set_cons_zero, List.set_cons_succ]))
  (refine o_pure (v := ?_) (by rfl) (fun w' => ?_) ?_; rotate_left; (focus (go_simp; (try with_reducible rfl); (try (rw [if_pos (by omega)]; (try with_reducible rfl))))); (try simp only [Act.put, List.setIfInBounds_toArray, List.set_cons_zero, List.set_cons_succ]))
  (refine o_load _ (by rfl) rfl rfl (by assumption) (by kernel_rfl) ?_; simp only [Act.put, List.setIfInBounds_toArray, List.set_cons_zero, List.set_cons_succ])
  (refine o_pure (v := ?_) (by rfl) (fun w' => ?_) ?_; rotate_left; (focus (go_simp; (try with_reducible rfl); (try (rw [if_pos (by omega)]; (try with_reducible rfl))))); (try simp only [Act.put, List.setIfInBounds_toArray, List.set_cons_zero, List.set_cons_succ]))
  (refine o_pure (v := ?_) (by rfl) (fun w' => ?_) ?_; rotate_left; (focus (go_simp; (try with_reducible rfl); (try (rw [if_pos (by omega)]; (try with_reducible rfl))))); (try simp only [Act.put, List.setIfInBounds_toArray, List.set_cons_zero, List.set_cons_succ]))
  (refine o_pure (v := ?_) (by rfl) (fun w' => ?_) ?_; rotate_left; (focus (go_simp; (try with_reducible rfl); (try (rw [if_pos (by omega)]; (try with_reducible rfl))))); (try simp only [Act.put, List.setIfInBounds_toArray, List.set_cons_zero, List.set_cons_succ]))
  (refine o_load _ (by rfl) rfl rfl (by assumption) (by kernel_rfl) ?_; simp only [Act.put, List.setIfInBounds_toArray, List.set_cons_zero, List.set_cons_succ])
  refine o_sole (fun K hK => ?_)
  go_wp2_with fail
  refine hK _ _ (fun _ => Ext.of (Below.refl _ _)) ?_; clear hK K
  (refine o_pure (v := ?_) (by rfl) (fun w' => ?_) ?_; rotate_left; (focus (go_simp; (try with_reducible rfl); (try (rw [if_pos (by omega)]; (try with_reducible rfl))))); (try simp only [Act.put, List.setIfInBounds_toArray, List.set_cons_zero, List.set_cons_succ]))
  refine o_nil (hQ.out _ _ ?_); clear hQ QQ
  clear hl c2 c0
  go_wp2_with fail
  go_ret
  exact ⟨rfl, sl1, HA.out.into HBD.out, HK.out.trans (KeptW.of_below HBD.out)⟩
set_option maxRecDepth 20000 in
set_option maxHeartbeats 2000000 in
theorem waddI_put (g B mb most now k : Nat) (id : Int) (sl : List Value) (L : List Tm) (w : World) (h : WA w g B mb most now sl L) (hn : now ≤ 4000000000) (hid : I64 id) (h1 : 1 ≤ k) (h2 : k ≤ 65535) (hf : (rmL L id).length < most) :
    Calls Try.prog 14 #[.pointer (some ⟨g, 0, none⟩), .int .i64 id, .int .i64 (k : Nat)] w fun e w' => e = .returned (.bool true) ∧ ∃ sl', WA w' g B mb most now sl' (rmL L id ++ [(id, now + k)]) ∧ KeptW g mb sl sl' w w' := by
  have HC := Lib.hid (wcancelI g B mb most now id sl L w h hn hid)
  obtain ⟨sz, hsz⟩ : ∃ sz, sz = (rmL L id).length := ⟨_, rfl⟩
  rw [← hsz] at hf
  have HSZ := Lib.hid hsz
  have t1 : ¬ (k : Int) < 1 := by omega
  have t2 : ¬ (65535 : Int) < (k : Int) := by omega
  have t3 : ¬ k < 1 := by omega
  have t4 : ¬ 65535 < k := by omega
  have hf2 : ¬ most ≤ sz := by omega
  have hmo := h.most
  have HID := Lib.hid hid
  have HBO := Lib.hid (And.intro h1 h2)
  clear h h1 h2 hsz hid
  go_enter Try.func14, Try.ntmps14
  go_wp2_with fail
  refine HC.out.mono ?_
  rintro e w1 ⟨rfl, sl1, hwa, hk1⟩
  have HA := Lib.hid hwa
  have HK := Lib.hid hk1
  obtain ⟨S, f, hs, hm, hl⟩ := hwa.ex
  rw [← HSZ.out] at hm
  have HW := Lib.hid hs
  have HM := Lib.hid hm
  have HL := Lib.hid hl
  clear hwa hk1 hs hm hl HC
  go_wp2_with fail
  refine wp_ord [(0, .pure), (1, .pure), (2, .pure), (3, .read), (5, .pure), (6, .pure), (7, .pure), (8, .read), (4, .sole), (9, .pure)] [] (by kernel_rfl) (by kernel_rfl) (fun QQ hQ wd hwd => ?_); simp only [List.map_cons, List.map_nil, List.getD_cons_zero, List.getD_cons_succ]
  have hD : Below w1.heap.size w1 wd := by rw [hwd.out]; exact (Below.refl _ _).drew
  have c2 := (HW.out.into hD).c2
  have c0 := (HW.out.into hD).c0
  have hl := fun ty => (HM.out.same (hD.block mb HM.out.lt)).len ty
  have HWD := Lib.hid (HW.out.into hD)
  have HMD := Lib.hid (HM.out.same (hD.block mb HM.out.lt))
  have HBD := Lib.hid hD
  clear hD hwd
  (refine o_pure (v := ?_) (by rfl) (fun w' => ?_) ?_; rotate_left; (focus (go_simp; (try with_reducible rfl); (try (rw [if_pos (by omega)]; (try with_reducible rfl))))); (try simp only [Act.put, List.setIfInBounds_toArray, List.set_cons_zero, List.set_cons_succ]))
  (refine o_pure (v := ?_) (by rfl) (fun w' => ?_) ?_; rotate_left; (focus (go_simp; (try with_reducible rfl); (try (rw [if_pos (by omega)]; (try with_reducible rfl))))); (try simp only [Act.put, List.setIfInBounds_toArray, List.set_cons_zero, List.set_cons_succ]))
  (refine o_pure (v := ?_) (by rfl) (fun w' => ?_) ?_; rotate_left; (focus (go_simp; (try with_reducible rfl); (try (rw [if_pos (by omega)]; (try with_reducible rfl))))); (try simp only [Act.put, List.setIfInBounds_toArray, List.set_cons_zero, List.set_cons_succ]))
  (refine o_load _ (by rfl) rfl rfl (by assumption) (by kernel_rfl) ?_; simp only [Act.put, List.setIfInBounds_toArray, List.set_cons_zero, List.set_cons_succ])
  (refine o_pure (v := ?_) (by rfl) (fun w' => ?_) ?_; rotate_left; (focus (go_simp; (try with_reducible rfl); (try (rw [if_pos (by omega)]; (try with_reducible rfl))))); (try simp only [Act.put, List.setIfInBounds_toArray, List.set_cons_zero, List.set_cons_succ]))
  (refine o_pure (v := ?_) (by rfl) (fun w' => ?_) ?_; rotate_left; (focus (go_simp; (try with_reducible rfl); (try (rw [if_pos (by omega)]; (try with_reducible rfl))))); (try simp only [Act.put, List.setIfInBounds_toArray, List.set_cons_zero, List.set_cons_succ]))
  (refine o_pure (v := ?_) (by rfl) (fun w' => ?_) ?_; rotate_left; (focus (go_simp; (try with_reducible rfl); (try (rw [if_pos (by omega)]; (try with_reducible rfl))))); (try simp only [Act.put, List.setIfInBounds_toArray, List.set_cons_zero, List.set_cons_succ]))
  (refine o_load _ (by rfl) rfl rfl (by assumption) (by kernel_rfl) ?_; simp only [Act.put, List.setIfInBounds_toArray, List.set_cons_zero, List.set_cons_succ])
  refine o_sole (fun K hK => ?_)
  go_wp2_with fail
  refine hK _ _ (fun _ => Ext.of (Below.refl _ _)) ?_; clear hK K
  (refine o_pure (v := ?_) (by rfl) (fun w' => ?_) ?_; rotate_left; (focus (go_simp; (try with_reducible rfl); (try (rw [if_pos (by omega)]; (try with_reducible rfl))))); (try simp only [Act.put, List.setIfInBounds_toArray, List.set_cons_zero, List.set_cons_succ]))
  refine o_nil (hQ.out _ _ ?_); clear hQ QQ
  clear hl c2 c0
  have c1 := HWD.out.c1
  obtain ⟨v0, l0, hv0, hl0, _, _⟩ := HWD.out.place (plW_lt now (now + k))
  have hrow := HL.out.row_len hl0
  have hfi : f id = none := HL.out.none_iff.2 fun t ht => (rmL_mem.1 ht).2 rfl
  have HPU := Lib.hid (wput_any g B mb most now (now + k) sz (plW now (now + k)) id sl1 S f v0 l0 wd HWD.out HMD.out (by omega) (by omega) HID.out (by omega) rfl hv0 hl0 (by rw [← HSZ.out] at hrow; omega))
  rw [hfi] at HPU
  simp only [Option.isSome_none, Bool.false_eq_true, if_false] at HPU
  rw [show ((now + k : Nat) : Int) = (now : Int) + (k : Int) by push_cast; rfl] at HPU
  have HAD := Lib.hid (HL.out.add hfi hl0 HID.out)
  clear hv0 hl0 hrow hfi
  go_wp2_with fail
  refine HPU.out.mono ?_
  rintro e w3 ⟨rfl, v', h3, h4, h5⟩
  have H5 := Lib.hid (HK.out.trans ((KeptW.of_below HBD.out).trans h5))
  have HF : Hid (WA w3 g B mb most now (sl1.set (plW now (now + k)) v') (rmL L id ++ [(id, now + k)])) := Lib.hid ⟨⟨_, _, h3, by rw [List.length_append, ← HSZ.out]; exact h4, HAD.out⟩, fun x hx => by
    rcases List.mem_append.1 hx with hx | hx
    · exact HA.out.due x hx
    · obtain rfl := List.mem_singleton.1 hx
      have := HBO.out
      exact ⟨by show now < now + k; omega, by show now + k ≤ now + 65535; omega⟩, by rw [List.length_append, ← HSZ.out]; exact hf, hmo⟩
  clear h3 h4 h5 c1
  go_wp2_with fail
  go_ret
  exact ⟨rfl, _, HF.out, H5.out⟩
theorem wdueI_no (g B mb most now : Nat) (id : Int) (sl : List Value) (L : List Tm) (w : World) (h : WA w g B mb most now sl L) (hid : I64 id) (hno : ∀ t, (id, t) ∉ L) :
    Calls Try.prog 15 #[.pointer (some ⟨g, 0, none⟩), .int .i64 id] w fun e w' => e = .returned (.tuple #[.int .i64 0, .bool false]) ∧ Below w.heap.size w w' := by
  obtain ⟨S, f, hw, hm, hl⟩ := h.ex
  exact wdue_none g B mb most now L.length id sl S f w hw hm hid (hl.none_iff.2 hno)
theorem wdueI (g B mb most now t : Nat) (id : Int) (sl : List Value) (L : List Tm) (w : World) (h : WA w g B mb most now sl L) (hn : now ≤ 4000000000) (hid : I64 id) (hm1 : (id, t) ∈ L) :
    Calls Try.prog 15 #[.pointer (some ⟨g, 0, none⟩), .int .i64 id] w fun e w' => e = .returned (.tuple #[.int .i64 ((t - now : Nat) : Int), .bool true]) ∧ Below w.heap.size w w' := by
  obtain ⟨S, f, hw, hm, hl⟩ := h.ex
  obtain ⟨k, hf⟩ := hl.fnd hm1
  have := h.due _ hm1
  simp at this
  exact wdue_some g B mb most now L.length t k id sl S f w hw hm hid hf (by omega) (by omega)
theorem wlenI (g B mb most now : Nat) (sl : List Value) (L : List Tm) (w : World) (h : WA w g B mb most now sl L) :
    Calls Try.prog 20 #[.pointer (some ⟨g, 0, none⟩)] w fun e w' => e = .returned (.int .i64 (L.length : Nat)) ∧ w' = w := by
  obtain ⟨S, f, hw, hm, hl⟩ := h.ex
  exact wlen_any g B mb most now L.length sl S f w hw hm
theorem wnowI (g B mb most now : Nat) (sl : List Value) (L : List Tm) (w : World) (h : WA w g B mb most now sl L) :
    Calls Try.prog 19 #[.pointer (some ⟨g, 0, none⟩)] w fun e w' => e = .returned (.int .i64 (now : Nat)) ∧ w' = w := by
  obtain ⟨S, f, hw, hm, hl⟩ := h.ex
  exact wnow_any g B mb most now sl S w hw
theorem wtickI (g B mb most n : Nat) (sl : List Value) (L : List Tm) (w : World) (h : WA w g B mb most n sl L) (hn : n ≤ 4000000000) :
    Calls Try.prog 12 #[.pointer (some ⟨g, 0, none⟩)] w fun e w' => ∃ v sl', e = .returned v ∧ Zats w' 3 .i64 w.heap.size v (sortI (dueL L (n + 1))) ∧ WA w' g B mb most (n + 1) sl' (leftL L (n + 1)) ∧ KeptW g mb sl sl' w w' := by
  obtain ⟨S, f, hw, hm, hl⟩ := h.ex
  refine (wtick_any g B mb most n (n + 1) sl S f L w hw hm hl rfl hn (Nat.le_trans h.len h.most) h.due).mono ?_
  rintro e w' ⟨v, sl', S', f', rfl, h1, h2, h3, h4, h5⟩
  refine ⟨v, sl', rfl, h1, ⟨⟨S', f', h2, h3, h4⟩, fun x hx => ?_, Nat.le_trans (List.length_filter_le _ _) h.len, h.most⟩, h5⟩
  obtain ⟨hm, hne⟩ := leftL_mem.1 hx
  have := h.due x hm
  omega
theorem wnewI (most : Int) (w : World) (hm : I64 most) :
    Calls Try.prog 6 #[.int .i64 most] w fun e w' => ∃ g mb sl, e = .returned (.pointer (some ⟨g, 0, none⟩)) ∧ w.heap.size ≤ mb ∧ WA w' g w.heap.size mb (mostN most) 0 sl [] ∧ Below w.heap.size w w' := by
  refine (wnew_any most w hm).mono ?_
  rintro e w' ⟨g, mb, rfl, h1, h2, h3, h4⟩
  refine ⟨g, mb, _, rfl, h1, ⟨⟨_, _, h2, h3, ⟨?_, fun id t => by simp, by simp, by simp⟩⟩, by simp, Nat.zero_le _, by unfold mostN; split <;> (try split) <;> omega⟩, h4⟩
  rw [Fm.wo_nil]
  refine ⟨fun id t k h => (by cases h), fun p l k id h1 h2 => ?_⟩
  rw [List.getElem?_replicate] at h1
  split at h1
  · injection h1 with h1
    subst h1
    simp at h2
  · cases h1
end Go.Proofs.Ytpeagibompohhaa
