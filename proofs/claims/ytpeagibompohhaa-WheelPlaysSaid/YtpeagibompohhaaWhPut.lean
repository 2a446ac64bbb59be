/- Package wheel: put. -/
import Derived.Test.YtpeagibompohhaaWhSt
import Derived.Test.YtpeagibompohhaaOrd
namespace Go.Proofs.Ytpeagibompohhaa
open Go.RowKit
set_option linter.unusedVariables false
set_option linter.unusedSimpArgs false
def Un (w w' : World) : Prop := w'.os = w.os ∧ w'.tape = w.tape ∧ w'.output = w.output
theorem Un.refl (w : World) : Un w w := ⟨rfl, rfl, rfl⟩
theorem Un.trans {w w1 w2 : World} (h : Un w w1) (k : Un w1 w2) : Un w w2 := ⟨k.1.trans h.1, k.2.1.trans h.2.1, k.2.2.trans h.2.2⟩
theorem unB {B : Nat} {w w' : World} (h : Below B w w') : Un w w' := ⟨h.os, h.tape, h.output⟩
theorem unG {r : Option Nat} {w w' : World} (h : w.grownBy w' r) : Un w w' := ⟨h.os, h.tape, h.output⟩
/-- Nothing has turned but a wheel's own, and what is new. -/
structure KeptW (g mb : Nat) (sl sl' : List Value) (w w' : World) : Prop where
  same : ∀ k, k < w.heap.size → k ≠ g → k ≠ mb → (∀ (p : Nat) (v : Value), sl[p]? = some v → v.ownBlock ≠ some k) → w'.heap[k]? = w.heap[k]?
  new : ∀ (p : Nat) (v : Value) (k : Nat), sl'[p]? = some v → v.ownBlock = some k → (∃ (q : Nat) (u : Value), sl[q]? = some u ∧ u.ownBlock = some k) ∨ w.heap.size ≤ k
  size : w.heap.size ≤ w'.heap.size
  un : Un w w'
theorem KeptW.refl (g mb : Nat) (sl : List Value) (w : World) : KeptW g mb sl sl w w := ⟨fun _ _ _ _ _ => rfl, fun p v k h hk => .inl ⟨p, v, h, hk⟩, Nat.le_refl _, Un.refl w⟩
theorem KeptW.of_below {g mb : Nat} {sl : List Value} {w w' : World} (h : Below w.heap.size w w') : KeptW g mb sl sl w w' := ⟨fun k hk _ _ _ => h.block k hk, fun p v k h hk => .inl ⟨p, v, h, hk⟩, h.size, unB h⟩
theorem KeptW.trans {g mb : Nat} {sl sl1 sl2 : List Value} {w w1 w2 : World} (h : KeptW g mb sl sl1 w w1) (k : KeptW g mb sl1 sl2 w1 w2) : KeptW g mb sl sl2 w w2 where
  same i hi hg hm hv := (k.same i (Nat.lt_of_lt_of_le hi h.size) hg hm fun p v hp hk => by
      rcases h.new p v i hp hk with ⟨q, u, hq, hu⟩ | h1
      · exact hv q u hq hu
      · omega).trans (h.same i hi hg hm hv)
  new p v i hp hk := by
    rcases k.new p v i hp hk with ⟨q, u, hq, hu⟩ | h1
    · exact h.new q u i hq hu
    · exact .inr (Nat.le_trans h.size h1)
  size := Nat.le_trans h.size k.size
  un := h.un.trans k.un
theorem iElW : El Try.prog 31 3 (.int .i64 0) 1 8 := ⟨Try.underlying31, by kernel_rfl, rfl, by decide, by decide⟩
section
variable {P : Program} {w w' : World} {ops : Array Oper} {rest : List Oper} {o : Oper} {a : Act} {Q : Exit → Act → World → Prop}
/-- m[k] = v, by what it does. -/
theorem wpList_mapRun (hg : o.guard = none) (m x v : Operand) (t : TypeId) (hop : o.op = Op.mapUpdate t m x v) {mv key val : Value} (hm : a.eval m = mv) (hx : a.eval x = key) (hv : a.eval v = val) (hrun : (Instr.mapUpdate t mv key val).run P w = .ok () w') (h : wpList P ops Q rest (a.put o.dst undef) w') : wpList P ops Q (o :: rest) a w := by
  refine wpList_plain hg fun K' hK' => ?_
  unfold Oper.wp
  simp [execOp, hop, hm, hx, hv, hrun, Result.andThen]
  exact hK' _ _ h
end
/-- A block of cells is none of a map. -/
theorem MapW.ne {w : World} {b g sz : Nat} {f : Fm} {t : TypeId} {cs : Array Value} (h : MapW w b f sz) (hb : Blk w g t cs) : g ≠ b := by
  rintro rfl
  obtain ⟨D, ⟨es, cl, hm, _⟩, _⟩ := h
  unfold Blk at hb
  rw [hb] at hm
  cases hm
theorem MapW.row {w : World} {b sz B B' : Nat} {f : Fm} {v : Value} {l : List Int} (h : MapW w b f sz) (hz : Zats w 3 .i64 B v l) : v.ownBlock ≠ some b := fun e => by
  rcases own_open hz with ⟨rfl, _, _⟩ | ⟨rb, c, L, rfl, _, hr, _⟩
  · simp [Value.ownBlock] at e
  · simp [Value.ownBlock] at e
    exact h.ne hr e
/-- The map is written: the wheel's places stand. -/
theorem WS.turned {w w' : World} {g B mb most now : Nat} {sl : List Value} {S : List (List Int)} {f : Fm} {sz : Nat} (h : WS w g B mb most now sl S) (hm : MapW w mb f sz) (ht : w.mapTurned w' mb) : WS w' g B mb most now sl S where
  blk := (ht.grown.block g h.lt (fun e => hm.ne h.blk (by injection e))).trans h.blk
  sll := h.sll
  ssl := h.ssl
  rows p v l h1 h2 := (h.rows p v l h1 h2).kept fun k hk => ht.grown.block k ((h.rows p v l h1 h2).lt k hk).2 (fun e => by injection e with e; subst e; exact (hm.row (B' := 0) (h.rows p v l h1 h2)) hk)
  apart := h.apart
  bg := h.bg
/-- An owned row's block is none of another type. -/
theorem own_nw {w : World} {B sz n g : Nat} {e t : TypeId} {v : Value} {xs : List Value} {cs : Array Value} (h : w.ownsRow B e sz v n xs) (hb : Blk w g t cs) (hne : e ≠ t) : v.ownBlock ≠ some g := fun hk => by
  rcases own_open h with ⟨rfl, _, _⟩ | ⟨rb, c, L, rfl, _, hr, _⟩
  · simp [Value.ownBlock] at hk
  · simp [Value.ownBlock] at hk
    subst hk
    unfold Blk at hb hr
    rw [hb] at hr
    injection hr with hr
    injection hr with _ ht
    exact hne ht.symm
theorem WS.rowg {w : World} {g B mb most now : Nat} {sl : List Value} {S : List (List Int)} (h : WS w g B mb most now sl S) {p : Nat} {v : Value} (hv : sl[p]? = some v) : v.ownBlock ≠ some g := fun e => by
  have hp := (List.getElem?_eq_some_iff.1 hv).1
  obtain ⟨v', l, h1, h2, _, hz⟩ := h.place (p := p) (by rw [← h.sll]; exact hp)
  rw [hv] at h1
  injection h1 with h1
  subst h1
  exact own_nw hz h.blk (by decide) e
theorem wcs_set (most now mb : Nat) (sl : List Value) (p : Nat) (v : Value) : (wcs most now mb sl).toArray.setIfInBounds (3 + p) v = (wcs most now mb (sl.set p v)).toArray := by
  rw [show 3 + p = p + 1 + 1 + 1 by omega]
  simp [wcs]
/-- One place is another. -/
theorem WS.set {w w' : World} {g B mb most now : Nat} {sl : List Value} {S : List (List Int)} (h : WS w g B mb most now sl S) {p : Nat} {v v' : Value} {l' : List Int} (hv : sl[p]? = some v) (hb : Blk w' g 54 (wcs most now mb (sl.set p v')).toArray) (hz : Zats w' 3 .i64 B v' l')
    (hk : ∀ (q : Nat) (u : Value) (k : Nat), q ≠ p → sl[q]? = some u → u.ownBlock = some k → w'.heap[k]? = w.heap[k]?) (hn : NewOr v v' w) : WS w' g B mb most now (sl.set p v') (S.set p l') where
  blk := hb
  sll := by rw [List.length_set]; exact h.sll
  ssl := by rw [List.length_set]; exact h.ssl
  rows q u l h1 h2 := by
    by_cases e : q = p
    · subst e
      have hq := (List.getElem?_eq_some_iff.1 hv).1
      rw [List.getElem?_set_self hq] at h1
      rw [List.getElem?_set_self (by rw [h.ssl, ← h.sll]; exact hq)] at h2
      injection h1 with h1
      injection h2 with h2
      subst h1 h2
      exact hz
    · rw [List.getElem?_set_ne (Ne.symm e)] at h1 h2
      exact (h.rows q u l h1 h2).kept fun k hk' => hk q u k e h1 hk'
  apart q r a b k hne h1 h2 ha hb' := by
    have hlt : ∀ (r : Nat) (b : Value), sl[r]? = some b → b.ownBlock = some k → k < w.heap.size := fun r b hb1 hb2 => by
      have hr := (List.getElem?_eq_some_iff.1 hb1).1
      obtain ⟨b', l, h1', h2', _, hz'⟩ := h.place (p := r) (by rw [← h.sll]; exact hr)
      rw [hb1] at h1'
      injection h1' with h1'
      subst h1'
      exact (hz'.lt k hb2).2
    have hp := (List.getElem?_eq_some_iff.1 hv).1
    by_cases e : q = p
    · subst e
      rw [List.getElem?_set_self hp] at h1
      rw [List.getElem?_set_ne hne] at h2
      injection h1 with h1
      subst h1
      rcases hn k ha with h3 | h3
      · exact h.apart q r v b k hne hv h2 h3 hb'
      · have := hlt r b h2 hb'; omega
    · rw [List.getElem?_set_ne (Ne.symm e)] at h1
      by_cases e2 : r = p
      · subst e2
        rw [List.getElem?_set_self hp] at h2
        injection h2 with h2
        subst h2
        rcases hn k hb' with h3 | h3
        · exact h.apart q r a v k hne h1 hv ha h3
        · have := hlt q a h1 ha; omega
      · rw [List.getElem?_set_ne (Ne.symm e2)] at h2
        exact h.apart q r a b k hne h1 h2 ha hb'
  bg := h.bg
set_option maxRecDepth 20000 in
set_option maxHeartbeats 2000000 in
theorem wput_any (g B mb most now t sz p : Nat) (id : Int) (sl : List Value) (S : List (List Int)) (f : Fm) (v0 : Value) (l0 : List Int) (w : World) (h : WS w g B mb most now sl S) (hm : MapW w mb f sz) (hn : now ≤ 4294967296) (ht : t ≤ 4294967296) (hid : I64 id) (hsz : sz < 8999)
    (hp : plW now t = p) (hv0 : sl[p]? = some v0) (hl0 : S[p]? = some l0) (hll : l0.length ≤ 10000) :
    Calls Try.prog 26 #[.pointer (some ⟨g, 0, none⟩), .int .i64 id, .int .i64 (t : Nat)] w fun e w' => e = .returned (.tuple #[]) ∧ ∃ v', WS w' g B mb most now (sl.set p v') (S.set p (l0 ++ [id])) ∧ MapW w' mb (f.upd id (some (t, l0.length))) (if (f id).isSome then sz else sz + 1) ∧ KeptW g mb sl (sl.set p v') w w' := by
  have HPL := Lib.hid (wplace_any g B mb most now t sl S w h hn ht)
  rw [hp] at HPL
  have HW := Lib.hid h
  have HM := Lib.hid hm
  have HV0 := Lib.hid hv0
  have HL0 := Lib.hid hl0
  have HID := Lib.hid hid
  have HSZ := Lib.hid hsz
  have HLL := Lib.hid hll
  obtain ⟨A0, n0, c0, hv0e, hnc0, hln0, _⟩ := (h.rows p v0 l0 hv0 hl0).out
  subst hv0e
  obtain ⟨sz', hsz'⟩ : ∃ x, x = (if (f id).isSome then sz else sz + 1) := ⟨_, rfl⟩
  rw [← hsz']
  have HSZE := Lib.hid hsz'
  clear h hm hn ht hp hv0 hl0 hid hsz hll hsz'
  go_enter Try.func26, Try.ntmps26
  go_wp2_with fail
  refine HPL.out.mono ?_
  rintro e w1 ⟨rfl, hq⟩
  have HB1 : Hid (Below w.heap.size w w1) := Lib.hid (by obtain ⟨q, rfl⟩ := hq; exact below_drewN (Below.refl _ _) q)
  clear hq HPL
  go_wp2_with fail
  refine wp_ord [(0, .pure), (1, .pure), (2, .pure), (3, .read), (4, .pure), (5, .pure), (6, .pure), (7, .pure), (8, .read), (9, .pure), (10, .pure), (11, .sole)] [11] (by kernel_rfl) (by kernel_rfl) (fun QQ hQ wd hwd => ?_); simp only [List.map_cons, List.map_nil, List.getD_cons_zero, List.getD_cons_succ]
  have hD : Below w.heap.size w wd := by rw [hwd.out]; exact HB1.out.drew
  have HBD := Lib.hid hD
  have HWD := Lib.hid (HW.out.into hD)
  have HMD := Lib.hid (HM.out.same (hD.block mb HM.out.lt))
  clear hD hwd HB1
  have d2 := HWD.out.c2
  have d3 : wd.cell? ⟨g, 3 + p, none⟩ = some (.slice A0 n0 c0) := by
    obtain ⟨v1, l1, h1, _, h3, _⟩ := HWD.out.place (p := p) (by rw [← HWD.out.sll]; exact (List.getElem?_eq_some_iff.1 HV0.out).1)
    rw [HV0.out] at h1; injection h1 with h1; subst h1; exact h3
  (refine o_pure (v := ?_) (by rfl) (fun w' => ?_) ?_; rotate_left; (focus (go_simp; (try with_reducible rfl); (try (rw [if_pos (by omega)]; (try with_reducible rfl))))); (try simp only [Act.put, List.setIfInBounds_toArray, List.set_cons_zero, List.set_cons_succ]))
  (refine o_pure (v := ?_) (by rfl) (fun w' => ?_) ?_; rotate_left; (focus (go_simp; (try with_reducible rfl); (try (rw [if_pos (by omega)]; (try with_reducible rfl))))); (try simp only [Act.put, List.setIfInBounds_toArray, List.set_cons_zero, List.set_cons_succ]))
  (refine o_pure (v := ?_) (by rfl) (fun w' => ?_) ?_; rotate_left; (focus (go_simp; (try with_reducible rfl); (try (rw [if_pos (by omega)]; (try with_reducible rfl))))); (try simp only [Act.put, List.setIfInBounds_toArray, List.set_cons_zero, List.set_cons_succ]))
  (refine o_load _ (by rfl) rfl rfl (by assumption) (by kernel_rfl) ?_; simp only [Act.put, List.setIfInBounds_toArray, List.set_cons_zero, List.set_cons_succ])
  (refine o_pure (v := ?_) (by rfl) (fun w' => ?_) ?_; rotate_left; (focus (go_simp; (try with_reducible rfl); (try (rw [if_pos (by omega)]; (try with_reducible rfl))))); (try simp only [Act.put, List.setIfInBounds_toArray, List.set_cons_zero, List.set_cons_succ]))
  (refine o_pure (v := ?_) (by rfl) (fun w' => ?_) ?_; rotate_left; (focus (go_simp; (try with_reducible rfl); (try (rw [if_pos (by omega)]; (try with_reducible rfl))))); (try simp only [Act.put, List.setIfInBounds_toArray, List.set_cons_zero, List.set_cons_succ]))
  (refine o_pure (v := ?_) (by rfl) (fun w' => ?_) ?_; rotate_left; (focus (go_simp; (try with_reducible rfl); (try (rw [if_pos (by omega)]; (try with_reducible rfl))))); (try simp only [Act.put, List.setIfInBounds_toArray, List.set_cons_zero, List.set_cons_succ]))
  (refine o_pure (v := ?_) (by rfl) (fun w' => ?_) ?_; rotate_left; (focus (go_simp; (try with_reducible rfl); (try (rw [if_pos (by omega)]; (try with_reducible rfl))))); (try simp only [Act.put, List.setIfInBounds_toArray, List.set_cons_zero, List.set_cons_succ]))
  (refine o_load _ (by rfl) rfl rfl (by assumption) (by kernel_rfl) ?_; simp only [Act.put, List.setIfInBounds_toArray, List.set_cons_zero, List.set_cons_succ])
  (refine o_pure (v := ?_) (by rfl) (fun w' => ?_) ?_; rotate_left; (focus (go_simp; (try with_reducible rfl); (try (rw [if_pos (by omega)]; (try with_reducible rfl))))); (try simp only [Act.put, List.setIfInBounds_toArray, List.set_cons_zero, List.set_cons_succ]))
  (refine o_pure (v := ?_) (by rfl) (fun w' => ?_) ?_; rotate_left; (focus (go_simp; (try with_reducible rfl); (try (rw [if_pos (by omega)]; (try with_reducible rfl))))); (try simp only [Act.put, List.setIfInBounds_toArray, List.set_cons_zero, List.set_cons_succ]))
  obtain ⟨w3, hrun, hm3, ht3⟩ := HMD.out.store HID.out t n0 HSZ.out
  rw [← HSZE.out] at hm3
  have HRUN := Lib.hid hrun
  have HM3 := Lib.hid hm3
  have HT3 := Lib.hid ht3
  have HW3 := Lib.hid (HWD.out.turned HMD.out ht3)
  clear hrun hm3 ht3 d2 d3
  refine o_sole (fun K hK => ?_)
  go_wp2_with (refine wpList_mapRun rfl _ _ _ _ rfl rfl rfl rfl HRUN.out ?_)
  refine hK _ _ (fun h => by cases h) ?_; clear hK K
  refine o_nil (hQ.out _ _ ?_); clear hQ QQ
  clear HRUN HMD
  have h4z := HW3.out.rows p _ l0 HV0.out HL0.out
  have hA4 := (Below.refl w3.heap.size w3).alloc (Nat.le_refl _) (.cells #[.int .i64 id] 3)
  have HW4 := Lib.hid (HW3.out.into hA4)
  have HM4 := Lib.hid (HM3.out.same (hA4.block mb HM3.out.lt))
  have N4 := Lib.hid (Rd.made (n := 1) (size := 1) w3 3 #[.int .i64 id] rfl)
  have HB4 := Lib.hid hA4
  have d3 : w3.cell? ⟨g, 3 + p, none⟩ = some (.slice A0 n0 c0) := by
    obtain ⟨v1, l1, h1, _, h3, _⟩ := HW3.out.place (p := p) (by rw [← HW3.out.sll]; exact (List.getElem?_eq_some_iff.1 HV0.out).1)
    rw [HV0.out] at h1; injection h1 with h1; subst h1; exact h3
  clear hA4 h4z
  have O4 := Lib.hid (HW4.out.rows p _ l0 HV0.out HL0.out)
  have hone : ∀ u ∈ [Value.int .i64 id], u.oneCell' = true := by simp [Value.oneCell']
  have HONE := Lib.hid hone
  have hroom4 : Hid ((l0.length + 1) * 8 ≤ room) := Lib.hid (room_ge (by have := HLL.out; omega))
  have hBz : Hid (B ≤ (w3.alloc (.cells #[.int .i64 id] 3)).heap.size) := Lib.hid (Nat.le_trans HW4.out.bg (Nat.le_of_lt HW4.out.lt))
  clear hone
  go_wp2_with (at_builtin; refine app2 iElW rfl _ _ rfl rfl O4.out (by decide) rfl N4.out HONE.out hroom4.out hBz.out ?_)
  intro v5 w5 ho5 hg5 hn5
  have O5 : Hid (Zats w5 3 .i64 B v5 (l0 ++ [id])) := Lib.hid (by unfold Zats; rw [List.length_append]; simpa [zs] using ho5)
  have K5 := Lib.hid (HW4.out.blk.far2 O4.out (by decide) hg5)
  have G5 := Lib.hid hg5
  have N5 := Lib.hid hn5
  clear ho5 hg5 hn5 d3
  obtain ⟨A5, c5, rfl, hnc5, hcm5, _⟩ := own_form O5.out
  have d3 : ∃ v, w5.cell? ⟨g, 3 + p, none⟩ = some v := ⟨_, by rw [K5.out.cell, List.getElem?_toArray]; exact (show (wcs most now mb sl)[3 + p]? = some _ from by rw [show 3 + p = p + 1 + 1 + 1 by omega]; exact HV0.out)⟩
  obtain ⟨v9, d3⟩ := d3
  have f3 := K5.out.frozen (3 + p)
  go_wp2_with fail
  have hs6 : Solo g w5 (w5.setCell ⟨g, 3 + p, none⟩ (.slice A5 (l0 ++ [id]).length c5)) := Solo.refl.setCell (3 + p) _
  have K6 := K5.out.set (3 + p) (.slice A5 (l0 ++ [id]).length c5)
  rw [wcs_set] at K6
  have hrow : ∀ (q : Nat) (u : Value) (k : Nat), q ≠ p → sl[q]? = some u → u.ownBlock = some k → (w5.setCell ⟨g, 3 + p, none⟩ (.slice A5 (l0 ++ [id]).length c5)).heap[k]? = (w3.alloc (.cells #[.int .i64 id] 3)).heap[k]? := fun q u k hqp hu hk => by
    have hlt : k < (w3.alloc (.cells #[.int .i64 id] 3)).heap.size := by
      obtain ⟨u', l, h1, h2, _, hz⟩ := HW4.out.place (p := q) (by rw [← HW4.out.sll]; exact (List.getElem?_eq_some_iff.1 hu).1)
      rw [hu] at h1
      injection h1 with h1
      subst h1
      exact (hz.lt k hk).2
    refine (hs6.2.2 k (fun e => by subst e; exact HW4.out.rowg hu hk)).trans (G5.out.block k hlt fun e => ?_)
    exact HW4.out.apart p q _ u k (Ne.symm hqp) HV0.out hu e.symm hk
  have hgmb : g ≠ mb := HM.out.ne HW.out.blk
  have O6 := own_kept O5.out fun k hk => hs6.2.2 k fun e => by subst e; exact own_nw O5.out K5.out (by decide) hk
  have hM6 : MapW (w5.setCell ⟨g, 3 + p, none⟩ (.slice A5 (l0 ++ [id]).length c5)) mb (f.upd id (some (t, l0.length))) sz' := by
    rw [hln0.out]
    refine HM4.out.same ((hs6.2.2 mb (Ne.symm hgmb)).trans (G5.out.block mb HM4.out.lt fun e => ?_))
    exact HM4.out.row (B := B) (B' := 0) O4.out e.symm
  have s1 := HBD.out.size
  have s2 : wd.heap.size ≤ w3.heap.size := HT3.out.grown.size
  have s3 := HB4.out.size
  have s4 := G5.out.size
  have hK : KeptW g mb sl (sl.set p (.slice A5 (l0 ++ [id]).length c5)) w (w5.setCell ⟨g, 3 + p, none⟩ (.slice A5 (l0 ++ [id]).length c5)) := by
    refine ⟨fun k hk hkg hkm hr => ?_, fun q u k hu hk => ?_, ?_, (unB HBD.out).trans ((unG HT3.out.grown).trans ((unB HB4.out).trans ((unG G5.out).trans (unB hs6.1))))⟩
    · refine (hs6.2.2 k hkg).trans ((G5.out.block k (by omega) fun e => hr p _ HV0.out e.symm).trans ((HB4.out.block k (by omega)).trans ((HT3.out.grown.block k (by omega) fun e => hkm (by injection e)).trans (HBD.out.block k hk))))
    · have hp := (List.getElem?_eq_some_iff.1 HV0.out).1
      by_cases e : q = p
      · subst e
        rw [List.getElem?_set_self hp] at hu
        injection hu with hu
        subst hu
        rcases N5.out k hk with h3 | h3
        · exact .inl ⟨q, _, HV0.out, h3⟩
        · exact .inr (by omega)
      · rw [List.getElem?_set_ne (Ne.symm e)] at hu
        exact .inl ⟨q, u, hu, hk⟩
    · exact Nat.le_trans (by omega) hs6.1.size
  go_end0
  rw [← (show (l0 ++ [id]).length = l0.length + 1 by simp)]
  exact ⟨rfl, _, HW4.out.set HV0.out K6 O6 hrow N5.out, hM6, hK⟩
end Go.Proofs.Ytpeagibompohhaa
