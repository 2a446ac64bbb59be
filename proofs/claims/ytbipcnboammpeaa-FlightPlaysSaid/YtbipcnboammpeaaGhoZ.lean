/- A region whose order is open, with one store that need not wait for one pure operation. No program. -/
import Derived.Test.YtbipcnboammpeaaGhoP
import Derived.Test.YtbipcnboammpeaaStm
namespace Go.Proofs.Ytbipcnboammpeaa.GH
open Go.RowKit
set_option linter.unusedVariables false
set_option linter.unusedSimpArgs false
def edgeB (L : List Oper) (i j : Nat) : Bool := (L.getD i default).after.any fun e => Region.binds .any e && e.on == j
def okZ (L : List Oper) (m z : Nat) : Bool :=
  ((List.range L.length).all fun i => (L.getD i default).after.all fun e => !(Region.binds .any e) || decide (e.on < i)) &&
  (decide (m < L.length) && decide (z < m) && (List.range L.length).all fun i => decide (i < m) || (List.range i).all fun j => (i == m && j == z) || edgeB L i j) &&
  ((L.getD m default).guard.isNone && (L.getD z default).guard.isNone && (L.getD m default).dst.isNone)
theorem upd_self (S : Nat → Value) (z : Nat) : upd S z (S z) = S := by
  funext k
  unfold upd
  split
  · rename_i h; rw [h]
  · rfl
section
variable {P : Program}
theorem wanted_free {o : Oper} (h : o.guard.isNone = true) (y : Nat → Option Bool) : Region.wanted o y = true := by
  unfold Region.wanted
  cases hg : o.guard with
  | none => rfl
  | some g => rw [hg] at h; cases h
theorem wp_tailT {L : List Oper} {m : Nat} {Q : Exit → Act → World → Prop} (hord : ((List.range L.length).all fun i => (L.getD i default).after.all fun e => !(Region.binds .any e) || decide (e.on < i)) = true) (htl : ∀ i j, i < L.length → m ≤ j → j < i → edgeB L i j = true) : ∀ (k i fuel : Nat) (l : Array Bool) (a : Act) (w : World), L.length - i = k → m ≤ i → i ≤ L.length → k ≤ fuel → l.size = L.length →
    (∀ j, j < i → l.getD j true = true) → (∀ j, i ≤ j → j < L.length → l.getD j true = false) → wpList P L.toArray Q (L.drop i) a w → wpAny P .any L.toArray Q fuel l a w := by
  intro k
  induction k with
  | zero =>
    intro i fuel l a w hk hmi hin hf hs h1 h2 hw
    obtain rfl : i = L.length := by omega
    rw [List.drop_length] at hw
    have hr : Region.ready .any L.toArray l = [] := by
      refine List.eq_nil_iff_forall_not_mem.2 fun r hr => ?_
      obtain ⟨h3, o, h4, _⟩ := mem_ready.1 hr
      have hlt : r < L.length := by simpa using (Array.getElem?_eq_some_iff.1 h4).1
      rw [h1 r hlt] at h3
      cases h3
    cases fuel with
    | zero => exact ⟨hr, hw⟩
    | succ f => exact ⟨fun _ => hw, fun r hh => by rw [hr] at hh; cases hh⟩
  | succ k ih =>
    intro i fuel l a w hk hmi hin hf hs h1 h2 hw
    have hi : i < L.length := by omega
    obtain ⟨f, rfl⟩ : ∃ f, fuel = f + 1 := ⟨fuel - 1, by omega⟩
    have hui : l.getD i true = false := h2 i (Nat.le_refl _) hi
    have hri : i ∈ Region.ready .any L.toArray l := by
      rw [mem_ready]
      refine ⟨hui, L.getD i default, by simp [hi], fun e he hb => ?_⟩
      have h6 := edge_lt hord hi he hb
      have h7 := h1 e.on h6
      have h8 : e.on < l.size := by omega
      simpa [Array.getD, h8] using h7
    refine ⟨fun h0 => (by rw [h0] at hri; cases hri), fun r hr => ?_⟩
    obtain ⟨h3, o, h4, _⟩ := mem_ready.1 hr
    have hlt : r < L.length := by simpa using (Array.getElem?_eq_some_iff.1 h4).1
    have hge : i ≤ r := by
      rcases Nat.lt_or_ge r i with h | h
      · rw [h1 r h] at h3; cases h3
      · exact h
    have hri' : r = i := by
      rcases Nat.lt_or_ge i r with h | h
      · exact absurd hr (not_ready (htl r i hlt hmi h) hlt hs hi hui)
      · omega
    subst hri'
    rw [show L.drop r = L[r] :: L.drop (r + 1) by rw [List.getElem_cons_drop]] at hw
    unfold wpOp
    have h5 : L.toArray[r]? = some L[r] := by simp [hi]
    rw [h5]
    dsimp only
    have next : ∀ a' w', wpList P L.toArray Q (L.drop (r + 1)) a' w' → wpAny P .any L.toArray Q f (l.setIfInBounds r true) a' w' := fun a' w' hh => by
      refine ih (r + 1) f _ a' w' (by omega) (by omega) (by omega) (by omega) (by simpa using hs) (fun j hj => ?_) (fun j hj hjn => ?_) hh
      · by_cases hjr : j = r
        · subst hjr; simp [Array.getD, show j < l.size by omega]
        · have := h1 j (by omega)
          have hsz : j < l.size := by omega
          simp [Array.getD, hsz, Array.getElem_setIfInBounds, Ne.symm hjr] at this ⊢
          exact this
      · have := h2 j (by omega) hjn
        have hsz : j < l.size := by omega
        have hjr : r ≠ j := by omega
        simp [Array.getD, hsz, Array.getElem_setIfInBounds, hjr] at this ⊢
        exact this
    unfold wpList at hw
    split
    · rename_i hw1
      rw [if_pos hw1] at hw
      exact hw.imp (Oper.wp_mono next) id
    · rename_i hw1
      rw [if_neg hw1] at hw
      exact next _ _ hw
theorem wp_ghz {L : List Oper} {id : Nat} {Q : Exit → Act → World → Prop} {a : Act} {w : World} {M : Bool} (m z : Nat) (Gs : List (SP M)) (mk : (Nat → Value) → Act) (ha : ∃ S, a = mk S) (hm : P.follows .mixedOrders = true) (hB : okZ L m z = true)
    (hmk : ∀ S j v, j < m → (mk S).put (L.getD j default).dst v = mk (upd S j v))
    (hstep : ∀ j, j < m → ∀ S w', Gr M w.heap.size w w' → (∀ d, ((L.getD j default).after.any fun e => Region.binds .any e && e.on == d) = true → d < m ∧ (Gs.getD d default).G (S d) w') → St P M w.heap.size L.toArray (L.getD j default) (mk S) w' (Gs.getD j default))
    (hz : ∀ S w', Gr M w.heap.size w w' → (∀ d, ((L.getD z default).after.any fun e => Region.binds .any e && e.on == d) = true → d < m ∧ (Gs.getD d default).G (S d) w') → ∃ v, (Gs.getD z default).G v w' ∧ ∀ w'', (execOp (mk S).eval (L.getD z default)).run P w'' = .ok (.value v) w'')
    (hst : ∀ S w', Gr M w.heap.size w w' → (∀ j, j < m → j ≠ z → (Gs.getD j default).G (S j) w') → ∃ w'', (∀ v (K : Act → World → Prop) (Q' : Exit → Act → World → Prop), K (mk (upd S z v)) w'' → (L.getD m default).wp P (mk (upd S z v)) w' K Q') ∧ ∀ v, (Gs.getD z default).G v w' → wpList P L.toArray Q (L.drop (m + 1)) (mk (upd S z v)) w'') :
    (Code.region id L.toArray true).wp P Q a w := by
  have hB' := hB
  simp only [okZ, Bool.and_eq_true, decide_eq_true_eq] at hB'
  obtain ⟨⟨hord, ⟨hmn, hzm⟩, htl⟩, ⟨hgm, hgz⟩, hdm⟩ := hB'
  have hedge : ∀ i j, i < L.length → m ≤ i → j < i → ¬ (i = m ∧ j = z) → edgeB L i j = true := by
    intro i j hi hmi hj hn
    have h5 := List.all_eq_true.1 htl i (List.mem_range.2 hi)
    simp only [Bool.or_eq_true, decide_eq_true_eq] at h5
    rcases h5 with h5 | h5
    · omega
    · have h6 := List.all_eq_true.1 h5 j (List.mem_range.2 hj)
      simp only [Bool.or_eq_true, Bool.and_eq_true, beq_iff_eq] at h6
      rcases h6 with h6 | h6
      · exact absurd h6 hn
      · exact h6
  have htT : ∀ i j, i < L.length → m ≤ j → j < i → edgeB L i j = true := fun i j hi hmj hj => hedge i j hi (by omega) hj (by omega)
  have hLm : L.toArray[m]? = some (L.getD m default) := by simp [hmn]
  have hLz : L.toArray[z]? = some (L.getD z default) := by simp [show z < L.length by omega]
  have hdm' : (L.getD m default).dst = none := by simpa using hdm
  -- behind the store, all ahead of it done
  have main : ∀ (fuel : Nat) (l : Array Bool) (a : Act) (w' : World), l.size = L.length → l.toList.count false ≤ fuel → (∀ j, m ≤ j → j < L.length → l.getD j true = false) →
      (∃ S, a = mk S ∧ ∀ j, j < m → l.getD j true = true → (Gs.getD j default).G (S j) w') → Gr M w.heap.size w w' → wpAny P .any L.toArray Q fuel l a w' := by
    intro fuel
    induction fuel with
    | zero =>
      intro l a w' hs hc hun hi hbl
      exfalso
      have h1 := hun m (Nat.le_refl _) hmn
      have hlt : m < l.size := by omega
      simp [Array.getD, hlt] at h1
      have : false ∈ l.toList := by rw [← h1]; simp
      have := List.count_pos_iff.2 this
      omega
    | succ fuel ih =>
      intro l a w' hs hc hun hi hbl
      obtain ⟨S, rfl, hS⟩ := hi
      have hcnt : L.length - m ≤ l.toList.count false := by
        have h1 : l.toList.drop m = List.replicate (L.length - m) false := by
          refine List.ext_getElem (by simp [hs]) fun k h1 h2 => ?_
          simp at h1 h2
          have h3 := hun (m + k) (by omega) (by omega)
          simp [Array.getD, show m + k < l.size by omega] at h3
          simp [h3]
        have h2 := List.count_append (a := false) (l₁ := l.toList.take m) (l₂ := l.toList.drop m)
        rw [List.take_append_drop] at h2
        rw [h2, h1]
        simp
      by_cases hall : ∀ j, j < m → l.getD j true = true
      · have hS' : ∀ j, j < m → (Gs.getD j default).G (S j) w' := fun j hj => hS j hj (hall j hj)
        obtain ⟨w'', h1, h2⟩ := hst S w' hbl fun j hj _ => hS' j hj
        have h3 := h1 (S z)
        have h4 := h2 (S z) (hS' z hzm)
        rw [upd_self] at h3 h4
        refine wp_tailT hord htT (L.length - m) m (fuel + 1) l _ w' rfl (Nat.le_refl _) (Nat.le_of_lt hmn) (by omega) hs hall hun ?_
        rw [show L.drop m = L.getD m default :: L.drop (m + 1) by rw [List.getD_eq_getElem?_getD, List.getElem?_eq_getElem hmn]; simp]
        unfold wpList
        rw [if_pos (wanted_free hgm _)]
        exact .inl (h3 _ _ h4)
      · have ⟨j0, hj0, hf0⟩ : ∃ j, j < m ∧ l.getD j true = false := by
          refine Classical.byContradiction fun hne => hall fun j hj => ?_
          cases hv : l.getD j true with
          | true => rfl
          | false => exact absurd ⟨j, hj, hv⟩ hne
        refine ⟨fun hr => absurd (fun j hj => all_ready hord hs hr j (by omega)) hall, fun i hri => ?_⟩
        obtain ⟨h1, o, h2, h3⟩ := mem_ready.1 hri
        have hlt : i < L.length := by simpa using (Array.getElem?_eq_some_iff.1 h2).1
        obtain rfl : o = L.getD i default := by
          have : L[i]? = some o := by simpa using h2
          simp [this]
        have hdep : ∀ d, ((L.getD i default).after.any fun e => Region.binds .any e && e.on == d) = true → d < i ∧ l.getD d true = true := by
          intro d hd
          obtain ⟨k, hk, he2⟩ := Array.any_eq_true.1 hd
          simp only [Bool.and_eq_true, beq_iff_eq] at he2
          have he := Array.getElem_mem hk
          obtain ⟨hb, hon⟩ := he2
          generalize (L.getD i default).after[k] = e at he hb hon
          subst hon
          have h4 := h3 e he hb
          have h6 := edge_lt hord hlt he hb
          have h7 : e.on < l.size := by omega
          exact ⟨h6, by simpa [Array.getD, h7] using h4⟩
        rcases Nat.lt_or_ge i m with him | him
        · have hlt' : i < l.toList.length := by simp; omega
          have hlf : l.toList[i] = false := by simpa [Array.getD, show i < l.size by omega] using h1
          have hst := hstep i him S w' hbl (fun d hd => ⟨by have := (hdep d hd).1; omega, hS d (by have := (hdep d hd).1; omega) (hdep d hd).2⟩)
          refine wpOp_mono (K := fun a' w'' => ∃ v, Gr M w.heap.size w' w'' ∧ (Gs.getD i default).G v w'' ∧ a' = mk (upd S i v)) ?_ (wpOp_of_list h2 fun K hK => hst.out K fun v w'' hb hg => by rw [hmk S i v him]; exact hK _ _ ⟨v, hb, hg, rfl⟩)
          rintro a' w'' ⟨v, hb, hg, rfl⟩
          refine ih _ _ w'' (by simpa using hs) ?_ (fun j hj hjn => ?_) ⟨upd S i v, rfl, fun j hj hl => ?_⟩ (hbl.trans hb)
          · have : l.toList.count false > 0 := List.count_pos_iff.2 (by rw [← hlf]; exact List.getElem_mem _)
            rw [Array.toList_setIfInBounds, List.count_set hlt', hlf]
            rw [if_pos (by rfl), if_neg (by decide)]
            omega
          · have h4 := hun j hj hjn
            have hsz : j < l.size := by omega
            have hjr : i ≠ j := by omega
            simp [Array.getD, hsz, Array.getElem_setIfInBounds, hjr] at h4 ⊢
            exact h4
          · unfold upd
            by_cases hji : j = i
            · subst hji; rw [if_pos rfl]; exact hg
            · rw [if_neg hji]
              have hsz : j < l.size := by omega
              refine (Gs.getD j default).keep _ _ _ _ (hS j hj ?_) hb
              simp [Array.getD, hsz, Array.getElem_setIfInBounds, Ne.symm hji] at hl ⊢
              exact hl
        · -- the store, ahead of the pure one
          have him' : i = m := by
            rcases Nat.lt_or_ge m i with h | h
            · exact absurd hri (not_ready (hedge i m hlt him h (by omega)) hlt hs (by omega) (hun m (Nat.le_refl _) hmn))
            · omega
          subst him'
          have hothers : ∀ j, j < i → j ≠ z → l.getD j true = true := by
            intro j hj hjz
            cases hv : l.getD j true with
            | true => rfl
            | false => exact absurd hri (not_ready (hedge i j hlt (Nat.le_refl _) hj (fun h => hjz h.2)) hlt hs (by omega) hv)
          have hzf : l.getD z true = false := by
            by_cases hj : j0 = z
            · rw [← hj]; exact hf0
            · rw [hothers j0 hj0 hj] at hf0; cases hf0
          have hSo : ∀ j, j < i → j ≠ z → (Gs.getD j default).G (S j) w' := fun j hj hjz => hS j hj (hothers j hj hjz)
          obtain ⟨w'', g1, g2⟩ := hst S w' hbl hSo
          have g3 := g1 (S z)
          rw [upd_self] at g3
          have hzdep : ∀ d, ((L.getD z default).after.any fun e => Region.binds .any e && e.on == d) = true → d < z := by
            intro d hd
            obtain ⟨k, hk, he2⟩ := Array.any_eq_true.1 hd
            simp only [Bool.and_eq_true, beq_iff_eq] at he2
            have he := Array.getElem_mem hk
            obtain ⟨hb, hon⟩ := he2
            generalize (L.getD z default).after[k] = e at he hb hon
            subst hon
            exact edge_lt hord (by omega) he hb
          obtain ⟨v, gv, gr⟩ := hz S w' hbl (fun d hd => ⟨by have := hzdep d hd; omega, hSo d (by have := hzdep d hd; omega) (by have := hzdep d hd; omega)⟩)
          unfold wpOp
          rw [hLm]
          dsimp only
          rw [if_pos (wanted_free hgm _)]
          refine .inl (g3 _ _ ?_)
          -- now the pure one is the only one that can come
          have hsm : (l.setIfInBounds i true).size = L.length := by simpa using hs
          have hgm2 : ∀ j, j < L.length → j ≠ i → (l.setIfInBounds i true).getD j true = l.getD j true := by
            intro j hj hji
            have hsz : j < l.size := by omega
            simp [Array.getD, hsz, Array.getElem_setIfInBounds, Ne.symm hji]
          have hgmi : (l.setIfInBounds i true).getD i true = true := by
            have hsz : i < l.size := by omega
            simp [Array.getD, hsz]
          have hzf2 : (l.setIfInBounds i true).getD z true = false := by rw [hgm2 z (by omega) (by omega)]; exact hzf
          have hcnt2 : L.length - i + 1 ≤ l.toList.count false := by
            have e1 : l.toList.take i ++ l.toList.drop i = l.toList := List.take_append_drop _ _
            have e2 := List.count_append (a := false) (l₁ := l.toList.take i) (l₂ := l.toList.drop i)
            rw [e1] at e2
            have e3 : 0 < (l.toList.take i).count false := List.count_pos_iff.2 (by
              have hz' : z < l.size := by omega
              simp [Array.getD, hz'] at hzf
              rw [← hzf]
              exact List.mem_take_iff_getElem.2 ⟨z, by simp; omega, by simp⟩)
            have e4 : l.toList.drop i = List.replicate (L.length - i) false := by
              refine List.ext_getElem (by simp [hs]) fun k h1 h2 => ?_
              simp at h1 h2
              have h3 := hun (i + k) (by omega) (by omega)
              simp [Array.getD, show i + k < l.size by omega] at h3
              simp [h3]
            rw [e4, List.count_replicate_self] at e2
            omega
          obtain ⟨f, rfl⟩ : ∃ f, fuel = f + 1 := ⟨fuel - 1, by omega⟩
          have hzr : z ∈ Region.ready .any L.toArray (l.setIfInBounds i true) := by
            rw [mem_ready]
            refine ⟨hzf2, L.getD z default, hLz, fun e he hb => ?_⟩
            have h6 := edge_lt hord (show z < L.length by omega) he hb
            have h7 := hothers e.on (by omega) (by omega)
            rw [← hgm2 e.on (by omega) (by omega)] at h7
            have h8 : e.on < l.size := by omega
            simp [Array.getD, h8] at h7 ⊢
            exact h7
          refine ⟨fun h0 => (by rw [h0] at hzr; cases hzr), fun r hr => ?_⟩
          obtain ⟨r3, o, r4, _⟩ := mem_ready.1 hr
          have hrl : r < L.length := by simpa using (Array.getElem?_eq_some_iff.1 r4).1
          have hrz : r = z := by
            rcases Nat.lt_or_ge r i with h | h
            · rcases Nat.lt_or_ge r z with h' | h'
              · rw [hgm2 r hrl (by omega), hothers r h (by omega)] at r3; cases r3
              · rcases Nat.lt_or_ge z r with h'' | h''
                · rw [hgm2 r hrl (by omega), hothers r h (by omega)] at r3; cases r3
                · omega
            · rcases Nat.lt_or_ge i r with h' | h'
              · exact absurd hr (not_ready (hedge r z hrl (by omega) (by omega) (by omega)) hrl hsm (by omega) hzf2)
              · have : r = i := by omega
                rw [this, hgmi] at r3; cases r3
          subst hrz
          unfold wpOp
          rw [hLz]
          dsimp only
          rw [if_pos (wanted_free hgz _)]
          refine .inl ?_
          unfold Oper.wp
          rw [gr w'']
          show wpAny P .any L.toArray Q f _ ((mk S).put (L.getD r default).dst v) w''
          rw [hmk S r v hzm]
          refine wp_tailT hord htT (L.length - (i + 1)) (i + 1) f _ _ w'' rfl (by omega) (by omega) (by omega) (by simpa using hs) (fun j hj => ?_) (fun j hj hjn => ?_) (g2 v gv)
          · have hsz : j < l.size := by omega
            by_cases hjr : j = r
            · subst hjr; simp [Array.getD, hsz]
            · by_cases hji : j = i
              · subst hji; simp [Array.getD, hsz, Array.getElem_setIfInBounds, Ne.symm hjr]
              · have := hothers j (by omega) hjr
                simp [Array.getD, hsz, Array.getElem_setIfInBounds, Ne.symm hjr, Ne.symm hji] at this ⊢
                exact this
          · have h4 := hun j (by omega) hjn
            have hsz : j < l.size := by omega
            simp [Array.getD, hsz, Array.getElem_setIfInBounds, show i ≠ j by omega, show r ≠ j by omega] at h4 ⊢
            exact h4
  refine wp_region_any hm (main _ _ _ _ (by simp) ?_ (fun j h1 h2 => by simp [Array.getD, h2]) ?_ Gr.drew)
  · simp
  · obtain ⟨S, rfl⟩ := ha
    refine ⟨S, rfl, fun j hj hl => ?_⟩
    have : j < L.length := by omega
    simp [Array.getD, this] at hl
/-- The slots by their places. -/
theorem wp_ghlz {L : List Oper} {id : Nat} {Q : Exit → Act → World → Prop} {b : List Value} {d : List Deferred} {w : World} {M : Bool} (m z : Nat) (Gs : List (SP M)) (ps : List (Option Nat)) (ds : List Nat) (hb : mkL b ps (fun j => b.getD (ds.getD j 0) undef) = b) (hm : P.follows .mixedOrders = true) (hB : okZ L m z = true)
    (hmk : ∀ S j v, j < m → (⟨(mkL b ps S).toArray, d⟩ : Act).put (L.getD j default).dst v = ⟨(mkL b ps (upd S j v)).toArray, d⟩)
    (hstep : ∀ j, j < m → ∀ S w', Gr M w.heap.size w w' → (∀ d, ((L.getD j default).after.any fun e => Region.binds .any e && e.on == d) = true → d < m ∧ (Gs.getD d default).G (S d) w') → St P M w.heap.size L.toArray (L.getD j default) ⟨(mkL b ps S).toArray, d⟩ w' (Gs.getD j default))
    (hz : ∀ S w', Gr M w.heap.size w w' → (∀ d, ((L.getD z default).after.any fun e => Region.binds .any e && e.on == d) = true → d < m ∧ (Gs.getD d default).G (S d) w') → ∃ v, (Gs.getD z default).G v w' ∧ ∀ w'', (execOp (⟨(mkL b ps S).toArray, d⟩ : Act).eval (L.getD z default)).run P w'' = .ok (.value v) w'')
    (hst : ∀ S w', Gr M w.heap.size w w' → (∀ j, j < m → j ≠ z → (Gs.getD j default).G (S j) w') → ∃ w'', (∀ v (K : Act → World → Prop) (Q' : Exit → Act → World → Prop), K ⟨(mkL b ps (upd S z v)).toArray, d⟩ w'' → (L.getD m default).wp P ⟨(mkL b ps (upd S z v)).toArray, d⟩ w' K Q') ∧ ∀ v, (Gs.getD z default).G v w' → wpList P L.toArray Q (L.drop (m + 1)) ⟨(mkL b ps (upd S z v)).toArray, d⟩ w'') :
    (Code.region id L.toArray true).wp P Q ⟨b.toArray, d⟩ w :=
  wp_ghz m z Gs (fun S => ⟨(mkL b ps S).toArray, d⟩) ⟨_, by rw [hb]⟩ hm hB hmk hstep hz hst
/-- A block of the region's own. -/
def SP.blk (B : Nat) (t : TypeId) (cs : Array Value) : SP false := ⟨fun v w => ∃ g, v = .pointer (some ⟨g, 0, none⟩) ∧ B ≤ g ∧ Blk w g t cs, fun B' v w w' h hb => by
  obtain ⟨g, h1, h2, h3⟩ := h
  exact ⟨g, h1, h2, (hb.block rfl g h3.lt).trans h3⟩⟩
end
end Go.Proofs.Ytbipcnboammpeaa.GH
