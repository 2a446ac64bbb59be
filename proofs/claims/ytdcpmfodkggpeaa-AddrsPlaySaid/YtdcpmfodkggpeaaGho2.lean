/- A region whose order is open, its last operations waiting, by steps, for all that stands ahead. No program. -/
import Derived.Test.YtdcpmfodkggpeaaGho
namespace Go.Proofs.Ytdcpmfodkggpeaa.GH
open Go.RowKit
set_option linter.unusedVariables false
set_option linter.unusedSimpArgs false
section
variable {P : Program}
def dirB (L : List Oper) (i j : Nat) : Bool := (L.getD i default).after.any fun e => Region.binds .any e && e.on == j
def reachB (L : List Oper) : Nat → Nat → Nat → Bool
  | 0, i, j => dirB L i j
  | f + 1, i, j => dirB L i j || (List.range i).any fun k => dirB L i k && reachB L f k j
def okB2 (L : List Oper) (m : Nat) : Bool :=
  ((List.range L.length).all fun i => (L.getD i default).after.all fun e => !(Region.binds .any e) || decide (e.on < i)) &&
  (decide (m ≤ L.length) && (List.range L.length).all fun i => decide (i < m) || (List.range i).all fun j => reachB L 12 i j)
theorem dir_lt {L : List Oper} (hord : ((List.range L.length).all fun i => (L.getD i default).after.all fun e => !(Region.binds .any e) || decide (e.on < i)) = true) {i j : Nat} (hi : i < L.length) (h : dirB L i j = true) : j < i := by
  obtain ⟨k, hk, he⟩ := Array.any_eq_true.1 h
  simp only [Bool.and_eq_true, beq_iff_eq] at he
  have := edge_lt hord hi (Array.getElem_mem hk) he.1
  rw [he.2] at this
  exact this
theorem ready_dir {L : List Oper} {l : Array Bool} (hs : l.size = L.length) {i j : Nat} (hi : i < L.length) (hm : i ∈ Region.ready .any L.toArray l) (h : dirB L i j = true) : l.getD j true = true := by
  cases hl : l.getD j true with
  | true => rfl
  | false =>
    have hj : j < L.length := by
      rcases Nat.lt_or_ge j L.length with h' | h'
      · exact h'
      · rw [Array.getD, dif_neg (by omega)] at hl; cases hl
    exact absurd hm (not_ready h hi hs hj hl)
theorem reach_done {L : List Oper} (hord : ((List.range L.length).all fun i => (L.getD i default).after.all fun e => !(Region.binds .any e) || decide (e.on < i)) = true) {l : Array Bool}
    (hcl : ∀ k j, (k < L.length ∧ l.getD k true = true) → dirB L k j = true → l.getD j true = true) : ∀ (f i j : Nat), i < L.length → (∀ j, dirB L i j = true → l.getD j true = true) → reachB L f i j = true → l.getD j true = true := by
  intro f
  induction f with
  | zero => exact fun i j hi hd h => hd j h
  | succ f ih =>
    intro i j hi hd h
    unfold reachB at h
    simp only [Bool.or_eq_true, List.any_eq_true, Bool.and_eq_true, List.mem_range] at h
    rcases h with h | ⟨k, hk, h1, h2⟩
    · exact hd j h
    · have hkn : k < L.length := by omega
      exact ih k j hkn (fun j' h' => hcl k j' ⟨hkn, hd k h1⟩ h') h2
theorem wp_tail2 {L : List Oper} {m : Nat} {Q : Exit → Act → World → Prop} (hB : okB2 L m = true) : ∀ (k i fuel : Nat) (l : Array Bool) (a : Act) (w : World), L.length - i = k → m ≤ i → i ≤ L.length → k ≤ fuel → l.size = L.length →
    (∀ j, j < i → l.getD j true = true) → (∀ j, i ≤ j → j < L.length → l.getD j true = false) → wpList P L.toArray Q (L.drop i) a w → wpAny P .any L.toArray Q fuel l a w := by
  have hB' := hB
  simp only [okB2, Bool.and_eq_true, decide_eq_true_eq] at hB'
  obtain ⟨hord, hmn, htl⟩ := hB'
  intro k
  induction k with
  | zero =>
    intro i fuel l a w hk hmi hin hf hs h1 h2 hw
    obtain rfl : i = L.length := by omega
    rw [List.drop_length] at hw
    have hr : Region.ready .any L.toArray l = [] := by
      refine List.eq_nil_iff_forall_not_mem.2 fun r hr => ?_
      obtain ⟨h3, o, h4, _⟩ := mem_ready.1 hr
      have hlt : r < L.length := by simpa using (Array.getElem?_eq_some_iff.1 h4).1
      rw [h1 r hlt] at h3
      cases h3
    cases fuel with
    | zero => exact ⟨hr, hw⟩
    | succ f => exact ⟨fun _ => hw, fun r hh => by rw [hr] at hh; cases hh⟩
  | succ k ih =>
    intro i fuel l a w hk hmi hin hf hs h1 h2 hw
    have hi : i < L.length := by omega
    obtain ⟨f, rfl⟩ : ∃ f, fuel = f + 1 := ⟨fuel - 1, by omega⟩
    have hui : l.getD i true = false := h2 i (Nat.le_refl _) hi
    have hri : i ∈ Region.ready .any L.toArray l := by
      rw [mem_ready]
      refine ⟨hui, L.getD i default, by simp [hi], fun e he hb => ?_⟩
      have h6 := edge_lt hord hi he hb
      have h7 := h1 e.on h6
      have h8 : e.on < l.size := by omega
      simpa [Array.getD, h8] using h7
    refine ⟨fun h0 => (by rw [h0] at hri; cases hri), fun r hr => ?_⟩
    obtain ⟨h3, o, h4, _⟩ := mem_ready.1 hr
    have hlt : r < L.length := by simpa using (Array.getElem?_eq_some_iff.1 h4).1
    have hge : i ≤ r := by
      rcases Nat.lt_or_ge r i with h | h
      · rw [h1 r h] at h3; cases h3
      · exact h
    have hri' : r = i := by
      rcases Nat.lt_or_ge i r with h | h
      · exfalso
        have h5 := List.all_eq_true.1 htl r (List.mem_range.2 hlt)
        simp only [Bool.or_eq_true, decide_eq_true_eq] at h5
        rcases h5 with h5 | h5
        · omega
        · have h6 := reach_done hord (l := l) (fun k j hk hd => by
            have hkn : k < L.length := by omega
            have hjk := dir_lt hord hkn hd
            rcases Nat.lt_or_ge k i with h7 | h7
            · exact h1 j (by omega)
            · exact absurd hk.2 (by rw [h2 k h7 hkn]; simp)) _ r i hlt (fun j hd => ready_dir hs hlt hr hd) (List.all_eq_true.1 h5 i (List.mem_range.2 h))
          rw [hui] at h6
          cases h6
      · omega
    subst hri'
    rw [show L.drop r = L[r] :: L.drop (r + 1) by rw [List.getElem_cons_drop]] at hw
    unfold wpOp
    have h5 : L.toArray[r]? = some L[r] := by simp [hi]
    rw [h5]
    dsimp only
    have next : ∀ a' w', wpList P L.toArray Q (L.drop (r + 1)) a' w' → wpAny P .any L.toArray Q f (l.setIfInBounds r true) a' w' := fun a' w' hh => by
      refine ih (r + 1) f _ a' w' (by omega) (by omega) (by omega) (by omega) (by simpa using hs) (fun j hj => ?_) (fun j hj hjn => ?_) hh
      · by_cases hjr : j = r
        · subst hjr; simp [Array.getD, show j < l.size by omega]
        · have := h1 j (by omega)
          have hsz : j < l.size := by omega
          simp [Array.getD, hsz, Array.getElem_setIfInBounds, Ne.symm hjr] at this ⊢
          exact this
      · have := h2 j (by omega) hjn
        have hsz : j < l.size := by omega
        have hjr : r ≠ j := by omega
        simp [Array.getD, hsz, Array.getElem_setIfInBounds, hjr] at this ⊢
        exact this
    unfold wpList at hw
    split
    · rename_i hw1
      rw [if_pos hw1] at hw
      exact hw.imp (Oper.wp_mono next) id
    · rename_i hw1
      rw [if_neg hw1] at hw
      exact next _ _ hw
/-- A REGION THAT DRAWS ITS ORDER, WHERE ALL BUT THE LAST OPERATIONS MAKE MEMORY AT MOST. -/
theorem wp_gho2 {L : List Oper} {id : Nat} {Q : Exit → Act → World → Prop} {a : Act} {w : World} {M : Bool} (m : Nat) (Gs : List (SP M)) (mk : (Nat → Value) → Act) (ha : ∃ S, a = mk S) (hm : P.follows .mixedOrders = true) (hB : okB2 L m = true)
    (hmk : ∀ S j v, j < m → (mk S).put (L.getD j default).dst v = mk (upd S j v))
    (hstep : ∀ j, j < m → ∀ S w', Gr M w.heap.size w w' → (∀ d, ((L.getD j default).after.any fun e => Region.binds .any e && e.on == d) = true → d < m ∧ (Gs.getD d default).G (S d) w') → St P M w.heap.size L.toArray (L.getD j default) (mk S) w' (Gs.getD j default))
    (hend : ∀ S w', Gr M w.heap.size w w' → (∀ j, j < m → (Gs.getD j default).G (S j) w') → wpList P L.toArray Q (L.drop m) (mk S) w') :
    (Code.region id L.toArray true).wp P Q a w := by
  have hB' := hB
  simp only [okB2, Bool.and_eq_true, decide_eq_true_eq] at hB'
  obtain ⟨hord, hmn, htl⟩ := hB'
  have main : ∀ (fuel : Nat) (l : Array Bool) (a : Act) (w' : World), l.size = L.length → l.toList.count false ≤ fuel → (∀ j, m ≤ j → j < L.length → l.getD j true = false) → (∀ k j, k < L.length → l.getD k true = true → dirB L k j = true → l.getD j true = true) →
      (∃ S, a = mk S ∧ ∀ j, j < m → l.getD j true = true → (Gs.getD j default).G (S j) w') → Gr M w.heap.size w w' → wpAny P .any L.toArray Q fuel l a w' := by
    intro fuel
    induction fuel with
    | zero =>
      intro l a w' hs hc hun hcl hi hbl
      obtain ⟨S, rfl, hS⟩ := hi
      have hall : ∀ i, i < L.length → l.getD i true = true := by
        intro i hlt
        have hlt' : i < l.size := by omega
        cases hv : l[i] with
        | true => simp [Array.getD, hlt', hv]
        | false =>
          have : false ∈ l.toList := by rw [← hv]; simp
          have := List.count_pos_iff.2 this
          omega
      have hmL : m = L.length := by
        rcases Nat.lt_or_ge m L.length with h | h
        · have h1 := hun m (Nat.le_refl _) h
          rw [hall m h] at h1
          cases h1
        · omega
      refine wp_tail2 hB 0 m 0 l _ w' (by omega) (Nat.le_refl _) hmn (Nat.le_refl _) hs (fun j hj => hall j (by omega)) hun (hend S w' hbl fun j hj => hS j hj (hall j (by omega)))
    | succ fuel ih =>
      intro l a w' hs hc hun hcl hi hbl
      obtain ⟨S, rfl, hS⟩ := hi
      by_cases hall : ∀ j, j < m → l.getD j true = true
      · refine wp_tail2 hB (L.length - m) m (fuel + 1) l _ w' rfl (Nat.le_refl _) hmn ?_ hs hall hun (hend S w' hbl fun j hj => hS j hj (hall j hj))
        refine Nat.le_trans ?_ hc
        have h1 : l.toList.drop m = List.replicate (L.length - m) false := by
          refine List.ext_getElem (by simp [hs]) fun k h1 h2 => ?_
          simp at h1 h2
          have h3 := hun (m + k) (by omega) (by omega)
          simp [Array.getD, show m + k < l.size by omega] at h3
          simp [h3]
        have h2 := List.count_append (a := false) (l₁ := l.toList.take m) (l₂ := l.toList.drop m)
        rw [List.take_append_drop] at h2
        rw [h2, h1]
        simp
      · have ⟨j0, hj0, hf0⟩ : ∃ j, j < m ∧ l.getD j true = false := by
          refine Classical.byContradiction fun hne => hall fun j hj => ?_
          cases hv : l.getD j true with
          | true => rfl
          | false => exact absurd ⟨j, hj, hv⟩ hne
        refine ⟨fun hr => absurd (fun j hj => all_ready hord hs hr j (by omega)) hall, fun i hri => ?_⟩
        obtain ⟨h1, o, h2, h3⟩ := mem_ready.1 hri
        have hlt : i < L.length := by simpa using (Array.getElem?_eq_some_iff.1 h2).1
        have him : i < m := by
          rcases Nat.lt_or_ge i m with h | h
          · exact h
          · exfalso
            have h5 := List.all_eq_true.1 htl i (List.mem_range.2 hlt)
            simp only [Bool.or_eq_true, decide_eq_true_eq] at h5
            rcases h5 with h5 | h5
            · omega
            · have h6 := reach_done hord (l := l) (fun k j hk hd => hcl k j hk.1 hk.2 hd) _ i j0 hlt (fun j hd => ready_dir hs hlt hri hd) (List.all_eq_true.1 h5 j0 (List.mem_range.2 (by omega)))
              rw [hf0] at h6
              cases h6
        obtain rfl : o = L.getD i default := by
          have : L[i]? = some o := by simpa using h2
          simp [this]
        have hlt' : i < l.toList.length := by simp; omega
        have hlf : l.toList[i] = false := by simpa [Array.getD, show i < l.size by omega] using h1
        have hst := hstep i him S w' hbl (fun d hd => by
          obtain ⟨k, hk, he2⟩ := Array.any_eq_true.1 hd
          simp only [Bool.and_eq_true, beq_iff_eq] at he2
          have he := Array.getElem_mem hk
          obtain ⟨hb, hon⟩ := he2
          generalize (L.getD i default).after[k] = e at he hb hon
          subst hon
          have h4 := h3 e he hb
          have h6 := edge_lt hord hlt he hb
          have h7 : e.on < l.size := by omega
          exact ⟨by omega, hS e.on (by omega) (by simpa [Array.getD, h7] using h4)⟩)
        refine wpOp_mono (K := fun a' w'' => ∃ v, Gr M w.heap.size w' w'' ∧ (Gs.getD i default).G v w'' ∧ a' = mk (upd S i v)) ?_ (wpOp_of_list h2 fun K hK => hst.out K fun v w'' hb hg => by rw [hmk S i v him]; exact hK _ _ ⟨v, hb, hg, rfl⟩)
        rintro a' w'' ⟨v, hb, hg, rfl⟩
        refine ih _ _ w'' (by simpa using hs) ?_ (fun j hj hjn => ?_) (fun k j hk hl hd => ?_) ⟨upd S i v, rfl, fun j hj hl => ?_⟩ (hbl.trans hb)
        · have : l.toList.count false > 0 := List.count_pos_iff.2 (by rw [← hlf]; exact List.getElem_mem _)
          rw [Array.toList_setIfInBounds, List.count_set hlt', hlf]
          rw [if_pos (by rfl), if_neg (by decide)]
          omega
        · have h4 := hun j hj hjn
          have hsz : j < l.size := by omega
          have hjr : i ≠ j := by omega
          simp [Array.getD, hsz, Array.getElem_setIfInBounds, hjr] at h4 ⊢
          exact h4
        · have hjk := dir_lt hord hk hd
          have h6 : l.getD j true = true := by
            by_cases hki : k = i
            · subst hki
              exact ready_dir hs hlt hri hd
            · have hsz : k < l.size := by omega
              refine hcl k j hk ?_ hd
              simp [Array.getD, hsz, Array.getElem_setIfInBounds, Ne.symm hki] at hl ⊢
              exact hl
          have hsz : j < l.size := by omega
          simp [Array.getD, hsz, Array.getElem_setIfInBounds] at h6 ⊢
          exact Or.inr h6
        · unfold upd
          by_cases hji : j = i
          · subst hji; rw [if_pos rfl]; exact hg
          · rw [if_neg hji]
            have hsz : j < l.size := by omega
            refine (Gs.getD j default).keep _ _ _ _ (hS j hj ?_) hb
            simp [Array.getD, hsz, Array.getElem_setIfInBounds, Ne.symm hji] at hl ⊢
            exact hl
  refine wp_region_any hm (main _ _ _ _ (by simp) ?_ (fun j h1 h2 => by simp [Array.getD, h2]) (fun k j hk hl => by simp [Array.getD, hk] at hl) ?_ Gr.drew)
  · simp
  · obtain ⟨S, rfl⟩ := ha
    refine ⟨S, rfl, fun j hj hl => ?_⟩
    have : j < L.length := by omega
    simp [Array.getD, this] at hl
end
theorem wp_ghl2 {P : Program} {L : List Oper} {id : Nat} {Q : Exit → Act → World → Prop} {b : List Value} {d : List Deferred} {w : World} {M : Bool} (m : Nat) (Gs : List (SP M)) (ps : List (Option Nat)) (ds : List Nat) (hb : mkL b ps (fun j => b.getD (ds.getD j 0) undef) = b) (hm : P.follows .mixedOrders = true) (hB : okB2 L m = true)
    (hmk : ∀ S j v, j < m → (⟨(mkL b ps S).toArray, d⟩ : Act).put (L.getD j default).dst v = ⟨(mkL b ps (upd S j v)).toArray, d⟩)
    (hstep : ∀ j, j < m → ∀ S w', Gr M w.heap.size w w' → (∀ d, ((L.getD j default).after.any fun e => Region.binds .any e && e.on == d) = true → d < m ∧ (Gs.getD d default).G (S d) w') → St P M w.heap.size L.toArray (L.getD j default) ⟨(mkL b ps S).toArray, d⟩ w' (Gs.getD j default))
    (hend : ∀ S w', Gr M w.heap.size w w' → (∀ j, j < m → (Gs.getD j default).G (S j) w') → wpList P L.toArray Q (L.drop m) ⟨(mkL b ps S).toArray, d⟩ w') :
    (Code.region id L.toArray true).wp P Q ⟨b.toArray, d⟩ w :=
  wp_gho2 m Gs (fun S => ⟨(mkL b ps S).toArray, d⟩) ⟨_, by rw [hb]⟩ hm hB hmk hstep hend
end Go.Proofs.Ytdcpmfodkggpeaa.GH
