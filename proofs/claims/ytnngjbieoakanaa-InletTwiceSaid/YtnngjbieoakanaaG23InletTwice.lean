/- A region whose order is open: what each operation's slot holds once it was done, whatever came ahead of it or behind; then, one behind the other, what waits for all that stands ahead. No program. -/
import Derived.Test.YtnngjbieoakanaaG22InletTwice

namespace Go.Proofs.Ytnngjbieoakanaa.GH
open Go.RowKit
set_option linter.unusedVariables false
set_option linter.unusedSimpArgs false
/-- Memory grows: below B all is as it was; above, too (M: but for the mark of a constant's bytes). -/
structure Gr (M : Bool) (B : Nat) (w w' : World) : Prop where
  below : Below B w w'
  cell : ∀ k o, k < w.heap.size → w'.cell? ⟨k, o, none⟩ = w.cell? ⟨k, o, none⟩
  block : M = false → ∀ k, k < w.heap.size → w'.heap[k]? = w.heap[k]?
theorem Gr.of {M : Bool} {B : Nat} {w w' : World} (h : Below w.heap.size w w') (hB : B ≤ w.heap.size) : Gr M B w w' := ⟨h.mono hB, fun k o hk => World.cell?_of_block (a := ⟨k, o, none⟩) (h.block k hk), fun _ => h.block⟩
theorem Gr.refl (M : Bool) (B : Nat) (w : World) : Gr M B w w := ⟨Below.refl _ _, fun _ _ _ => rfl, fun _ _ _ => rfl⟩
theorem Gr.trans {M : Bool} {B : Nat} {a b c : World} (h : Gr M B a b) (k : Gr M B b c) : Gr M B a c :=
  ⟨h.below.trans k.below, fun i o hi => (k.cell i o (Nat.lt_of_lt_of_le hi h.below.size)).trans (h.cell i o hi), fun hM i hi => (k.block hM i (Nat.lt_of_lt_of_le hi h.below.size)).trans (h.block hM i hi)⟩
theorem Gr.drew {M : Bool} {B : Nat} {w : World} : Gr M B w w.drew := ⟨(Below.refl _ _).drew, fun _ _ _ => rfl, fun _ _ _ => rfl⟩
theorem Gr.rd {M : Bool} {B size n : Nat} {w w' : World} {A : Option Addr} {xs : List Value} (hb : Gr M B w w') (h : Rd w w.heap.size size A n xs) : Rd w' w'.heap.size size A n xs := (h.keep (Nat.le_refl _) fun b o hb' => hb.cell b o hb').mono hb.below.size
/-- What is known of a value, and stays known while memory grows. -/
structure SP (M : Bool) where
  G : Value → World → Prop
  keep : ∀ B v w w', G v w → Gr M B w w' → G v w'
instance {M : Bool} : Inhabited (SP M) := ⟨⟨fun _ _ => True, fun _ _ _ _ h _ => h⟩⟩
section
variable {M : Bool}
/-- Anything. -/
def SP.any : SP M := ⟨fun _ _ => True, fun _ _ _ _ h _ => h⟩
/-- Just this. -/
def SP.eq (c : Value) : SP M := ⟨fun v _ => v = c, fun _ _ _ _ h _ => h⟩
/-- One of two kinds, by a truth value. -/
def SP.ite (b : Bool) (p q : SP M) : SP M := ⟨fun v w => match b with | true => p.G v w | false => q.G v w, fun B v w w' h hb => by cases b with | true => exact p.keep B v w w' h hb | false => exact q.keep B v w w' h hb⟩
/-- A slice that reads as these cells. -/
def SP.rd (size n : Nat) (xs : List Value) : SP M := ⟨fun v w => ∃ A c, v = .slice A n c ∧ n ≤ c ∧ Rd w w.heap.size size A n xs, fun B v w w' h hb => by
  obtain ⟨A, c, h1, h2, h3⟩ := h
  exact ⟨A, c, h1, h2, hb.rd h3⟩⟩
/-- A constant's bytes, above B. -/
def SP.lit (B : Nat) (k : IntKind) (l : List Nat) : SP M := ⟨fun v w => ∃ g, v = .slice (some ⟨g, 0, none⟩) l.length l.length ∧ B ≤ g ∧ Rd w w.heap.size 1 (some ⟨g, 0, none⟩) l.length (Go.Proofs.Ytnngjbieoakanaa.ns k l), fun B v w w' h hb => by
  obtain ⟨g, h1, h2, h3⟩ := h
  exact ⟨g, h1, h2, hb.rd h3⟩⟩
end
def upd (S : Nat → Value) (j : Nat) (v : Value) : Nat → Value := fun k => if k = j then v else S k
/-- One operation by itself. -/
structure St (P : Program) (M : Bool) (B : Nat) (ops : Array Oper) (o : Oper) (a : Act) (w : World) (G : SP M) : Prop where
  out : ∀ K : Exit → Act → World → Prop, (∀ v w', Gr M B w w' → G.G v w' → K .normal (a.put o.dst v) w') → wpList P ops K [o] a w
section
variable {P : Program}
def okB (L : List Oper) (m : Nat) : Bool :=
  ((List.range L.length).all fun i => (L.getD i default).after.all fun e => !(Region.binds .any e) || decide (e.on < i)) &&
  (decide (m ≤ L.length) && (List.range L.length).all fun i => decide (i < m) || (List.range i).all fun j => (L.getD i default).after.any fun e => Region.binds .any e && e.on == j)
theorem edge_lt {L : List Oper} (hord : ((List.range L.length).all fun i => (L.getD i default).after.all fun e => !(Region.binds .any e) || decide (e.on < i)) = true) {i : Nat} (hi : i < L.length) {e} (he : e ∈ (L.getD i default).after) (hb : Region.binds .any e = true) : e.on < i := by
  have h1 := List.all_eq_true.1 hord i (List.mem_range.2 hi)
  have h2 := Array.all_eq_true_iff_forall_mem.1 h1 e he
  rw [hb] at h2
  simpa using h2
theorem all_ready {L : List Oper} (hord : ((List.range L.length).all fun i => (L.getD i default).after.all fun e => !(Region.binds .any e) || decide (e.on < i)) = true) {l : Array Bool} (hs : l.size = L.length)
    (hr : Region.ready .any L.toArray l = []) : ∀ i, i < L.length → l.getD i true = true := by
  intro i
  induction i using Nat.strongRecOn with
  | _ i ih =>
    intro hi
    cases hl : l.getD i true with
    | true => rfl
    | false =>
      have hm : i ∈ Region.ready .any L.toArray l := by
        rw [mem_ready]
        refine ⟨hl, L.getD i default, by simp [hi], fun e he hb => ?_⟩
        have h2 := edge_lt hord hi he hb
        have h3 := ih e.on h2 (by omega)
        have h4 : e.on < l.size := by omega
        simpa [Array.getD, h4] using h3
      rw [hr] at hm
      cases hm
theorem not_ready {L : List Oper} {l : Array Bool} {i j : Nat} (hw : (L.getD i default).after.any (fun e => Region.binds .any e && e.on == j) = true) (hi : i < L.length) (hs : l.size = L.length) (hj : j < L.length) (hl : l.getD j true = false) : i ∉ Region.ready .any L.toArray l := by
  intro hm
  obtain ⟨h1, o, h2, h3⟩ := mem_ready.1 hm
  obtain rfl : o = L.getD i default := by
    have : L[i]? = some o := by simpa using h2
    simp [this]
  obtain ⟨k, hk, he2⟩ := Array.any_eq_true.1 hw
  simp only [Bool.and_eq_true, beq_iff_eq] at he2
  have h4 := h3 _ (Array.getElem_mem hk) he2.1
  rw [he2.2] at h4
  have h5 : j < l.size := by omega
  simp [Array.getD, h5] at h4 hl
  rw [h4] at hl
  cases hl
theorem wp_tail {L : List Oper} {m : Nat} {Q : Exit → Act → World → Prop} (hB : okB L m = true) : ∀ (k i fuel : Nat) (l : Array Bool) (a : Act) (w : World), L.length - i = k → m ≤ i → i ≤ L.length → k ≤ fuel → l.size = L.length →
    (∀ j, j < i → l.getD j true = true) → (∀ j, i ≤ j → j < L.length → l.getD j true = false) → wpList P L.toArray Q (L.drop i) a w → wpAny P .any L.toArray Q fuel l a w := by
  have hB' := hB
  simp only [okB, Bool.and_eq_true, decide_eq_true_eq] at hB'
  obtain ⟨hord, hmn, htl⟩ := hB'
  intro k
  induction k with
  | zero =>
    intro i fuel l a w hk hmi hin hf hs h1 h2 hw
    obtain rfl : i = L.length := by omega
    rw [List.drop_length] at hw
    have hr : Region.ready .any L.toArray l = [] := by
      refine List.eq_nil_iff_forall_not_mem.2 fun r hr => ?_
      obtain ⟨h3, o, h4, _⟩ := mem_ready.1 hr
      have hlt : r < L.length := by simpa using (Array.getElem?_eq_some_iff.1 h4).1
      rw [h1 r hlt] at h3
      cases h3
    cases fuel with
    | zero => exact ⟨hr, hw⟩
    | succ f => exact ⟨fun _ => hw, fun r hh => by rw [hr] at hh; cases hh⟩
  | succ k ih =>
    intro i fuel l a w hk hmi hin hf hs h1 h2 hw
    have hi : i < L.length := by omega
    obtain ⟨f, rfl⟩ : ∃ f, fuel = f + 1 := ⟨fuel - 1, by omega⟩
    have hui : l.getD i true = false := h2 i (Nat.le_refl _) hi
    have hri : i ∈ Region.ready .any L.toArray l := by
      rw [mem_ready]
      refine ⟨hui, L.getD i default, by simp [hi], fun e he hb => ?_⟩
      have h6 := edge_lt hord hi he hb
      have h7 := h1 e.on h6
      have h8 : e.on < l.size := by omega
      simpa [Array.getD, h8] using h7
    refine ⟨fun h0 => (by rw [h0] at hri; cases hri), fun r hr => ?_⟩
    obtain ⟨h3, o, h4, _⟩ := mem_ready.1 hr
    have hlt : r < L.length := by simpa using (Array.getElem?_eq_some_iff.1 h4).1
    have hge : i ≤ r := by
      rcases Nat.lt_or_ge r i with h | h
      · rw [h1 r h] at h3; cases h3
      · exact h
    have hri' : r = i := by
      rcases Nat.lt_or_ge i r with h | h
      · exfalso
        have h5 := List.all_eq_true.1 htl r (List.mem_range.2 hlt)
        simp only [Bool.or_eq_true, decide_eq_true_eq] at h5
        rcases h5 with h5 | h5
        · omega
        · exact not_ready (List.all_eq_true.1 h5 i (List.mem_range.2 h)) hlt hs hi hui hr
      · omega
    subst hri'
    rw [show L.drop r = L[r] :: L.drop (r + 1) by rw [List.getElem_cons_drop]] at hw
    unfold wpOp
    have h5 : L.toArray[r]? = some L[r] := by simp [hi]
    rw [h5]
    dsimp only
    have next : ∀ a' w', wpList P L.toArray Q (L.drop (r + 1)) a' w' → wpAny P .any L.toArray Q f (l.setIfInBounds r true) a' w' := fun a' w' hh => by
      refine ih (r + 1) f _ a' w' (by omega) (by omega) (by omega) (by omega) (by simpa using hs) (fun j hj => ?_) (fun j hj hjn => ?_) hh
      · by_cases hjr : j = r
        · subst hjr; simp [Array.getD, show j < l.size by omega]
        · have := h1 j (by omega)
          have hsz : j < l.size := by omega
          simp [Array.getD, hsz, Array.getElem_setIfInBounds, Ne.symm hjr] at this ⊢
          exact this
      · have := h2 j (by omega) hjn
        have hsz : j < l.size := by omega
        have hjr : r ≠ j := by omega
        simp [Array.getD, hsz, Array.getElem_setIfInBounds, hjr] at this ⊢
        exact this
    unfold wpList at hw
    split
    · rename_i hw1
      rw [if_pos hw1] at hw
      exact hw.imp (Oper.wp_mono next) id
    · rename_i hw1
      rw [if_neg hw1] at hw
      exact next _ _ hw
/-- A REGION THAT DRAWS ITS ORDER, WHERE ALL BUT THE LAST OPERATIONS MAKE MEMORY AT MOST. -/
theorem wp_gho {L : List Oper} {id : Nat} {Q : Exit → Act → World → Prop} {a : Act} {w : World} {M : Bool} (m : Nat) (Gs : List (SP M)) (mk : (Nat → Value) → Act) (ha : ∃ S, a = mk S) (hm : P.follows .mixedOrders = true) (hB : okB L m = true)
    (hmk : ∀ S j v, j < m → (mk S).put (L.getD j default).dst v = mk (upd S j v))
    (hstep : ∀ j, j < m → ∀ S w', Gr M w.heap.size w w' → (∀ d, ((L.getD j default).after.any fun e => Region.binds .any e && e.on == d) = true → d < m ∧ (Gs.getD d default).G (S d) w') → St P M w.heap.size L.toArray (L.getD j default) (mk S) w' (Gs.getD j default))
    (hend : ∀ S w', Gr M w.heap.size w w' → (∀ j, j < m → (Gs.getD j default).G (S j) w') → wpList P L.toArray Q (L.drop m) (mk S) w') :
    (Code.region id L.toArray true).wp P Q a w := by
  have hB' := hB
  simp only [okB, Bool.and_eq_true, decide_eq_true_eq] at hB'
  obtain ⟨hord, hmn, htl⟩ := hB'
  have main : ∀ (fuel : Nat) (l : Array Bool) (a : Act) (w' : World), l.size = L.length → l.toList.count false ≤ fuel → (∀ j, m ≤ j → j < L.length → l.getD j true = false) →
      (∃ S, a = mk S ∧ ∀ j, j < m → l.getD j true = true → (Gs.getD j default).G (S j) w') → Gr M w.heap.size w w' → wpAny P .any L.toArray Q fuel l a w' := by
    intro fuel
    induction fuel with
    | zero =>
      intro l a w' hs hc hun hi hbl
      obtain ⟨S, rfl, hS⟩ := hi
      have hall : ∀ i, i < L.length → l.getD i true = true := by
        intro i hlt
        have hlt' : i < l.size := by omega
        cases hv : l[i] with
        | true => simp [Array.getD, hlt', hv]
        | false =>
          have : false ∈ l.toList := by rw [← hv]; simp
          have := List.count_pos_iff.2 this
          omega
      have hmL : m = L.length := by
        rcases Nat.lt_or_ge m L.length with h | h
        · have h1 := hun m (Nat.le_refl _) h
          rw [hall m h] at h1
          cases h1
        · omega
      refine wp_tail hB 0 m 0 l _ w' (by omega) (Nat.le_refl _) hmn (Nat.le_refl _) hs (fun j hj => hall j (by omega)) hun (hend S w' hbl fun j hj => hS j hj (hall j (by omega)))
    | succ fuel ih =>
      intro l a w' hs hc hun hi hbl
      obtain ⟨S, rfl, hS⟩ := hi
      by_cases hall : ∀ j, j < m → l.getD j true = true
      · refine wp_tail hB (L.length - m) m (fuel + 1) l _ w' rfl (Nat.le_refl _) hmn ?_ hs hall hun (hend S w' hbl fun j hj => hS j hj (hall j hj))
        refine Nat.le_trans ?_ hc
        have h1 : l.toList.drop m = List.replicate (L.length - m) false := by
          refine List.ext_getElem (by simp [hs]) fun k h1 h2 => ?_
          simp at h1 h2
          have h3 := hun (m + k) (by omega) (by omega)
          simp [Array.getD, show m + k < l.size by omega] at h3
          simp [h3]
        have h2 := List.count_append (a := false) (l₁ := l.toList.take m) (l₂ := l.toList.drop m)
        rw [List.take_append_drop] at h2
        rw [h2, h1]
        simp
      · have ⟨j0, hj0, hf0⟩ : ∃ j, j < m ∧ l.getD j true = false := by
          refine Classical.byContradiction fun hne => hall fun j hj => ?_
          cases hv : l.getD j true with
          | true => rfl
          | false => exact absurd ⟨j, hj, hv⟩ hne
        refine ⟨fun hr => absurd (fun j hj => all_ready hord hs hr j (by omega)) hall, fun i hri => ?_⟩
        obtain ⟨h1, o, h2, h3⟩ := mem_ready.1 hri
        have hlt : i < L.length := by simpa using (Array.getElem?_eq_some_iff.1 h2).1
        have him : i < m := by
          rcases Nat.lt_or_ge i m with h | h
          · exact h
          · exfalso
            have h5 := List.all_eq_true.1 htl i (List.mem_range.2 hlt)
            simp only [Bool.or_eq_true, decide_eq_true_eq] at h5
            rcases h5 with h5 | h5
            · omega
            · exact not_ready (List.all_eq_true.1 h5 j0 (List.mem_range.2 (by omega))) hlt hs (by omega) hf0 hri
        obtain rfl : o = L.getD i default := by
          have : L[i]? = some o := by simpa using h2
          simp [this]
        have hlt' : i < l.toList.length := by simp; omega
        have hlf : l.toList[i] = false := by simpa [Array.getD, show i < l.size by omega] using h1
        have hst := hstep i him S w' hbl (fun d hd => by
          obtain ⟨k, hk, he2⟩ := Array.any_eq_true.1 hd
          simp only [Bool.and_eq_true, beq_iff_eq] at he2
          have he := Array.getElem_mem hk
          obtain ⟨hb, hon⟩ := he2
          generalize (L.getD i default).after[k] = e at he hb hon
          subst hon
          have h4 := h3 e he hb
          have h6 := edge_lt hord hlt he hb
          have h7 : e.on < l.size := by omega
          exact ⟨by omega, hS e.on (by omega) (by simpa [Array.getD, h7] using h4)⟩)
        refine wpOp_mono (K := fun a' w'' => ∃ v, Gr M w.heap.size w' w'' ∧ (Gs.getD i default).G v w'' ∧ a' = mk (upd S i v)) ?_ (wpOp_of_list h2 fun K hK => hst.out K fun v w'' hb hg => by rw [hmk S i v him]; exact hK _ _ ⟨v, hb, hg, rfl⟩)
        rintro a' w'' ⟨v, hb, hg, rfl⟩
        refine ih _ _ w'' (by simpa using hs) ?_ (fun j hj hjn => ?_) ⟨upd S i v, rfl, fun j hj hl => ?_⟩ (hbl.trans hb)
        · have : l.toList.count false > 0 := List.count_pos_iff.2 (by rw [← hlf]; exact List.getElem_mem _)
          rw [Array.toList_setIfInBounds, List.count_set hlt', hlf]
          rw [if_pos (by rfl), if_neg (by decide)]
          omega
        · have h4 := hun j hj hjn
          have hsz : j < l.size := by omega
          have hjr : i ≠ j := by omega
          simp [Array.getD, hsz, Array.getElem_setIfInBounds, hjr] at h4 ⊢
          exact h4
        · unfold upd
          by_cases hji : j = i
          · subst hji; rw [if_pos rfl]; exact hg
          · rw [if_neg hji]
            have hsz : j < l.size := by omega
            refine (Gs.getD j default).keep _ _ _ _ (hS j hj ?_) hb
            simp [Array.getD, hsz, Array.getElem_setIfInBounds, Ne.symm hji] at hl ⊢
            exact hl
  refine wp_region_any hm (main _ _ _ _ (by simp) ?_ (fun j h1 h2 => by simp [Array.getD, h2]) ?_ Gr.drew)
  · simp
  · obtain ⟨S, rfl⟩ := ha
    refine ⟨S, rfl, fun j hj hl => ?_⟩
    have : j < L.length := by omega
    simp [Array.getD, this] at hl
end
/-- The slots: those that the region fills, and the others. -/
def mkL : List Value → List (Option Nat) → (Nat → Value) → List Value
  | [], _, _ => []
  | x :: b, [], S => x :: mkL b [] S
  | x :: b, none :: ps, S => x :: mkL b ps S
  | _ :: b, some j :: ps, S => S j :: mkL b ps S
/-- The same, the slots by their places. -/
theorem wp_ghl {P : Program} {L : List Oper} {id : Nat} {Q : Exit → Act → World → Prop} {b : List Value} {d : List Deferred} {w : World} {M : Bool} (m : Nat) (Gs : List (SP M)) (ps : List (Option Nat)) (ds : List Nat) (hb : mkL b ps (fun j => b.getD (ds.getD j 0) undef) = b) (hm : P.follows .mixedOrders = true) (hB : okB L m = true)
    (hmk : ∀ S j v, j < m → (⟨(mkL b ps S).toArray, d⟩ : Act).put (L.getD j default).dst v = ⟨(mkL b ps (upd S j v)).toArray, d⟩)
    (hstep : ∀ j, j < m → ∀ S w', Gr M w.heap.size w w' → (∀ d, ((L.getD j default).after.any fun e => Region.binds .any e && e.on == d) = true → d < m ∧ (Gs.getD d default).G (S d) w') → St P M w.heap.size L.toArray (L.getD j default) ⟨(mkL b ps S).toArray, d⟩ w' (Gs.getD j default))
    (hend : ∀ S w', Gr M w.heap.size w w' → (∀ j, j < m → (Gs.getD j default).G (S j) w') → wpList P L.toArray Q (L.drop m) ⟨(mkL b ps S).toArray, d⟩ w') :
    (Code.region id L.toArray true).wp P Q ⟨b.toArray, d⟩ w :=
  wp_gho m Gs (fun S => ⟨(mkL b ps S).toArray, d⟩) ⟨_, by rw [hb]⟩ hm hB hmk hstep hend
/-- A region in the order of its text, likewise. -/
theorem wp_ghs {P : Program} {L : List Oper} {id : Nat} {Q : Exit → Act → World → Prop} {b : List Value} {d : List Deferred} {w : World} {M : Bool} (m : Nat) (Gs : List (SP M)) (ps : List (Option Nat)) (ds : List Nat) (hb : mkL b ps (fun j => b.getD (ds.getD j 0) undef) = b)
    (hB : (((List.range L.length).all fun i => (L.getD i default).after.all fun e => !(Region.binds .any e) || decide (e.on < i)) && decide (m ≤ L.length)) = true)
    (hmk : ∀ S j v, j < m → (⟨(mkL b ps S).toArray, d⟩ : Act).put (L.getD j default).dst v = ⟨(mkL b ps (upd S j v)).toArray, d⟩)
    (hstep : ∀ j, j < m → ∀ S w', Gr M w.heap.size w w' → (∀ d, ((L.getD j default).after.any fun e => Region.binds .any e && e.on == d) = true → d < m ∧ (Gs.getD d default).G (S d) w') → St P M w.heap.size L.toArray (L.getD j default) ⟨(mkL b ps S).toArray, d⟩ w' (Gs.getD j default))
    (hend : ∀ S w', Gr M w.heap.size w w' → (∀ j, j < m → (Gs.getD j default).G (S j) w') → wpList P L.toArray Q (L.drop m) ⟨(mkL b ps S).toArray, d⟩ w') :
    (Code.region id L.toArray false).wp P Q ⟨b.toArray, d⟩ w := by
  simp only [Bool.and_eq_true, decide_eq_true_eq] at hB
  obtain ⟨hord, hmn⟩ := hB
  have main : ∀ (k i : Nat) (S : Nat → Value) (w' : World), m - i = k → i ≤ m → Gr M w.heap.size w w' → (∀ j, j < i → (Gs.getD j default).G (S j) w') → wpList P L.toArray Q (L.drop i) ⟨(mkL b ps S).toArray, d⟩ w' := by
    intro k
    induction k with
    | zero =>
      intro i S w' hk hi hg hS
      obtain rfl : i = m := by omega
      exact hend S w' hg hS
    | succ k ih =>
      intro i S w' hk hi hg hS
      have him : i < m := by omega
      have hiL : i < L.length := by omega
      have hst := hstep i him S w' hg (fun dd hd => by
        obtain ⟨kk, hk', he2⟩ := Array.any_eq_true.1 hd
        simp only [Bool.and_eq_true, beq_iff_eq] at he2
        have h6 := edge_lt hord hiL (Array.getElem_mem hk') he2.1
        rw [he2.2] at h6
        exact ⟨by omega, hS dd h6⟩)
      rw [show L.drop i = L[i] :: L.drop (i + 1) by rw [List.getElem_cons_drop]]
      have hLi : L.getD i default = L[i] := by simp [hiL]
      rw [hLi] at hst
      have h1 := hst.out (fun e a'' w'' => e = .normal ∧ wpList P L.toArray Q (L.drop (i + 1)) a'' w'') (fun v w'' hb hG => ⟨rfl, by
        have hp := hmk S i v him
        rw [hLi] at hp
        rw [hp]
        refine ih (i + 1) (upd S i v) w'' (by omega) (by omega) (hg.trans hb) (fun j hj => ?_)
        unfold upd
        by_cases hji : j = i
        · subst hji; rw [if_pos rfl]; exact hG
        · rw [if_neg hji]; exact (Gs.getD j default).keep _ _ _ _ (hS j (by omega)) hb⟩)
      unfold wpList at h1 ⊢
      split
      · rename_i hw
        rw [if_pos hw] at h1
        rcases h1 with h1 | ⟨_, _, _, h2, _⟩
        · exact .inl (upon_mono (fun a w hk => hk) (upon_bare (fun a w hk => hk.2) (fun e a w he => he.1) h1))
        · cases h2
      · rename_i hw
        rw [if_neg hw] at h1
        exact h1.2
  refine wp_region_lit ?_
  have h0 := main m 0 (fun j => b.getD (ds.getD j 0) undef) w (by omega) (by omega) (Gr.refl _ _ _) (fun j hj => absurd hj (by omega))
  rw [hb] at h0
  exact h0
section
variable {P : Program} {M : Bool} {B : Nat} {ops : Array Oper} {o : Oper} {a : Act} {w : World} {G : SP M}
theorem st_do {v : Value} {w' : World} (hw : Region.wanted o (yielded ops a.tmps) = true) (hv : (execOp a.eval o).run P w = .ok (.value v) w') (hb : Gr M B w w') (hG : G.G v w') : St P M B ops o a w G :=
  ⟨fun K hK => by
    refine wpList_step fun K' hK' => ?_
    rw [if_pos hw]
    unfold Oper.wp
    rw [hv]
    exact hK' _ _ (hK v w' hb hG)⟩
theorem st_val {v : Value} (hw : Region.wanted o (yielded ops a.tmps) = true) (hv : (execOp a.eval o).run P w = .ok (.value v) w) (hG : G.G v w) : St P M B ops o a w G := st_do hw hv (Gr.refl _ _ _) hG
theorem st_eq {v : Value} (hw : Region.wanted o (yielded ops a.tmps) = true) (hv : (execOp a.eval o).run P w = .ok (.value v) w) : St P M B ops o a w (SP.eq v) := st_val hw hv rfl
theorem st_skip (hw : Region.wanted o (yielded ops a.tmps) = false) (hG : G.G undef w) : St P M B ops o a w G :=
  ⟨fun K hK => by
    refine wpList_step fun K' hK' => ?_
    rw [if_neg (by rw [hw]; decide)]
    exact hK' _ _ (hK undef w (Gr.refl _ _ _) hG)⟩
theorem st_call {f : FuncId} {args : Array Value} (hw : Region.wanted o (yielded ops a.tmps) = true) (hB : B ≤ w.heap.size) (he : (execOp a.eval o).run P w = .ok (.enter f args) w)
    (hc : Calls P f args w fun e w' => ∃ v, e = .returned v ∧ Below w.heap.size w w' ∧ G.G v w') : St P M B ops o a w G :=
  ⟨fun K hK => by
    refine wpList_step fun K' hK' => ?_
    rw [if_pos hw]
    unfold Oper.wp
    rw [he]
    refine hc.mono ?_
    rintro e w' ⟨v, rfl, hb, hG⟩
    exact hK' _ _ (hK v w' (Gr.of hb hB) hG)⟩
/-- A constant's bytes are marked. -/
theorem st_mark {t e : TypeId} {l : List Nat} (x : Operand) (ht : P.underlying t = some (.slice e)) (he : P.underlying e = some (.int .u8)) (hw : Region.wanted o (yielded ops a.tmps) = true) (ho : o.op = .convert t t x) (hG : (SP.lit (M := true) B .u8 l).G (a.eval x) w) : St P true B ops o a w (SP.lit B .u8 l) := by
  obtain ⟨g, h1, h2, h3⟩ := hG
  have hrun : ∃ w', (convert t t (.slice (some ⟨g, 0, none⟩) l.length l.length)).run P w = .ok (.slice (some ⟨g, 0, none⟩) l.length l.length) w' ∧ Gr true B w w' := by
    cases hs : w.shape? g with
    | none =>
      refine ⟨w, ?_, Gr.refl _ _ _⟩
      simp [convert, run_underlying ht, run_underlying he, markStringish, hs, Result.andThen]
    | some p =>
      obtain ⟨e', n⟩ := p
      refine ⟨w.freeze ⟨g, n, none⟩ 1, ?_, ?_⟩
      · simp [convert, run_underlying ht, run_underlying he, markStringish, hs, Result.andThen]
      · have hblk : ∀ k, k ≠ g → (w.freeze ⟨g, n, none⟩ 1).heap[k]? = w.heap[k]? := by
          intro k hk
          simp [World.freeze, Array.getElem?_modify, Ne.symm hk]
        have hsz : (w.freeze ⟨g, n, none⟩ 1).heap.size = w.heap.size := by simp [World.freeze]
        refine ⟨⟨rfl, rfl, rfl, by rw [hsz]; exact Nat.le_refl _, fun k hk => hblk k (by omega)⟩, fun k o hk => ?_, fun h => by cases h⟩
        by_cases hkg : k = g
        · subst hkg
          have hq : w.heap[k]? = some w.heap[k] := Array.getElem?_eq_getElem hk
          unfold World.cell?
          simp [World.freeze, Array.getElem?_modify, hq]
          generalize w.heap[k] = ob
          cases ob <;> rfl
        · exact World.cell?_of_block (a := ⟨k, o, none⟩) (hblk k hkg)
  obtain ⟨w', hr, hg⟩ := hrun
  refine st_do (v := .slice (some ⟨g, 0, none⟩) l.length l.length) hw ?_ hg ⟨g, rfl, h2, hg.rd h3⟩
  simp [execOp, ho, h1, hr, Result.andThen]
theorem run_load {t : TypeId} (x : Operand) (ho : o.op = .load t x) {b off : Nat} {v : Value} (hx : a.eval x = .pointer (some ⟨b, off, none⟩)) (hc : w.cell? ⟨b, off, none⟩ = some v)
    (hu : (match P.underlying t with | some (.struct _) | some (.array _ _) | none => false | _ => true) = true) : (execOp a.eval o).run P w = .ok (.value v) w := by
  have hag : (isAgg t).run P w = .ok false w := by
    unfold isAgg
    cases hd : P.underlying t with
    | none => rw [hd] at hu; cases hu
    | some d => rw [hd] at hu; simp only [Sem.run_bind, run_underlying hd, Result.andThen_ok]; cases d <;> first | rfl | cases hu
  simp [execOp, ho, hx, Instr.loadAt, Instr.sureAddr, loadVar, hag, hc, Result.andThen]
theorem run_loads {t : TypeId} (x : Operand) (cs : List Value) (ho : o.op = .load t x) {b off : Nat} (hx : a.eval x = .pointer (some ⟨b, off, none⟩)) (hc : ∀ j v, cs[j]? = some v → w.cell? ⟨b, off + j, none⟩ = some v)
    (hu : (match P.underlying t with | some (.struct _) | some (.array _ _) => true | _ => false) = true) (hsz : (P.info? t).map (·.size) = some cs.length) : (execOp a.eval o).run P w = .ok (.value (.agg cs.toArray)) w := by
  have hc' : ∀ j v, cs[j]? = some v → w.cell? ((⟨b, off, none⟩ : Addr).add j) = some v := by
    intro j v hj
    rw [addr_add]
    exact hc j v hj
  have hag : (isAgg t).run P w = .ok true w := by
    unfold isAgg
    cases hd : P.underlying t with
    | none => rw [hd] at hu; cases hu
    | some d => rw [hd] at hu; simp only [Sem.run_bind, run_underlying hd, Result.andThen_ok]; cases d <;> first | rfl | cases hu
  have hl := run_loadCells_list (P := P) w ⟨b, off, none⟩ cs hc'
  cases hq : P.info? t with
  | none => simp [hq] at hsz
  | some i =>
    have hi : i.size = cs.length := by simpa [hq] using hsz
    simp [execOp, ho, hx, Instr.loadAt, Instr.sureAddr, loadVar, hag, sizeOf, typeInfo, hq, hi, hl, Result.andThen]
theorem st_load {t : TypeId} (x : Operand) (hw : Region.wanted o (yielded ops a.tmps) = true) (ho : o.op = .load t x) {b off : Nat} {v : Value} (hx : a.eval x = .pointer (some ⟨b, off, none⟩)) (hc : w.cell? ⟨b, off, none⟩ = some v)
    (hu : (match P.underlying t with | some (.struct _) | some (.array _ _) | none => false | _ => true) = true) : St P M B ops o a w (SP.eq v) := st_eq hw (run_load x ho hx hc hu)
theorem st_loads {t : TypeId} (x : Operand) (cs : List Value) (hw : Region.wanted o (yielded ops a.tmps) = true) (ho : o.op = .load t x) {b off : Nat} (hx : a.eval x = .pointer (some ⟨b, off, none⟩)) (hc : ∀ j v, cs[j]? = some v → w.cell? ⟨b, off + j, none⟩ = some v)
    (hu : (match P.underlying t with | some (.struct _) | some (.array _ _) => true | _ => false) = true) (hsz : (P.info? t).map (·.size) = some cs.length) : St P M B ops o a w (SP.eq (.agg cs.toArray)) := st_eq hw (run_loads x cs ho hx hc hu hsz)
end
end Go.Proofs.Ytnngjbieoakanaa.GH
