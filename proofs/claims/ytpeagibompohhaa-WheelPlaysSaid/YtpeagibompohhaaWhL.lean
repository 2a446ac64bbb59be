/- A wheel's places, its map of timers, and the list of what is due: mathematics. No program. -/
import Derived.Test.YtpeagibompohhaaWhG
import Derived.Test.YtpeagibompohhaaWhM
namespace Go.Proofs.Ytpeagibompohhaa
set_option linter.unusedVariables false
abbrev Tm := Int × Nat
theorem nodup_len : ∀ (l m : List Int), l.Nodup → (∀ x ∈ l, x ∈ m) → l.length ≤ m.length
  | [], m, _, _ => Nat.zero_le _
  | x :: l, m, h, hs => by
    have hx : x ∈ m := hs x (by simp)
    have h2 := List.nodup_cons.1 h
    have := nodup_len l (m.erase x) h2.2 (fun y hy => (List.mem_erase_of_ne (fun e => h2.1 (by rw [← e]; exact hy))).2 (hs y (by simp [hy])))
    rw [List.length_erase_of_mem hx] at this
    have := List.length_pos_of_mem hx
    simp only [List.length_cons]
    omega
/-- Without those. -/
def Fm.wo (f : Fm) (r : List Int) : Fm := fun id => if id ∈ r then none else f id
theorem Fm.wo_nil (f : Fm) : f.wo [] = f := by funext id; simp [Fm.wo]
theorem Fm.wo_in {f : Fm} {r : List Int} {id : Int} (h : id ∈ r) : f.wo r id = none := if_pos h
theorem Fm.wo_out {f : Fm} {r : List Int} {id : Int} (h : id ∉ r) : f.wo r id = f id := if_neg h
theorem Fm.wo_upd {f : Fm} {r : List Int} {id : Int} (h : id ∉ r) (x : Option (Nat × Nat)) : (f.upd id x).wo r = (f.wo (id :: r)).upd id x := by
  funext i
  unfold Fm.wo Fm.upd
  by_cases e : i = id
  · subst e; simp [h]
  · simp [e]
/-- .. all agree. -/
structure WX (P : Nat → Nat) (S : List (List Int)) (f : Fm) (L : List Tm) (r : List Int) : Prop where
  wg : WG P S (f.wo r)
  fl : ∀ id t, (id, t) ∈ L ↔ ∃ k, f id = some (t, k)
  nd : (L.map (·.1)).Nodup
  i64 : ∀ x ∈ L, -9223372036854775808 ≤ x.1 ∧ x.1 ≤ 9223372036854775807
abbrev WL (P : Nat → Nat) (S : List (List Int)) (f : Fm) (L : List Tm) : Prop := WX P S f L []
def rmL (L : List Tm) (id : Int) : List Tm := L.filter (fun x => decide (x.1 ≠ id))
section
variable {P P' : Nat → Nat} {S : List (List Int)} {f : Fm} {L : List Tm} {r : List Int} {id : Int} {t k p : Nat} {l : List Int}
theorem WX.fnd (h : WX P S f L r) (hm : (id, t) ∈ L) : ∃ k, f id = some (t, k) := (h.fl id t).1 hm
theorem WX.mem (h : WX P S f L r) (hf : f id = some (t, k)) : (id, t) ∈ L := (h.fl id t).2 ⟨k, hf⟩
theorem WX.one (h : WX P S f L r) {t' : Nat} (h1 : (id, t) ∈ L) (h2 : (id, t') ∈ L) : t = t' := by
  obtain ⟨k, e1⟩ := h.fnd h1
  obtain ⟨k', e2⟩ := h.fnd h2
  rw [e1] at e2
  injection e2 with e2
  injection e2
theorem WG.nodup (h : WG P S f) (hl : S[p]? = some l) : l.Nodup := by
  refine List.pairwise_iff_getElem.2 fun i j hi hj hij e => ?_
  obtain ⟨t1, e1, _⟩ := h.there p l i _ hl (List.getElem?_eq_getElem hi)
  obtain ⟨t2, e2, _⟩ := h.there p l j _ hl (List.getElem?_eq_getElem hj)
  rw [e] at e1
  rw [e1] at e2
  injection e2 with e2
  injection e2 with _ e2
  omega
theorem WX.row_mem (h : WX P S f L r) (hl : S[p]? = some l) {x : Int} (hx : x ∈ l) : x ∉ r ∧ ∃ t k, f x = some (t, k) ∧ l[k]? = some x ∧ P t = p ∧ (x, t) ∈ L := by
  obtain ⟨i, hi⟩ := List.getElem?_of_mem hx
  obtain ⟨t, e, hp⟩ := h.wg.there p l i x hl hi
  have hr : x ∉ r := fun hr => by rw [Fm.wo_in hr] at e; cases e
  rw [Fm.wo_out hr] at e
  exact ⟨hr, t, i, e, hi, hp, h.mem e⟩
theorem WX.row_len (h : WX P S f L r) (hl : S[p]? = some l) : l.length ≤ L.length := by
  have := nodup_len l (L.map (·.1)) (h.wg.nodup hl) fun x hx => by
    obtain ⟨_, t, k, _, _, _, hm⟩ := h.row_mem hl hx
    exact List.mem_map.2 ⟨_, hm, rfl⟩
  simpa using this
theorem WG.re (h : WG P S f) (hp : ∀ id t k, f id = some (t, k) → P' t = P t) : WG P' S f where
  here id t k e := by rw [hp id t k e]; exact h.here id t k e
  there p l k id h1 h2 := by
    obtain ⟨t, e, hpt⟩ := h.there p l k id h1 h2
    exact ⟨t, e, by rw [hp id t k e]; exact hpt⟩
theorem WX.re (h : WX P S f L r) (hp : ∀ id t, id ∉ r → (id, t) ∈ L → P' t = P t) : WX P' S f L r :=
  ⟨h.wg.re fun id t k e => by
    by_cases hr : id ∈ r
    · rw [Fm.wo_in hr] at e; cases e
    · rw [Fm.wo_out hr] at e
      exact hp id t hr (h.mem e), h.fl, h.nd, h.i64⟩
/-- A place is emptied: what stood there stands nowhere. -/
theorem WL.emptied (h : WL P S f L) (hl : S[p]? = some l) : WX P (S.set p []) f L l where
  wg := by
    have hw := h.wg
    rw [Fm.wo_nil] at hw
    refine ⟨fun id t k e => ?_, fun q l' k id h1 h2 => ?_⟩
    · have hr : id ∉ l := fun hr => by rw [Fm.wo_in hr] at e; cases e
      rw [Fm.wo_out hr] at e
      obtain ⟨l', h1, h2⟩ := hw.here id t k e
      refine ⟨l', ?_, h2⟩
      rw [List.getElem?_set_ne]
      · exact h1
      · intro ep
        rw [← ep, hl] at h1
        injection h1 with h1
        subst h1
        exact hr (List.mem_of_getElem? h2)
    · by_cases ep : p = q
      · subst ep
        rw [List.getElem?_set_self (get_lt hl)] at h1
        injection h1 with h1
        subst h1
        simp at h2
      · rw [List.getElem?_set_ne ep] at h1
        obtain ⟨t, e, hp⟩ := hw.there q l' k id h1 h2
        refine ⟨t, ?_, hp⟩
        rw [Fm.wo_out]
        · exact e
        · intro hr
          obtain ⟨j, hj⟩ := List.getElem?_of_mem hr
          obtain ⟨t', e', hp'⟩ := hw.there p l j id hl hj
          rw [e] at e'
          injection e' with e'
          injection e' with e' _
          subst e'
          exact ep (hp'.symm.trans hp)
  fl := h.fl
  nd := h.nd
  i64 := h.i64
/-- .. and is put back, one by one. -/
theorem WX.put (h : WX P S f L (id :: r)) (hr : id ∉ r) (hf : f id = some (t, k)) (hl : S[P t]? = some l) : WX P (S.set (P t) (l ++ [id])) (f.upd id (some (t, l.length))) L r where
  wg := by
    rw [Fm.wo_upd hr]
    exact h.wg.put (Fm.wo_in (by simp)) hl
  fl i t' := by
    by_cases e : i = id
    · subst e
      rw [Fm.upd_self]
      constructor
      · intro hm
        have := h.one (h.mem hf) hm
        subst this
        exact ⟨_, rfl⟩
      · rintro ⟨k', e⟩
        injection e with e
        injection e with e _
        subst e
        exact h.mem hf
    · rw [Fm.upd_ne _ _ e]
      exact h.fl i t'
  nd := h.nd
  i64 := h.i64
theorem rmL_mem {x : Tm} : x ∈ rmL L id ↔ x ∈ L ∧ x.1 ≠ id := by simp [rmL]
theorem WX.none_iff (h : WX P S f L r) : f id = none ↔ ∀ t, (id, t) ∉ L := by
  constructor
  · intro e t hm
    obtain ⟨k, e'⟩ := h.fnd hm
    rw [e] at e'; cases e'
  · intro hm
    cases e : f id with
    | none => rfl
    | some x => exact absurd (h.mem (t := x.1) (k := x.2) e) (hm _)
theorem rmL_none (hm : ∀ t, (id, t) ∉ L) : rmL L id = L := by
  unfold rmL
  rw [List.filter_eq_self]
  intro x hx
  rw [decide_eq_true_eq]
  intro e
  exact hm x.2 (by rw [← e]; exact hx)
theorem rmL_len : ∀ {L : List Tm}, (L.map (·.1)).Nodup → (id, t) ∈ L → (rmL L id).length + 1 = L.length
  | [], _, hm => by cases hm
  | x :: L, hn, hm => by
    rw [List.map_cons, List.nodup_cons] at hn
    unfold rmL
    by_cases e : x.1 = id
    · rw [List.filter_cons_of_neg (by simpa using e)]
      have : rmL L id = L := rmL_none fun t ht => hn.1 (by rw [e]; exact List.mem_map.2 ⟨_, ht, rfl⟩)
      unfold rmL at this
      rw [this]
      rfl
    · rw [List.filter_cons_of_pos (by simpa using e)]
      have hm2 : (id, t) ∈ L := by
        rcases List.mem_cons.1 hm with h | h
        · exact absurd (by rw [← h]) e
        · exact h
      have := rmL_len hn.2 hm2
      unfold rmL at this
      simp only [List.length_cons]
      omega
theorem WL.cancel (h : WL P S f L) {last : Int} {m tl : Nat} (hf : f id = some (t, k)) (hl : S[P t]? = some l) (hm : l.length = m + 1) (hla : l[m]? = some last) (hfl : f last = some (tl, m)) (hp : P tl = P t) :
    WL P (S.set (P t) ((l.set k last).take m)) ((f.upd last (some (tl, k))).upd id none) (rmL L id) where
  wg := by
    have hw := h.wg
    rw [Fm.wo_nil] at hw ⊢
    exact hw.cancel hf hl hm hla hfl hp
  fl i t' := by
    rw [rmL_mem]
    by_cases e : i = id
    · subst e
      rw [Fm.upd_self]
      simp
    · rw [Fm.upd_ne _ _ e]
      by_cases e2 : i = last
      · subst e2
        rw [Fm.upd_self]
        constructor
        · rintro ⟨hm', _⟩
          have := h.one (h.mem hfl) hm'
          subst this
          exact ⟨_, rfl⟩
        · rintro ⟨k', e'⟩
          injection e' with e'
          injection e' with e' _
          subst e'
          exact ⟨h.mem hfl, e⟩
      · rw [Fm.upd_ne _ _ e2, ← h.fl i t']
        exact ⟨fun h => h.1, fun h => ⟨h, e⟩⟩
  nd := (List.Sublist.map _ List.filter_sublist).nodup h.nd
  i64 x hx := h.i64 x (rmL_mem.1 hx).1
theorem WL.add (h : WL P S f L) (hf : f id = none) (hl : S[P t]? = some l) (hi : -9223372036854775808 ≤ id ∧ id ≤ 9223372036854775807) : WL P (S.set (P t) (l ++ [id])) (f.upd id (some (t, l.length))) (L ++ [(id, t)]) where
  wg := by
    have hw := h.wg
    rw [Fm.wo_nil] at hw ⊢
    exact hw.put hf hl
  fl i t' := by
    rw [List.mem_append, List.mem_singleton]
    by_cases e : i = id
    · subst e
      rw [Fm.upd_self]
      have hn := h.none_iff.1 hf t'
      constructor
      · rintro (hm | hm)
        · exact absurd hm hn
        · injection hm with _ e
          subst e
          exact ⟨_, rfl⟩
      · rintro ⟨k, e⟩
        injection e with e
        injection e with e _
        subst e
        exact .inr rfl
    · rw [Fm.upd_ne _ _ e, ← h.fl i t']
      exact ⟨fun hm => hm.resolve_right (fun hm => e (by injection hm)), .inl⟩
  nd := by
    rw [List.map_append, List.map_cons, List.map_nil]
    refine List.nodup_append.2 ⟨h.nd, by simp, fun a ha b hb e => ?_⟩
    obtain rfl := List.mem_singleton.1 hb
    subst e
    obtain ⟨x, hx, rfl⟩ := List.mem_map.1 ha
    exact h.none_iff.1 hf x.2 hx
  i64 x hx := by
    rcases List.mem_append.1 hx with hx | hx
    · exact h.i64 x hx
    · obtain rfl := List.mem_singleton.1 hx
      exact hi
/-- The numbers that are due at a tick. -/
def dueL (L : List Tm) (t : Nat) : List Int := (L.filter (fun x => decide (x.2 = t))).map (·.1)
def leftL (L : List Tm) (t : Nat) : List Tm := L.filter (fun x => decide (x.2 ≠ t))
theorem WL.due_perm (h : WL P S f L) (hl : S[P t]? = some l) (hp : ∀ x ∈ L, P x.2 = P t → x.2 = t) : l.Perm (dueL L t) := by
  have hw := h.wg
  rw [Fm.wo_nil] at hw
  refine (List.perm_ext_iff_of_nodup (hw.nodup hl) ((List.Sublist.map _ List.filter_sublist).nodup h.nd)).2 fun x => ?_
  constructor
  · intro hx
    obtain ⟨_, t', k, hf, hk, hpt, hm⟩ := h.row_mem hl hx
    have := hp _ hm hpt
    refine List.mem_map.2 ⟨_, List.mem_filter.2 ⟨hm, ?_⟩, rfl⟩
    simpa using this
  · intro hx
    obtain ⟨y, hy, rfl⟩ := List.mem_map.1 hx
    obtain ⟨hm, ht⟩ := List.mem_filter.1 hy
    have ht : y.2 = t := by simpa using ht
    obtain ⟨k, e⟩ := h.fnd (id := y.1) (t := y.2) hm
    obtain ⟨l', h1, h2⟩ := hw.here y.1 y.2 k e
    rw [ht, hl] at h1
    injection h1 with h1
    subst h1
    exact List.mem_of_getElem? h2
end
end Go.Proofs.Ytpeagibompohhaa
