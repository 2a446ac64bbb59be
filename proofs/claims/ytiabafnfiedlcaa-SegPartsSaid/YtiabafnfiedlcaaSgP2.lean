/- Layer 7: a row of options whose bodies are set one after the other. -/
import Derived.Test.YtiabafnfiedlcaaSgP1
import Derived.Test.YtiabafnfiedlcaaSgSl
import Derived.Test.YtiabafnfiedlcaaSg6
namespace Go.Proofs.Ytiabafnfiedlcaa
open Go.RowKit
set_option linter.unusedVariables false
/-- A row that lies ahead of T, or behind r. -/
def RdX (w : World) (T r : Nat) (A : Option Addr) (n : Nat) (xs : List Value) : Prop := Rd w w.heap.size 1 A n xs ∧ (0 < n → ∀ b o, A = some ⟨b, o, none⟩ → b < T ∨ r < b)
section
variable {w w' : World} {T r S n c k : Nat} {A : Option Addr} {xs : List Value} {v : Value} {l : List Ob}
theorem RdX.into (h : RdX w T r A n xs) (hb : Below w.heap.size w w') : RdX w' T r A n xs := ⟨h.1.into hb, h.2⟩
theorem RdX.solo (h : RdX w T r A n xs) (hs : Solo S w w') (h1 : T ≤ S) (h2 : S ≤ r) : RdX w' T r A n xs := by
  refine ⟨⟨h.1.1, fun hn => ?_⟩, h.2⟩
  obtain ⟨b, off, e, hb, hc⟩ := h.1.2 hn
  have h3 := h.2 hn b off e
  exact ⟨b, off, e, by rw [hs.2.1]; exact hb, fun j hj => (World.cell?_of_block (a := ⟨b, off + j, none⟩) (hs.2.2 b (by omega))).trans (hc j hj)⟩
/-- A row of options, the first k of which have been set anew; what it says is what it said. -/
def OInv (w : World) (T r : Nat) (v : Value) (n k : Nat) (l : List Ob) : Prop :=
  ∃ lo : List Ob, w.ownsRow (T + 2) 74 2 v n (ocs lo) ∧ osay lo = osay l ∧ (∀ j, k ≤ j → lo[j]? = l[j]?) ∧ ∀ p ∈ lo, RdX w T r p.2.A p.2.n (ns .u8 p.2.l) ∧ p.2.n ≤ p.2.c ∧ p.2.c ≤ maxLen
theorem own_lt {B sz : Nat} {e : TypeId} (h : w.ownsRow B e sz v n xs) : ∀ g, v.ownBlock = some g → B ≤ g ∧ g < w.heap.size := by
  intro g hg
  rcases own_open h with ⟨rfl, _, _⟩ | ⟨g2, c2, L, rfl, hB, hb, _⟩
  · cases hg
  · injection hg with hg
    subst hg
    exact ⟨hB, hb.lt⟩
theorem OInv.into (h : OInv w T r v n k l) (hb : Below w.heap.size w w') : OInv w' T r v n k l := by
  obtain ⟨lo, h1, h2, h3, h4⟩ := h
  exact ⟨lo, own_below h1 hb fun g hg => (own_lt h1 g hg).2, h2, h3, fun p hp => ⟨(h4 p hp).1.into hb, (h4 p hp).2⟩⟩
theorem OInv.solo (h : OInv w T r v n k l) (hs : Solo S w w') (h1 : T ≤ S) (h2 : S < T + 2) (h3 : S ≤ r) : OInv w' T r v n k l := by
  obtain ⟨lo, k1, k2, k3, k4⟩ := h
  exact ⟨lo, own_kept k1 (fun g hg => hs.2.2 g (by have := (own_lt k1 g hg).1; omega)), k2, k3, fun p hp => ⟨(k4 p hp).1.solo hs h1 h3, (k4 p hp).2⟩⟩
theorem OInv.os {A : Option Addr} (h : OInv w T r (.slice A n c) n k l) : ∃ lo, Os w A n c lo ∧ osay lo = osay l := by
  obtain ⟨lo, h1, h2, h3, h4⟩ := h
  obtain ⟨A2, c2, e, hnc, hcm, hr⟩ := own_form h1
  injection e with e1 e2 e3
  subst e1 e3
  exact ⟨lo, ⟨hr, fun p hp => ⟨(h4 p hp).1.1, (h4 p hp).2⟩, hnc, hcm⟩, h2⟩
theorem ocs_set {lo : List Ob} {kd : Nat} {q q' : Body} (h : lo[k]? = some (kd, q)) : (ocs lo).set (k * 2 + 1) (.slice q'.A q'.n q'.c) = ocs (lo.set k (kd, q')) := by
  induction lo generalizing k with
  | nil => simp at h
  | cons p lo ih =>
    cases k with
    | zero => simp at h; subst h; rfl
    | succ k =>
      have h' : lo[k]? = some (kd, q) := by simpa using h
      have e : (k + 1) * 2 + 1 = (k * 2 + 1) + 1 + 1 := by omega
      rw [ocs_cons, e, List.set_cons_succ, List.set_cons_succ, ih h', List.set_cons_succ, ocs_cons]
theorem osay_set {lo : List Ob} {kd : Nat} {q q' : Body} (h : lo[k]? = some (kd, q)) (he : q'.l = q.l) : osay (lo.set k (kd, q')) = osay lo := by
  induction lo generalizing k with
  | nil => simp at h
  | cons p lo ih =>
    cases k with
    | zero => simp at h; subst h; simp [osay, he]
    | succ k =>
      have h' : lo[k]? = some (kd, q) := by simpa using h
      have := ih h'
      simp only [osay, List.set_cons_succ, List.map_cons] at this ⊢
      rw [this]
theorem OInv.at_ {A : Option Addr} (h : OInv w T r (.slice A n c) n k l) (hk : k < n) (hr : ∀ g, (Value.slice A n c).ownBlock = some g → g = r) {kd : Nat} {q : Body} (hl : l[k]? = some (kd, q)) :
    A = some ⟨r, 0, none⟩ ∧ r < w.heap.size ∧ w.cell? ⟨r, k * 2, none⟩ = some (.int .u8 (kd : Int)) ∧ w.cell? ⟨r, k * 2 + 1, none⟩ = some (.slice q.A q.n q.c) ∧ w.frozen? ⟨r, k * 2 + 1, none⟩ = false ∧ Hid (RdX w T r q.A q.n (ns .u8 q.l)) ∧ q.n ≤ q.c ∧ q.c ≤ maxLen := by
  obtain ⟨lo, h1, h2, h3, h4⟩ := h
  have hlo : lo[k]? = some (kd, q) := (h3 k (Nat.le_refl _)).trans hl
  rcases own_open h1 with ⟨_, h0, _⟩ | ⟨g, c2, L, e, hB, hb, hnc, hcm, hL, hx⟩
  · omega
  · injection e with e1 e2 e3
    subst e1 e3
    obtain rfl : g = r := hr g rfl
    obtain ⟨g1, g2⟩ := ocs_get hlo
    have hm := h4 _ (List.mem_of_getElem? hlo)
    have hlen : (ocs lo).length = n * 2 := h1.1
    refine ⟨rfl, hb.lt, ?_, ?_, hb.frozen _, Lib.hid hm.1, hm.2⟩
    · rw [hb.cell, ← g1, ← hx, List.getElem?_take_of_lt (by omega)]
      simp
    · rw [hb.cell, ← g2, ← hx, List.getElem?_take_of_lt (by omega)]
      simp
theorem OInv.set {A : Option Addr} (h : OInv w T r (.slice A n c) n k l) (hk : k < n) (hr : ∀ g, (Value.slice A n c).ownBlock = some g → g = r) (hT : T + 2 ≤ r) {kd : Nat} {q : Body} (hl : l[k]? = some (kd, q)) (q' : Body) (he : q'.l = q.l) (hq : RdX w T r q'.A q'.n (ns .u8 q'.l)) (hc : q'.n ≤ q'.c ∧ q'.c ≤ maxLen) :
    OInv (w.setCell ⟨r, k * 2 + 1, none⟩ (.slice q'.A q'.n q'.c)) T r (.slice A n c) n (k + 1) l := by
  obtain ⟨lo, h1, h2, h3, h4⟩ := h
  have hlo : lo[k]? = some (kd, q) := (h3 k (Nat.le_refl _)).trans hl
  have hs : Solo r w (w.setCell ⟨r, k * 2 + 1, none⟩ (.slice q'.A q'.n q'.c)) := Solo.refl.setCell _ _
  rcases own_open h1 with ⟨_, h0, _⟩ | ⟨g, c2, L, e, hB, hb, hnc, hcm, hL, hx⟩
  · omega
  · injection e with e1 e2 e3
    subst e1 e3
    obtain rfl : g = r := hr g rfl
    refine ⟨lo.set k (kd, q'), own_shut (L := L.set (k * 2 + 1) (.slice q'.A q'.n q'.c)) hB ?_ hnc hcm (by rw [List.length_set]; exact hL) ?_, (osay_set hlo he).trans h2, fun j hj => ?_, fun p hp => ?_⟩
    · have := hb.set (k * 2 + 1) (.slice q'.A q'.n q'.c)
      simpa using this
    · rw [List.take_set, hx, ocs_set hlo]
    · rw [List.getElem?_set_ne (by omega)]
      exact h3 j (by omega)
    · rcases List.mem_or_eq_of_mem_set hp with hp | rfl
      · exact ⟨(h4 p hp).1.solo hs (by omega) (Nat.le_refl _), (h4 p hp).2⟩
      · exact ⟨hq.solo hs (by omega) (Nat.le_refl _), hc⟩
theorem OInv.new {A1 : Option Addr} {n1 c1 : Nat} {w1 : World} (h : w.ownsRow (T + 2) 74 2 v n (ocs l)) (hO : Os w1 A1 n1 c1 l) (hb : Below w1.heap.size w1 w) (hT : w1.heap.size ≤ T) : OInv w T r v n 0 l :=
  ⟨l, h, rfl, fun _ _ => rfl, fun p hp => ⟨⟨(hO.bod p hp).1.into hb, fun hn b o e => .inl (by
    obtain ⟨b2, o2, e2, h2, _⟩ := (hO.bod p hp).1.2 hn
    rw [e] at e2
    injection e2 with e2
    injection e2 with e2
    omega)⟩, (hO.bod p hp).2⟩⟩
end
end Go.Proofs.Ytiabafnfiedlcaa
