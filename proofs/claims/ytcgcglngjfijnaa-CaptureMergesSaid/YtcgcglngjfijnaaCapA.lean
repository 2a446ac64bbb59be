/- Layer 34: records whose bytes are set anew, one after the other. -/
import Derived.Test.YtcgcglngjfijnaaCap3
import Derived.Test.YtcgcglngjfijnaaPk5
import Derived.Test.YtcgcglngjfijnaaPut
import Derived.Test.YtcgcglngjfijnaaSz
namespace Go.Proofs.Ytcgcglngjfijnaa
open Go.RowKit
set_option linter.unusedVariables false
set_option linter.unusedSimpArgs false
/-- A row that lies ahead of T, or behind r. -/
def RdY (w : World) (T r : Nat) (A : Option Addr) (n : Nat) (xs : List Value) : Prop := Rd w w.heap.size 1 A n xs ∧ (0 < n → ∀ b o, A = some ⟨b, o, none⟩ → b < T ∨ r < b)
section
variable {w w' : World} {T r n c k : Nat} {A : Option Addr} {xs : List Value} {v : Value} {l : List Rb}
theorem RdY.into (h : RdY w T r A n xs) (hb : Below w.heap.size w w') : RdY w' T r A n xs := ⟨h.1.into hb, h.2⟩
theorem RdY.solo (h : RdY w T r A n xs) (hs : Solo r w w') (h1 : T ≤ r) : RdY w' T r A n xs := by
  refine ⟨⟨h.1.1, fun hn => ?_⟩, h.2⟩
  obtain ⟨b, off, e, hb, hc⟩ := h.1.2 hn
  have h3 := h.2 hn b off e
  exact ⟨b, off, e, by rw [hs.2.1]; exact hb, fun j hj => (World.cell?_of_block (a := ⟨b, off + j, none⟩) (hs.2.2 b (by omega))).trans (hc j hj)⟩
/-- A row of records, the first k of which have been set anew; what it says is what it said. -/
def CInv (w : World) (T r : Nat) (v : Value) (n k : Nat) (l : List Rb) : Prop :=
  ∃ lo : List Rb, w.ownsRow T 93 4 v n (rbcs lo) ∧ rsay lo = rsay l ∧ (∀ j, k ≤ j → lo[j]? = l[j]?) ∧ ∀ p ∈ lo, RdY w T r p.2.2.2.A p.2.2.2.n (ns .u8 p.2.2.2.l) ∧ p.2.2.2.n ≤ p.2.2.2.c ∧ p.2.2.2.c ≤ maxLen
theorem own_lt4 {B sz : Nat} {e : TypeId} (h : w.ownsRow B e sz v n xs) : ∀ g, v.ownBlock = some g → B ≤ g ∧ g < w.heap.size := by
  intro g hg
  rcases own_open h with ⟨rfl, _, _⟩ | ⟨g2, c2, L, rfl, hB, hb, _⟩
  · cases hg
  · injection hg with hg
    subst hg
    exact ⟨hB, hb.lt⟩
theorem CInv.into (h : CInv w T r v n k l) (hb : Below w.heap.size w w') : CInv w' T r v n k l := by
  obtain ⟨lo, h1, h2, h3, h4⟩ := h
  exact ⟨lo, own_below h1 hb fun g hg => (own_lt4 h1 g hg).2, h2, h3, fun p hp => ⟨(h4 p hp).1.into hb, (h4 p hp).2⟩⟩
theorem rbcs_set {lo : List Rb} {t s p : Int} {q q' : Body} (h : lo[k]? = some (t, s, p, q)) : (rbcs lo).set (k * 4 + 3) (.slice q'.A q'.n q'.c) = rbcs (lo.set k (t, s, p, q')) := by
  induction lo generalizing k with
  | nil => simp at h
  | cons x lo ih =>
    cases k with
    | zero => simp at h; subst h; rfl
    | succ k =>
      have h' : lo[k]? = some (t, s, p, q) := by simpa using h
      have e : (k + 1) * 4 + 3 = (k * 4 + 3) + 1 + 1 + 1 + 1 := by omega
      rw [rbcs_cons, e, List.set_cons_succ, List.set_cons_succ, List.set_cons_succ, List.set_cons_succ, ih h', List.set_cons_succ, rbcs_cons]
theorem rsay_set {lo : List Rb} {t s p : Int} {q q' : Body} (h : lo[k]? = some (t, s, p, q)) (he : q'.l = q.l) : rsay (lo.set k (t, s, p, q')) = rsay lo := by
  induction lo generalizing k with
  | nil => simp at h
  | cons x lo ih =>
    cases k with
    | zero => simp at h; subst h; simp [rsay, he]
    | succ k =>
      have h' : lo[k]? = some (t, s, p, q) := by simpa using h
      have := ih h'
      simp only [rsay, List.set_cons_succ, List.map_cons] at this ⊢
      rw [this]
theorem CInv.at_ {A : Option Addr} (h : CInv w T r (.slice A n c) n k l) (hk : k < n) (hr : ∀ g, (Value.slice A n c).ownBlock = some g → g = r) {t s p : Int} {q : Body} (hl : l[k]? = some (t, s, p, q)) :
    A = some ⟨r, 0, none⟩ ∧ r < w.heap.size ∧ T ≤ r ∧ w.cell? ⟨r, k * 4 + 3, none⟩ = some (.slice q.A q.n q.c) ∧ w.frozen? ⟨r, k * 4 + 3, none⟩ = false ∧ Hid (RdY w T r q.A q.n (ns .u8 q.l)) ∧ q.n ≤ q.c ∧ q.c ≤ maxLen := by
  obtain ⟨lo, h1, h2, h3, h4⟩ := h
  have hlo : lo[k]? = some (t, s, p, q) := (h3 k (Nat.le_refl _)).trans hl
  rcases own_open h1 with ⟨_, h0, _⟩ | ⟨g, c2, L, e, hB, hb, hnc, hcm, hL, hx⟩
  · omega
  · injection e with e1 e2 e3
    subst e1 e3
    obtain rfl : g = r := hr g rfl
    obtain ⟨_, _, _, g3⟩ := rbcs_get hlo
    have hm := h4 _ (List.mem_of_getElem? hlo)
    refine ⟨rfl, hb.lt, hB, ?_, hb.frozen _, Lib.hid hm.1, hm.2⟩
    rw [hb.cell, ← g3, ← hx, List.getElem?_take_of_lt (by omega)]
    simp
theorem CInv.set {A : Option Addr} (h : CInv w T r (.slice A n c) n k l) (hk : k < n) (hr : ∀ g, (Value.slice A n c).ownBlock = some g → g = r) {t s p : Int} {q : Body} (hl : l[k]? = some (t, s, p, q)) (q' : Body) (he : q'.l = q.l) (hq : RdY w T r q'.A q'.n (ns .u8 q'.l)) (hc : q'.n ≤ q'.c ∧ q'.c ≤ maxLen) :
    CInv (w.setCell ⟨r, k * 4 + 3, none⟩ (.slice q'.A q'.n q'.c)) T r (.slice A n c) n (k + 1) l := by
  obtain ⟨lo, h1, h2, h3, h4⟩ := h
  have hlo : lo[k]? = some (t, s, p, q) := (h3 k (Nat.le_refl _)).trans hl
  have hs : Solo r w (w.setCell ⟨r, k * 4 + 3, none⟩ (.slice q'.A q'.n q'.c)) := Solo.refl.setCell _ _
  rcases own_open h1 with ⟨_, h0, _⟩ | ⟨g, c2, L, e, hB, hb, hnc, hcm, hL, hx⟩
  · omega
  · injection e with e1 e2 e3
    subst e1 e3
    obtain rfl : g = r := hr g rfl
    refine ⟨lo.set k (t, s, p, q'), own_shut (L := L.set (k * 4 + 3) (.slice q'.A q'.n q'.c)) hB ?_ hnc hcm (by rw [List.length_set]; exact hL) ?_, (rsay_set hlo he).trans h2, fun j hj => ?_, fun x hx => ?_⟩
    · have := hb.set (k * 4 + 3) (.slice q'.A q'.n q'.c)
      simpa using this
    · rw [List.take_set, hx, rbcs_set hlo]
    · rw [List.getElem?_set_ne (by omega)]
      exact h3 j (by omega)
    · rcases List.mem_or_eq_of_mem_set hx with hx | rfl
      · exact ⟨(h4 x hx).1.solo hs hB, (h4 x hx).2⟩
      · exact ⟨hq.solo hs hB, hc⟩
theorem CInv.new (h : w.ownsRow T 93 4 v n (rbcs l)) (hT : T ≤ w.heap.size) (hb : ∀ p ∈ l, Rd w T 1 p.2.2.2.A p.2.2.2.n (ns .u8 p.2.2.2.l) ∧ p.2.2.2.n ≤ p.2.2.2.c ∧ p.2.2.2.c ≤ maxLen) : CInv w T r v n 0 l :=
  ⟨l, h, rfl, fun _ _ => rfl, fun p hp => ⟨⟨(hb p hp).1.mono hT, fun hn b o e => .inl (by
    obtain ⟨b2, o2, e2, h2, _⟩ := (hb p hp).1.2 hn
    rw [e] at e2
    injection e2 with e2
    injection e2 with e2
    omega)⟩, (hb p hp).2⟩⟩
end
theorem ownB (A : Option Addr) (n c : Nat) : ∃ r, ∀ g, (Value.slice A n c).ownBlock = some g → g = r := by
  cases A with
  | none => exact ⟨0, fun g h => by cases h⟩
  | some a => exact ⟨a.block, fun g h => by injection h with h; exact h.symm⟩
set_option maxRecDepth 20000 in
set_option maxHeartbeats 4000000 in
theorem copied_any (A : Option Addr) (n c T : Nat) (l : List Rb) (w : World) (h : w.ownsRow T 93 4 (.slice A n c) n (rbcs l)) (hT : T ≤ w.heap.size) (hb : ∀ p ∈ l, Rd w T 1 p.2.2.2.A p.2.2.2.n (ns .u8 p.2.2.2.l) ∧ p.2.2.2.n ≤ p.2.2.2.c ∧ p.2.2.2.c ≤ maxLen) (hbd : ∀ p ∈ rsay l, i64ok p.1 ∧ i64ok p.2.1 ∧ i64ok p.2.2.1 ∧ ∀ x ∈ p.2.2.2, x < 256) (hn : n ≤ 100000) (hlen : ∀ p ∈ l, p.2.2.2.n ≤ 100000) :
    Calls Try.prog 86 #[.slice A n c] w fun e w' => (e = .returned (.slice A n c) ∧ ∃ lo, Rs w' A n c lo ∧ rsay lo = rsay l) ∧ Below T w w' := by
  obtain ⟨r, hr⟩ := ownB A n c
  have HR := Lib.hid hr
  have HI := Lib.hid (CInv.new (r := r) h hT hb)
  have HLN := Lib.hid hlen
  have HBD := Lib.hid hbd
  have HLL := Lib.hid (show l.length = n by have := h.1; rw [rbcs_len] at this; omega)
  clear h hb hlen hbd hr
  go_enter Try.func86, Try.ntmps86
  go_wp2_with fail
  go_loopw [6] (fun iv wr => ∃ k : Nat, k ≤ n ∧ iv = .int .i64 k ∧ Hid (CInv wr T r (.slice A n c) n k l) ∧ T ≤ wr.heap.size ∧ Below T w wr) (fun iv _ => n - (intOf iv).toNat)
  case atStart => exact ⟨0, Nat.zero_le _, rfl, HI, hT, Below.refl _ _⟩
  case round =>
    clear HI hT
    obtain ⟨k, hk, rfl, hI, hTw, hbw⟩ := hrel
    by_cases hlt : k < n
    · have hlt' : (k : Int) < (n : Int) := by omega
      have hkl : k < l.length := by rw [HLL.out]; exact hlt
      obtain ⟨t, s, p, q, hl⟩ : ∃ t s p q, l[k]? = some (t, s, p, q) := ⟨_, _, _, _, List.getElem?_eq_getElem hkl⟩
      obtain ⟨rfl, hrl, hTr, c3, f3, hq, hq1, hq2⟩ := hI.out.at_ hlt HR.out hl
      have hqn := HLN.out _ (List.mem_of_getElem? hl)
      obtain ⟨qA, qn, qc, ql⟩ := q
      dsimp only at *
      have HLK := Lib.hid hl
      clear hl
      go_wp2_with fail
      refine (clone_any qA qn qc ql wr hq.out.1 hqn).mono ?_
      rintro e w2 ⟨v2, rfl, hN, hb2⟩
      have HI2 := Lib.hid (hI.out.into hb2)
      have hTw2 := Nat.le_trans hTw hb2.size
      have hbw2 := hbw.trans (hb2.mono hTw)
      obtain ⟨A3, c3', e3, hnc3, hcm3, hr3⟩ := own_form (show w2.ownsRow wr.heap.size 5 1 v2 _ _ from hN)
      have hfar : ∀ b o, A3 = some ⟨b, o, none⟩ → r < b := fun b o e => by
        have h1 := hN.lt b (by rw [e3, e]; rfl)
        omega
      subst e3
      have HQ2 := Lib.hid (show RdY w2 T r A3 ql.length (ns .u8 ql) from ⟨hr3, fun _ b o e => .inr (hfar b o e)⟩)
      have HC2 := Lib.hid (And.intro hnc3 hcm3)
      obtain ⟨_, hrl2, _, c3b, f3b, _⟩ := HI2.out.at_ hlt HR.out HLK.out
      clear hb2 hN hr3 hfar hI c3 f3 hq hnc3 hcm3 hbw
      obtain ⟨m, hm⟩ : ∃ m, m = ql.length := ⟨_, rfl⟩
      rw [← hm] at HQ2 HC2 ⊢
      dsimp only at c3b
      have HS := Lib.hid (HI2.out.set hlt HR.out HLK.out ⟨A3, m, c3', ql⟩ rfl HQ2.out HC2.out)
      have HSB := Lib.hid (show Below T w (w2.setCell ⟨r, k * 4 + 3, none⟩ (.slice A3 m c3')) from hbw2.setCell (p := ⟨r, k * 4 + 3, none⟩) hTr _)
      have hsz : (w2.setCell ⟨r, k * 4 + 3, none⟩ (.slice A3 m c3')).heap.size = w2.heap.size := by simp [World.setCell]
      have HTS := Lib.hid (show T ≤ (w2.setCell ⟨r, k * 4 + 3, none⟩ (.slice A3 m c3')).heap.size by rw [hsz]; exact hTw2)
      clear hm HQ2 HC2 HI2 hbw2 hsz
      go_wp2_with fail
      go_roundw
      case rel => exact ⟨k + 1, by omega, by go_num, HS, HTS.out, HSB.out⟩
      case measure => simp [intOf]; omega
    · have hge : ¬ (k : Int) < (n : Int) := by omega
      have HF : Hid (∃ lo, Rs wr A n c lo ∧ rsay lo = rsay l) := Lib.hid (by
        obtain ⟨lo, h1, h2, h3, h4⟩ := hI.out
        obtain ⟨A2, c2, e, hnc, hcm, hr2⟩ := own_form h1
        injection e with e1 e2 e3
        subst e1 e3
        refine ⟨lo, ⟨hr2, fun p hp => ⟨(h4 p hp).1.1, (h4 p hp).2⟩, fun p hp => ?_, hnc, hcm⟩, h2⟩
        have hm : (p.1, p.2.1, p.2.2.1, p.2.2.2.l) ∈ rsay l := by rw [← h2]; exact List.mem_map.2 ⟨p, hp, rfl⟩
        exact HBD.out _ hm)
      clear hI
      go_wp2_with fail
      go_ret
      exact ⟨⟨rfl, HF.out⟩, hbw⟩
end Go.Proofs.Ytcgcglngjfijnaa
