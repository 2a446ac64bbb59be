/- An inlet's second put. No program. -/
import Derived.Test.YtnngjbieoakanaaG16InletTwice
import Derived.Test.YtnngjbieoakanaaG47InletTwice

namespace Go.Proofs.Ytnngjbieoakanaa
set_option linter.unusedVariables false
theorem addL_twice {l : List Sp} {f t : Nat} (h : Rise l) (hft : f < t) : addL (addL l f t) f t = addL l f t :=
  rise_ext (addL_rise (addL_rise h hft) hft) (addL_rise h hft) fun n => by
    rw [addL_mem (addL_rise h hft) hft, addL_mem h hft]
    cases memL l n <;> simp
theorem addS_twice {most : Nat} {l : List Sp} {f t : Nat} (h : Rise l) (h2 : (addS most l f t).2 = true) : addS most (addS most l f t).1 f t = ((addS most l f t).1, true) := by
  by_cases h0 : t ≤ f
  · have e : ∀ m, addS most m f t = (m, true) := fun m => if_pos h0
    rw [e l, e l]
  · by_cases h1 : spTouch l f t = false ∧ most ≤ l.length
    · have e : addS most l f t = (l, false) := by unfold addS; rw [if_neg h0, if_pos h1]
      rw [e] at h2
      cases h2
    · have e : addS most l f t = (addL l f t, true) := by unfold addS; rw [if_neg h0, if_neg h1]
      rw [e]
      have e1 := addL_twice h (Nat.lt_of_not_le h0)
      have e2 := addL_len (addL l f t) f t
      rw [e1] at e2
      have h3 : ¬ (spTouch (addL l f t) f t = false ∧ most ≤ (addL l f t).length) := fun h4 => by
        rw [mid_nil.1 h4.1] at e2
        simp at e2
      show addS most (addL l f t) f t = (addL l f t, true)
      unfold addS
      rw [if_neg h0, if_neg h3, e1]
variable {s : Ist} {f : Nat} {bs : List Nat}
/-- A second put of the same bytes turns neither the pieces nor what is next. -/
theorem Ist.ok.put_twice (h : s.ok) : ((s.put f bs).1.put f bs).1.P = (s.put f bs).1.P ∧ ((s.put f bs).1.put f bs).1.next = (s.put f bs).1.next ∧ ((s.put f bs).2 = ((s.put f bs).1.put f bs).2 ∨ (s.put f bs).2 = false) := by
  by_cases h0 : 18446744073709551616 ≤ f + bs.length
  · have e : s.put f bs = (s, false) := if_pos h0
    rw [e]
    exact ⟨by show (s.put f bs).1.P = _; rw [e], by show (s.put f bs).1.next = _; rw [e], .inr rfl⟩
  by_cases h1 : s.low f < s.high (f + bs.length)
  · by_cases h2 : (s.come (s.low f) ((bs.drop (s.low f - f)).take (s.high (f + bs.length) - s.low f))).2 = true
    · have e : s.put f bs = ((s.come (s.low f) ((bs.drop (s.low f - f)).take (s.high (f + bs.length) - s.low f))).1, decide (f + bs.length ≤ s.bound) || decide (bs.length = 0)) := by
        unfold Ist.put
        rw [if_neg h0, if_pos h1, if_pos h2]
      have hq : ((bs.drop (s.low f - f)).take (s.high (f + bs.length) - s.low f)).length = s.high (f + bs.length) - s.low f :=
        Ist.cut_len (t := 0) (Nat.le_of_lt h1) (by unfold Ist.low; omega) (by unfold Ist.high; omega)
      rw [e]
      generalize (bs.drop (s.low f - f)).take (s.high (f + bs.length) - s.low f) = q at h2 hq ⊢
      by_cases h3 : s.next < s.low f
      · by_cases h4 : (addS s.most s.P (s.low f) (s.low f + q.length)).2 = true
        · have ec : s.come (s.low f) q = ({ s with P := (addS s.most s.P (s.low f) (s.low f + q.length)).1, L := s.setL (s.low f) q }, true) := by
            unfold Ist.come
            rw [if_pos h3, if_pos h4]
          have ea := addS_twice h.rs h4
          rw [ec]
          generalize (addS s.most s.P (s.low f) (s.low f + q.length)).1 = P1 at ea ⊢
          generalize s.setL (s.low f) q = L1
          have el : ({ s with P := P1, L := L1 } : Ist).low f = s.low f := rfl
          have eh : ({ s with P := P1, L := L1 } : Ist).high (f + bs.length) = s.high (f + bs.length) := rfl
          have eb : ({ s with P := P1, L := L1 } : Ist).bound = s.bound := rfl
          have en : ({ s with P := P1, L := L1 } : Ist).next = s.next := rfl
          have hq2 : ((bs.drop (s.low f - f)).take (s.high (f + bs.length) - s.low f)).length = q.length :=
            (Ist.cut_len (t := 0) (Nat.le_of_lt h1) (by unfold Ist.low; omega) (by unfold Ist.high; omega)).trans hq.symm
          have ec2 : ({ s with P := P1, L := L1 } : Ist).come (s.low f) ((bs.drop (s.low f - f)).take (s.high (f + bs.length) - s.low f)) = ({ s with P := P1, L := ({ s with P := P1, L := L1 } : Ist).setL (s.low f) ((bs.drop (s.low f - f)).take (s.high (f + bs.length) - s.low f)) }, true) := by
            unfold Ist.come
            rw [hq2, en, if_pos h3]
            show (if (addS s.most P1 (s.low f) (s.low f + q.length)).2 = true then _ else _) = _
            rw [ea]
            rfl
          have e2 : ({ s with P := P1, L := L1 } : Ist).put f bs = ({ s with P := P1, L := ({ s with P := P1, L := L1 } : Ist).setL (s.low f) ((bs.drop (s.low f - f)).take (s.high (f + bs.length) - s.low f)) }, decide (f + bs.length ≤ s.bound) || decide (bs.length = 0)) := by
            unfold Ist.put
            rw [el, eh, eb, if_neg h0, if_pos h1, ec2]
            rfl
          show (({ s with P := P1, L := L1 } : Ist).put f bs).1.P = P1 ∧ (({ s with P := P1, L := L1 } : Ist).put f bs).1.next = s.next ∧ (_ = (({ s with P := P1, L := L1 } : Ist).put f bs).2 ∨ _)
          rw [e2]
          exact ⟨rfl, rfl, .inl rfl⟩
        · have ec : s.come (s.low f) q = (s, false) := by
            unfold Ist.come
            rw [if_pos h3, if_neg h4]
          rw [ec] at h2
          cases h2
      · have ec : s.come (s.low f) q = ({ s with there := runL s.P (s.low f + q.length) - s.base, P := cutL s.P (runL s.P (s.low f + q.length)), L := s.setL (s.low f) q }, true) := by
          unfold Ist.come
          rw [if_neg h3]
        have hr := runL_ge h.rs (s.low f + q.length)
        have hh : s.low f + q.length = s.high (f + bs.length) := by omega
        rw [ec]
        generalize cutL s.P (runL s.P (s.low f + q.length)) = P1
        generalize s.setL (s.low f) q = L1
        generalize runL s.P (s.low f + q.length) = R at hr ⊢
        have hn : ({ s with there := R - s.base, P := P1, L := L1 } : Ist).next = R := by
          show s.base + (R - s.base) = R
          have : s.base ≤ s.low f := by unfold Ist.low Ist.next; omega
          omega
        have e2 : ({ s with there := R - s.base, P := P1, L := L1 } : Ist).put f bs = ({ s with there := R - s.base, P := P1, L := L1 }, decide (f + bs.length ≤ s.bound) || decide (bs.length = 0)) := by
          have eh : ({ s with there := R - s.base, P := P1, L := L1 } : Ist).high (f + bs.length) = s.high (f + bs.length) := rfl
          have eb : ({ s with there := R - s.base, P := P1, L := L1 } : Ist).bound = s.bound := rfl
          have hl : ¬ ({ s with there := R - s.base, P := P1, L := L1 } : Ist).low f < s.high (f + bs.length) := by
            unfold Ist.low
            rw [hn]
            omega
          unfold Ist.put
          rw [eh, eb, if_neg h0, if_neg hl]
        show (({ s with there := R - s.base, P := P1, L := L1 } : Ist).put f bs).1.P = P1 ∧ (({ s with there := R - s.base, P := P1, L := L1 } : Ist).put f bs).1.next = ({ s with there := R - s.base, P := P1, L := L1 } : Ist).next ∧ (_ = (({ s with there := R - s.base, P := P1, L := L1 } : Ist).put f bs).2 ∨ _)
        rw [e2]
        exact ⟨rfl, rfl, .inl rfl⟩
    · have e : s.put f bs = (s, false) := by
        unfold Ist.put
        rw [if_neg h0, if_pos h1, if_neg h2]
      rw [e]
      exact ⟨by show (s.put f bs).1.P = _; rw [e], by show (s.put f bs).1.next = _; rw [e], .inr rfl⟩
  · have e : s.put f bs = (s, decide (f + bs.length ≤ s.bound) || decide (bs.length = 0)) := by
      unfold Ist.put
      rw [if_neg h0, if_neg h1]
    rw [e]
    exact ⟨by show (s.put f bs).1.P = _; rw [e], by show (s.put f bs).1.next = _; rw [e], .inl (by show _ = (s.put f bs).2; rw [e])⟩
/-- A put of no bytes, and one at the edge, turn nothing. -/
theorem Ist.put_none : (s.put 0 []).1 = s := by
  unfold Ist.put
  rw [if_neg (by simp), if_neg (by unfold Ist.high; simp)]
theorem Ist.put_edge {e : Nat} (he : s.base + s.size ≤ e) : (s.put e bs).1 = s := by
  have hb := s.bound_le
  unfold Ist.put
  split
  · rfl
  · rw [if_neg (by unfold Ist.low Ist.high; omega)]
end Go.Proofs.Ytnngjbieoakanaa

/- Layer 18: the document's inlet beside the program's: what the one turns leaves the other. -/
namespace Go.Proofs.Ytnngjbieoakanaa
open Go.RowKit
set_option linter.unusedVariables false
set_option linter.unusedSimpArgs false
theorem row_ik {w w' : World} {B x g p s B1 n : Nat} {e : TypeId} {v : Value} {xs : List Value} (h : w.ownsRow B1 e 1 v n xs) (k : IK B x g p s w w') (hx : x < B1) (hg : g < B1) (hp : p < B1) (hs : s < B1) (hne : e ≠ 71) : w'.ownsRow B1 e 1 v n xs :=
  own_kept h fun r hr => by
    have hl := h.lt r hr
    have hno : ∀ cs m, w.heap[r]? ≠ some (.cells cs 71 m) := by
      rcases own_open h with ⟨rfl, _, _⟩ | ⟨rb, c, L, rfl, hB, hrr, _⟩
      · simp [Value.ownBlock] at hr
      · simp [Value.ownBlock] at hr
        subst hr
        intro cs m e2
        rw [hrr] at e2
        injection e2 with e3
        injection e3 with e4 e5
        exact hne e5
    exact k.same r hl.2 (by omega) (by omega) (by omega) (by omega) (.inr hno)
theorem XR.ik {w w' : World} {B x g p s B1 n c1 c2 : Nat} {A1 A2 : Option Addr} (h : XR w B1 n A1 c1 A2 c2) (k : IK B x g p s w w') (hx : x < B1) (hg : g < B1) (hp : p < B1) (hs : s < B1) : XR w' B1 n A1 c1 A2 c2 := by
  obtain ⟨hl, bl, h1, h2, h3⟩ := h
  exact ⟨hl, bl, row_ik h1 k hx hg hp hs (by decide), row_ik h2 k hx hg hp hs (by decide), h3⟩
theorem XO.ik {w w' : World} {B x g p s B1 n most bmax : Nat} {v : Value} (h : XO w B1 n most bmax v) (k : IK B x g p s w w') (hx : x < B1) (hg : g < B1) (hp : p < B1) (hs : s < B1) : XO w' B1 n most bmax v := by
  obtain ⟨base, en, kn, A1, A2, c1, c2, h1, h2, h3⟩ := h
  exact ⟨base, en, kn, A1, A2, c1, c2, h1, h2, h3.ik k hx hg hp hs⟩
theorem XO.up {w : World} {B n most b1 b2 : Nat} {v : Value} (h : XO w B n most b1 v) (hb : b1 ≤ b2) : XO w B n most b2 v := by
  obtain ⟨base, en, kn, A1, A2, c1, c2, h1, h2, h3⟩ := h
  exact ⟨base, en, kn, A1, A2, c1, c2, h1, Nat.le_trans h2 hb, h3⟩
/-- The answers to Ack are alike where the numbers are. -/
theorem Ist.ack_same {s t : Ist} (h1 : t.next = s.next) (h2 : t.en = s.en) (h3 : t.kn = s.kn) : t.ack = s.ack := by
  unfold Ist.ack Ist.ended
  rw [h1, h2, h3]
end Go.Proofs.Ytnngjbieoakanaa
