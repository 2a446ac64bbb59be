/- A row of the call's own, written at an index. No program. -/
import Derived.Test.YtflmnhibjgehnaaBlkS
namespace Go.Proofs.Ytflmnhibjgehnaa
open Go.RowKit
set_option linter.unusedVariables false
section
variable {w w' : World} {e e' : TypeId} {k k' : IntKind} {B B' n c : Nat} {A : Option Addr} {l l' : List Nat} {v : Value}
theorem Nats.cellw {i : Nat} (h : Nats w e k B (.slice A n c) l) (hi : i < n) : ∃ (g x : Nat), A = some ⟨g, 0, none⟩ ∧ B ≤ g ∧ w.cell? ⟨g, i, none⟩ = some (.int k (x : Int)) ∧ w.frozen? ⟨g, i, none⟩ = false ∧ Hid (l[i]? = some x) ∧
    Hid (∀ y : Nat, Nats (w.setCell ⟨g, i, none⟩ (.int k (y : Int))) e k B (.slice A n c) (l.set i y)) ∧ Hid (∀ (u : Value) (j : Nat), j ≠ g → (w.setCell ⟨g, i, none⟩ u).heap[j]? = w.heap[j]?) := by
  have hn : l.length = n := by obtain ⟨A', c', e, _⟩ := h.form; injection e with _ e _; exact e.symm
  obtain ⟨hlen, h0⟩ := h
  rcases h0 with ⟨hv, h0⟩ | ⟨g, cap, cur, hv, hb, hh, hc, hm, hsz, htk⟩
  · omega
  · injection hv with ha hnn hcc
    subst ha hcc
    have hb' : Blk w g e cur := hh
    have hil : i < l.length := by omega
    have hic : i < cur.size := by omega
    have hcell : w.cell? ⟨g, i, none⟩ = some (.int k ((l[i] : Nat) : Int)) := by
      rw [hb'.cell i]
      have h1 : (cur.toList.take (l.length * 1))[i]? = (ns k l)[i]? := by rw [htk]
      rw [List.getElem?_take_of_lt (by omega)] at h1
      rw [← Array.getElem?_toList, h1]
      simp [ns, hil]
    refine ⟨g, l[i], rfl, hb, hcell, hb'.frozen i, Lib.hid (by simp [hil]), Lib.hid fun y => ?_, Lib.hid fun u j hj => Below.heap_setCell _ _ _ _ hj⟩
    refine ⟨by simp [ns], .inr ⟨g, c, cur.setIfInBounds i (.int k (y : Int)), by simp [hn], hb, hb'.set i _, by simpa using hc, hm, by simpa using hsz, ?_⟩⟩
    rw [Array.toList_setIfInBounds, List.take_set, List.length_set, htk]
    simp only [ns, List.map_set]
theorem Nats.apart (h : Nats w e k B v l) (h' : Nats w e' k' B' (.slice A n c) l') (hne : e ≠ e') {g : Nat} (ha : A = some ⟨g, 0, none⟩) : ∀ j, v.ownBlock = some j → j ≠ g := by
  intro j hj hjg
  subst hjg ha
  rcases h.2 with ⟨rfl, _⟩ | ⟨g1, cap, cur, rfl, _, hh, _⟩
  · simp [Value.ownBlock] at hj
  · simp [Value.ownBlock] at hj
    subst hj
    rcases h'.2 with ⟨hv, _⟩ | ⟨g2, cap2, cur2, hv, _, hh2, _⟩
    · cases hv
    · injection hv with hv _ _
      injection hv with hv
      injection hv with hv _ _
      subst hv
      rw [hh] at hh2
      injection hh2 with hh2
      injection hh2 with _ ht
      exact hne ht
end
end Go.Proofs.Ytflmnhibjgehnaa
