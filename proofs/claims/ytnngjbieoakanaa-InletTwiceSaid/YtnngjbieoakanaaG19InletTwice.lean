/- Package ring: Write, Set, Grow over places that go round. -/
import Derived.Test.YtnngjbieoakanaaG18InletTwice
import Derived.StillTailTactics
import Derived.Test.YtnngjbieoakanaaG5InletTwice

namespace Go.Proofs.Ytnngjbieoakanaa
open Go.RowKit
set_option linter.unusedVariables false

/-- A ring whose places are these. -/
def Ring (w : World) (g p size there : Nat) (L : List Nat) : Prop := ∃ first m, RI w g p size first there m ∧ L = rrow m first ∧ ∀ x ∈ m, x < 256
section
variable {w w' : World} {g p size there : Nat} {L : List Nat}
theorem Ring.drewN (h : Ring w g p size there L) (n : Nat) : Ring (w.drewN n) g p size there L := by
  obtain ⟨f, m, h, e⟩ := h; exact ⟨f, m, h.drewN n, e⟩
theorem Ring.drew (h : Ring w g p size there L) : Ring w.drew g p size there L := by
  obtain ⟨f, m, h, e⟩ := h; exact ⟨f, m, h.drew, e⟩
theorem Ring.alloc (h : Ring w g p size there L) (o : Obj) : Ring (w.alloc o) g p size there L := by
  obtain ⟨f, m, h, e⟩ := h; exact ⟨f, m, h.alloc o, e⟩
theorem Ring.below {B : Nat} (h : Ring w g p size there L) (hb : Below B w w') (hg : g < B) (hp : p < B) : Ring w' g p size there L := by
  obtain ⟨f, m, h, e⟩ := h; exact ⟨f, m, h.below hb hg hp, e⟩
theorem Ring.len (h : Ring w g p size there L) : L.length = size := by
  obtain ⟨f, m, h, rfl, _⟩ := h
  have := h.fs
  have := h.len
  rw [rrow_len (by omega), h.len]
theorem Ring.lt (h : Ring w g p size there L) : ∀ x ∈ L, x < 256 := by
  obtain ⟨f, m, h, rfl, hm⟩ := h
  exact rrow_lt hm
theorem Ring.ts (h : Ring w g p size there L) : there ≤ size := by obtain ⟨f, m, h, _⟩ := h; exact h.ts
theorem Ring.sz (h : Ring w g p size there L) : size ≤ 65536 ∧ 0 < size := by obtain ⟨f, m, h, _⟩ := h; exact ⟨h.sz, by have := h.fs; omega⟩
theorem Ring.bl (h : Ring w g p size there L) : g < w.heap.size ∧ p < w.heap.size := by obtain ⟨f, m, h, _⟩ := h; exact ⟨h.blk.lt, h.mem.lt⟩
end
/-- Bytes were put. -/
theorem RI.put {w w' : World} {g p size first there from_ n : Nat} {m l : List Nat} (h : RI w g p size first there m) (hm : ∀ x ∈ m, x < 256) (hl : ∀ x ∈ l, x < 256) (hn : l.length = n) (hf : from_ + n ≤ size)
    (hs : Solo p w w') (hp : Mem w' p 5 .u8 (spl (spl m (rix size first from_) (l.take (min n (size - rix size first from_)))) 0 (l.drop (min n (size - rix size first from_))))) :
    ∃ m', RI w' g p size first there m' ∧ rrow m' first = spl (rrow m first) from_ l ∧ ∀ x ∈ m', x < 256 := by
  have hx := rix_lt (j := from_) h.fs (by omega)
  have hln := h.len
  have hfs := h.fs
  have e1 : (spl m (rix size first from_) (l.take (min n (size - rix size first from_)))).length = size := by
    rw [spl_len (by simp; omega)]; exact hln
  have e2 : (spl (spl m (rix size first from_) (l.take (min n (size - rix size first from_)))) 0 (l.drop (min n (size - rix size first from_)))).length = size := by
    rw [spl_len (by simp; omega)]; exact e1
  refine ⟨_, ⟨hs.blk h.blk h.ne, hp, e2, hfs, h.ts, h.sz, h.ne⟩, ?_, spl_lt (spl_lt hm fun x hx => hl x (List.mem_of_mem_take hx)) fun x hx => hl x (List.mem_of_mem_drop hx)⟩
  have := rput (m := m) (bs := l) (first := first) (from_ := from_) (by omega) (by omega) (min n (size - rix size first from_)) (by rw [hn, hln])
  rw [hln] at this
  exact this
theorem RI.grow {w : World} {g p size first there : Nat} {m : List Nat} (h : RI w g p size first there m) (t : Nat) (ht : t ≤ size) : RI (w.setCell ⟨g, 2, none⟩ (.int .i64 (t : Int))) g p size first t m :=
  ⟨h.blk.set 2 _, (Solo.refl.setCell 2 _).blk h.mem (Ne.symm h.ne), h.len, h.fs, ht, h.sz, h.ne⟩

/-- Nothing has turned but these two blocks. -/
def Duo (g p : Nat) (w w' : World) : Prop := Below (min g p) w w' ∧ w'.heap.size = w.heap.size ∧ ∀ k, k ≠ g → k ≠ p → w'.heap[k]? = w.heap[k]?
section
variable {g p : Nat} {w w' w2 : World}
theorem Duo.refl : Duo g p w w := ⟨Below.refl _ _, rfl, fun _ _ _ => rfl⟩
theorem Duo.trans (h : Duo g p w w') (k : Duo g p w' w2) : Duo g p w w2 := ⟨h.1.trans k.1, k.2.1.trans h.2.1, fun i a b => (k.2.2 i a b).trans (h.2.2 i a b)⟩
theorem Duo.of_p (h : Solo p w w') : Duo g p w w' := ⟨h.1.mono (Nat.min_le_right _ _), h.2.1, fun k _ b => h.2.2 k b⟩
theorem Duo.of_g (h : Solo g w w') : Duo g p w w' := ⟨h.1.mono (Nat.min_le_left _ _), h.2.1, fun k a _ => h.2.2 k a⟩
theorem Duo.drewN (h : Duo g p w w') (n : Nat) : Duo g p w (w'.drewN n) := ⟨below_drewN h.1 n, h.2.1, h.2.2⟩
theorem Duo.below {B : Nat} (h : Duo g p w w') (hg : B ≤ g) (hp : B ≤ p) : Below B w w' := h.1.mono (by omega)
end
end Go.Proofs.Ytnngjbieoakanaa

/- A row of the call's own, written at an index. No program. -/
namespace Go.Proofs.Ytnngjbieoakanaa
open Go.RowKit
set_option linter.unusedVariables false
section
variable {w w' : World} {e e' : TypeId} {k k' : IntKind} {B B' n c : Nat} {A : Option Addr} {l l' : List Nat} {v : Value}
theorem Nats.cellw {i : Nat} (h : Nats w e k B (.slice A n c) l) (hi : i < n) : ∃ (g x : Nat), A = some ⟨g, 0, none⟩ ∧ B ≤ g ∧ w.cell? ⟨g, i, none⟩ = some (.int k (x : Int)) ∧ w.frozen? ⟨g, i, none⟩ = false ∧ Hid (l[i]? = some x) ∧
    Hid (∀ y : Nat, Nats (w.setCell ⟨g, i, none⟩ (.int k (y : Int))) e k B (.slice A n c) (l.set i y)) ∧ Hid (∀ (u : Value) (j : Nat), j ≠ g → (w.setCell ⟨g, i, none⟩ u).heap[j]? = w.heap[j]?) := by
  have hn : l.length = n := by obtain ⟨A', c', e, _⟩ := h.form; injection e with _ e _; exact e.symm
  obtain ⟨hlen, h0⟩ := h
  rcases h0 with ⟨hv, h0⟩ | ⟨g, cap, cur, hv, hb, hh, hc, hm, hsz, htk⟩
  · omega
  · injection hv with ha hnn hcc
    subst ha hcc
    have hb' : Blk w g e cur := hh
    have hil : i < l.length := by omega
    have hic : i < cur.size := by omega
    have hcell : w.cell? ⟨g, i, none⟩ = some (.int k ((l[i] : Nat) : Int)) := by
      rw [hb'.cell i]
      have h1 : (cur.toList.take (l.length * 1))[i]? = (ns k l)[i]? := by rw [htk]
      rw [List.getElem?_take_of_lt (by omega)] at h1
      rw [← Array.getElem?_toList, h1]
      simp [ns, hil]
    refine ⟨g, l[i], rfl, hb, hcell, hb'.frozen i, Lib.hid (by simp [hil]), Lib.hid fun y => ?_, Lib.hid fun u j hj => Below.heap_setCell _ _ _ _ hj⟩
    refine ⟨by simp [ns], .inr ⟨g, c, cur.setIfInBounds i (.int k (y : Int)), by simp [hn], hb, hb'.set i _, by simpa using hc, hm, by simpa using hsz, ?_⟩⟩
    rw [Array.toList_setIfInBounds, List.take_set, List.length_set, htk]
    simp only [ns, List.map_set]
theorem Nats.apart (h : Nats w e k B v l) (h' : Nats w e' k' B' (.slice A n c) l') (hne : e ≠ e') {g : Nat} (ha : A = some ⟨g, 0, none⟩) : ∀ j, v.ownBlock = some j → j ≠ g := by
  intro j hj hjg
  subst hjg ha
  rcases h.2 with ⟨rfl, _⟩ | ⟨g1, cap, cur, rfl, _, hh, _⟩
  · simp [Value.ownBlock] at hj
  · simp [Value.ownBlock] at hj
    subst hj
    rcases h'.2 with ⟨hv, _⟩ | ⟨g2, cap2, cur2, hv, _, hh2, _⟩
    · cases hv
    · injection hv with hv _ _
      injection hv with hv
      injection hv with hv _ _
      subst hv
      rw [hh] at hh2
      injection hh2 with hh2
      injection hh2 with _ ht
      exact hne ht
end
end Go.Proofs.Ytnngjbieoakanaa
