/- Rows of things of several cells, known whole: reading and writing one of them. No program. -/
import Derived.Test.YtdcpmfodkggpeaaBlkS
import Derived.Test.YtdcpmfodkggpeaaSz2
namespace Go.Proofs.Ytdcpmfodkggpeaa
open Go.RowKit
set_option linter.unusedVariables false
section
variable {α : Type} {f : α → List Value} {sz : Nat}
theorem fm_len (hf : ∀ x, (f x).length = sz) (l : List α) : (l.flatMap f).length = l.length * sz := by
  induction l with
  | nil => simp
  | cons x l ih => rw [List.flatMap_cons, List.length_append, hf, ih, List.length_cons, Nat.succ_mul, Nat.add_comm]
theorem fm_get (hf : ∀ x, (f x).length = sz) {l : List α} {q r : Nat} {x : α} (h : l[q]? = some x) (hr : r < sz) : (l.flatMap f)[q * sz + r]? = (f x)[r]? := by
  induction l generalizing q with
  | nil => simp at h
  | cons y l ih =>
    rw [List.flatMap_cons]
    cases q with
    | zero =>
      simp at h; subst h
      rw [Nat.zero_mul, Nat.zero_add, List.getElem?_append_left (by rw [hf]; exact hr)]
    | succ q =>
      rw [List.getElem?_append_right (by rw [hf, Nat.succ_mul]; omega), hf, show (q + 1) * sz + r - sz = q * sz + r by rw [Nat.succ_mul]; omega]
      exact ih (by simpa using h)
theorem fm_take (hf : ∀ x, (f x).length = sz) (l : List α) (m : Nat) : (l.flatMap f).take (m * sz) = (l.take m).flatMap f := by
  induction l generalizing m with
  | nil => simp
  | cons x l ih =>
    cases m with
    | zero => simp
    | succ m =>
      rw [List.flatMap_cons, List.take_succ_cons, List.flatMap_cons, ← ih m, List.take_append, hf, List.take_of_length_le (by rw [hf, Nat.succ_mul]; omega)]
      congr 2
      rw [Nat.succ_mul]; omega
theorem fm_drop (hf : ∀ x, (f x).length = sz) (l : List α) (m : Nat) : (l.flatMap f).drop (m * sz) = (l.drop m).flatMap f := by
  induction l generalizing m with
  | nil => simp
  | cons x l ih =>
    cases m with
    | zero => simp
    | succ m =>
      rw [List.flatMap_cons, List.drop_succ_cons, ← ih m, show (m + 1) * sz = (f x).length + m * sz by rw [hf, Nat.succ_mul]; omega, ← List.drop_drop, List.drop_left]
/-- A row of things, with room for c. -/
def RowG (w : World) (rb c sz : Nat) (t : TypeId) (f : α → List Value) (l : List α) : Prop := ∃ L : List Value, Blk w rb t L.toArray ∧ L.length = c * sz ∧ l.length ≤ c ∧ L.take (l.length * sz) = l.flatMap f
variable {w w' : World} {rb c i : Nat} {t : TypeId} {l : List α} {x : α}
theorem RowG.lt (h : RowG w rb c sz t f l) : rb < w.heap.size := by obtain ⟨L, hb, _⟩ := h; exact hb.lt
theorem RowG.same (h : RowG w rb c sz t f l) (hk : w'.heap[rb]? = w.heap[rb]?) : RowG w' rb c sz t f l := by obtain ⟨L, hb, h1⟩ := h; exact ⟨L, hk.trans hb, h1⟩
theorem RowG.frozen (h : RowG w rb c sz t f l) (o : Nat) : w.frozen? ⟨rb, o, none⟩ = false := by obtain ⟨L, hb, _⟩ := h; exact hb.frozen o
theorem RowG.room (h : RowG w rb c sz t f l) : l.length ≤ c := by obtain ⟨L, _, _, h1, _⟩ := h; exact h1
theorem RowG.cell (hf : ∀ x, (f x).length = sz) (h : RowG w rb c sz t f l) (hx : l[i]? = some x) {r : Nat} (hr : r < sz) : w.cell? ⟨rb, i * sz + r, none⟩ = (f x)[r]? := by
  obtain ⟨L, hb, hl, hc, ht⟩ := h
  have hi := (List.getElem?_eq_some_iff.1 hx).1
  have := Nat.mul_le_mul_right sz (show i + 1 ≤ l.length from hi)
  rw [Nat.succ_mul] at this
  rw [hb.cell, ← fm_get hf hx hr, ← ht, List.getElem?_take, if_pos (by omega)]
  simp
theorem RowG.loads (hf : ∀ x, (f x).length = sz) (h : RowG w rb c sz t f l) (hx : l[i]? = some x) : ∀ j v, (f x)[j]? = some v → w.cell? ⟨rb, i * sz + j, none⟩ = some v := fun j v hj => by
  rw [← hj]
  exact h.cell hf hx (by have := (List.getElem?_eq_some_iff.1 hj).1; rw [hf] at this; exact this)
theorem RowG.cut (hf : ∀ x, (f x).length = sz) (h : RowG w rb c sz t f l) (m : Nat) : RowG w rb c sz t f (l.take m) := by
  obtain ⟨L, hb, hl, hc, ht⟩ := h
  refine ⟨L, hb, hl, Nat.le_trans (by rw [List.length_take]; exact Nat.min_le_right _ _) hc, ?_⟩
  rw [← fm_take hf, ← ht, List.take_take, List.length_take]
  congr 1
  have := Nat.mul_le_mul_right sz (Nat.min_le_left m l.length)
  rcases Nat.le_total m l.length with h | h
  · rw [Nat.min_eq_left h, Nat.min_eq_left (Nat.mul_le_mul_right sz h)]
  · rw [Nat.min_eq_right h, Nat.min_eq_right (Nat.mul_le_mul_right sz h)]
theorem splv_fm (hf : ∀ x, (f x).length = sz) {L : List Value} (hL : c * sz = L.length) (hc : l.length ≤ c) (ht : L.take (l.length * sz) = l.flatMap f) (hi : i < l.length) (x : α) : (splv L (i * sz) (f x)).take (l.length * sz) = (l.set i x).flatMap f := by
  have h1 := Nat.mul_le_mul_right sz (show i + 1 ≤ l.length from hi)
  have h2 := Nat.mul_le_mul_right sz hc
  rw [Nat.succ_mul] at h1
  refine List.ext_getElem? fun k => ?_
  rw [List.getElem?_take]
  by_cases hk : k < l.length * sz
  · rw [if_pos hk, splv_get (by rw [hf]; omega), hf]
    have hz : 0 < sz := by
      rcases Nat.eq_zero_or_pos sz with h | h
      · rw [h, Nat.mul_zero] at hk; omega
      · exact h
    have hq : k / sz < l.length := (Nat.div_lt_iff_lt_mul hz).2 hk
    have hr : k % sz < sz := Nat.mod_lt _ hz
    have hkq : k / sz * sz + k % sz = k := Nat.div_add_mod' k sz
    by_cases hqi : k / sz = i
    · have hg : (l.set i x)[k / sz]? = some x := by rw [hqi]; simp [hi]
      have := fm_get hf hg hr
      rw [hkq] at this
      rw [this, if_pos (by rw [← hqi]; omega), show k - i * sz = k % sz by rw [← hqi]; omega]
    · have hg : (l.set i x)[k / sz]? = some (l[k / sz]'hq) := by rw [List.getElem?_set_ne (fun e => hqi e.symm)]; exact List.getElem?_eq_getElem hq
      have h3 := fm_get hf hg hr
      have h4 := fm_get hf (List.getElem?_eq_getElem hq) hr
      rw [hkq] at h3 h4
      have hne : ¬ (i * sz ≤ k ∧ k < i * sz + sz) := fun ⟨ha, hb⟩ => hqi (Nat.div_eq_of_lt_le (by omega) (by rw [Nat.succ_mul]; omega))
      rw [h3, ← h4, ← ht, if_neg hne, List.getElem?_take, if_pos hk]
  · rw [if_neg hk]
    exact (List.getElem?_eq_none (by rw [fm_len hf, List.length_set]; omega)).symm
/-- One of the things is written: w' has its cells. -/
theorem RowG.set_ (hf : ∀ x, (f x).length = sz) (h : RowG w rb c sz t f l) (hi : i < l.length) (x : α) (hw : ∀ L : List Value, Blk w rb t L.toArray → i * sz + sz ≤ L.length → Blk w' rb t (splv L (i * sz) (f x)).toArray) : RowG w' rb c sz t f (l.set i x) := by
  obtain ⟨L, hb, hl, hc, ht⟩ := h
  have h1 := Nat.mul_le_mul_right sz (show i + 1 ≤ l.length from hi)
  have h2 := Nat.mul_le_mul_right sz hc
  rw [Nat.succ_mul] at h1
  have hfit : i * sz + sz ≤ L.length := by omega
  exact ⟨_, hw L hb hfit, by rw [splv_len (by rw [hf]; exact hfit)]; exact hl, by simpa using hc, by rw [List.length_set]; exact splv_fm hf hl.symm hc ht hi x⟩
end
theorem splv2 {L : List Value} {o : Nat} {a b : Value} (h : o + 2 ≤ L.length) : (L.set o a).set (o + 1) b = splv L o [a, b] := by
  refine List.ext_getElem? fun k => ?_
  rw [splv_get (by simpa using h)]
  simp only [List.getElem?_set, List.length_cons, List.length_nil, List.length_set]
  rcases (show k = o ∨ k = o + 1 ∨ ¬ (o ≤ k ∧ k < o + 2) by omega) with rfl | rfl | hk
  · rw [if_neg (by omega), if_pos rfl, if_pos (by omega), if_pos (by omega)]; simp
  · rw [if_pos rfl, if_pos (by omega), if_pos (by omega)]; simp
  · rw [if_neg (by omega), if_neg (by omega), if_neg (by omega)]
theorem splv3 {L : List Value} {o : Nat} {a b d : Value} (h : o + 3 ≤ L.length) : ((L.set o a).set (o + 1) b).set (o + 2) d = splv L o [a, b, d] := by
  refine List.ext_getElem? fun k => ?_
  rw [splv_get (by simpa using h)]
  simp only [List.getElem?_set, List.length_cons, List.length_nil, List.length_set]
  rcases (show k = o ∨ k = o + 1 ∨ k = o + 2 ∨ ¬ (o ≤ k ∧ k < o + 3) by omega) with rfl | rfl | rfl | hk
  · rw [if_neg (by omega), if_neg (by omega), if_pos rfl, if_pos (by omega), if_pos (by omega)]; simp
  · rw [if_neg (by omega), if_pos rfl, if_pos (by omega), if_pos (by omega)]; simp
  · rw [if_pos rfl, if_pos (by omega), if_pos (by omega)]; simp
  · rw [if_neg (by omega), if_neg (by omega), if_neg (by omega), if_neg (by omega)]
section
variable {α : Type} {f : α → List Value} {w : World} {rb c i : Nat} {t : TypeId} {l : List α}
theorem RowG.set2 (hf : ∀ x, (f x).length = 2) (h : RowG w rb c 2 t f l) (hi : i < l.length) {x : α} {a b : Value} (hx : f x = [a, b]) : RowG ((w.setCell ⟨rb, i * 2, none⟩ a).setCell ⟨rb, i * 2 + 1, none⟩ b) rb c 2 t f (l.set i x) :=
  h.set_ hf hi x fun L hb hfit => by
    rw [hx, ← splv2 hfit]
    have := (hb.set (i * 2) a).set (i * 2 + 1) b
    simpa only [List.setIfInBounds_toArray] using this
theorem RowG.set3 (hf : ∀ x, (f x).length = 3) (h : RowG w rb c 3 t f l) (hi : i < l.length) {x : α} {a b d : Value} (hx : f x = [a, b, d]) : RowG (((w.setCell ⟨rb, i * 3, none⟩ a).setCell ⟨rb, i * 3 + 1, none⟩ b).setCell ⟨rb, i * 3 + 2, none⟩ d) rb c 3 t f (l.set i x) :=
  h.set_ hf hi x fun L hb hfit => by
    rw [hx, ← splv3 hfit]
    have := ((hb.set (i * 3) a).set (i * 3 + 1) b).set (i * 3 + 2) d
    simpa only [List.setIfInBounds_toArray] using this
/-- From an owned row, and back. -/
theorem RowG.of_own {sz : Nat} {w : World} {B n : Nat} {v : Value} {l : List α} (h : w.ownsRow B t sz v n (l.flatMap f)) (hn : n = l.length) (h0 : 0 < n) : ∃ rb c, v = .slice (some ⟨rb, 0, none⟩) n c ∧ B ≤ rb ∧ n ≤ c ∧ c ≤ maxLen ∧ v.ownBlock = some rb ∧ RowG w rb c sz t f l := by
  rcases own_open h with ⟨_, hn, _⟩ | ⟨rb, c, L, rfl, hB, hb, hnc, hcm, hl, ht⟩
  · omega
  · subst hn
    exact ⟨rb, c, rfl, hB, hnc, hcm, by simp [Value.ownBlock], ⟨L, hb, hl, hnc, ht⟩⟩
theorem RowG.own {sz : Nat} {w : World} {B rb c : Nat} {l : List α} (h : RowG w rb c sz t f l) (hB : B ≤ rb) (hcm : c ≤ maxLen) : w.ownsRow B t sz (.slice (some ⟨rb, 0, none⟩) l.length c) l.length (l.flatMap f) := by
  obtain ⟨L, hb, hl, hc, ht⟩ := h
  exact own_shut hB hb hc hcm hl ht
end
end Go.Proofs.Ytdcpmfodkggpeaa
