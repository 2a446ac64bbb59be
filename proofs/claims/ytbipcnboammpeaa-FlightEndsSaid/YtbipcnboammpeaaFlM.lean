/- Pieces under way as nine cells; what becomes of them. No program. -/
import Derived.Test.YtbipcnboammpeaaPairZ
import Derived.Test.YtbipcnboammpeaaSer
namespace Go.Proofs.Ytbipcnboammpeaa
open Go.RowKit
set_option linter.unusedVariables false
structure Chk where
  fr : Nat
  len : Int
  fin : Bool
  flow : Int
  en : Int
  sent : Int
  tries : Int
  came : Bool
  lost : Bool
def Chk.cells (c : Chk) : Array Value := #[.int .u64 (c.fr : Nat), .int .i64 c.len, .bool c.fin, .int .i64 c.flow, .int .u32 c.en, .int .i64 c.sent, .int .i64 c.tries, .bool c.came, .bool c.lost]
def Chk.el (c : Chk) : List Value := c.cells.toList
theorem chk_len (c : Chk) : c.el.length = 9 := rfl
theorem chk_one (c : Chk) : ∀ u ∈ c.cells.toList, u.oneCell' = true := by
  intro u hu
  simp only [Chk.cells, List.mem_cons, List.not_mem_nil, or_false] at hu
  rcases hu with rfl | rfl | rfl | rfl | rfl | rfl | rfl | rfl | rfl <;> rfl
def chs (l : List Chk) : List Value := l.flatMap Chk.el
theorem chs_append (l m : List Chk) : chs (l ++ m) = chs l ++ chs m := by simp [chs]
theorem chs_snoc (l : List Chk) (c : Chk) : chs (l ++ [c]) = chs l ++ c.cells.toList := by simp [chs, Chk.el]
theorem chs_len (l : List Chk) : (chs l).length = l.length * 9 := fm_len chk_len l
theorem chs_one (l : List Chk) : ∀ v ∈ chs l, v.oneCell' = true := by
  intro v hv
  simp only [chs, List.mem_flatMap] at hv
  obtain ⟨c, _, hv⟩ := hv
  exact chk_one c v hv
theorem chs_split {l : List Chk} {k : Nat} {c : Chk} (h : l[k]? = some c) : l = l.take k ++ c :: l.drop (k + 1) := by
  obtain ⟨hl, hx⟩ := List.getElem?_eq_some_iff.1 h
  rw [← hx, List.getElem_cons_drop hl, List.take_append_drop]
/-- A piece of a row, cell by cell. -/
theorem Rd.chk {w : World} {B n : Nat} {A : Option Addr} {l : List Chk} (h : Rd w B 9 A n (chs l)) {i : Nat} (hi : i < n) :
    ∃ (b off : Nat) (c : Chk), A = some ⟨b, off, none⟩ ∧ b < B ∧ Hid (∀ j v, c.el[j]? = some v → w.cell? ⟨b, off + i * 9 + j, none⟩ = some v) ∧ Hid (l[i]? = some c) := by
  obtain ⟨b, off, e, hb, hc⟩ := h.2 (by omega)
  have hl : l.length = n := by have := h.1; rw [chs_len] at this; omega
  have hg : l[i]? = some l[i] := by rw [List.getElem?_eq_getElem (by omega)]
  refine ⟨b, off, l[i], e, hb, Lib.hid fun j v hv => ?_, Lib.hid hg⟩
  have hj : j < 9 := by have := (List.getElem?_eq_some_iff.1 hv).1; rw [chk_len] at this; exact this
  rw [Nat.add_assoc, hc (i * 9 + j) (by omega)]
  exact (fm_get chk_len hg hj).trans hv
theorem Rd.chkLen {w : World} {B n : Nat} {A : Option Addr} {l : List Chk} (h : Rd w B 9 A n (chs l)) : l.length = n := by have := h.1; rw [chs_len] at this; omega
/-- The nine cells behind an address. -/
theorem ck9 {w : World} {b o : Nat} {c : Chk} (h : ∀ j v, c.el[j]? = some v → w.cell? ⟨b, o + j, none⟩ = some v) :
    w.cell? ⟨b, o, none⟩ = some (.int .u64 (c.fr : Nat)) ∧ w.cell? ⟨b, o + 1, none⟩ = some (.int .i64 c.len) ∧ w.cell? ⟨b, o + 2, none⟩ = some (.bool c.fin) ∧ w.cell? ⟨b, o + 3, none⟩ = some (.int .i64 c.flow) ∧ w.cell? ⟨b, o + 4, none⟩ = some (.int .u32 c.en) ∧ w.cell? ⟨b, o + 5, none⟩ = some (.int .i64 c.sent) ∧ w.cell? ⟨b, o + 6, none⟩ = some (.int .i64 c.tries) ∧ w.cell? ⟨b, o + 7, none⟩ = some (.bool c.came) ∧ w.cell? ⟨b, o + 8, none⟩ = some (.bool c.lost) :=
  ⟨h 0 _ rfl, h 1 _ rfl, h 2 _ rfl, h 3 _ rfl, h 4 _ rfl, h 5 _ rfl, h 6 _ rfl, h 7 _ rfl, h 8 _ rfl⟩
/-- The nine cells of a block. -/
theorem ckb {w : World} {g : Nat} {t : TypeId} {c : Chk} (h : Blk w g t c.cells) :
    w.cell? ⟨g, 0, none⟩ = some (.int .u64 (c.fr : Nat)) ∧ w.cell? ⟨g, 1, none⟩ = some (.int .i64 c.len) ∧ w.cell? ⟨g, 2, none⟩ = some (.bool c.fin) ∧ w.cell? ⟨g, 3, none⟩ = some (.int .i64 c.flow) ∧ w.cell? ⟨g, 4, none⟩ = some (.int .u32 c.en) ∧ w.cell? ⟨g, 5, none⟩ = some (.int .i64 c.sent) ∧ w.cell? ⟨g, 6, none⟩ = some (.int .i64 c.tries) ∧ w.cell? ⟨g, 7, none⟩ = some (.bool c.came) ∧ w.cell? ⟨g, 8, none⟩ = some (.bool c.lost) :=
  ⟨(h.cell 0).trans rfl, (h.cell 1).trans rfl, (h.cell 2).trans rfl, (h.cell 3).trans rfl, (h.cell 4).trans rfl, (h.cell 5).trans rfl, (h.cell 6).trans rfl, (h.cell 7).trans rfl, (h.cell 8).trans rfl⟩
/-- What a piece may be. -/
structure Chk.ok (c : Chk) : Prop where
  fr : c.fr < 18446744073709551616
  len : -9223372036854775808 ≤ c.len ∧ c.len < 9223372036854775808
  flow : -9223372036854775808 ≤ c.flow ∧ c.flow < 9223372036854775808
  en : U32 c.en
  sent : 0 ≤ c.sent ∧ c.sent < 2147483648
  tries : 0 ≤ c.tries ∧ c.tries ≤ 4096
/-- The number behind a piece. -/
def toN (c : Chk) : Nat := (c.fr + c.len.toNat + (if c.fin then 1 else 0)) % 18446744073709551616
theorem toN_lt (c : Chk) : toN c < 18446744073709551616 := Nat.mod_lt _ (by omega)
/-- Of a row those that are asked for, turned. -/
def mkA (f : Chk → Bool) (g : Chk → Chk) (l : List Chk) : List Chk := l.map fun c => if f c then g c else c
def mkO (f : Chk → Bool) (g : Chk → Chk) (l : List Chk) : List Chk := (l.filter f).map g
section
variable {f : Chk → Bool} {g : Chk → Chk} {l : List Chk} {k : Nat} {c : Chk}
theorem mkA_len : (mkA f g l).length = l.length := by simp [mkA]
theorem mkO_le : (mkO f g l).length ≤ l.length := by simp [mkO, List.length_filter_le]
theorem mkA_yes (h : l[k]? = some c) (hf : f c = true) : mkA f g (l.take (k + 1)) = mkA f g (l.take k) ++ [g c] := by rw [tkSnoc h]; simp [mkA, hf]
theorem mkA_no (h : l[k]? = some c) (hf : f c = false) : mkA f g (l.take (k + 1)) = mkA f g (l.take k) ++ [c] := by rw [tkSnoc h]; simp [mkA, hf]
theorem mkO_yes (h : l[k]? = some c) (hf : f c = true) : mkO f g (l.take (k + 1)) = mkO f g (l.take k) ++ [g c] := by rw [tkSnoc h]; simp [mkO, hf]
theorem mkO_no (h : l[k]? = some c) (hf : f c = false) : mkO f g (l.take (k + 1)) = mkO f g (l.take k) := by rw [tkSnoc h]; simp [mkO, hf]
/-- In the midst of the turning. -/
def mkM (f : Chk → Bool) (g : Chk → Chk) (l : List Chk) (k : Nat) : List Chk := mkA f g (l.take k) ++ l.drop k
theorem mkM_zero : mkM f g l 0 = l := by simp [mkM, mkA]
theorem mkM_all (hk : l.length ≤ k) : mkM f g l k = mkA f g l := by unfold mkM; rw [List.take_of_length_le hk, List.drop_of_length_le hk, List.append_nil]
theorem mkM_len : (mkM f g l k).length = l.length := by simp [mkM, mkA_len]; omega
theorem mkM_get (h : l[k]? = some c) : (mkM f g l k)[k]? = some c := by
  have hl := (List.getElem?_eq_some_iff.1 h).1
  unfold mkM
  rw [List.getElem?_append_right (by rw [mkA_len, List.length_take]; exact Nat.min_le_left _ _), mkA_len, List.length_take, Nat.min_eq_left (by omega), Nat.sub_self, List.getElem?_drop]
  exact h
theorem mkM_no (h : l[k]? = some c) (hf : f c = false) : mkM f g l (k + 1) = mkM f g l k := by
  unfold mkM
  rw [mkA_no h hf, nth_drop (Lib.hid h), List.append_assoc]
  rfl
theorem mkM_yes (h : l[k]? = some c) (hf : f c = true) : mkM f g l (k + 1) = (mkM f g l k).set k (g c) := by
  have hl := (List.getElem?_eq_some_iff.1 h).1
  unfold mkM
  rw [mkA_yes h hf, nth_drop (Lib.hid h), List.append_assoc, List.set_append_right _ _ (by rw [mkA_len, List.length_take]; exact Nat.min_le_left _ _), mkA_len, List.length_take, Nat.min_eq_left (by omega), Nat.sub_self]
  rfl
end
def wasCame (c : Chk) : Chk := { c with came := true }
def wasLost (c : Chk) : Chk := { c with lost := true }
/-- Those that a word, lateness, a path's end turns. -/
def fWord (flow ack : Int) (c : Chk) : Bool := decide (c.flow = flow) && !c.lost && (decide (0 < c.len) && !c.came && decide (0 ≤ sd ack c.en))
def fLate (flow now wait : Int) (c : Chk) : Bool := decide (c.flow = flow) && !c.lost && (!c.came && decide (wait ≤ now - c.sent))
def fGone (flow : Int) (c : Chk) : Bool := decide (c.flow = flow) && !c.lost && true
/-- A piece that was sent once more. -/
def again1 (x c : Chk) : Chk := { c with flow := x.flow, en := x.en, sent := x.sent, tries := min c.tries 4095 + 1, came := false, lost := false }
def isThat (fr : Nat) (fin : Bool) (c : Chk) : Bool := decide (c.fr = fr) && (c.fin == fin)
/-- The row behind it, whether there is such a one. -/
def reS (fr : Nat) (fin : Bool) (x : Chk) : List Chk → List Chk × Bool
  | [] => ([], false)
  | c :: l => if isThat fr fin c then (again1 x c :: l, true) else (c :: (reS fr fin x l).1, (reS fr fin x l).2)
theorem reS_len (fr : Nat) (fin : Bool) (x : Chk) (l : List Chk) : (reS fr fin x l).1.length = l.length := by
  induction l with
  | nil => rfl
  | cons c l ih => unfold reS; split <;> simp [ih]
theorem reS_hit {fr : Nat} {fin : Bool} {x : Chk} {l : List Chk} {k : Nat} {c : Chk} (h : l[k]? = some c) (hc : isThat fr fin c = true) (ha : ∀ d ∈ l.take k, isThat fr fin d = false) : reS fr fin x l = (l.set k (again1 x c), true) := by
  induction l generalizing k with
  | nil => simp at h
  | cons d l ih =>
    cases k with
    | zero => simp at h; subst h; unfold reS; rw [if_pos hc]; rfl
    | succ k =>
      have hd := ha d (by simp)
      have := ih (k := k) (by simpa using h) (fun e he => ha e (by simp [he]))
      unfold reS
      rw [this]
      simp [hd]
theorem reS_miss {fr : Nat} {fin : Bool} {x : Chk} {l : List Chk} (ha : ∀ d ∈ l, isThat fr fin d = false) : reS fr fin x l = (l, false) := by
  induction l with
  | nil => rfl
  | cons d l ih =>
    have hd := ha d (by simp)
    unfold reS
    rw [ih fun e he => ha e (by simp [he])]
    simp [hd]
/-- As one goes along the row. -/
theorem reS_take {fr : Nat} {fin : Bool} {x : Chk} {l : List Chk} {k : Nat} {c : Chk} (h : l[k]? = some c) :
    reS fr fin x (l.take (k + 1)) = if (reS fr fin x (l.take k)).2 = false ∧ isThat fr fin c = true then ((reS fr fin x (l.take k)).1 ++ [again1 x c], true) else ((reS fr fin x (l.take k)).1 ++ [c], (reS fr fin x (l.take k)).2) := by
  rw [tkSnoc h]
  clear h
  generalize l.take k = m
  induction m with
  | nil => unfold reS; unfold reS; simp only [List.nil_append, true_and]
  | cons d m ih =>
    rw [List.cons_append]
    unfold reS
    by_cases hd : isThat fr fin d = true
    · simp [hd]
    · have hd' : isThat fr fin d = false := by simpa using hd
      simp only [hd', Bool.false_eq_true, if_false]
      rw [ih]
      split <;> simp
/-- What is left, what is gone. -/
def akK (to : Nat) (l : List Chk) : List Chk := l.filter fun c => decide (to < toN c)
def akG (to : Nat) (l : List Chk) : List Chk := l.filter fun c => !decide (to < toN c)
section
variable {to : Nat} {l : List Chk} {k : Nat} {c : Chk}
theorem akK_le : (akK to l).length ≤ l.length := by simp [akK, List.length_filter_le]
theorem akG_le : (akG to l).length ≤ l.length := by simp [akG, List.length_filter_le]
theorem akK_yes (h : l[k]? = some c) (hf : to < toN c) : akK to (l.take (k + 1)) = akK to (l.take k) ++ [c] := by rw [tkSnoc h]; simp [akK, hf]
theorem akK_no (h : l[k]? = some c) (hf : ¬ to < toN c) : akK to (l.take (k + 1)) = akK to (l.take k) := by rw [tkSnoc h]; simp [akK, hf]
theorem akG_yes (h : l[k]? = some c) (hf : to < toN c) : akG to (l.take (k + 1)) = akG to (l.take k) := by rw [tkSnoc h]; simp [akG, hf]
theorem akG_no (h : l[k]? = some c) (hf : ¬ to < toN c) : akG to (l.take (k + 1)) = akG to (l.take k) ++ [c] := by rw [tkSnoc h]; simp [akG, hf]
end
/-- What may be stays so. -/
theorem ok_mkA {f : Chk → Bool} {g : Chk → Chk} {l : List Chk} (h : ∀ c ∈ l, c.ok) (hg : ∀ c : Chk, c.ok → (g c).ok) : ∀ c ∈ mkA f g l, c.ok := by
  intro c hc
  simp only [mkA, List.mem_map] at hc
  obtain ⟨d, hd, rfl⟩ := hc
  split
  · exact hg d (h d hd)
  · exact h d hd
theorem ok_came {c : Chk} (h : c.ok) : (wasCame c).ok := ⟨h.fr, h.len, h.flow, h.en, h.sent, h.tries⟩
theorem ok_lost {c : Chk} (h : c.ok) : (wasLost c).ok := ⟨h.fr, h.len, h.flow, h.en, h.sent, h.tries⟩
theorem ok_again {x c : Chk} (h : c.ok) (hx : x.ok) : (again1 x c).ok := ⟨h.fr, h.len, hx.flow, hx.en, hx.sent, by have := h.tries; unfold again1; dsimp only; omega⟩
theorem ok_akK {to : Nat} {l : List Chk} (h : ∀ c ∈ l, c.ok) : ∀ c ∈ akK to l, c.ok := fun c hc => h c (List.mem_filter.1 hc).1
theorem ok_reS {fr : Nat} {fin : Bool} {x : Chk} {l : List Chk} (h : ∀ c ∈ l, c.ok) (hx : x.ok) : ∀ c ∈ (reS fr fin x l).1, c.ok := by
  induction l with
  | nil => intro c hc; cases hc
  | cons d l ih =>
    intro c hc
    unfold reS at hc
    split at hc
    · simp only [List.mem_cons] at hc
      rcases hc with rfl | hc
      · exact ok_again (h d (by simp)) hx
      · exact h c (by simp [hc])
    · simp only [List.mem_cons] at hc
      rcases hc with rfl | hc
      · exact h _ (by simp)
      · exact ih (fun e he => h e (by simp [he])) c hc
/-- The first that is asked for; none. -/
def fndC (p : Chk → Bool) : List Chk → Option Chk
  | [] => none
  | c :: l => if p c then some c else fndC p l
def nilC : Chk := ⟨0, 0, false, 0, 0, 0, 0, false, false⟩
theorem fndC_hit {p : Chk → Bool} {l : List Chk} {k : Nat} {c : Chk} (h : l[k]? = some c) (hc : p c = true) (ha : ∀ d ∈ l.take k, p d = false) : fndC p l = some c := by
  induction l generalizing k with
  | nil => simp at h
  | cons d l ih =>
    cases k with
    | zero => simp at h; subst h; unfold fndC; rw [if_pos hc]
    | succ k =>
      unfold fndC
      rw [ha d (by simp)]
      exact ih (k := k) (by simpa using h) (fun e he => ha e (by simp [he]))
theorem fndC_miss {p : Chk → Bool} {l : List Chk} (ha : ∀ d ∈ l, p d = false) : fndC p l = none := by
  induction l with
  | nil => rfl
  | cons d l ih =>
    unfold fndC
    rw [ha d (by simp)]
    exact ih fun e he => ha e (by simp [he])
theorem take_all {p : Chk → Bool} {l : List Chk} {k : Nat} {c : Chk} (h : l[k]? = some c) (hc : p c = false) (ha : ∀ d ∈ l.take k, p d = false) : ∀ d ∈ l.take (k + 1), p d = false := by
  intro d hd
  rw [tkSnoc h] at hd
  simp only [List.mem_append, List.mem_singleton] at hd
  rcases hd with hd | rfl
  · exact ha d hd
  · exact hc
end Go.Proofs.Ytbipcnboammpeaa
