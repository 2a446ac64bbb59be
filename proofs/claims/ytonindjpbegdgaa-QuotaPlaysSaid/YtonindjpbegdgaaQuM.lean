/- Owners and what each has: mathematics; a map of whole numbers. -/
import Derived.Test.YtonindjpbegdgaaPairZ
import Derived.Test.YtonindjpbegdgaaBlkS
import Derived.Test.YtonindjpbegdgaaTou
import Derived.Test.YtonindjpbegdgaaRows
import Derived.Maps.Own
import Derived.Maps.OwnOps
import Derived.Maps.OwnSet
import Derived.Maps.Views
namespace Go.Proofs.Ytonindjpbegdgaa
open Go.RowKit Go.Maps
set_option linter.unusedVariables false
set_option linter.unusedSimpArgs false
abbrev Ql := List (Int × Nat)
def ofQ : Ql → Int → Nat
  | [], _ => 0
  | p :: L, id => if p.1 = id then p.2 else ofQ L id
def usedQ (L : Ql) : Nat := (L.map (·.2)).sum
def rmQ (L : Ql) (id : Int) : Ql := L.filter fun p => decide (p.1 ≠ id)
def setQ (L : Ql) (id : Int) (n : Nat) : Ql := rmQ L id ++ (if 0 < n then [(id, n)] else [])
structure QD (L : Ql) : Prop where
  nd : (L.map (·.1)).Nodup
  pos : ∀ p ∈ L, 0 < p.2
theorem QD.nil : QD [] := ⟨List.nodup_nil, fun p h => by cases h⟩
theorem QD.tail {p : Int × Nat} {L : Ql} (h : QD (p :: L)) : QD L := ⟨(List.nodup_cons.1 h.nd).2, fun q hq => h.pos q (by simp [hq])⟩
theorem ofQ_not {L : Ql} {id : Int} (h : ∀ p ∈ L, p.1 ≠ id) : ofQ L id = 0 := by
  induction L with
  | nil => rfl
  | cons p L ih => rw [ofQ, if_neg (h p (by simp)), ih fun q hq => h q (by simp [hq])]
theorem rmQ_not {L : Ql} {id : Int} (h : ∀ p ∈ L, p.1 ≠ id) : rmQ L id = L := by
  unfold rmQ
  rw [List.filter_eq_self]
  intro p hp
  simpa using h p hp
theorem QD.head {p : Int × Nat} {L : Ql} (h : QD (p :: L)) : ∀ q ∈ L, q.1 ≠ p.1 := by
  intro q hq e
  exact (List.nodup_cons.1 h.nd).1 (by show p.1 ∈ _; rw [← e]; exact List.mem_map_of_mem hq)
theorem rmQ_cons_same {p : Int × Nat} {L : Ql} (h : QD (p :: L)) : rmQ (p :: L) p.1 = L := by
  have := rmQ_not h.head
  unfold rmQ at *
  rw [List.filter_cons, if_neg (by simp), this]
theorem rmQ_cons_ne {p : Int × Nat} {L : Ql} {id : Int} (h : p.1 ≠ id) : rmQ (p :: L) id = p :: rmQ L id := by
  unfold rmQ
  rw [List.filter_cons, if_pos (by simpa using h)]
theorem ofQ_append (L M : Ql) (id : Int) : ofQ (L ++ M) id = if ∃ p ∈ L, p.1 = id then ofQ L id else ofQ M id := by
  induction L with
  | nil => simp
  | cons p L ih =>
    rw [List.cons_append, ofQ, ofQ]
    by_cases e : p.1 = id
    · rw [if_pos e, if_pos ⟨p, by simp, e⟩, if_pos e]
    · rw [if_neg e, if_neg e, ih]
      by_cases h : ∃ q ∈ L, q.1 = id
      · obtain ⟨q, hq, he⟩ := h
        rw [if_pos ⟨q, hq, he⟩, if_pos ⟨q, by simp [hq], he⟩]
      · rw [if_neg h, if_neg]
        rintro ⟨q, hq, he⟩
        rcases List.mem_cons.1 hq with rfl | hq
        · exact e he
        · exact h ⟨q, hq, he⟩
theorem rmQ_mem {L : Ql} {id : Int} {p : Int × Nat} (h : p ∈ rmQ L id) : p ∈ L ∧ p.1 ≠ id := by
  unfold rmQ at h
  simpa using h
theorem ofQ_rmQ (L : Ql) (id k : Int) : ofQ (rmQ L id) k = if k = id then 0 else ofQ L k := by
  induction L with
  | nil => simp [rmQ, ofQ]
  | cons p L ih =>
    by_cases e : p.1 = id
    · have : rmQ (p :: L) id = rmQ L id := by unfold rmQ; rw [List.filter_cons, if_neg (by simp [e])]
      rw [this, ih]
      by_cases h : k = id
      · rw [if_pos h, if_pos h]
      · rw [if_neg h, if_neg h, ofQ, if_neg (fun e2 => h (by rw [← e2, e]))]
    · rw [rmQ_cons_ne e, ofQ, ofQ, ih]
      by_cases h : k = id
      · subst h; rw [if_neg e, if_pos rfl, if_pos rfl]
      · rw [if_neg h, if_neg h]
theorem ofQ_setQ (L : Ql) (id k : Int) (n : Nat) : ofQ (setQ L id n) k = if k = id then n else ofQ L k := by
  unfold setQ
  rw [ofQ_append]
  by_cases h : k = id
  · subst h
    rw [if_neg (by rintro ⟨p, hp, e⟩; exact (rmQ_mem hp).2 e), if_pos rfl]
    by_cases hn : 0 < n
    · rw [if_pos hn]; simp [ofQ]
    · rw [if_neg hn]; simp [ofQ]; omega
  · rw [if_neg h]
    split
    · rw [ofQ_rmQ, if_neg h]
    · rename_i hne
      have h0 : ofQ L k = 0 := ofQ_not fun p hp e => hne ⟨p, by unfold rmQ; simp; exact ⟨hp, by rw [e]; exact h⟩, e⟩
      rw [h0]
      by_cases hn : 0 < n
      · rw [if_pos hn]; simp [ofQ]; intro e; exact absurd e.symm h
      · rw [if_neg hn]; rfl
theorem usedQ_cons (p : Int × Nat) (L : Ql) : usedQ (p :: L) = p.2 + usedQ L := by simp [usedQ]
theorem usedQ_append (L M : Ql) : usedQ (L ++ M) = usedQ L + usedQ M := by simp [usedQ]
theorem usedQ_rmQ {L : Ql} (h : QD L) (id : Int) : usedQ (rmQ L id) + ofQ L id = usedQ L := by
  induction L with
  | nil => rfl
  | cons p L ih =>
    by_cases e : p.1 = id
    · subst e; rw [rmQ_cons_same h, ofQ, if_pos rfl, usedQ_cons]; omega
    · rw [rmQ_cons_ne e, ofQ, if_neg e, usedQ_cons, usedQ_cons]; have := ih h.tail; omega
theorem usedQ_setQ {L : Ql} (h : QD L) (id : Int) (n : Nat) : usedQ (setQ L id n) + ofQ L id = usedQ L + n := by
  have := usedQ_rmQ h id
  unfold setQ
  rw [usedQ_append]
  by_cases hn : 0 < n
  · rw [if_pos hn]
    have e : usedQ [(id, n)] = n := by simp [usedQ]
    omega
  · rw [if_neg hn]
    have e : usedQ [] = 0 := rfl
    omega
theorem ofQ_le {L : Ql} (id : Int) : ofQ L id ≤ usedQ L := by
  induction L with
  | nil => exact Nat.le_refl _
  | cons p L ih => rw [ofQ, usedQ_cons]; split <;> omega
theorem QD.rm {L : Ql} (h : QD L) (id : Int) : QD (rmQ L id) :=
  ⟨(List.Sublist.map _ (List.filter_sublist)).nodup h.nd, fun p hp => h.pos p (rmQ_mem hp).1⟩
theorem QD.set {L : Ql} (h : QD L) (id : Int) (n : Nat) : QD (setQ L id n) := by
  unfold setQ
  by_cases hn : 0 < n
  · rw [if_pos hn]
    refine ⟨?_, fun p hp => ?_⟩
    · rw [List.map_append, List.nodup_append]
      refine ⟨(h.rm id).nd, by simp, fun a ha b hb => ?_⟩
      obtain ⟨p, hp, rfl⟩ := List.mem_map.1 ha
      simp at hb
      subst hb
      exact (rmQ_mem hp).2
    · rcases List.mem_append.1 hp with hp | hp
      · exact (h.rm id).pos p hp
      · simp at hp; subst hp; exact hn
  · rw [if_neg hn, List.append_nil]
    exact h.rm id
theorem ofQ_pos {L : Ql} (h : QD L) {id : Int} : 0 < ofQ L id ↔ ∃ p ∈ L, p.1 = id := by
  constructor
  · intro hp
    apply Classical.byContradiction
    intro hne
    rw [ofQ_not fun p hq e => hne ⟨p, hq, e⟩] at hp
    omega
  · rintro ⟨p, hp, rfl⟩
    induction L with
    | nil => cases hp
    | cons q L ih =>
      rw [ofQ]
      split
      · exact h.pos q (by simp)
      · rename_i e
        rcases List.mem_cons.1 hp with rfl | hp
        · exact absurd rfl e
        · exact ih h.tail hp
theorem len_rmQ {L : Ql} (h : QD L) (id : Int) : (rmQ L id).length + (if 0 < ofQ L id then 1 else 0) = L.length := by
  induction L with
  | nil => rfl
  | cons p L ih =>
    by_cases e : p.1 = id
    · subst e; rw [rmQ_cons_same h, ofQ, if_pos rfl, if_pos (h.pos p (by simp))]; rfl
    · rw [rmQ_cons_ne e, ofQ, if_neg e, List.length_cons, List.length_cons]; have := ih h.tail; omega
theorem len_setQ {L : Ql} (h : QD L) (id : Int) (n : Nat) : (setQ L id n).length + (if 0 < ofQ L id then 1 else 0) = L.length + (if 0 < n then 1 else 0) := by
  have := len_rmQ h id
  unfold setQ
  rw [List.length_append]
  by_cases hn : 0 < n
  · rw [if_pos hn, if_pos hn, List.length_singleton]; omega
  · rw [if_neg hn, if_neg hn, List.length_nil]; omega
/-- Is this an int? -/
def I64 (x : Int) : Prop := -9223372036854775808 ≤ x ∧ x < 9223372036854775808
theorem I64.wf {x : Int} (h : I64 x) : (Lit.int .i64 x).wf = true := WalkArith.wf_i64 ⟨h.1, by have := h.2; omega⟩
/-- A map of whole numbers: what each has; how many there are. -/
def inE (v : Value) : Option (DataW Unit × List MemPlace) :=
  match v with
  | .int .i64 t => some (.lit (.int .i64 t), [])
  | _ => none
theorem inE_mk (t : Int) : inE (.int .i64 t) = some (.lit (.int .i64 t), []) := rfl
theorem inE_inv {v : Value} {t : Int} {ps : List MemPlace} (h : inE v = some (.lit (.int .i64 t), ps)) : v = .int .i64 t := by
  unfold inE at h
  split at h
  · simp only [Option.some.injEq, Prod.mk.injEq, DataW.lit.injEq, Lit.int.injEq, true_and] at h
    rw [h.1]
  · cases h
theorem lawI : Keyed Try.prog 3 := int_keyed Try.underlying3
theorem keyI {x : Int} (h : I64 x) : keyOf Try.prog 3 (.int .i64 x) = some (.int .i64 x) := keyOf_int_mk Try.underlying3 h.wf
theorem zeroI (w : World) : (zeroValue 3).run Try.prog w = .ok (.int .i64 0) w := by kernel_rfl
def MapQ (w : World) (b : Nat) (L : Ql) : Prop := ∃ D : DataW Unit, w.ownsMap Try.prog 3 inE b 10000 D ∧ Tidy D ∧ size D = L.length ∧ L.length ≤ 9000 ∧ QD L ∧
  ∀ id, I64 id → has D (.int .i64 id) = decide (0 < ofQ L id) ∧ (0 < ofQ L id → ∀ z, D.atKey (.int .i64 id) z = .lit (.int .i64 (ofQ L id : Nat)))
section
variable {w w' : World} {b : Nat} {L : Ql} {id : Int}
theorem MapQ.lt (h : MapQ w b L) : b < w.heap.size := by obtain ⟨D, h, _⟩ := h; exact h.lt
theorem MapQ.qd (h : MapQ w b L) : QD L := by obtain ⟨D, _, _, _, _, h, _⟩ := h; exact h
theorem MapQ.same (h : MapQ w b L) (hk : w'.heap[b]? = w.heap[b]?) : MapQ w' b L := by
  obtain ⟨D, ⟨es, cl, hb, h1⟩, h2⟩ := h
  exact ⟨D, ⟨es, cl, hk.trans hb, h1⟩, h2⟩
theorem MapQ.look (h : MapQ w b L) (hi : I64 id) : (Instr.lookup 48 (.map (some b)) (.int .i64 id) false).run Try.prog w = .ok (.int .i64 (ofQ L id : Nat)) w := by
  obtain ⟨D, ho, _, _, _, _, ha⟩ := h
  obtain ⟨h1, h2⟩ := ha id hi
  obtain ⟨v, ps, hrun, hv⟩ := ho.lookup lawI Try.underlying48 (zeroI w) (inE_mk 0) (keyI hi)
  rw [hrun]
  by_cases h0 : 0 < ofQ L id
  · rw [h2 h0] at hv
    rw [inE_inv hv]
  · rw [decide_eq_false h0] at h1
    rw [atKey_of_not_has h1] at hv
    rw [inE_inv hv, show ofQ L id = 0 by omega]
    rfl
theorem MapQ.len (h : MapQ w b L) (ty : TypeId) : (Builtin.len_ #[48] ty #[.map (some b)]).run Try.prog w = .ok (.int .i64 (L.length : Nat)) w := by
  obtain ⟨D, ho, _, hs, _⟩ := h
  rw [ho.len Try.underlying48 ty, hs]
theorem own_size {n : Nat} {D : DataW Unit} (h : w.ownsMap Try.prog 3 inE b n D) (hs : size D ≤ 10000) : w.ownsMap Try.prog 3 inE b 10000 D := by
  obtain ⟨es, cl, hb, F, _, hD⟩ := h
  refine ⟨es, cl, hb, F, ?_, hD⟩
  have : size D = es.size := by rw [hD, size_eq, length_read]
  omega
theorem MapQ.store (h : MapQ w b L) (hi : I64 id) (t : Nat) (ht0 : 0 < t) (hr : L.length < 8999) : ∃ w', (Instr.mapUpdate 48 (.map (some b)) (.int .i64 id) (.int .i64 (t : Nat))).run Try.prog w = .ok () w' ∧ MapQ w' b (setQ L id t) ∧ w.mapTurned w' b := by
  obtain ⟨D, ho, ht, hs, hl, hq, ha⟩ := h
  obtain ⟨w', hrun, h1, h2⟩ := ho.store lawI Try.underlying48 (by unfold maxLen; omega) (keyI hi) (inE_mk t)
  have hk := (lawI.key (keyI hi))
  have hsz := size_put (k := .int .i64 id) ht (.lit (.int .i64 (t : Int)))
  rw [(ha id hi).1, hs] at hsz
  have hln := len_setQ hq id t
  rw [if_pos ht0] at hln
  have hsz2 : size (D.put (.int .i64 id) (.lit (.int .i64 (t : Int)))) = (setQ L id t).length := by
    rw [hsz]
    by_cases h0 : 0 < ofQ L id
    · rw [if_pos h0] at hln; simp [h0]; omega
    · rw [if_neg h0] at hln; simp [h0]; omega
  refine ⟨w', hrun, ⟨_, own_size h1 (by rw [hsz2]; split at hln <;> omega), ht.put hk _, hsz2, by split at hln <;> omega, hq.set id t, fun id2 hi2 => ?_⟩, h2⟩
  rw [ofQ_setQ]
  by_cases e : id2 = id
  · subst e
    rw [if_pos rfl]
    refine ⟨by rw [has_put_same ht.isMap hk, decide_eq_true ht0], fun _ z => by rw [atKey_put_same ht.isMap hk]⟩
  · rw [if_neg e]
    have hne : (Lit.int .i64 id2) ≠ .int .i64 id := fun h => e (by injection h)
    refine ⟨(has_put_other hne _).trans (ha id2 hi2).1, fun h0 z => ?_⟩
    rw [atKey_put_other hne]
    exact (ha id2 hi2).2 h0 z
theorem MapQ.drop (h : MapQ w b L) (hi : I64 id) (ty : TypeId) : ∃ w', (Builtin.delete_ #[48, 3] ty #[.map (some b), .int .i64 id]).run Try.prog w = .ok (.tuple #[]) w' ∧ MapQ w' b (setQ L id 0) ∧ w.mapTurned w' b := by
  obtain ⟨D, ho, ht, hs, hl, hq, ha⟩ := h
  obtain ⟨w', hrun, h1, h2⟩ := ho.drop lawI Try.underlying48 (keyI hi) ty
  have hsz := size_del (k := .int .i64 id) ht
  rw [(ha id hi).1, hs] at hsz
  have hln := len_setQ hq id 0
  rw [if_neg (Nat.lt_irrefl 0)] at hln
  have hsz2 : size (D.del (.int .i64 id)) = (setQ L id 0).length := by
    by_cases h0 : 0 < ofQ L id
    · rw [if_pos h0] at hln; simp [h0] at hsz; omega
    · rw [if_neg h0] at hln; simp [h0] at hsz; omega
  refine ⟨w', hrun, ⟨_, h1, ht.del _, hsz2, by split at hln <;> omega, hq.set id 0, fun id2 hi2 => ?_⟩, h2⟩
  rw [ofQ_setQ]
  by_cases e : id2 = id
  · subst e
    rw [if_pos rfl]
    exact ⟨by rw [has_del_same]; rfl, fun h0 => absurd h0 (Nat.lt_irrefl 0)⟩
  · rw [if_neg e]
    have hne : (Lit.int .i64 id2) ≠ .int .i64 id := fun h => e (by injection h)
    refine ⟨(has_del_other hne).trans (ha id2 hi2).1, fun h0 z => ?_⟩
    rw [atKey_del_other hne]
    exact (ha id2 hi2).2 h0 z
end
theorem MapQ.made (w : World) : MapQ (w.alloc (.map #[] 0)) w.heap.size [] :=
  ⟨.map [], (World.ownsMap_made w _ _ _).mono (by omega), tidy_empty, rfl, by simp, QD.nil, fun id _ => ⟨rfl, fun h => absurd h (Nat.lt_irrefl 0)⟩⟩
end Go.Proofs.Ytonindjpbegdgaa
