/- Package wheel: its map of timers, by what is in it. -/
import Derived.Test.YtpeagibompohhaaBlkS
import Derived.Test.YtpeagibompohhaaRows
import Derived.Maps.Own
import Derived.Maps.OwnOps
import Derived.Maps.OwnSet
import Derived.Maps.Views
namespace Go.Proofs.Ytpeagibompohhaa
open Go.RowKit Go.Maps
set_option linter.unusedVariables false
set_option linter.unusedSimpArgs false
abbrev Fm := Int → Option (Nat × Nat)
def Fm.upd (f : Fm) (id : Int) (x : Option (Nat × Nat)) : Fm := fun k => if k = id then x else f k
/-- How a timer reads. -/
def tmE (v : Value) : Option (DataW Unit × List MemPlace) :=
  match v with
  | .agg cs => match cs.toList with
    | [.int .i64 t, .int .i64 a] => some (.agg [.lit (.int .i64 t), .lit (.int .i64 a)], [])
    | _ => none
  | _ => none
theorem tmE_mk (t a : Int) : tmE (.agg #[.int .i64 t, .int .i64 a]) = some (.agg [.lit (.int .i64 t), .lit (.int .i64 a)], []) := rfl
theorem tmE_inv {v : Value} {t a : Int} {ps : List MemPlace} (h : tmE v = some (.agg [.lit (.int .i64 t), .lit (.int .i64 a)], ps)) : v = .agg #[.int .i64 t, .int .i64 a] := by
  unfold tmE at h
  split at h
  · rename_i cs
    split at h
    · rename_i t' a' heq
      simp only [Option.some.injEq, Prod.mk.injEq, DataW.agg.injEq, List.cons.injEq, DataW.lit.injEq, Lit.int.injEq, true_and, and_true] at h
      obtain ⟨⟨rfl, rfl⟩, _⟩ := h
      have : cs = #[.int .i64 t', .int .i64 a'] := by rw [← Array.toList_inj, heq]
      rw [this]
    · cases h
  · cases h
def tmV (x : Option (Nat × Nat)) : Value := match x with | some (t, a) => .agg #[.int .i64 (t : Nat), .int .i64 (a : Nat)] | none => .agg #[.int .i64 0, .int .i64 0]
theorem lawI : Keyed Try.prog 3 := int_keyed Try.underlying3
/-- Is this an int? -/
def I64 (x : Int) : Prop := -9223372036854775808 ≤ x ∧ x ≤ 9223372036854775807
theorem I64.wf {x : Int} (h : I64 x) : (Lit.int .i64 x).wf = true := WalkArith.wf_i64 h
theorem keyI {x : Int} (h : I64 x) : keyOf Try.prog 3 (.int .i64 x) = some (.int .i64 x) := keyOf_int_mk Try.underlying3 h.wf
theorem zeroT (w : World) : (zeroValue 58).run Try.prog w = .ok (.agg #[.int .i64 0, .int .i64 0]) w := by kernel_rfl
/-- A map of timers: what each number has; how many there are. -/
def MapW (w : World) (b : Nat) (f : Fm) (sz : Nat) : Prop := ∃ D : DataW Unit, w.ownsMap Try.prog 3 tmE b 10000 D ∧ Tidy D ∧ size D = sz ∧ sz ≤ 9000 ∧
  ∀ id, I64 id → has D (.int .i64 id) = (f id).isSome ∧ ∀ t a, f id = some (t, a) → ∀ z, D.atKey (.int .i64 id) z = .agg [.lit (.int .i64 (t : Nat)), .lit (.int .i64 (a : Nat))]
section
variable {w w' : World} {b sz : Nat} {f : Fm} {id : Int}
theorem MapW.lt (h : MapW w b f sz) : b < w.heap.size := by obtain ⟨D, h, _⟩ := h; exact h.lt
theorem MapW.same (h : MapW w b f sz) (hk : w'.heap[b]? = w.heap[b]?) : MapW w' b f sz := by
  obtain ⟨D, ⟨es, cl, hb, h1⟩, h2⟩ := h
  exact ⟨D, ⟨es, cl, hk.trans hb, h1⟩, h2⟩
theorem MapW.at_ (h : MapW w b f sz) (hi : I64 id) : ∃ D : DataW Unit, w.ownsMap Try.prog 3 tmE b 10000 D ∧ has D (.int .i64 id) = (f id).isSome ∧ ∀ v ps, tmE v = some (D.atKey (.int .i64 id) (.agg [.lit (.int .i64 0), .lit (.int .i64 0)]), ps) → v = tmV (f id) := by
  obtain ⟨D, ho, _, _, _, ha⟩ := h
  obtain ⟨h1, h2⟩ := ha id hi
  refine ⟨D, ho, h1, fun v ps hv => ?_⟩
  cases hf : f id with
  | none =>
    rw [hf] at h1
    rw [atKey_of_not_has h1] at hv
    exact tmE_inv hv
  | some p =>
    obtain ⟨t, a⟩ := p
    rw [h2 t a hf] at hv
    exact tmE_inv hv
/-- m[id], and whether it is there. -/
theorem MapW.look_ok (h : MapW w b f sz) (hi : I64 id) : (Instr.lookup 50 (.map (some b)) (.int .i64 id) true).run Try.prog w = .ok (.tuple #[tmV (f id), .bool (f id).isSome]) w := by
  obtain ⟨D, ho, h1, h2⟩ := h.at_ hi
  obtain ⟨v, ps, hrun, hv⟩ := ho.look_ok lawI Try.underlying50 (zeroT w) (tmE_mk 0 0) (keyI hi)
  rw [hrun, h2 v ps hv, h1]
theorem MapW.look (h : MapW w b f sz) (hi : I64 id) : (Instr.lookup 50 (.map (some b)) (.int .i64 id) false).run Try.prog w = .ok (tmV (f id)) w := by
  obtain ⟨D, ho, h1, h2⟩ := h.at_ hi
  obtain ⟨v, ps, hrun, hv⟩ := ho.lookup lawI Try.underlying50 (zeroT w) (tmE_mk 0 0) (keyI hi)
  rw [hrun, h2 v ps hv]
theorem MapW.len (h : MapW w b f sz) (ty : TypeId) : (Builtin.len_ #[50] ty #[.map (some b)]).run Try.prog w = .ok (.int .i64 (sz : Nat)) w := by
  obtain ⟨D, ho, _, hs, _⟩ := h
  rw [ho.len Try.underlying50 ty, hs]
/-- How many entries there are, anew. -/
theorem own_size {n : Nat} {D : DataW Unit} (h : w.ownsMap Try.prog 3 tmE b n D) (hs : size D ≤ 10000) : w.ownsMap Try.prog 3 tmE b 10000 D := by
  obtain ⟨es, cl, hb, F, _, hD⟩ := h
  refine ⟨es, cl, hb, F, ?_, hD⟩
  have : size D = es.size := by rw [hD, size_eq, length_read]
  omega
theorem MapW.store (h : MapW w b f sz) (hi : I64 id) (t a : Nat) (hr : sz < 8999) : ∃ w', (Instr.mapUpdate 50 (.map (some b)) (.int .i64 id) (.agg #[.int .i64 (t : Nat), .int .i64 (a : Nat)])).run Try.prog w = .ok () w' ∧ MapW w' b (f.upd id (some (t, a))) (if (f id).isSome then sz else sz + 1) ∧ w.mapTurned w' b := by
  obtain ⟨D, ho, ht, hs, hl, ha⟩ := h
  obtain ⟨w', hrun, h1, h2⟩ := ho.store lawI Try.underlying50 (by unfold maxLen; omega) (keyI hi) (tmE_mk t a)
  have hk := (lawI.key (keyI hi))
  have hsz := size_put (k := .int .i64 id) ht (.agg [.lit (.int .i64 (t : Int)), .lit (.int .i64 (a : Int))])
  rw [(ha id hi).1, hs] at hsz
  refine ⟨w', hrun, ⟨_, own_size h1 (by rw [hsz]; split <;> omega), ht.put hk _, by rw [hsz], by split <;> omega, fun id2 hi2 => ?_⟩, h2⟩
  unfold Fm.upd
  by_cases e : id2 = id
  · subst e
    rw [if_pos rfl]
    refine ⟨has_put_same ht.isMap hk _, fun t' a' hf z => ?_⟩
    injection hf with hf
    injection hf with e1 e2
    rw [atKey_put_same ht.isMap hk, e1, e2]
  · rw [if_neg e]
    have hne : (Lit.int .i64 id2) ≠ .int .i64 id := fun h => e (by injection h)
    refine ⟨(has_put_other hne _).trans (ha id2 hi2).1, fun t' a' hf z => ?_⟩
    rw [atKey_put_other hne]
    exact (ha id2 hi2).2 t' a' hf z
theorem MapW.drop (h : MapW w b f sz) (hi : I64 id) (ty : TypeId) : ∃ w', (Builtin.delete_ #[50, 3] ty #[.map (some b), .int .i64 id]).run Try.prog w = .ok (.tuple #[]) w' ∧ MapW w' b (f.upd id none) (if (f id).isSome then sz - 1 else sz) ∧ w.mapTurned w' b := by
  obtain ⟨D, ho, ht, hs, hl, ha⟩ := h
  obtain ⟨w', hrun, h1, h2⟩ := ho.drop lawI Try.underlying50 (keyI hi) ty
  have hsz := size_del (k := .int .i64 id) ht
  rw [(ha id hi).1, hs] at hsz
  have hsz2 : size (D.del (.int .i64 id)) = if (f id).isSome then sz - 1 else sz := by split at hsz <;> simp_all <;> omega
  refine ⟨w', hrun, ⟨_, h1, ht.del _, hsz2, by split <;> omega, fun id2 hi2 => ?_⟩, h2⟩
  unfold Fm.upd
  by_cases e : id2 = id
  · subst e
    rw [if_pos rfl]
    exact ⟨has_del_same, fun t' a' hf z => by cases hf⟩
  · rw [if_neg e]
    have hne : (Lit.int .i64 id2) ≠ .int .i64 id := fun h => e (by injection h)
    refine ⟨(has_del_other hne).trans (ha id2 hi2).1, fun t' a' hf z => ?_⟩
    rw [atKey_del_other hne]
    exact (ha id2 hi2).2 t' a' hf z
end
theorem MapW.made (w : World) : MapW (w.alloc (.map #[] 0)) w.heap.size (fun _ => none) 0 :=
  ⟨.map [], (World.ownsMap_made w _ _ _).mono (by omega), tidy_empty, rfl, by omega, fun id _ => ⟨rfl, fun t a h => by cases h⟩⟩
end Go.Proofs.Ytpeagibompohhaa
