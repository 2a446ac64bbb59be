/- A row of paths in memory while it is sorted. -/
import Derived.Test.YtbimjacceocglaaStM
import Derived.Test.YtbimjacceocglaaStm
import Derived.Test.YtbimjacceocglaaRowG
import Derived.Test.YtbimjacceocglaaTou
import Derived.Test.YtbimjacceocglaaOwnNt
import Derived.Test.YtbimjacceocglaaOrd
import Derived.OwnWalk
import Derived.BigQuiet
import Derived.RegionTactic
import Derived.LoopTactic
import Derived.ChangeAlike
import Derived.Deep.Cut
import Derived.Test.YtbimjacceocglaaProg
namespace Go.Proofs.Ytbimjacceocglaa
open Go.RowKit Go.Sort
set_option linter.unusedVariables false
/-- A path: its number, whether it may be used, is used, is for need alone, avoided; the mean, how often it was asked for. -/
structure Plp where
  id : Int
  may : Bool
  us : Bool
  bk : Bool
  bd : Bool
  mean : Int
  tries : Int
deriving Inhabited
def Plp.cells (x : Plp) : Array Value := #[.int .i64 x.id, .bool x.may, .bool x.us, .bool x.bk, .bool x.bd, .int .i64 x.mean, .int .i64 x.tries]
def Plp.el (x : Plp) : List Value := x.cells.toList
theorem plp_len (x : Plp) : x.el.length = 7 := rfl
theorem plp_one (x : Plp) : ∀ u ∈ x.cells.toList, u.oneCell' = true := by
  intro u hu
  simp only [Plp.cells, List.mem_cons, List.not_mem_nil, or_false] at hu
  rcases hu with rfl | rfl | rfl | rfl | rfl | rfl | rfl <;> rfl
def plps (l : List Plp) : List Value := l.flatMap Plp.el
/-- Cells written from a place on, as a piece of a row. -/
theorem pl_setL_splv : ∀ (l : List Value) (L : List Value) (o : Nat), o + l.length ≤ L.length → setL L.toArray o l = (splv L o l).toArray
  | [], L, o, h => by
    unfold setL
    congr 1
    refine List.ext_getElem? fun k => ?_
    rw [splv_get h, if_neg (by simp)]
  | v :: r, L, o, h => by
    unfold setL
    rw [List.setIfInBounds_toArray, pl_setL_splv r (L.set o v) (o + 1) (by simp at h ⊢; omega)]
    congr 1
    refine List.ext_getElem? fun k => ?_
    rw [splv_get (by simp at h ⊢; omega), splv_get h, List.getElem?_set]
    simp only [List.length_cons] at h ⊢
    rcases Nat.lt_trichotomy k o with h1 | h1 | h1
    · rw [if_neg (by omega), if_neg (by omega), if_neg (by omega)]
    · subst h1
      rw [if_neg (by omega), if_pos rfl, if_pos (by omega), if_pos (by omega), Nat.sub_self]
      rfl
    · by_cases h2 : k < o + 1 + r.length
      · rw [if_pos (by omega), if_pos (by omega), show k - o = (k - (o + 1)) + 1 by omega, List.getElem?_cons_succ]
      · rw [if_neg (by omega), if_neg (by omega), if_neg (by omega)]
/-- The row, and the cells of what the order leans on. -/
structure PW (w : World) (rb c : Nat) (d : Array Plp) : Prop where
  row : RowG w rb c 7 25 Plp.el d.toList
section
variable {w w' : World} {rb c : Nat} {d : Array Plp}
theorem PW.into (h : PW w rb c d) (hb : Below w.heap.size w w') : PW w' rb c d :=
  ⟨h.row.same (hb.block rb h.row.lt)⟩
theorem PW.nth (h : PW w rb c d) {i : Nat} (hi : i < d.size) : ∀ j v, (d[i]!).el[j]? = some v → w.cell? ⟨rb, i * 7 + j, none⟩ = some v :=
  h.row.loads plp_len (by rw [Array.getElem?_toList, getElem!_pos d i hi, Array.getElem?_eq_getElem hi])
theorem PW.rl (h : PW w rb c d) : rb < w.heap.size := h.row.lt
end
section
variable {P : Program} {ops : Array Oper} {rest : List Oper} {op : Oper} {a : Act} {w : World} {Q : Exit → Act → World → Prop}
/-- One path of the row is written. -/
theorem pl_store {rb c i : Nat} {d : Array Plp} {u : TypeId} (h : PW w rb c d) (hi : i < d.size) (x : Plp) (hgd : op.guard = none) (X Y : Operand) (ho : op.op = .store u X Y) (hx : a.eval X = .pointer (some ⟨rb, i * 7, none⟩)) (hy : a.eval Y = .agg x.cells)
    (hu : (P.info? u).map (·.size) = some 7)
    (hk : ∀ w', PW w' rb c (d.setIfInBounds i x) → Solo rb w w' → wpList P ops Q rest (a.put op.dst undef) w') : wpList P ops Q (op :: rest) a w := by
  obtain ⟨L, hb, hl, hc, ht⟩ := h.row
  have h1 := Nat.mul_le_mul_right 7 (show i + 1 ≤ d.toList.length by rw [Array.length_toList]; omega)
  have h2 := Nat.mul_le_mul_right 7 hc
  have hfit : i * 7 + 7 ≤ L.length := by omega
  refine stm_store (cs' := (splv L (i * 7) x.el).toArray) hb hgd X Y ho hx hy (by simpa [Plp.cells] using hfit) (by rw [hu]; rfl) (by simp [Plp.cells, Value.oneCell']) (pl_setL_splv _ _ _ hfit) fun w' hk' hs => ?_
  refine hk w' ⟨?_⟩ hs
  rw [Array.toList_setIfInBounds]
  refine ⟨_, hk', by rw [splv_len (by rw [plp_len]; exact hfit)]; exact hl, by simpa using hc, ?_⟩
  rw [List.length_set]
  exact splv_fm plp_len hl.symm hc ht (by simpa using hi) x
end
/-- What an order answers of two paths. -/
def PCL (cf : Plp → Plp → Int) (F : Nat) : Prop := (∀ args w, (callFunc F args).run Try.prog w = .ok (.enter F args) w) ∧ ∀ (w : World) (x y : Plp),
  Calls Try.prog F #[.agg x.cells, .agg y.cells] w fun e w' => e = .returned (.int .i64 (cf x y)) ∧ Below w.heap.size w w'
end Go.Proofs.Ytbimjacceocglaa
