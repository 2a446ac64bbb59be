/- A row of paths in memory while it is sorted. -/
import Derived.Test.YtcfeojobkpbohaaStM
import Derived.Test.YtcfeojobkpbohaaStm
import Derived.Test.YtcfeojobkpbohaaRowG
import Derived.Test.YtcfeojobkpbohaaTou
import Derived.Test.YtcfeojobkpbohaaOwnNt
import Derived.Test.YtcfeojobkpbohaaOrd
import Derived.OwnWalk
import Derived.BigQuiet
import Derived.RegionTactic
import Derived.LoopTactic
import Derived.ChangeAlike
import Derived.Deep.Cut
import Derived.Test.YtcfeojobkpbohaaProg
namespace Go.Proofs.Ytcfeojobkpbohaa
open Go.RowKit Go.Sort
set_option linter.unusedVariables false
/-- A path: its number, whether it is there, for need alone, avoided; room, what is under way, the mean. -/
structure Pth where
  id : Int
  up : Bool
  bk : Bool
  bd : Bool
  room : Int
  und : Int
  mean : Int
deriving Inhabited
def Pth.cells (x : Pth) : Array Value := #[.int .i64 x.id, .bool x.up, .bool x.bk, .bool x.bd, .int .i64 x.room, .int .i64 x.und, .int .i64 x.mean]
def Pth.el (x : Pth) : List Value := x.cells.toList
theorem pth_len (x : Pth) : x.el.length = 7 := rfl
theorem pth_one (x : Pth) : ∀ u ∈ x.cells.toList, u.oneCell' = true := by
  intro u hu
  simp only [Pth.cells, List.mem_cons, List.not_mem_nil, or_false] at hu
  rcases hu with rfl | rfl | rfl | rfl | rfl | rfl | rfl <;> rfl
def pths (l : List Pth) : List Value := l.flatMap Pth.el
/-- Cells written from a place on, as a piece of a row. -/
theorem setL_splv : ∀ (l : List Value) (L : List Value) (o : Nat), o + l.length ≤ L.length → setL L.toArray o l = (splv L o l).toArray
  | [], L, o, h => by
    unfold setL
    congr 1
    refine List.ext_getElem? fun k => ?_
    rw [splv_get h, if_neg (by simp)]
  | v :: r, L, o, h => by
    unfold setL
    rw [List.setIfInBounds_toArray, setL_splv r (L.set o v) (o + 1) (by simp at h ⊢; omega)]
    congr 1
    refine List.ext_getElem? fun k => ?_
    rw [splv_get (by simp at h ⊢; omega), splv_get h, List.getElem?_set]
    simp only [List.length_cons] at h ⊢
    rcases Nat.lt_trichotomy k o with h1 | h1 | h1
    · rw [if_neg (by omega), if_neg (by omega), if_neg (by omega)]
    · subst h1
      rw [if_neg (by omega), if_pos rfl, if_pos (by omega), if_pos (by omega), Nat.sub_self]
      rfl
    · by_cases h2 : k < o + 1 + r.length
      · rw [if_pos (by omega), if_pos (by omega), show k - o = (k - (o + 1)) + 1 by omega, List.getElem?_cons_succ]
      · rw [if_neg (by omega), if_neg (by omega), if_neg (by omega)]
/-- The row, and the cells of what the order leans on. -/
structure SW (w : World) (rb c b1 b2 : Nat) (pol last : Int) (d : Array Pth) : Prop where
  row : RowG w rb c 7 36 Pth.el d.toList
  bp : Blk w b1 22 #[.int .i64 pol]
  bl : Blk w b2 3 #[.int .i64 last]
section
variable {w w' : World} {rb c b1 b2 : Nat} {pol last : Int} {d : Array Pth}
theorem SW.into (h : SW w rb c b1 b2 pol last d) (hb : Below w.heap.size w w') : SW w' rb c b1 b2 pol last d :=
  ⟨h.row.same (hb.block rb h.row.lt), h.bp.below hb h.bp.lt, h.bl.below hb h.bl.lt⟩
theorem SW.ne1 (h : SW w rb c b1 b2 pol last d) : b1 ≠ rb := fun e => by
  obtain ⟨cs, hb⟩ := (show ∃ cs, Blk w rb 36 cs from by obtain ⟨L, hb, _⟩ := h.row; exact ⟨_, hb⟩)
  exact blk_nt h.bp hb (by decide) e
theorem SW.ne2 (h : SW w rb c b1 b2 pol last d) : b2 ≠ rb := fun e => by
  obtain ⟨cs, hb⟩ := (show ∃ cs, Blk w rb 36 cs from by obtain ⟨L, hb, _⟩ := h.row; exact ⟨_, hb⟩)
  exact blk_nt h.bl hb (by decide) e
theorem SW.nth (h : SW w rb c b1 b2 pol last d) {i : Nat} (hi : i < d.size) : ∀ j v, (d[i]!).el[j]? = some v → w.cell? ⟨rb, i * 7 + j, none⟩ = some v :=
  h.row.loads pth_len (by rw [Array.getElem?_toList, getElem!_pos d i hi, Array.getElem?_eq_getElem hi])
theorem SW.rl (h : SW w rb c b1 b2 pol last d) : rb < w.heap.size := h.row.lt
end
section
variable {P : Program} {ops : Array Oper} {rest : List Oper} {op : Oper} {a : Act} {w : World} {Q : Exit → Act → World → Prop}
/-- One path of the row is written. -/
theorem sw_store {rb c b1 b2 i : Nat} {pol last : Int} {d : Array Pth} {u : TypeId} (h : SW w rb c b1 b2 pol last d) (hi : i < d.size) (x : Pth) (hgd : op.guard = none) (X Y : Operand) (ho : op.op = .store u X Y) (hx : a.eval X = .pointer (some ⟨rb, i * 7, none⟩)) (hy : a.eval Y = .agg x.cells)
    (hu : (P.info? u).map (·.size) = some 7)
    (hk : ∀ w', SW w' rb c b1 b2 pol last (d.setIfInBounds i x) → Solo rb w w' → wpList P ops Q rest (a.put op.dst undef) w') : wpList P ops Q (op :: rest) a w := by
  obtain ⟨L, hb, hl, hc, ht⟩ := h.row
  have h1 := Nat.mul_le_mul_right 7 (show i + 1 ≤ d.toList.length by rw [Array.length_toList]; omega)
  have h2 := Nat.mul_le_mul_right 7 hc
  have hfit : i * 7 + 7 ≤ L.length := by omega
  refine stm_store (cs' := (splv L (i * 7) x.el).toArray) hb hgd X Y ho hx hy (by simpa [Pth.cells] using hfit) (by rw [hu]; rfl) (by simp [Pth.cells, Value.oneCell']) (setL_splv _ _ _ hfit) fun w' hk' hs => ?_
  refine hk w' ⟨?_, hs.blk h.bp h.ne1, hs.blk h.bl h.ne2⟩ hs
  rw [Array.toList_setIfInBounds]
  refine ⟨_, hk', by rw [splv_len (by rw [pth_len]; exact hfit)]; exact hl, by simpa using hc, ?_⟩
  rw [List.length_set]
  exact splv_fm pth_len hl.symm hc ht (by simpa using hi) x
end
/-- What the order answers of two paths. -/
def CL (cf : Pth → Pth → Int) (b1 b2 : Nat) (pol last : Int) : Prop := ∀ (w : World) (x y : Pth), Blk w b1 22 #[.int .i64 pol] → Blk w b2 3 #[.int .i64 last] →
  Calls Try.prog 22 #[.agg x.cells, .agg y.cells, .pointer (some ⟨b1, 0, none⟩), .pointer (some ⟨b2, 0, none⟩)] w fun e w' => e = .returned (.int .i64 (cf x y)) ∧ Below w.heap.size w w'
end Go.Proofs.Ytcfeojobkpbohaa
