/- Layer 42: the document's row is the heap's. -/
import Derived.Test.YtkekmcolekomjaaHep8
namespace Go.Proofs.Ytkekmcolekomjaa
open Go.RowKit
set_option linter.unusedVariables false
set_option linter.unusedSimpArgs false
def prN (x : Nd) : Pr := (x.1, x.2.1)
theorem insN_app {x : Nd} : ∀ {P S : List Nd}, (∀ y ∈ P, y.1 ≤ x.1) → (∀ y ∈ S, x.1 < y.1) → insN x (P ++ S) = P ++ x :: S
  | [], [], _, _ => rfl
  | [], y :: S, _, h => by
    show insN x (y :: S) = _
    unfold insN
    rw [if_neg (by have := h y (List.mem_cons_self ..); omega)]
    rfl
  | y :: P, S, h, h2 => by
    show insN x (y :: (P ++ S)) = _
    unfold insN
    rw [if_pos (h y (List.mem_cons_self ..)), insN_app (fun z hz => h z (List.mem_cons_of_mem _ hz)) h2]
    rfl
theorem put_eq {R : List Nd} {x : Nd} {r : List Pr} (hs : Srt R) (h : PutAt (R.map prN) (prN x) r) : r = (insN x R).map prN := by
  obtain ⟨p, s, hps, rfl, h1, h2⟩ := h
  obtain ⟨P, S, rfl, rfl, rfl⟩ := List.map_eq_append_iff.1 hps
  rw [insN_app]
  · simp
  · intro y hy
    rcases List.eq_nil_or_concat P with rfl | ⟨Q, z, rfl⟩
    · cases hy
    · rw [List.concat_eq_append] at *
      have hz : z.1 ≤ x.1 := h2 (prN z) (by simp)
      rcases List.mem_append.1 hy with hy | hy
      · have hl := (List.pairwise_append.1 (List.pairwise_append.1 hs).1).2.2 y hy z (List.mem_singleton.2 rfl)
        unfold ltN at hl; omega
      · obtain rfl := List.mem_singleton.1 hy; exact hz
  · intro y hy
    exact h1 (prN y) (List.mem_map.2 ⟨y, hy, rfl⟩)
theorem due_left (R : List Nd) (now : Int) : (R.map prN).filter (fun p => !decide (p.1 ≤ now)) = (R.filter fun y => !decide (y.1 ≤ now)).map prN := by
  rw [List.filter_map]; rfl
theorem due_out (R : List Nd) (now : Int) : ((R.map prN).filter (fun p => decide (p.1 ≤ now))).map (fun p => p.2) = (R.filter fun y => decide (y.1 ≤ now)).map fun y => y.2.1 := by
  rw [List.filter_map, List.map_map]; rfl
theorem Rd.keepA {w w' : World} {B sz n : Nat} {A : Option Addr} {xs : List Value} (h : Rd w B sz A n xs) (hB : B ≤ w'.heap.size) (hc : 0 < n → ∀ a, A = some a → a.block < B → w'.heap[a.block]? = w.heap[a.block]?) : Rd w' w'.heap.size sz A n xs :=
  ⟨h.1, fun hn => by
    obtain ⟨b, off, e, hb, hcell⟩ := h.2 hn
    have h0 := hc (by omega) ⟨b, off, none⟩ e hb
    exact ⟨b, off, e, Nat.lt_of_lt_of_le hb hB, fun j hj => (World.cell?_of_block (a := ⟨b, off + j, none⟩) h0).trans (hcell j hj)⟩⟩
/-- A row that is none of the heap's. -/
def FarH (g : Nat) (v : Value) (A : Option Addr) (n : Nat) (w : World) : Prop := 0 < n → ∀ a, A = some a → a.block ≠ g ∧ v.ownBlock ≠ some a.block ∧ a.block < w.heap.size
theorem FarH.rd {g : Nat} {v v' : Value} {A : Option Addr} {n sz : Nat} {w w' : World} {xs : List Value} (hf : FarH g v A n w) (hk : KeptH g v v' w w') (h : Rd w w.heap.size sz A n xs) : Rd w' w'.heap.size sz A n xs :=
  h.keepA hk.2.2 fun hn a ha hlt => hk.1 a.block hlt (hf hn a ha).1 (hf hn a ha).2.1
theorem FarH.kept {g : Nat} {v v' : Value} {A : Option Addr} {n : Nat} {w w' : World} (hf : FarH g v A n w) (hk : KeptH g v v' w w') : FarH g v' A n w' := fun hn a ha => by
  obtain ⟨h1, h2, h3⟩ := hf hn a ha
  refine ⟨h1, fun e => ?_, Nat.lt_of_lt_of_le h3 hk.2.2⟩
  rcases hk.2.1 _ e with h | h
  · exact h2 h
  · omega
theorem FarH.below {g : Nat} {v : Value} {A : Option Addr} {n : Nat} {w w' : World} (hf : FarH g v A n w) (hb : w.heap.size ≤ w'.heap.size) : FarH g v A n w' := fun hn a ha => by
  obtain ⟨h1, h2, h3⟩ := hf hn a ha
  exact ⟨h1, h2, Nat.lt_of_lt_of_le h3 hb⟩
theorem FarH.nil (g : Nat) (v : Value) (A : Option Addr) (w : World) : FarH g v A 0 w := fun h => absurd h (by omega)
theorem FarH.new {g B most puts sz n c : Nat} {v : Value} {A : Option Addr} {w w' : World} {R : List Nd} {e : TypeId} {xs : List Value} (hI : HpI w g B most puts v R) (h : w'.ownsRow w.heap.size e sz (.slice A n c) n xs) : FarH g v A n w' := fun hn a ha => by
  rcases own_open h with ⟨_, h0, _⟩ | ⟨rb, c', L, hv, hB, hb, _⟩
  · omega
  · injection hv with hv _ _
    rw [hv] at ha
    injection ha with ha
    rw [← ha]
    dsimp only
    refine ⟨by have := hI.lt; omega, fun e => by have := hI.own_lt _ e; omega, hb.lt⟩
theorem Blk.keptH {w w' : World} {g q B' most puts : Nat} {t : TypeId} {v v' : Value} {R : List Nd} {cs : Array Value} (h : Blk w q t cs) (ht1 : t ≠ 59) (ht2 : t ≠ 61) (hI : HpI w g B' most puts v R) (hk : KeptH g v v' w w') : Blk w' q t cs := by
  refine (hk.1 q h.lt ?_ ?_).trans h
  · rintro rfl
    have h1 := hI.blk
    unfold Blk at h1 h
    rw [h1] at h
    injection h with h
    injection h with _ ht
    exact ht1 ht.symm
  · obtain ⟨l, ho, _⟩ := hI.own
    exact own_ne ho h (Ne.symm ht2)
/-- What a call is: three numbers. -/
abbrev Tr := Int × Int × Int
def trc (p : Tr) : List Value := [.int .i64 p.1, .int .i64 p.2.1, .int .i64 p.2.2]
def trs (l : List Tr) : List Value := l.flatMap trc
theorem trs_len (l : List Tr) : (trs l).length = l.length * 3 := fm_len (f := trc) (fun _ => rfl) l
theorem Rd.tr {w : World} {B n : Nat} {A : Option Addr} {l : List Tr} (h : Rd w B 3 A n (trs l)) {i : Nat} (hi : i < n) :
    ∃ (b off : Nat) (x y z : Int), A = some ⟨b, off, none⟩ ∧ b < B ∧ Hid (∀ j v, [Value.int .i64 x, .int .i64 y, .int .i64 z][j]? = some v → w.cell? ⟨b, off + i * 3 + j, none⟩ = some v) ∧ Hid (l[i]? = some (x, y, z)) := by
  obtain ⟨b, off, e, hb, hc⟩ := h.2 (by omega)
  have hl : l.length = n := by have := h.1; rw [trs_len] at this; omega
  have hg : l[i]? = some l[i] := by rw [List.getElem?_eq_getElem (by omega)]
  refine ⟨b, off, _, _, _, e, hb, Lib.hid fun j v hj => ?_, Lib.hid hg⟩
  have hj3 : j < 3 := (List.getElem?_eq_some_iff.1 hj).1
  rw [Nat.add_assoc, hc (i * 3 + j) (by omega), ← hj]
  exact fm_get (f := trc) (fun _ => rfl) hg hj3
end Go.Proofs.Ytkekmcolekomjaa
