/- The segment of some bytes. -/
import Derived.Test.YtcgcglngjfijnaaSg6
import Derived.Test.YtcgcglngjfijnaaPk5
namespace Go.Proofs.Ytcgcglngjfijnaa
open Go.RowKit
set_option linter.unusedVariables false
theorem cut14 {l : List Nat} (h : 14 ≤ l.length) : cut (l.take 14) [2, 2, 4, 4, 1, 1] = some ([ub (l.take 2), ub ((l.drop 2).take 2), ub ((l.drop 4).take 4), ub ((l.drop 8).take 4), l.getD 12 0, l.getD 13 0], []) := by
  match l, h with
  | a0 :: a1 :: a2 :: a3 :: a4 :: a5 :: a6 :: a7 :: a8 :: a9 :: a10 :: a11 :: a12 :: a13 :: r, _ => simp [cut, okS, ub]
theorem cut_len {b : List Nat} {ss : List Int} {xs r : List Nat} (h : cut b ss = some (xs, r)) : (ss.map Int.toNat).sum + r.length = b.length := by
  induction ss generalizing b xs with
  | nil =>
    simp [cut] at h
    rw [h.2]
    simp
  | cons s ss ih =>
    rw [cut] at h
    split at h
    · rename_i hc
      simp at hc
      rw [Option.map_eq_some_iff] at h
      obtain ⟨⟨ys, q⟩, h1, h2⟩ := h
      injection h2 with h2 h3
      subst h3
      have := ih h1
      rw [List.length_drop] at this
      rw [List.map_cons, List.sum_cons]
      omega
    · cases h
theorem cut_short {l : List Nat} (h : l.length < 14) (xs : List Nat) : cut l [2, 2, 4, 4, 1, 1] ≠ some (xs, []) := by
  intro h1
  have := cut_len h1
  simp at this
  omega
theorem ub_bd {l : List Nat} (hb : ∀ x ∈ l, x < 256) (k n : Nat) : ub ((l.drop k).take n) < 256 ^ n := by
  have := ub_lt _ ((l.drop k).take n) rfl (fun x hx => hb x (List.mem_of_mem_drop (List.mem_of_mem_take hx)))
  exact Nat.lt_of_lt_of_le this (Nat.pow_le_pow_right (by omega) (List.length_take_le _ _))
/-- What Parse answers. -/
def ParPost (l : List Nat) (w' : World) (e : Ending) : Prop := ∃ (v : Value) (cd : Nat) (g : Sg), e = .returned (.tuple #[v, .int .i64 (cd : Int)]) ∧ parC l cd ∧ SegV w' v g ∧ g.bd ∧ (cd = 0 → encS g = l ∧ rightS g = 0) ∧ (cd ≠ 0 → g = zeroS)
theorem parPost_err {l : List Nat} {w' : World} {cd : Nat} (h : parC l cd) (h0 : cd ≠ 0) : ParPost l w' (.returned (.tuple #[.agg (segCs zeroS none 0 0 none 0 0), .int .i64 (cd : Int)])) :=
  ⟨_, cd, zeroS, rfl, h, SegV.zero w', zeroS_bd, fun h => absurd h h0, fun _ => rfl⟩
section
variable {w w0 : World} {T B : Nat} {b0 b1 b2 b3 b4 b5 b6 : Value} (a0 a1 a2 a3 a4 a5 a6 : Value)
/-- A segment is stored whole. -/
def put7 (w : World) (T : Nat) (a0 a1 a2 a3 a4 a5 a6 : Value) : World := ((((((w.setCell ⟨T, 0, none⟩ a0).setCell ⟨T, 1, none⟩ a1).setCell ⟨T, 2, none⟩ a2).setCell ⟨T, 3, none⟩ a3).setCell ⟨T, 4, none⟩ a4).setCell ⟨T, 5, none⟩ a5).setCell ⟨T, 6, none⟩ a6
theorem seg7 {t : TypeId} (h : Blk w T t #[b0, b1, b2, b3, b4, b5, b6]) : Blk (put7 w T a0 a1 a2 a3 a4 a5 a6) T t #[a0, a1, a2, a3, a4, a5, a6] := by
  have h1 : Blk (w.setCell ⟨T, 0, none⟩ a0) T t #[a0, b1, b2, b3, b4, b5, b6] := h.set 0 a0
  have h2 : Blk ((w.setCell ⟨T, 0, none⟩ a0).setCell ⟨T, 1, none⟩ a1) T t #[a0, a1, b2, b3, b4, b5, b6] := h1.set 1 a1
  have h3 : Blk (((w.setCell ⟨T, 0, none⟩ a0).setCell ⟨T, 1, none⟩ a1).setCell ⟨T, 2, none⟩ a2) T t #[a0, a1, a2, b3, b4, b5, b6] := h2.set 2 a2
  have h4 : Blk ((((w.setCell ⟨T, 0, none⟩ a0).setCell ⟨T, 1, none⟩ a1).setCell ⟨T, 2, none⟩ a2).setCell ⟨T, 3, none⟩ a3) T t #[a0, a1, a2, a3, b4, b5, b6] := h3.set 3 a3
  have h5 : Blk (((((w.setCell ⟨T, 0, none⟩ a0).setCell ⟨T, 1, none⟩ a1).setCell ⟨T, 2, none⟩ a2).setCell ⟨T, 3, none⟩ a3).setCell ⟨T, 4, none⟩ a4) T t #[a0, a1, a2, a3, a4, b5, b6] := h4.set 4 a4
  have h6 : Blk ((((((w.setCell ⟨T, 0, none⟩ a0).setCell ⟨T, 1, none⟩ a1).setCell ⟨T, 2, none⟩ a2).setCell ⟨T, 3, none⟩ a3).setCell ⟨T, 4, none⟩ a4).setCell ⟨T, 5, none⟩ a5) T t #[a0, a1, a2, a3, a4, a5, b6] := h5.set 5 a5
  have h7 : Blk (((((((w.setCell ⟨T, 0, none⟩ a0).setCell ⟨T, 1, none⟩ a1).setCell ⟨T, 2, none⟩ a2).setCell ⟨T, 3, none⟩ a3).setCell ⟨T, 4, none⟩ a4).setCell ⟨T, 5, none⟩ a5).setCell ⟨T, 6, none⟩ a6) T t #[a0, a1, a2, a3, a4, a5, a6] := h6.set 6 a6
  exact h7
theorem bel7 (h : Below B w0 w) (hT : B ≤ T) : Below B w0 (put7 w T a0 a1 a2 a3 a4 a5 a6) :=
  ((((((h.setCell (p := ⟨T, 0, none⟩) hT a0).setCell (p := ⟨T, 1, none⟩) hT a1).setCell (p := ⟨T, 2, none⟩) hT a2).setCell (p := ⟨T, 3, none⟩) hT a3).setCell (p := ⟨T, 4, none⟩) hT a4).setCell (p := ⟨T, 5, none⟩) hT a5).setCell (p := ⟨T, 6, none⟩) hT a6
theorem Rd.solo {w w' : World} {T : Nat} {A : Option Addr} {n sz : Nat} {xs : List Value} (h : Rd w w.heap.size sz A n xs) (hs : Solo T w w') (hA : ∀ b o, A = some ⟨b, o, none⟩ → T < b) : Rd w' w'.heap.size sz A n xs := by
  refine ⟨h.1, fun hn => ?_⟩
  obtain ⟨b, off, e, hb, hc⟩ := h.2 hn
  exact ⟨b, off, e, by rw [hs.2.1]; exact hb, fun j hj => (World.cell?_of_block (a := ⟨b, off + j, none⟩) (hs.2.2 b (by have := hA b off e; omega))).trans (hc j hj)⟩
theorem solo7 : Solo T w (put7 w T a0 a1 a2 a3 a4 a5 a6) := ((((((Solo.refl.setCell 0 a0).setCell 1 a1).setCell 2 a2).setCell 3 a3).setCell 4 a4).setCell 5 a5).setCell 6 a6
end
end Go.Proofs.Ytcgcglngjfijnaa
