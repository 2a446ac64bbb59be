/- Layer 3: the example of the laws; what a region that draws its order has done so far. -/
import Derived.Test.YtahdfginmkcgfaaSip5
import Derived.Test.YtahdfginmkcgfaaOpen
import Derived.Deep.Matrix
namespace Go.Proofs.Ytahdfginmkcgfaa
open Go.RowKit Go.ChangeShapes Go.WideShapes Go.ChangeAt
set_option linter.unusedVariables false

theorem el8 : El Try.prog 25 5 (.int .u8 0) 1 1 := ⟨Try.underlying25, by kernel_rfl, rfl, by omega, by omega⟩
/-- One part alone, its header in a block just made. -/
theorem Pts.one {w : World} {B n c : Nat} {A : Option Addr} {bs : List Nat} (t : TypeId) (hr : Rd w B 1 A n (ns .u8 bs)) (hnc : n ≤ c) (hB : B ≤ w.heap.size) :
    Pts (w.alloc (.cells #[.slice A n c] t)) (w.heap.size + 1) (some ⟨w.heap.size, 0, none⟩) 1 [bs] := by
  have hl := hr.natLen
  refine ⟨rfl, [.slice A n c], Rd.one w t _, fun i b hi => ?_⟩
  obtain rfl : i = 0 := by
    rcases i with _ | i
    · rfl
    · simp at hi
  obtain rfl : b = bs := by simpa using hi.symm
  refine ⟨A, c, by rw [hl]; rfl, by omega, ?_⟩
  exact ((hr.alloc hB _).mono (by omega)).re hl.symm
set_option maxRecDepth 20000 in
set_option maxHeartbeats 1000000 in
theorem alive03 (w : World) : Calls Try.prog 16 #[] w fun e w' => e = .returned (.bool true) ∧ Below w.heap.size w w' := by
  have e1 : sumB 506097522914230528 1084818905618843912 [] = 8246050544436514353 := by decide +kernel
  have e2 : sumB 506097522914230528 1084818905618843912 [0, 1, 2, 3, 4, 5, 6, 7, 8, 9, 10, 11, 12, 13, 14] = 11613035633349379557 := by decide +kernel
  have E1 := Lib.hid e1; have E2 := Lib.hid e2
  clear e1 e2
  go_enter Try.func16, Try.ntmps16
  go_wp2_with fail
  refine (sum_any 506097522914230528 1084818905618843912 0 0 none [] _ (by omega) (by omega) (Pts.nil _ _ _) (by omega) (by omega) (by simp) (by simp)).mono ?_
  rintro e w1 ⟨rfl, hb1⟩
  rw [show ([] : List (List Nat)).flatten = [] from rfl, E1.out]
  have hk := (Blk.new w 24 #[.int .u64 506097522914230528, .int .u64 1084818905618843912]).below hb1 (by simp)
  have k0 : w1.cell? ⟨w.heap.size, 0, none⟩ = some (.int .u64 506097522914230528) := hk.cell 0
  have k1 : w1.cell? ⟨w.heap.size, 1, none⟩ = some (.int .u64 1084818905618843912) := hk.cell 1
  have hb2 : Below w.heap.size w w1 := ((Below.refl _ _).alloc (Nat.le_refl _) _).trans (hb1.mono (by simp))
  clear hb1 hk
  go_wp2_with fail
  have hrow := Rd.lit (w := w1) (B := w1.heap.size + 1) (n := 15) (t := 5) (k := .u8) (cs := #[Value.int IntKind.u8 0, Value.int IntKind.u8 1, Value.int IntKind.u8 2, Value.int IntKind.u8 3, Value.int IntKind.u8 4, Value.int IntKind.u8 5, Value.int IntKind.u8 6, Value.int IntKind.u8 7, Value.int IntKind.u8 8, Value.int IntKind.u8 9, Value.int IntKind.u8 10, Value.int IntKind.u8 11, Value.int IntKind.u8 12, Value.int IntKind.u8 13, Value.int IntKind.u8 14]) [0, 1, 2, 3, 4, 5, 6, 7, 8, 9, 10, 11, 12, 13, 14] rfl (Nat.lt_succ_self _) rfl rfl
  have hb3 := hb2.alloc hb2.size (.cells #[Value.int IntKind.u8 0, Value.int IntKind.u8 1, Value.int IntKind.u8 2, Value.int IntKind.u8 3, Value.int IntKind.u8 4, Value.int IntKind.u8 5, Value.int IntKind.u8 6, Value.int IntKind.u8 7, Value.int IntKind.u8 8, Value.int IntKind.u8 9, Value.int IntKind.u8 10, Value.int IntKind.u8 11, Value.int IntKind.u8 12, Value.int IntKind.u8 13, Value.int IntKind.u8 14] 5)
  have hsz : (w1.alloc (.cells #[Value.int IntKind.u8 0, Value.int IntKind.u8 1, Value.int IntKind.u8 2, Value.int IntKind.u8 3, Value.int IntKind.u8 4, Value.int IntKind.u8 5, Value.int IntKind.u8 6, Value.int IntKind.u8 7, Value.int IntKind.u8 8, Value.int IntKind.u8 9, Value.int IntKind.u8 10, Value.int IntKind.u8 11, Value.int IntKind.u8 12, Value.int IntKind.u8 13, Value.int IntKind.u8 14] 5)).heap.size = w1.heap.size + 1 := by simp
  generalize (w1.alloc (.cells #[Value.int IntKind.u8 0, Value.int IntKind.u8 1, Value.int IntKind.u8 2, Value.int IntKind.u8 3, Value.int IntKind.u8 4, Value.int IntKind.u8 5, Value.int IntKind.u8 6, Value.int IntKind.u8 7, Value.int IntKind.u8 8, Value.int IntKind.u8 9, Value.int IntKind.u8 10, Value.int IntKind.u8 11, Value.int IntKind.u8 12, Value.int IntKind.u8 13, Value.int IntKind.u8 14] 5)) = w2 at hrow hb3 hsz ⊢
  have hpt := Pts.one (c := 15) 25 hrow (Nat.le_refl _) (Nat.le_of_eq hsz.symm)
  have hb4 := hb3.alloc hb3.size (.cells #[.slice (some ⟨w1.heap.size, 0, none⟩) 15 15] 25)
  have hs4 : (w2.alloc (.cells #[.slice (some ⟨w1.heap.size, 0, none⟩) 15 15] 25)).heap.size = w2.heap.size + 1 := by simp
  rw [← hsz]
  generalize (w2.alloc (.cells #[.slice (some ⟨w1.heap.size, 0, none⟩) 15 15] 25)) = w3 at hpt hb4 hs4 ⊢
  refine (sum_any 506097522914230528 1084818905618843912 1 1 _ _ w3 (by omega) (by omega) (hpt.mono (Nat.le_of_eq hs4.symm)) (by omega) (by omega) (by simp) (by simp)).mono ?_
  rintro e w4 ⟨rfl, hb5⟩
  rw [show ([[0, 1, 2, 3, 4, 5, 6, 7, 8, 9, 10, 11, 12, 13, 14]] : List (List Nat)).flatten = [0, 1, 2, 3, 4, 5, 6, 7, 8, 9, 10, 11, 12, 13, 14] from rfl, E2.out]
  go_wp2_with fail
  go_ret
  exact ⟨rfl, hb4.trans (hb5.mono hb4.size)⟩
/-- A header of one part. -/
def Hd (bs : List Nat) (v : Value) (w : World) : Prop := ∃ g, v = .slice (some ⟨g, 0, none⟩) 1 1 ∧ Pts w w.heap.size (some ⟨g, 0, none⟩) 1 [bs]
theorem Hd.keep {bs : List Nat} {v : Value} {w w' : World} (h : Hd bs v w) (hb : Below w.heap.size w w') : Hd bs v w' := by
  obtain ⟨g, e, hp⟩ := h
  exact ⟨g, e, (hp.keep hb).mono hb.size⟩
def upd (S : Nat → Value) (i : Nat) (v : Value) : Nat → Value := fun j => if j = i then v else S j
/-- What each operation's slot holds, once it was done. -/
def GdP (kk sl al su pp : Value) (bs : List Nat) : Nat → Value → World → Prop
  | 0, v, _ => v = kk | 3, v, _ => v = kk | 9, v, _ => v = kk | 12, v, _ => v = kk
  | 1, v, _ => v = sl | 10, v, _ => v = sl
  | 2, v, _ => v = su | 6, v, _ => v = su
  | 4, v, _ => v = al | 13, v, _ => v = al
  | 5, v, w => Hd bs v w | 14, v, w => Hd bs v w
  | 11, v, _ => v = pp | 15, v, _ => v = pp
  | _, v, _ => v = .bool true
theorem GdP.keep {kk sl al su pp : Value} {bs : List Nat} {w w' : World} (hb : Below w.heap.size w w') {j : Nat} {v : Value} (hj : j < 22) (h : GdP kk sl al su pp bs j v w) : GdP kk sl al su pp bs j v w' := by
  rcases (show j = 5 ∨ j = 14 ∨ (j ≠ 5 ∧ j ≠ 14) by omega) with rfl | rfl | ⟨h1, h2⟩
  · exact Hd.keep h hb
  · exact Hd.keep h hb
  · match j, hj, h1, h2, h with
    | 0, _, _, _, h => exact h
    | 1, _, _, _, h => exact h
    | 2, _, _, _, h => exact h
    | 3, _, _, _, h => exact h
    | 4, _, _, _, h => exact h
    | 6, _, _, _, h => exact h
    | 7, _, _, _, h => exact h
    | 8, _, _, _, h => exact h
    | 9, _, _, _, h => exact h
    | 10, _, _, _, h => exact h
    | 11, _, _, _, h => exact h
    | 12, _, _, _, h => exact h
    | 13, _, _, _, h => exact h
    | 15, _, _, _, h => exact h
    | 16, _, _, _, h => exact h
    | 17, _, _, _, h => exact h
    | 18, _, _, _, h => exact h
    | 19, _, _, _, h => exact h
    | 20, _, _, _, h => exact h
    | 21, _, _, _, h => exact h
    | n + 22, hj, _, _, _ => omega
theorem upd_same {S : Nat → Value} {i : Nat} {v : Value} (h : S i = v) : upd S i v = S := by
  funext j
  unfold upd
  split
  · rename_i e
    rw [e, h]
  · rfl
/-- One more operation is done. -/
theorem upd_good {G : Nat → Value → World → Prop} {m : Nat} {S : Nat → Value} {l : Array Bool} {w w' : World} {i : Nat} {v : Value} (hl : l.size = m) (hk : ∀ j u, j < m → G j u w → G j u w') (h : ∀ j, j < m → l.getD j true = true → G j (S j) w) (hi : i < m) (hv : G i v w') :
    ∀ j, j < m → (l.setIfInBounds i true).getD j true = true → G j (upd S i v j) w' := by
  intro j hj hlj
  unfold upd
  by_cases e : j = i
  · subst e
    rw [if_pos rfl]
    exact hv
  · rw [if_neg e]
    rw [getD_set_ne true (fun h => e h.symm)] at hlj
    exact hk j _ hj (h j hj hlj)
theorem wpList_guard {P : Program} {ops : Array Oper} {K : Exit → Act → World → Prop} {o : Oper} {a : Act} {w : World} (h : Region.wanted o (yielded ops a.tmps) = true) (hh : wpList P ops K [{ o with guard := none }] a w) : wpList P ops K [o] a w := by
  simp only [wpList] at hh ⊢
  rw [if_pos h]
  rw [if_pos (by rfl)] at hh
  exact hh
end Go.Proofs.Ytahdfginmkcgfaa
