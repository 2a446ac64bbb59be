/- Package wheel: how it keeps what is not its own; the chapter's example; calls as an argument. -/
import Derived.Test.YtpeagibompohhaaWhN
import Derived.Test.YtpeagibompohhaaSz2
namespace Go.Proofs.Ytpeagibompohhaa
open Go.RowKit
set_option linter.unusedVariables false
set_option linter.unusedSimpArgs false
theorem WA.below {w w' : World} {g B mb most now : Nat} {sl sl' : List Value} {L : List Tm} (h : WA w g B mb most now sl L) (hk : KeptW g mb sl sl' w w') (hB : B ≤ mb) : Below B w w' := by
  obtain ⟨S, f, h1, h2, h3⟩ := h.ex
  refine ⟨hk.un.1, hk.un.2.1, hk.un.2.2, hk.size, fun k hkB => hk.same k (Nat.lt_of_lt_of_le hkB (Nat.le_trans h1.bg (Nat.le_of_lt h1.lt))) (fun e => by have := h1.bg; omega) (fun e => by omega) fun p v hv hvk => ?_⟩
  obtain ⟨v', l, e1, e2, _, hz⟩ := h1.place (p := p) (by rw [← h1.sll]; exact get_lt hv)
  rw [hv] at e1
  injection e1 with e1
  subst e1
  have := (hz.lt k hvk).1
  omega
/-- What came behind a wheel's beginning, and isn't its own, stays: a block of another type. -/
theorem WA.far {w w' : World} {g B mb most now : Nat} {sl sl' : List Value} {L : List Tm} {k : Nat} {t : TypeId} {cs : Array Value} (h : WA w g B mb most now sl L) (hk : KeptW g mb sl sl' w w') (hb : Blk w k t cs) (h1 : t ≠ 54) (h2 : t ≠ 3) : w'.heap[k]? = w.heap[k]? := by
  obtain ⟨S, f, hw, hm, _⟩ := h.ex
  refine hk.same k hb.lt (fun e => ?_) (fun e => hm.ne hb e) fun p v hv hvk => ?_
  · subst e
    have := hw.blk
    unfold Blk at this hb
    rw [this] at hb
    injection hb with hb
    injection hb with _ hb
    exact h1 hb.symm
  · obtain ⟨v', l, e1, e2, _, hz⟩ := hw.place (p := p) (by rw [← hw.sll]; exact get_lt hv)
    rw [hv] at e1
    injection e1 with e1
    subst e1
    exact own_nw hz hb (Ne.symm h2) hvk
abbrev Tr := Int × Int × Int
def trc (p : Tr) : List Value := [.int .i64 p.1, .int .i64 p.2.1, .int .i64 p.2.2]
def trs (l : List Tr) : List Value := l.flatMap trc
theorem fmT_len : ∀ l : List Tr, (trs l).length = l.length * 3
  | [] => rfl
  | x :: l => by
    have := fmT_len l
    unfold trs at this ⊢
    rw [List.flatMap_cons, List.length_append, this]
    simp [trc]
    omega
theorem fmT_get : ∀ {l : List Tr} {q r : Nat} {x : Tr}, l[q]? = some x → r < 3 → (trs l)[q * 3 + r]? = (trc x)[r]?
  | [], q, r, x, h, _ => by simp at h
  | y :: l, 0, r, x, h, hr => by
    simp at h; subst h
    unfold trs
    rw [List.flatMap_cons, Nat.zero_mul, Nat.zero_add, List.getElem?_append_left (by simpa [trc] using hr)]
  | y :: l, q + 1, r, x, h, hr => by
    have := fmT_get (l := l) (q := q) (r := r) (x := x) (by simpa using h) hr
    unfold trs at this ⊢
    rw [List.flatMap_cons, List.getElem?_append_right (by simp [trc]; omega), ← this]
    congr 1
    simp [trc]
    omega
theorem Rd.tr {w : World} {B n : Nat} {A : Option Addr} {l : List Tr} (h : Rd w B 3 A n (trs l)) {i : Nat} (hi : i < n) :
    ∃ (b off : Nat) (x y z : Int), A = some ⟨b, off, none⟩ ∧ b < B ∧ Hid (∀ j v, [Value.int .i64 x, .int .i64 y, .int .i64 z][j]? = some v → w.cell? ⟨b, off + i * 3 + j, none⟩ = some v) ∧ Hid (l[i]? = some (x, y, z)) := by
  obtain ⟨b, off, e, hb, hc⟩ := h.2 (by omega)
  have hl : l.length = n := by have := h.1; rw [fmT_len] at this; omega
  have hg : l[i]? = some l[i] := by rw [List.getElem?_eq_getElem (by omega)]
  refine ⟨b, off, _, _, _, e, hb, Lib.hid fun j v hj => ?_, Lib.hid hg⟩
  have hj3 : j < 3 := (List.getElem?_eq_some_iff.1 hj).1
  rw [Nat.add_assoc, hc (i * 3 + j) (by omega), ← hj]
  exact fmT_get hg hj3
theorem sortI_one (x : Int) : sortI [x] = [x] := by unfold sortI; simp
theorem sortI_sorted (l : List Int) : (sortI l).Pairwise (fun x y => x ≤ y) := by
  have := List.pairwise_mergeSort (le := fun x y : Int => decide (x ≤ y)) (fun a b c h1 h2 => by simp only [decide_eq_true_eq] at *; omega) (fun a b => by simp only [Bool.or_eq_true, decide_eq_true_eq]; omega) l
  exact this.imp fun h => by simpa using h
theorem sortI_perm (l : List Int) : (sortI l).Perm l := List.mergeSort_perm l _
/-- Numbers of their own, sorted, rise. -/
theorem sortI_rises {l : List Int} (h : l.Nodup) {i j : Nat} {x y : Int} (hij : i < j) (hx : (sortI l)[i]? = some x) (hy : (sortI l)[j]? = some y) : x < y := by
  have h1 := List.pairwise_iff_getElem.1 (sortI_sorted l) i j (get_lt hx) (get_lt hy) hij
  have h2 := List.pairwise_iff_getElem.1 ((sortI_perm l).nodup_iff.2 h) i j (get_lt hx) (get_lt hy) hij
  rw [List.getElem?_eq_getElem (get_lt hx)] at hx
  rw [List.getElem?_eq_getElem (get_lt hy)] at hy
  injection hx with hx
  injection hy with hy
  rw [hx, hy] at h1 h2
  omega
set_option maxRecDepth 20000 in
set_option maxHeartbeats 4000000 in
theorem alive29 (w : World) : Calls Try.prog 21 #[] w fun e w' => e = .returned (.bool true) ∧ Below w.heap.size w w' := by
  go_enter Try.func21, Try.ntmps21
  go_wp2_with fail
  refine (wnewI 4 w (by unfold I64; omega)).mono ?_
  rintro e w1 ⟨g, mb, sl1, rfl, hmb, h1, hb1⟩
  have H1 := Lib.hid h1
  have B1 := Lib.hid hb1
  clear h1 hb1
  rw [show mostN 4 = 4 by decide] at H1
  go_wp2_with fail
  refine (waddI_put g w.heap.size mb 4 0 2 7 sl1 [] w1 H1.out (by omega) (by unfold I64; omega) (by omega) (by omega) (by simp [rmL])).mono ?_
  rintro e w2 ⟨rfl, sl2, h2, hk2⟩
  have B2 := Lib.hid (B1.out.trans (H1.out.below hk2 hmb))
  have H2 := Lib.hid (show WA w2 g w.heap.size mb 4 0 sl2 [(7, 2)] from h2)
  clear h2 hk2
  go_wp2_with fail
  refine (wtickI g w.heap.size mb 4 0 sl2 [(7, 2)] w2 H2.out (by omega)).mono ?_
  rintro e w3 ⟨v3, sl3, rfl, hz3, h3, hk3⟩
  have B3 := Lib.hid (B2.out.trans (H2.out.below hk3 hmb))
  have H3 := Lib.hid (show WA w3 g w.heap.size mb 4 1 sl3 [(7, 2)] from h3)
  rw [show dueL [(7, 2)] (0 + 1) = [] by decide, sortI_nil] at hz3
  obtain ⟨A3, c3, rfl, _⟩ := hz3.form
  clear hz3 h3 hk3
  go_wp2_with fail
  refine (wtickI g w.heap.size mb 4 1 sl3 [(7, 2)] w3 H3.out (by omega)).mono ?_
  rintro e w4 ⟨v4, sl4, rfl, hz4, h4, hk4⟩
  have B4 := Lib.hid (B3.out.trans (H3.out.below hk4 hmb))
  have H4 := Lib.hid (show WA w4 g w.heap.size mb 4 2 sl4 [] from h4)
  rw [show dueL [(7, 2)] (1 + 1) = [7] by decide, sortI_one] at hz4
  obtain ⟨A4, c4, rfl, _⟩ := hz4.form
  obtain ⟨ab, hA, q0⟩ := ZatsAt (i := 0) (x := 7) hz4 rfl
  subst hA
  clear hz4 h4 hk4
  simp only [List.length_singleton, List.length_nil]
  go_wp2_with fail
  refine (wnowI g w.heap.size mb 4 2 sl4 [] w4 H4.out).mono ?_
  rintro e w5 ⟨rfl, rfl⟩
  go_wp2_with fail
  refine (wlenI g w.heap.size mb 4 2 sl4 [] w5 H4.out).mono ?_
  rintro e w6 ⟨rfl, rfl⟩
  go_wp2_with fail
  go_ret
  exact ⟨rfl, B4.out⟩
end Go.Proofs.Ytpeagibompohhaa
