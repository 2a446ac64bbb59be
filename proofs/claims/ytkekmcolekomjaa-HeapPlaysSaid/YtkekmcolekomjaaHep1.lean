/- Package heap: rows of things in memory; ahead, swap. -/
import Derived.Test.YtkekmcolekomjaaHeapM
import Derived.Test.YtkekmcolekomjaaBlkS
import Derived.Test.YtkekmcolekomjaaSz2
import Derived.Test.YtkekmcolekomjaaSz3
import Derived.Test.YtkekmcolekomjaaPut
import Derived.Test.YtkekmcolekomjaaTou
import Derived.Test.YtkekmcolekomjaaRows
import Derived.OwnWalk
import Derived.BigQuiet
import Derived.RegionTactic
import Derived.ChangeAlike
import Derived.Deep.Cut
import Derived.Test.YtkekmcolekomjaaOrd
import Derived.Deep.QuietTactic
import Derived.Deep.RegionWith
namespace Go.Proofs.Ytkekmcolekomjaa
open Go.RowKit
set_option linter.unusedVariables false
set_option linter.unusedSimpArgs false
def ndc (x : Nd) : List Value := [.int .i64 x.1, .int .i64 x.2.1, .int .i64 (x.2.2 : Int)]
def nds (l : List Nd) : List Value := l.flatMap ndc
theorem nds_cons (x : Nd) (l : List Nd) : nds (x :: l) = .int .i64 x.1 :: .int .i64 x.2.1 :: .int .i64 (x.2.2 : Int) :: nds l := rfl
theorem nds_append (l m : List Nd) : nds (l ++ m) = nds l ++ nds m := by simp [nds]
theorem nds_len (l : List Nd) : (nds l).length = l.length * 3 := by
  induction l with
  | nil => rfl
  | cons p l ih => rw [nds_cons]; simp only [List.length_cons, ih]; omega
theorem nds_one (l : List Nd) : ∀ u ∈ nds l, u.oneCell' = true := by
  intro u hu
  simp only [nds, List.mem_flatMap, ndc] at hu
  obtain ⟨_, _, hu⟩ := hu
  simp at hu
  rcases hu with rfl | rfl | rfl <;> rfl
theorem nds_get {l : List Nd} {q r : Nat} {x : Nd} (h : l[q]? = some x) (hr : r < 3) : (nds l)[q * 3 + r]? = (ndc x)[r]? := by
  induction l generalizing q with
  | nil => simp at h
  | cons y l ih =>
    cases q with
    | zero =>
      simp at h; subst h
      rcases (show r = 0 ∨ r = 1 ∨ r = 2 by omega) with rfl | rfl | rfl <;> rfl
    | succ q =>
      rw [show (q + 1) * 3 + r = q * 3 + r + 1 + 1 + 1 by omega, nds_cons]
      simp only [List.getElem?_cons_succ]
      exact ih (by simpa using h)
theorem nds_take (l : List Nd) (m : Nat) : (nds l).take (m * 3) = nds (l.take m) := by
  induction l generalizing m with
  | nil => simp [nds]
  | cons x l ih =>
    cases m with
    | zero => simp [nds]
    | succ m =>
      rw [show (m + 1) * 3 = m * 3 + 1 + 1 + 1 by omega, nds_cons]
      simp only [List.take_succ_cons, nds_cons, ih]
/-- A row of things, with room for c. -/
def RowN (w : World) (rb c : Nat) (l : List Nd) : Prop := ∃ L : List Value, Blk w rb 61 L.toArray ∧ L.length = c * 3 ∧ l.length ≤ c ∧ L.take (l.length * 3) = nds l
section
variable {w w' : World} {rb c i : Nat} {l : List Nd} {x : Nd}
theorem RowN.lt (h : RowN w rb c l) : rb < w.heap.size := by obtain ⟨L, hb, _⟩ := h; exact hb.lt
theorem RowN.same (h : RowN w rb c l) (hk : w'.heap[rb]? = w.heap[rb]?) : RowN w' rb c l := by obtain ⟨L, hb, h1⟩ := h; exact ⟨L, hk.trans hb, h1⟩
theorem RowN.frozen (h : RowN w rb c l) (o : Nat) : w.frozen? ⟨rb, o, none⟩ = false := by obtain ⟨L, hb, _⟩ := h; exact hb.frozen o
theorem RowN.get (h : RowN w rb c l) (hx : l[i]? = some x) : w.cell? ⟨rb, i * 3, none⟩ = some (.int .i64 x.1) ∧ w.cell? ⟨rb, i * 3 + 1, none⟩ = some (.int .i64 x.2.1) ∧ w.cell? ⟨rb, i * 3 + 2, none⟩ = some (.int .i64 (x.2.2 : Int)) := by
  obtain ⟨L, hb, hl, hc, ht⟩ := h
  have hi := (List.getElem?_eq_some_iff.1 hx).1
  have key : ∀ r, r < 3 → w.cell? ⟨rb, i * 3 + r, none⟩ = (ndc x)[r]? := fun r hr => by
    rw [hb.cell, ← nds_get hx hr, ← ht, List.getElem?_take, if_pos (by omega)]
    simp
  exact ⟨key 0 (by omega), key 1 (by omega), key 2 (by omega)⟩
theorem RowN.set (h : RowN w rb c l) (hi : i < l.length) (x : Nd) : RowN (((w.setCell ⟨rb, i * 3, none⟩ (.int .i64 x.1)).setCell ⟨rb, i * 3 + 1, none⟩ (.int .i64 x.2.1)).setCell ⟨rb, i * 3 + 2, none⟩ (.int .i64 (x.2.2 : Int))) rb c (l.set i x) := by
  obtain ⟨L, hb, hl, hc, ht⟩ := h
  refine ⟨((L.set (i * 3) (.int .i64 x.1)).set (i * 3 + 1) (.int .i64 x.2.1)).set (i * 3 + 2) (.int .i64 (x.2.2 : Int)), ?_, by simpa using hl, by simpa using hc, ?_⟩
  · have := ((hb.set (i * 3) (.int .i64 x.1)).set (i * 3 + 1) (.int .i64 x.2.1)).set (i * 3 + 2) (.int .i64 (x.2.2 : Int))
    simpa only [List.setIfInBounds_toArray] using this
  · refine List.ext_getElem? fun k => ?_
    rw [List.getElem?_take, List.length_set]
    by_cases hk : k < l.length * 3
    · rw [if_pos hk]
      have hq : k / 3 < l.length := by omega
      have hr : k % 3 < 3 := Nat.mod_lt _ (by omega)
      have hk3 : k / 3 * 3 + k % 3 = k := by omega
      have e0 : L[k]? = (nds l)[k]? := by rw [← ht, List.getElem?_take, if_pos hk]
      by_cases hqi : k / 3 = i
      · have hx : (l.set i x)[k / 3]? = some x := by rw [hqi]; simp [hi]
        have := nds_get hx hr
        rw [hk3] at this
        rw [this]
        simp only [List.getElem?_set]
        rcases (show k % 3 = 0 ∨ k % 3 = 1 ∨ k % 3 = 2 by omega) with h3 | h3 | h3 <;> rw [h3]
        · rw [if_neg (by omega), if_neg (by omega), if_pos (by omega), if_pos (by first | omega | (simp; omega))]; rfl
        · rw [if_neg (by omega), if_pos (by omega), if_pos (by first | omega | (simp; omega))]; rfl
        · rw [if_pos (by omega), if_pos (by first | omega | (simp; omega))]; rfl
      · have hx : (l.set i x)[k / 3]? = some (l[k / 3]'hq) := by rw [List.getElem?_set_ne (by omega)]; exact List.getElem?_eq_getElem hq
        have h1 := nds_get hx hr
        have h2 := nds_get (List.getElem?_eq_getElem hq) hr
        rw [hk3] at h1 h2
        rw [h1, ← h2, ← e0]
        simp only [List.getElem?_set]
        rw [if_neg (by omega), if_neg (by omega), if_neg (by omega)]
    · rw [if_neg hk]
      exact (List.getElem?_eq_none (by rw [nds_len, List.length_set]; omega)).symm
theorem RowN.cut (h : RowN w rb c l) (m : Nat) : RowN w rb c (l.take m) := by
  obtain ⟨L, hb, hl, hc, ht⟩ := h
  refine ⟨L, hb, hl, by simp; omega, ?_⟩
  rw [← nds_take, ← ht, List.take_take]
  congr 1
  simp
end
theorem RowN.loads {w : World} {rb c i : Nat} {l : List Nd} {x : Nd} (h : RowN w rb c l) (hx : l[i]? = some x) : ∀ j v, (ndc x)[j]? = some v → w.cell? ⟨rb, i * 3 + j, none⟩ = some v := by
  intro j v hj
  obtain ⟨h0, h1, h2⟩ := h.get hx
  have hjl : j < 3 := (List.getElem?_eq_some_iff.1 hj).1
  rcases (show j = 0 ∨ j = 1 ∨ j = 2 by omega) with rfl | rfl | rfl
  · rw [← hj]; exact h0
  · rw [← hj]; exact h1
  · rw [← hj]; exact h2
/-- A heap whose things lie in a row. -/
structure HpR (w : World) (g rb : Nat) (most puts n c : Nat) (l : List Nd) : Prop where
  blk : Blk w g 59 #[.int .i64 (most : Nat), .int .i64 (puts : Nat), .slice (some ⟨rb, 0, none⟩) n c]
  row : RowN w rb c l
  len : l.length = n
  cm : c ≤ maxLen
  ms : n ≤ 100000
section
variable {w w' : World} {g rb most puts n c : Nat} {l : List Nd}
theorem HpR.ne (h : HpR w g rb most puts n c l) : g ≠ rb := fun e => by
  subst e
  obtain ⟨L, hb, _⟩ := h.row
  have h1 := h.blk
  unfold Blk at hb h1
  rw [h1] at hb
  injection hb with hb
  injection hb with _ hb
  exact absurd hb (by decide)
theorem HpR.nc (h : HpR w g rb most puts n c l) : n ≤ c := by obtain ⟨L, _, _, h1, _⟩ := h.row; rw [← h.len]; exact h1
end
set_option maxRecDepth 20000 in
theorem hahead_any (g rb most puts n c i j : Nat) (l : List Nd) (w : World) (h : HpR w g rb most puts n c l) (hi : i < n) (hj : j < n) :
    Calls Try.prog 29 #[.pointer (some ⟨g, 0, none⟩), .int .i64 (i : Nat), .int .i64 (j : Nat)] w fun e w' => e = .returned (.bool (decide (ltN (gN l i) (gN l j)))) ∧ ∃ q, w' = w.drewN q := by
  obtain ⟨c0, c1, c2⟩ := ptc3 h.blk
  obtain ⟨x0, x1, x2⟩ := h.row.get (gN_some (l := l) (i := i) (by rw [h.len]; exact hi))
  obtain ⟨y0, y1, y2⟩ := h.row.get (gN_some (l := l) (i := j) (by rw [h.len]; exact hj))
  have hnc := h.nc
  have hcm := h.cm
  have hms := h.ms
  unfold maxLen at hcm
  obtain ⟨⟨xa, xw, xo⟩, hx⟩ : ∃ x, x = gN l i := ⟨_, rfl⟩
  obtain ⟨⟨ya, yw, yo⟩, hy⟩ : ∃ x, x = gN l j := ⟨_, rfl⟩
  rw [← hx] at x0 x1 x2 ⊢
  rw [← hy] at y0 y1 y2 ⊢
  dsimp only at x0 x1 x2 y0 y1 y2
  have hij : (i : Int) < (n : Int) := by omega
  have hjj : (j : Int) < (n : Int) := by omega
  clear h hx hy
  by_cases he : xa = ya
  · subst he
    have e : decide (ltN (xa, xw, xo) (xa, yw, yo)) = decide (xo < yo) := by unfold ltN; simp
    rw [e]
    go_enter Try.func29, Try.ntmps29
    go_wp2_with fail
    go_quiet (fail)
    clear c0 c1 c2
    go_wp2_with fail
    go_quiet (fail)
    go_wp2_with fail
    go_quiet (fail)
    go_wp2_with fail
    go_ret
    exact ⟨rfl, _, by rw [World.drewN_drewN, World.drewN_drewN]⟩
  · have e : decide (ltN (xa, xw, xo) (ya, yw, yo)) = decide (xa < ya) := by unfold ltN; simp [he]
    rw [e]
    go_enter Try.func29, Try.ntmps29
    go_wp2_with fail
    go_quiet (fail)
    clear c0 c1 c2
    go_wp2_with fail
    go_quiet (fail)
    go_wp2_with fail
    go_quiet (fail)
    go_wp2_with fail
    go_ret
    exact ⟨rfl, _, by rw [World.drewN_drewN, World.drewN_drewN]⟩
set_option maxRecDepth 20000 in
set_option maxHeartbeats 2000000 in
theorem hswap_any (g rb most puts n c i j : Nat) (l : List Nd) (w : World) (h : HpR w g rb most puts n c l) (hi : i < n) (hj : j < n) :
    Calls Try.prog 30 #[.pointer (some ⟨g, 0, none⟩), .int .i64 (i : Nat), .int .i64 (j : Nat)] w fun e w' => e = .returned (.tuple #[]) ∧ HpR w' g rb most puts n c (swN l i j) ∧ Solo rb w w' := by
  have hli : i < l.length := by rw [h.len]; exact hi
  have hlj : j < l.length := by rw [h.len]; exact hj
  have hgi := gN_some hli
  have hgj := gN_some hlj
  have hnc := h.nc
  have hcm := h.cm
  have hms := h.ms
  unfold maxLen at hcm
  have HSW := Lib.hid (show swN l i j = (l.set i (gN l j)).set j (gN l i) from rfl)
  obtain ⟨sw, hsw⟩ : ∃ s, s = swN l i j := ⟨_, rfl⟩
  obtain ⟨⟨xa, xw, xo⟩, hx⟩ : ∃ x, x = gN l i := ⟨_, rfl⟩
  obtain ⟨⟨ya, yw, yo⟩, hy⟩ : ∃ x, x = gN l j := ⟨_, rfl⟩
  rw [← hsw]
  rw [← hsw, ← hx, ← hy] at HSW
  rw [← hx] at hgi
  rw [← hy] at hgj
  have HGI := Lib.hid hgi
  have HGJ := Lib.hid hgj
  have HLI := Lib.hid hli
  have HLJ := Lib.hid hlj
  have hij : (i : Int) < (n : Int) := by omega
  have hjj : (j : Int) < (n : Int) := by omega
  have H := Lib.hid h
  clear h hx hy hsw hgi hgj hli hlj
  go_enter Try.func30, Try.ntmps30
  go_wp2_with fail
  refine wp_ord [(0, .pure), (1, .pure), (2, .pure), (3, .read), (4, .pure), (5, .pure), (6, .pure), (7, .pure), (8, .read), (9, .pure), (10, .pure), (11, .pure), (12, .pure), (13, .read), (14, .pure), (15, .pure), (16, .read), (17, .pure), (18, .pure), (19, .pure), (20, .read), (21, .pure), (22, .pure), (23, .read), (24, .pure), (25, .sole), (26, .pure), (27, .sole)] [25, 27] (by kernel_rfl) (by kernel_rfl) (fun QQ hQ wd hwd => ?_); simp only [List.map_cons, List.map_nil, List.getD_cons_zero, List.getD_cons_succ]
  have hD : Below w.heap.size w wd := by rw [hwd.out]; exact (Below.refl _ _).drew
  have KD := Lib.hid (H.out.blk.below hD H.out.blk.lt)
  have RD := Lib.hid (H.out.row.same (hD.block rb H.out.row.lt))
  have SD : Hid (Solo rb w wd) := Lib.hid (by rw [hwd.out]; exact Solo.refl.drew)
  obtain ⟨c0, c1, c2⟩ := ptc3 KD.out
  clear hD hwd
  (refine o_pure (v := ?_) (by rfl) (fun w' => ?_) ?_; rotate_left; (focus (go_simp; (try with_reducible rfl); (try (rw [if_pos (by omega)]; (try with_reducible rfl))))); (try simp only [Act.put, List.setIfInBounds_toArray, List.set_cons_zero, List.set_cons_succ]))
  (refine o_pure (v := ?_) (by rfl) (fun w' => ?_) ?_; rotate_left; (focus (go_simp; (try with_reducible rfl); (try (rw [if_pos (by omega)]; (try with_reducible rfl))))); (try simp only [Act.put, List.setIfInBounds_toArray, List.set_cons_zero, List.set_cons_succ]))
  (refine o_pure (v := ?_) (by rfl) (fun w' => ?_) ?_; rotate_left; (focus (go_simp; (try with_reducible rfl); (try (rw [if_pos (by omega)]; (try with_reducible rfl))))); (try simp only [Act.put, List.setIfInBounds_toArray, List.set_cons_zero, List.set_cons_succ]))
  (refine o_load _ (by rfl) rfl rfl (by assumption) (by kernel_rfl) ?_; simp only [Act.put, List.setIfInBounds_toArray, List.set_cons_zero, List.set_cons_succ])
  (refine o_pure (v := ?_) (by rfl) (fun w' => ?_) ?_; rotate_left; (focus (go_simp; (try with_reducible rfl); (try (rw [if_pos (by omega)]; (try with_reducible rfl))))); (try simp only [Act.put, List.setIfInBounds_toArray, List.set_cons_zero, List.set_cons_succ]))
  (refine o_pure (v := ?_) (by rfl) (fun w' => ?_) ?_; rotate_left; (focus (go_simp; (try with_reducible rfl); (try (rw [if_pos (by omega)]; (try with_reducible rfl))))); (try simp only [Act.put, List.setIfInBounds_toArray, List.set_cons_zero, List.set_cons_succ]))
  (refine o_pure (v := ?_) (by rfl) (fun w' => ?_) ?_; rotate_left; (focus (go_simp; (try with_reducible rfl); (try (rw [if_pos (by omega)]; (try with_reducible rfl))))); (try simp only [Act.put, List.setIfInBounds_toArray, List.set_cons_zero, List.set_cons_succ]))
  (refine o_pure (v := ?_) (by rfl) (fun w' => ?_) ?_; rotate_left; (focus (go_simp; (try with_reducible rfl); (try (rw [if_pos (by omega)]; (try with_reducible rfl))))); (try simp only [Act.put, List.setIfInBounds_toArray, List.set_cons_zero, List.set_cons_succ]))
  (refine o_load _ (by rfl) rfl rfl (by assumption) (by kernel_rfl) ?_; simp only [Act.put, List.setIfInBounds_toArray, List.set_cons_zero, List.set_cons_succ])
  (refine o_pure (v := ?_) (by rfl) (fun w' => ?_) ?_; rotate_left; (focus (go_simp; (try with_reducible rfl); (try (rw [if_pos (by omega)]; (try with_reducible rfl))))); (try simp only [Act.put, List.setIfInBounds_toArray, List.set_cons_zero, List.set_cons_succ]))
  (refine o_pure (v := ?_) (by rfl) (fun w' => ?_) ?_; rotate_left; (focus (go_simp; (try with_reducible rfl); (try (rw [if_pos (by omega)]; (try with_reducible rfl))))); (try simp only [Act.put, List.setIfInBounds_toArray, List.set_cons_zero, List.set_cons_succ]))
  (refine o_pure (v := ?_) (by rfl) (fun w' => ?_) ?_; rotate_left; (focus (go_simp; (try with_reducible rfl); (try (rw [if_pos (by omega)]; (try with_reducible rfl))))); (try simp only [Act.put, List.setIfInBounds_toArray, List.set_cons_zero, List.set_cons_succ]))
  (refine o_pure (v := ?_) (by rfl) (fun w' => ?_) ?_; rotate_left; (focus (go_simp; (try with_reducible rfl); (try (rw [if_pos (by omega)]; (try with_reducible rfl))))); (try simp only [Act.put, List.setIfInBounds_toArray, List.set_cons_zero, List.set_cons_succ]))
  (refine o_load _ (by rfl) rfl rfl (by assumption) (by kernel_rfl) ?_; simp only [Act.put, List.setIfInBounds_toArray, List.set_cons_zero, List.set_cons_succ])
  (refine o_pure (v := ?_) (by rfl) (fun w' => ?_) ?_; rotate_left; (focus (go_simp; (try with_reducible rfl); (try (rw [if_pos (by omega)]; (try with_reducible rfl))))); (try simp only [Act.put, List.setIfInBounds_toArray, List.set_cons_zero, List.set_cons_succ]))
  (refine o_pure (v := ?_) (by rfl) (fun w' => ?_) ?_; rotate_left; (focus (go_simp; (try with_reducible rfl); (try (rw [if_pos (by omega)]; (try with_reducible rfl))))); (try simp only [Act.put, List.setIfInBounds_toArray, List.set_cons_zero, List.set_cons_succ]))
  (refine o_loads _ [.int .i64 ya, .int .i64 yw, .int .i64 (yo : Int)] (by rfl) rfl rfl (RD.out.loads HGJ.out) (Nat.succ_pos _) (by kernel_rfl) (by kernel_rfl) ?_; simp only [Act.put, List.setIfInBounds_toArray, List.set_cons_zero, List.set_cons_succ])
  (refine o_pure (v := ?_) (by rfl) (fun w' => ?_) ?_; rotate_left; (focus (go_simp; (try with_reducible rfl); (try (rw [if_pos (by omega)]; (try with_reducible rfl))))); (try simp only [Act.put, List.setIfInBounds_toArray, List.set_cons_zero, List.set_cons_succ]))
  (refine o_pure (v := ?_) (by rfl) (fun w' => ?_) ?_; rotate_left; (focus (go_simp; (try with_reducible rfl); (try (rw [if_pos (by omega)]; (try with_reducible rfl))))); (try simp only [Act.put, List.setIfInBounds_toArray, List.set_cons_zero, List.set_cons_succ]))
  (refine o_pure (v := ?_) (by rfl) (fun w' => ?_) ?_; rotate_left; (focus (go_simp; (try with_reducible rfl); (try (rw [if_pos (by omega)]; (try with_reducible rfl))))); (try simp only [Act.put, List.setIfInBounds_toArray, List.set_cons_zero, List.set_cons_succ]))
  (refine o_load _ (by rfl) rfl rfl (by assumption) (by kernel_rfl) ?_; simp only [Act.put, List.setIfInBounds_toArray, List.set_cons_zero, List.set_cons_succ])
  (refine o_pure (v := ?_) (by rfl) (fun w' => ?_) ?_; rotate_left; (focus (go_simp; (try with_reducible rfl); (try (rw [if_pos (by omega)]; (try with_reducible rfl))))); (try simp only [Act.put, List.setIfInBounds_toArray, List.set_cons_zero, List.set_cons_succ]))
  (refine o_pure (v := ?_) (by rfl) (fun w' => ?_) ?_; rotate_left; (focus (go_simp; (try with_reducible rfl); (try (rw [if_pos (by omega)]; (try with_reducible rfl))))); (try simp only [Act.put, List.setIfInBounds_toArray, List.set_cons_zero, List.set_cons_succ]))
  (refine o_loads _ [.int .i64 xa, .int .i64 xw, .int .i64 (xo : Int)] (by rfl) rfl rfl (RD.out.loads HGI.out) (Nat.succ_pos _) (by kernel_rfl) (by kernel_rfl) ?_; simp only [Act.put, List.setIfInBounds_toArray, List.set_cons_zero, List.set_cons_succ])
  (refine o_pure (v := ?_) (by rfl) (fun w' => ?_) ?_; rotate_left; (focus (go_simp; (try with_reducible rfl); (try (rw [if_pos (by omega)]; (try with_reducible rfl))))); (try simp only [Act.put, List.setIfInBounds_toArray, List.set_cons_zero, List.set_cons_succ]))
  obtain ⟨u0, u1, u2⟩ := RD.out.get HGI.out
  dsimp only at u0 u1 u2
  have f0 := RD.out.frozen (i * 3)
  have f1 := RD.out.frozen (i * 3 + 1)
  have f2 := RD.out.frozen (i * 3 + 2)
  refine o_sole (fun K hK => ?_)
  go_wp2_with fail
  refine hK _ _ (fun h => by cases h) ?_; clear hK K
  have hs5 : Solo rb wd (((wd.setCell ⟨rb, i * 3, none⟩ (.int .i64 ya)).setCell ⟨rb, i * 3 + 1, none⟩ (.int .i64 yw)).setCell ⟨rb, i * 3 + 2, none⟩ (.int .i64 (yo : Int))) := ((Solo.refl.setCell _ _).setCell _ _).setCell _ _
  have R5 := Lib.hid (RD.out.set HLI.out (ya, yw, yo))
  have K5 := Lib.hid (hs5.blk KD.out H.out.ne)
  have S5 := Lib.hid (SD.out.trans hs5)
  dsimp only at R5
  clear hs5 c0 c1 c2 u0 u1 u2 f0 f1 f2 KD RD SD
  generalize (((wd.setCell ⟨rb, i * 3, none⟩ (.int .i64 ya)).setCell ⟨rb, i * 3 + 1, none⟩ (.int .i64 yw)).setCell ⟨rb, i * 3 + 2, none⟩ (.int .i64 (yo : Int))) = w5 at R5 K5 S5 ⊢
  obtain ⟨u0, u1, u2⟩ := R5.out.get (gN_some (l := l.set i (ya, yw, yo)) (i := j) (by rw [List.length_set]; exact HLJ.out))
  have f0 := R5.out.frozen (j * 3)
  have f1 := R5.out.frozen (j * 3 + 1)
  have f2 := R5.out.frozen (j * 3 + 2)
  (refine o_pure (v := ?_) (by rfl) (fun w' => ?_) ?_; rotate_left; (focus (go_simp; (try with_reducible rfl); (try (rw [if_pos (by omega)]; (try with_reducible rfl))))); (try simp only [Act.put, List.setIfInBounds_toArray, List.set_cons_zero, List.set_cons_succ]))
  refine o_sole (fun K hK => ?_)
  go_wp2_with fail
  refine hK _ _ (fun h => by cases h) ?_; clear hK K
  refine o_nil (hQ.out _ _ ?_); clear hQ QQ
  have hs6 : Solo rb w5 (((w5.setCell ⟨rb, j * 3, none⟩ (.int .i64 xa)).setCell ⟨rb, j * 3 + 1, none⟩ (.int .i64 xw)).setCell ⟨rb, j * 3 + 2, none⟩ (.int .i64 (xo : Int))) := ((Solo.refl.setCell _ _).setCell _ _).setCell _ _
  have R6 := Lib.hid (R5.out.set (i := j) (by rw [List.length_set]; exact HLJ.out) (xa, xw, xo))
  have K6 := Lib.hid (hs6.blk K5.out H.out.ne)
  have S6 := Lib.hid (S5.out.trans hs6)
  dsimp only at R6
  rw [← HSW.out] at R6
  clear hs6 u0 u1 u2 f0 f1 f2 K5 R5 S5
  generalize (((w5.setCell ⟨rb, j * 3, none⟩ (.int .i64 xa)).setCell ⟨rb, j * 3 + 1, none⟩ (.int .i64 xw)).setCell ⟨rb, j * 3 + 2, none⟩ (.int .i64 (xo : Int))) = w6 at R6 K6 S6 ⊢
  go_wp2_with fail
  go_end0
  exact ⟨rfl, ⟨K6.out, R6.out, by rw [HSW.out]; simpa using H.out.len, H.out.cm, hms⟩, S6.out⟩
end Go.Proofs.Ytkekmcolekomjaa
