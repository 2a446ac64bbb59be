/- Package heap: a heap by what it holds, in order; New, Len, First, Put. -/
import Derived.Test.YtkekmcolekomjaaHep2
import Derived.Test.YtkekmcolekomjaaOrd
namespace Go.Proofs.Ytkekmcolekomjaa
open Go.RowKit
set_option linter.unusedVariables false
set_option linter.unusedSimpArgs false
def KeptH (g : Nat) (v v' : Value) (w w' : World) : Prop := (∀ k, k < w.heap.size → k ≠ g → v.ownBlock ≠ some k → w'.heap[k]? = w.heap[k]?) ∧ NewOr v v' w ∧ w.heap.size ≤ w'.heap.size
theorem KeptH.of_below {g : Nat} {v : Value} {w w' : World} (h : Below w.heap.size w w') : KeptH g v v w w' := ⟨fun k hk _ _ => h.block k hk, NewOr.same rfl, h.size⟩
theorem KeptH.trans {g : Nat} {v v' v2 : Value} {w w' w2 : World} (h : KeptH g v v' w w') (k : KeptH g v' v2 w' w2) : KeptH g v v2 w w2 :=
  ⟨fun i hi hg hv => (k.1 i (Nat.lt_of_lt_of_le hi h.2.2) hg (fun e => by
      rcases h.2.1 i e with h1 | h1
      · exact hv h1
      · omega)).trans (h.1 i hi hg hv), fun i e => by
      rcases k.2.1 i e with h1 | h1
      · exact h.2.1 i h1
      · exact .inr (Nat.le_trans h.2.2 h1), Nat.le_trans h.2.2 k.2.2⟩
/-- A heap: what it holds, in order. -/
structure HpI (w : World) (g B most puts : Nat) (v : Value) (R : List Nd) : Prop where
  blk : Blk w g 59 #[.int .i64 (most : Nat), .int .i64 (puts : Nat), v]
  own : ∃ l, w.ownsRow B 61 3 v l.length (nds l) ∧ Hp l ∧ l.Perm R
  srt : Srt R
  ords : ∀ y ∈ R, y.2.2 < puts
  len : R.length ≤ most
  ms : most ≤ 65536
  pm : puts ≤ 1000000
  bg : B ≤ g
section
variable {w w' : World} {g B most puts : Nat} {v : Value} {R : List Nd}
theorem HpI.cells (h : HpI w g B most puts v R) : w.cell? ⟨g, 0, none⟩ = some (.int .i64 (most : Nat)) ∧ w.cell? ⟨g, 1, none⟩ = some (.int .i64 (puts : Nat)) ∧ w.cell? ⟨g, 2, none⟩ = some v := ptc3 h.blk
theorem HpI.lt (h : HpI w g B most puts v R) : g < w.heap.size := h.blk.lt
theorem HpI.own_lt (h : HpI w g B most puts v R) : ∀ k, v.ownBlock = some k → k < w.heap.size := fun k hk => by
  obtain ⟨l, ho, _⟩ := h.own
  exact (ho.lt k hk).2
theorem HpI.below {B' : Nat} (h : HpI w g B most puts v R) (hb : Below B' w w') (hB : w.heap.size ≤ B') : HpI w' g B most puts v R := by
  obtain ⟨l, ho, hl⟩ := h.own
  exact ⟨h.blk.below hb (Nat.lt_of_lt_of_le h.lt hB), ⟨l, own_below ho hb fun k hk => Nat.lt_of_lt_of_le (ho.lt k hk).2 hB, hl⟩, h.srt, h.ords, h.len, h.ms, h.pm, h.bg⟩
theorem HpI.into (h : HpI w g B most puts v R) (hb : Below w.heap.size w w') : HpI w' g B most puts v R := h.below hb (Nat.le_refl _)
theorem HpI.same (h : HpI w g B most puts v R) (hg : w'.heap[g]? = w.heap[g]?) (hv : ∀ k, v.ownBlock = some k → w'.heap[k]? = w.heap[k]?) : HpI w' g B most puts v R := by
  obtain ⟨l, ho, hl⟩ := h.own
  exact ⟨hg.trans h.blk, ⟨l, own_kept ho hv, hl⟩, h.srt, h.ords, h.len, h.ms, h.pm, h.bg⟩
/-- The row as a slice. -/
theorem HpI.form (h : HpI w g B most puts v R) : ∃ A c, v = .slice A R.length c ∧ R.length ≤ c ∧ c ≤ maxLen := by
  obtain ⟨l, ho, _, hp⟩ := h.own
  obtain ⟨A, c, rfl, h1, h2, _⟩ := own_form ho
  rw [hp.length_eq] at h1 ⊢
  exact ⟨A, c, rfl, h1, h2⟩
/-- .. of a heap that holds something. -/
theorem HpI.open_ (h : HpI w g B most puts v R) (h0 : 0 < R.length) : ∃ rb c l, v = .slice (some ⟨rb, 0, none⟩) R.length c ∧ B ≤ rb ∧ v.ownBlock = some rb ∧ HpR w g rb most puts R.length c l ∧ Hp l ∧ l.Perm R := by
  obtain ⟨l, ho, hh, hp⟩ := h.own
  have hle := hp.length_eq
  rcases own_open ho with ⟨_, hn, _⟩ | ⟨rb, c, L, rfl, hB, hb, hnc, hcm, hl, ht⟩
  · omega
  · refine ⟨rb, c, l, by rw [hle], hB, ?_, ⟨?_, ⟨L, hb, hl, hnc, ht⟩, hle, hcm, ?_⟩, hh, hp⟩
    · simp [Value.ownBlock]
    · have := h.blk; rw [hle] at this; exact this
    · have := h.len; have := h.ms; omega
end
theorem HpR.shut {w : World} {g rb most puts n c B : Nat} {l : List Nd} (h : HpR w g rb most puts n c l) (hB : B ≤ rb) : w.ownsRow B 61 3 (.slice (some ⟨rb, 0, none⟩) n c) l.length (nds l) := by
  obtain ⟨L, hb, hl, hc, ht⟩ := h.row
  have := own_shut (n := l.length) (sz := 3) (c := c) hB hb hc h.cm hl ht
  rw [h.len] at this ⊢
  exact this
def hmost (m : Int) : Nat := if m < 0 then 0 else if 65536 < m then 65536 else m.toNat
theorem hmost_le (m : Int) : hmost m ≤ 65536 := by unfold hmost; split <;> (try split) <;> omega
theorem hnew_any (m : Int) (w : World) (hm : (Lit.int .i64 m).wf = true) :
    Calls Try.prog 15 #[.int .i64 m] w fun e w' => e = .returned (.pointer (some ⟨w.heap.size, 0, none⟩)) ∧ HpI w' w.heap.size w.heap.size (hmost m) 0 (.slice none 0 0) [] ∧ Below w.heap.size w w' := by
  have fin : ∀ k : Nat, k ≤ 65536 → HpI (w.alloc (.cells #[.int .i64 (k : Int), .int .i64 0, .slice none 0 0] 59)) w.heap.size w.heap.size k 0 (.slice none 0 0) [] := fun k hk =>
    ⟨Blk.new _ _ _, ⟨[], World.ownsRow_nil _ _ _ _, Hp.nil, List.Perm.refl _⟩, List.Pairwise.nil, by simp, Nat.zero_le _, hk, by omega, Nat.le_refl _⟩
  have hb : ∀ o, Below w.heap.size w (w.alloc o) := fun o => (Below.refl _ _).alloc (Nat.le_refl _) _
  have FIN := Lib.hid fin
  have HB := Lib.hid hb
  unfold hmost
  clear fin hb
  by_cases h1 : m < 0
  · rw [if_pos h1]
    go_enter Try.func15, Try.ntmps15
    go_wp2_with fail
    go_ret
    exact ⟨rfl, FIN.out 0 (by omega), HB.out _⟩
  · rw [if_neg h1]
    by_cases h2 : 65536 < m
    · rw [if_pos h2]
      go_enter Try.func15, Try.ntmps15
      go_wp2_with fail
      go_ret
      exact ⟨rfl, FIN.out 65536 (by omega), HB.out _⟩
    · rw [if_neg h2]
      obtain ⟨k, rfl⟩ : ∃ k : Nat, m = (k : Int) := ⟨m.toNat, by omega⟩
      have hk : k ≤ 65536 := by omega
      have hk1 : (0 : Int) ≤ k := by omega
      have hk2 : (k : Int) ≤ 65536 := by omega
      clear h1 h2
      go_enter Try.func15, Try.ntmps15
      go_wp2_with fail
      go_ret
      exact ⟨rfl, FIN.out k hk, HB.out _⟩
theorem hlen_any (g B most puts : Nat) (v : Value) (R : List Nd) (w : World) (h : HpI w g B most puts v R) :
    Calls Try.prog 23 #[.pointer (some ⟨g, 0, none⟩)] w fun e w' => e = .returned (.int .i64 (R.length : Nat)) ∧ w' = w := by
  obtain ⟨c0, c1, c2⟩ := h.cells
  obtain ⟨A, c, rfl, hnc, hcm⟩ := h.form
  obtain ⟨n, hn⟩ : ∃ n, n = R.length := ⟨_, rfl⟩
  rw [← hn] at c2 hnc ⊢
  clear h hn
  go_enter Try.func23, Try.ntmps23
  go_wp2_with fail
  go_ret
  exact ⟨rfl, rfl⟩
def itv (a b : Int) : Value := .agg #[.int .i64 a, .int .i64 b]
set_option maxRecDepth 20000 in
theorem hfirst_nil (g B most puts : Nat) (v : Value) (w : World) (h : HpI w g B most puts v []) :
    Calls Try.prog 22 #[.pointer (some ⟨g, 0, none⟩)] w fun e w' => e = .returned (.tuple #[itv 0 0, .bool false]) ∧ Below w.heap.size w w' := by
  unfold itv
  have hlt := h.lt
  obtain ⟨c0, c1, c2⟩ := h.cells
  obtain ⟨A, c, rfl, hnc, hcm⟩ := h.form
  have c2 : w.cell? ⟨g, 2, none⟩ = some (.slice A 0 c) := c2
  clear h
  go_enter Try.func22, Try.ntmps22
  go_wp2_with fail
  obtain ⟨z0, z1⟩ := ptc2 (Blk.new w 42 #[.int .i64 0, .int .i64 0])
  exact bodyPost_ret (v := .tuple #[.agg #[.int .i64 0, .int .i64 0], .bool false]) (by simp [results, Try.results22, go_sem, z0, z1]) rfl ⟨rfl, (Below.refl _ _).alloc (Nat.le_refl _) _⟩
set_option maxRecDepth 20000 in
theorem hfirst_cons (g B most puts : Nat) (v : Value) (x : Nd) (R : List Nd) (w : World) (h : HpI w g B most puts v (x :: R)) :
    Calls Try.prog 22 #[.pointer (some ⟨g, 0, none⟩)] w fun e w' => e = .returned (.tuple #[itv x.1 x.2.1, .bool true]) ∧ Below w.heap.size w w' := by
  unfold itv
  have hlt := h.lt
  obtain ⟨c0, c1, c2⟩ := h.cells
  obtain ⟨rb, c, l, rfl, hB, hob, hr, hh, hp⟩ := h.open_ (by simp)
  have e0 := first_eq hh hp h.srt
  have hll : 0 < l.length := by rw [hp.length_eq]; simp
  have hgx := gN_some hll
  rw [e0] at hgx
  obtain ⟨x0, x1, x2⟩ := hr.row.get hgx
  obtain ⟨xa, xw, xo⟩ := x
  dsimp only at x0 x1 x2 ⊢
  have hne := hr.ne
  have hrl := hr.row.lt
  obtain ⟨n, hn⟩ : ∃ n, n = R.length + 1 := ⟨_, rfl⟩
  have hn0 : 0 < n := by omega
  have hn1 : ¬ (n : Int) = 0 := by omega
  have c2 : w.cell? ⟨g, 2, none⟩ = some (.slice (some ⟨rb, 0, none⟩) n c) := by rw [hn]; exact c2
  simp only [Nat.zero_mul, Nat.zero_add] at x0 x1 x2
  clear h hr hh hp e0 hll hgx hn
  go_enter Try.func22, Try.ntmps22
  go_wp2_with fail
  obtain ⟨z0, z1⟩ := ptc2 (Blk.new w 42 #[.int .i64 xa, .int .i64 xw])
  exact bodyPost_ret (v := .tuple #[.agg #[.int .i64 xa, .int .i64 xw], .bool true]) (by simp [results, Try.results22, go_sem, z0, z1]) rfl ⟨rfl, (Below.refl _ _).alloc (Nat.le_refl _) _⟩
theorem ndEl : El Try.prog 57 61 (.agg #[.int .i64 0, .int .i64 0, .int .i64 0]) 3 24 := ⟨Try.underlying57, by kernel_rfl, rfl, by decide, by decide⟩
/-- An owned row's block is none of another type. -/
theorem own_ne {w : World} {B sz n g : Nat} {e t : TypeId} {v : Value} {xs : List Value} {cs : Array Value} (h : w.ownsRow B e sz v n xs) (hb : Blk w g t cs) (hne : e ≠ t) : v.ownBlock ≠ some g := fun hk => by
  rcases own_open h with ⟨rfl, _, _⟩ | ⟨rb, c, L, rfl, _, hr, _⟩
  · simp [Value.ownBlock] at hk
  · simp [Value.ownBlock] at hk
    subst hk
    unfold Blk at hb hr
    rw [hb] at hr
    injection hr with hr
    injection hr with _ ht
    exact hne ht.symm
theorem hput_full (g B most puts : Nat) (v : Value) (R : List Nd) (at_ wh : Int) (w : World) (h : HpI w g B most puts v R) (hfull : most ≤ R.length) :
    Calls Try.prog 21 #[.pointer (some ⟨g, 0, none⟩), .int .i64 at_, .int .i64 wh] w fun e w' => e = .returned (.bool false) ∧ ∃ q, w' = w.drewN q := by
  obtain ⟨c0, c1, c2⟩ := h.cells
  obtain ⟨A, c, rfl, hnc, hcm⟩ := h.form
  obtain ⟨n, hn⟩ : ∃ n, n = R.length := ⟨_, rfl⟩
  rw [← hn] at c2 hfull hnc
  have hf2 : (most : Int) ≤ (n : Int) := by omega
  clear h hn
  go_enter Try.func21, Try.ntmps21
  go_wp2_with fail
  go_quiet (fail)
  go_wp2_with fail
  go_ret
  exact ⟨rfl, _, rfl⟩
set_option maxRecDepth 20000 in
set_option maxHeartbeats 1000000 in
theorem hput_any (g B most puts : Nat) (v : Value) (R : List Nd) (at_ wh : Int) (w : World) (h : HpI w g B most puts v R) (hroom : R.length < most) (hp9 : puts < 1000000) :
    Calls Try.prog 21 #[.pointer (some ⟨g, 0, none⟩), .int .i64 at_, .int .i64 wh] w fun e w' => e = .returned (.bool true) ∧ (∃ v', HpI w' g B most (puts + 1) v' (insN (at_, wh, puts) R) ∧ KeptH g v v' w w') ∧ Below B w w' := by
  have hnl : R.length ≤ 65536 := Nat.le_trans h.len h.ms
  have HI := Lib.hid h
  obtain ⟨c0, c1, c2⟩ := h.cells
  obtain ⟨l, ho, hhp, hper⟩ := h.own
  have hle := hper.length_eq
  obtain ⟨A, c, hvv, hnc, hcm⟩ := h.form
  subst hvv
  have HO := Lib.hid ho
  have HHP := Lib.hid hhp
  have HPER := Lib.hid hper
  obtain ⟨n, hn⟩ : ∃ n, n = R.length := ⟨_, rfl⟩
  have HLE := Lib.hid (show l.length = n by rw [hn]; exact hle)
  rw [← hn] at c2 hroom hnc hnl HO
  rw [← hn]
  have hr2 : ¬ (most : Int) ≤ (n : Int) := by omega
  have HBK : Hid (Blk w g 59 #[.int .i64 (most : Nat), .int .i64 (puts : Nat), .slice A n c]) := Lib.hid (by rw [hn]; exact h.blk)
  clear h hn ho hhp hper hle
  rw [HLE.out] at HO
  go_enter Try.func21, Try.ntmps21
  go_wp2_with fail
  go_quiet (fail)
  go_wp2_with fail
  refine wp_ord [(0, .pure), (1, .pure), (2, .pure), (3, .pure), (4, .read), (5, .pure), (6, .pure), (7, .pure), (8, .pure), (9, .pure), (10, .pure), (11, .read), (12, .pure), (13, .sole), (14, .sole), (15, .pure), (16, .pure), (17, .sole)] [14, 17] (by kernel_rfl) (by kernel_rfl) (fun QQ hQ wd hwd => ?_); simp only [List.map_cons, List.map_nil, List.getD_cons_zero, List.getD_cons_succ]
  have hD : Below w.heap.size w wd := by rw [hwd.out]; exact (below_drewN (Below.refl _ _) _).drew
  have KD := Lib.hid (HBK.out.below hD HI.out.lt)
  have OD := Lib.hid (own_below HO.out hD fun k hk => (HO.out.lt k hk).2)
  have HBD := Lib.hid hD
  obtain ⟨d0, d1, d2⟩ := ptc3 KD.out
  clear hD hwd c0 c1 c2
  (refine o_pure (v := ?_) (by rfl) (fun w' => ?_) ?_; rotate_left; (focus (go_simp; (try with_reducible rfl); (try (rw [if_pos (by omega)]; (try with_reducible rfl))))); (try simp only [Act.put, List.setIfInBounds_toArray, List.set_cons_zero, List.set_cons_succ]))
  (refine o_pure (v := ?_) (by rfl) (fun w' => ?_) ?_; rotate_left; (focus (go_simp; (try with_reducible rfl); (try (rw [if_pos (by omega)]; (try with_reducible rfl))))); (try simp only [Act.put, List.setIfInBounds_toArray, List.set_cons_zero, List.set_cons_succ]))
  (refine o_pure (v := ?_) (by rfl) (fun w' => ?_) ?_; rotate_left; (focus (go_simp; (try with_reducible rfl); (try (rw [if_pos (by omega)]; (try with_reducible rfl))))); (try simp only [Act.put, List.setIfInBounds_toArray, List.set_cons_zero, List.set_cons_succ]))
  (refine o_pure (v := ?_) (by rfl) (fun w' => ?_) ?_; rotate_left; (focus (go_simp; (try with_reducible rfl); (try (rw [if_pos (by omega)]; (try with_reducible rfl))))); (try simp only [Act.put, List.setIfInBounds_toArray, List.set_cons_zero, List.set_cons_succ]))
  (refine o_load _ (by rfl) rfl rfl (by assumption) (by kernel_rfl) ?_; simp only [Act.put, List.setIfInBounds_toArray, List.set_cons_zero, List.set_cons_succ])
  (refine o_pure (v := ?_) (by rfl) (fun w' => ?_) ?_; rotate_left; (focus (go_simp; (try with_reducible rfl); (try (rw [if_pos (by omega)]; (try with_reducible rfl))))); (try simp only [Act.put, List.setIfInBounds_toArray, List.set_cons_zero, List.set_cons_succ]))
  (refine o_pure (v := ?_) (by rfl) (fun w' => ?_) ?_; rotate_left; (focus (go_simp; (try with_reducible rfl); (try (rw [if_pos (by omega)]; (try with_reducible rfl))))); (try simp only [Act.put, List.setIfInBounds_toArray, List.set_cons_zero, List.set_cons_succ]))
  (refine o_pure (v := ?_) (by rfl) (fun w' => ?_) ?_; rotate_left; (focus (go_simp; (try with_reducible rfl); (try (rw [if_pos (by omega)]; (try with_reducible rfl))))); (try simp only [Act.put, List.setIfInBounds_toArray, List.set_cons_zero, List.set_cons_succ]))
  (refine o_pure (v := ?_) (by rfl) (fun w' => ?_) ?_; rotate_left; (focus (go_simp; (try with_reducible rfl); (try (rw [if_pos (by omega)]; (try with_reducible rfl))))); (try simp only [Act.put, List.setIfInBounds_toArray, List.set_cons_zero, List.set_cons_succ]))
  (refine o_pure (v := ?_) (by rfl) (fun w' => ?_) ?_; rotate_left; (focus (go_simp; (try with_reducible rfl); (try (rw [if_pos (by omega)]; (try with_reducible rfl))))); (try simp only [Act.put, List.setIfInBounds_toArray, List.set_cons_zero, List.set_cons_succ]))
  (refine o_pure (v := ?_) (by rfl) (fun w' => ?_) ?_; rotate_left; (focus (go_simp; (try with_reducible rfl); (try (rw [if_pos (by omega)]; (try with_reducible rfl))))); (try simp only [Act.put, List.setIfInBounds_toArray, List.set_cons_zero, List.set_cons_succ]))
  (refine o_load _ (by rfl) rfl rfl (by assumption) (by kernel_rfl) ?_; simp only [Act.put, List.setIfInBounds_toArray, List.set_cons_zero, List.set_cons_succ])
  (refine o_pure (v := ?_) (by rfl) (fun w' => ?_) ?_; rotate_left; (focus (go_simp; (try with_reducible rfl); (try (rw [if_pos (by omega)]; (try with_reducible rfl))))); (try simp only [Act.put, List.setIfInBounds_toArray, List.set_cons_zero, List.set_cons_succ]))
  refine o_sole (fun K hK => ?_)
  go_wp2_with fail
  refine hK _ _ (fun _ => Ext.of ((Below.refl _ _).alloc (Nat.le_refl _) _)) ?_; clear hK K
  have hA := (Below.refl wd.heap.size wd).alloc (Nat.le_refl _) (.cells #[.int .i64 at_, .int .i64 wh, .int .i64 (puts : Nat)] 61)
  have K4 := Lib.hid (KD.out.below hA KD.out.lt)
  have O4 := Lib.hid (own_below OD.out hA fun k hk => (OD.out.lt k hk).2)
  have N4 := Lib.hid (Rd.made (n := 1) (size := 3) wd 61 #[.int .i64 at_, .int .i64 wh, .int .i64 (puts : Nat)] rfl)
  have B4 := Lib.hid (HBD.out.trans (hA.mono HBD.out.size))
  obtain ⟨xb, hxb⟩ : ∃ x, x = wd.heap.size := ⟨_, rfl⟩
  have hz4 := Lib.hid (show w.heap.size ≤ xb by rw [hxb]; exact HBD.out.size)
  rw [← hxb] at N4 ⊢
  have hsz := Lib.hid (show (wd.alloc (.cells #[.int .i64 at_, .int .i64 wh, .int .i64 (puts : Nat)] 61)).heap.size = xb + 1 by rw [hxb]; simp)
  generalize wd.alloc (.cells #[.int .i64 at_, .int .i64 wh, .int .i64 (puts : Nat)] 61) = w4 at K4 O4 N4 B4 hsz ⊢
  have hBw : B ≤ w.heap.size := Nat.le_trans HI.out.bg (Nat.le_of_lt HI.out.lt)
  have hBz := Nat.le_trans (Nat.le_of_lt (Nat.lt_of_le_of_lt HI.out.bg HI.out.lt)) B4.out.size
  have hroom4 : (n + 1) * 24 ≤ room := room_ge (by omega)
  have hone : ∀ u ∈ [Value.int .i64 at_, .int .i64 wh, .int .i64 (puts : Nat)], u.oneCell' = true := nds_one [(at_, wh, puts)]
  have HONE := Lib.hid hone
  clear hA hxb d0 d1 d2 KD OD HBD hone
  refine o_sole (fun K hK => ?_)
  go_wp2_with (at_builtin; refine app2 ndEl rfl _ _ rfl rfl O4.out (by decide) rfl N4.out HONE.out hroom4 hBz ?_)
  intro v5 w5 ho5 hg5 hn5
  have O5 := Lib.hid ho5
  have K5 := Lib.hid (K4.out.far2 O4.out (by decide) hg5)
  have G5 := Lib.hid hg5
  have N5 := Lib.hid hn5
  have B5 := Lib.hid ((B4.out.mono hBw : Below B w w4).grown hg5 hBz (fun k hk => (O4.out.lt k hk).1))
  clear ho5 hg5 hn5
  refine hK _ _ (fun h => by cases h) ?_; clear hK K
  (refine o_pure (v := ?_) (by rfl) (fun w' => ?_) ?_; rotate_left; (focus (go_simp; (try with_reducible rfl); (try (rw [if_pos (by omega)]; (try with_reducible rfl))))); (try simp only [Act.put, List.setIfInBounds_toArray, List.set_cons_zero, List.set_cons_succ]))
  (refine o_pure (v := ?_) (by rfl) (fun w' => ?_) ?_; rotate_left; (focus (go_simp; (try with_reducible rfl); (try (rw [if_pos (by omega)]; (try with_reducible rfl))))); (try simp only [Act.put, List.setIfInBounds_toArray, List.set_cons_zero, List.set_cons_succ]))
  obtain ⟨d0, d1, d2⟩ := ptc3 K5.out
  have f2 := K5.out.frozen 2
  obtain ⟨A5, c5, rfl, hnc5, hcm5, _⟩ := own_form O5.out
  refine o_sole (fun K hK => ?_)
  go_wp2_with fail
  refine hK _ _ (fun h => by cases h) ?_; clear hK K
  refine o_nil (hQ.out _ _ ?_); clear hQ QQ
  have hs6 : Solo g w5 (w5.setCell ⟨g, 2, none⟩ (.slice A5 (n + 1) c5)) := Solo.refl.setCell 2 _
  have K6 : Hid (Blk (w5.setCell ⟨g, 2, none⟩ (.slice A5 (n + 1) c5)) g 59 #[.int .i64 (most : Nat), .int .i64 (puts : Nat), .slice A5 (n + 1) c5]) := Lib.hid (K5.out.set 2 _)
  have O6 := Lib.hid (own_kept O5.out fun k hk => hs6.2.2 k (fun e => by subst e; exact own_ne O5.out K5.out (by decide) hk))
  have S6 := Lib.hid hs6
  clear hs6 d0 d1 d2 f2
  generalize w5.setCell ⟨g, 2, none⟩ (.slice A5 (n + 1) c5) = w6 at K6 O6 S6 ⊢
  obtain ⟨d0, d1, d2⟩ := ptc3 K6.out
  have f1 := K6.out.frozen 1
  go_upto_region 5 with fail
  have hpi : (puts : Int) + 1 = ((puts + 1 : Nat) : Int) := by push_cast; rfl
  rw [hpi]
  have hs7 : Solo g w6 (w6.setCell ⟨g, 1, none⟩ (.int .i64 ((puts + 1 : Nat) : Int))) := Solo.refl.setCell 1 _
  have K7 : Hid (Blk (w6.setCell ⟨g, 1, none⟩ (.int .i64 ((puts + 1 : Nat) : Int))) g 59 #[.int .i64 (most : Nat), .int .i64 ((puts + 1 : Nat) : Int), .slice A5 (n + 1) c5]) := Lib.hid (K6.out.set 1 _)
  have O7 := Lib.hid (own_kept O6.out fun k hk => hs7.2.2 k (fun e => by subst e; exact own_ne O6.out K6.out (by decide) hk))
  have S7 := Lib.hid (S6.out.trans hs7)
  clear hs7 d0 d1 d2 f1 K6 O6 S6 hpi
  generalize w6.setCell ⟨g, 1, none⟩ (.int .i64 ((puts + 1 : Nat) : Int)) = w7 at K7 O7 S7 ⊢
  obtain ⟨rb, hA5, hBr, hR7, hob⟩ : ∃ rb, A5 = some ⟨rb, 0, none⟩ ∧ B ≤ rb ∧ HpR w7 g rb most (puts + 1) (n + 1) c5 (l ++ [(at_, wh, puts)]) ∧ (Value.slice A5 (n + 1) c5).ownBlock = some rb := by
    rcases own_open O7.out with ⟨_, hn, _⟩ | ⟨rb, c, L, hv, hB, hb, hnc, hcm, hl, ht⟩
    · omega
    · injection hv with e1 e2 e3
      subst e1 e3
      refine ⟨rb, rfl, hB, ⟨K7.out, ⟨L, hb, hl, ?_, ?_⟩, ?_, hcm, by omega⟩, by simp [Value.ownBlock]⟩
      · rw [List.length_append, HLE.out]; exact hnc
      · rw [nds_append, List.length_append, HLE.out]; exact ht
      · rw [List.length_append, HLE.out]; rfl
  subst hA5
  have HR7 := Lib.hid hR7
  have HU7 := Lib.hid (HU.snoc HHP.out (at_, wh, puts))
  rw [HLE.out] at HU7
  have HOB := Lib.hid hob
  obtain ⟨d0, d1, d2⟩ := ptc3 K7.out
  clear hR7 hob
  go_wp2_with fail
  refine (hrise_any g rb most (puts + 1) (n + 1) c5 n _ w7 HR7.out (by omega) HU7.out).mono ?_
  rintro e w8 ⟨rfl, ⟨l8, hh8, hp8, hr8⟩, hs8⟩
  have HH8 := Lib.hid hh8
  have HP8 := Lib.hid hp8
  have HR8 := Lib.hid hr8
  have S8 := Lib.hid hs8
  clear hh8 hp8 hr8 hs8 d0 d1 d2
  go_wp2_with fail
  go_ret
  have hown : (Value.slice A n c).ownBlock = some rb ∨ w.heap.size ≤ rb := by
    rcases N5.out rb HOB.out with h | h
    · exact .inl h
    · exact .inr (Nat.le_trans B4.out.size h)
  refine ⟨rfl, ⟨_, ⟨HR8.out.blk, ⟨l8, ?_, HH8.out, ?_⟩, insN_srt HI.out.srt HI.out.ords, ?_, ?_, HI.out.ms, by omega, HI.out.bg⟩, ?_, ?_, ?_⟩, ?_⟩
  · exact HR8.out.shut hBr
  · exact HP8.out.trans ((List.Perm.append_right _ HPER.out).trans (insN_perm _ _))
  · intro y hy
    rcases List.mem_append.1 ((insN_perm _ _).mem_iff.2 hy) with hy | hy
    · have := HI.out.ords y hy; omega
    · obtain rfl := List.mem_singleton.1 hy; exact Nat.lt_succ_self _
  · rw [← (insN_perm _ _).length_eq, List.length_append, ← HPER.out.length_eq, HLE.out]; exact hroom
  · intro k hk hg hv
    have h5 : w5.heap[k]? = w4.heap[k]? := G5.out.block k (Nat.lt_of_lt_of_le hk B4.out.size) (fun e => hv e.symm)
    have h7 : w7.heap[k]? = w5.heap[k]? := S7.out.2.2 k hg
    have h8 : w8.heap[k]? = w7.heap[k]? := S8.out.2.2 k (fun e => by
      subst e
      rcases hown with h | h
      · exact hv h
      · omega)
    exact h8.trans (h7.trans (h5.trans (B4.out.block k hk)))
  · intro k hk
    rw [HOB.out] at hk
    injection hk with hk
    subst hk
    exact hown
  · rw [S8.out.2.1, S7.out.2.1]
    exact Nat.le_trans B4.out.size G5.out.size
  · exact (B5.out.trans (S7.out.1.mono HI.out.bg)).trans (S8.out.1.mono hBr)
end Go.Proofs.Ytkekmcolekomjaa
