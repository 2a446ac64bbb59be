/- Package hist: a count in memory; Add, Count, Mean. -/
import Derived.Test.YtioebcjhmfndnaaHi2
namespace Go.Proofs.Ytioebcjhmfndnaa
open Go.RowKit
set_option linter.unusedVariables false
set_option linter.unusedSimpArgs false
def HRow (f : Nat → Nat) : List Value := (List.range 120).map fun r => Value.int .i64 (f r : Nat)
theorem HRow_len (f : Nat → Nat) : (HRow f).length = 120 := by simp [HRow]
theorem HRow_get (f : Nat → Nat) {r : Nat} (h : r < 120) : (HRow f)[r]? = some (Value.int .i64 (f r : Nat)) := by simp [HRow, h]
def HF (w : World) (g : Nat) (f : Nat → Nat) (s : Nat) : Prop := Blk w g 28 (HRow f ++ [Value.int .i64 (s : Nat)]).toArray
section
variable {w w' : World} {g s : Nat} {f f' : Nat → Nat}
theorem HF.lt (h : HF w g f s) : g < w.heap.size := Blk.lt h
theorem HF.into (h : HF w g f s) (hb : Below w.heap.size w w') : HF w' g f s := Blk.below h hb (Blk.lt h)
theorem HF.below {B : Nat} (h : HF w g f s) (hb : Below B w w') (hB : g < B) : HF w' g f s := Blk.below h hb hB
theorem HF.frozen (h : HF w g f s) (o : Nat) : w.frozen? ⟨g, o, none⟩ = false := Blk.frozen h o
theorem HF.cell (h : HF w g f s) {r : Nat} (hr : r < 120) : w.cell? ⟨g, r, none⟩ = some (Value.int .i64 (f r : Nat)) := by
  rw [Blk.cell h]
  simp only [List.getElem?_toArray]
  rw [List.getElem?_append_left (by rw [HRow_len]; exact hr), HRow_get f hr]
theorem HF.sum (h : HF w g f s) : w.cell? ⟨g, 120, none⟩ = some (.int .i64 (s : Nat)) := by
  rw [Blk.cell h]
  simp only [List.getElem?_toArray]
  rw [List.getElem?_append_right (by rw [HRow_len]; exact Nat.le_refl _), HRow_len]
  rfl
theorem HF.same (h : HF w g f s) (e : ∀ r, r < 120 → f r = f' r) : HF w g f' s := by
  have : HRow f = HRow f' := List.map_congr_left fun r hr => by rw [e r (by simpa using hr)]
  unfold HF at *
  rwa [this] at h
theorem HF.setc (h : HF w g f s) {q : Nat} (hq : q < 120) (v : Nat) : HF (w.setCell ⟨g, q, none⟩ (.int .i64 (v : Nat))) g (fun r => if r = q then v else f r) s := by
  have := Blk.set h q (.int .i64 (v : Nat))
  unfold HF
  have e : ((HRow f ++ [Value.int .i64 (s : Nat)]).toArray.setIfInBounds q (.int .i64 (v : Nat))) = (HRow (fun r => if r = q then v else f r) ++ [Value.int .i64 (s : Nat)]).toArray := by
    rw [List.setIfInBounds_toArray]
    congr 1
    rw [List.set_append_left _ _ (by rw [HRow_len]; exact hq)]
    congr 1
    apply List.ext_getElem?
    intro i
    rw [List.getElem?_set]
    by_cases hi : i < 120
    · rw [HRow_get _ hi, HRow_get _ hi, HRow_len]
      by_cases e : q = i
      · subst e; rw [if_pos rfl, if_pos hq, if_pos rfl]
      · rw [if_neg e, if_neg (fun h => e h.symm)]
    · rw [List.getElem?_eq_none (by rw [HRow_len]; omega), if_neg (by omega), List.getElem?_eq_none (by rw [HRow_len]; omega)]
  rw [e] at this
  exact this
theorem HF.sets (h : HF w g f s) (v : Nat) : HF (w.setCell ⟨g, 120, none⟩ (.int .i64 (v : Nat))) g f v := by
  have := Blk.set h 120 (.int .i64 (v : Nat))
  unfold HF
  have e : ((HRow f ++ [Value.int .i64 (s : Nat)]).toArray.setIfInBounds 120 (.int .i64 (v : Nat))) = (HRow f ++ [Value.int .i64 (v : Nat)]).toArray := by
    rw [List.setIfInBounds_toArray]
    congr 1
  rw [e] at this
  exact this
theorem HF.loads (h : HF w g f s) : ∀ j v, (HRow f)[j]? = some v → w.cell? ⟨g, 0 + j, none⟩ = some v := by
  intro j v hj
  have hlt : j < 120 := by
    have := (List.getElem?_eq_some_iff.1 hj).1
    rwa [HRow_len] at this
  rw [Nat.zero_add, h.cell hlt, ← hj, HRow_get f hlt]
end
set_option maxRecDepth 20000 in
set_option maxHeartbeats 4000000 in
theorem h_count (g s : Nat) (f : Nat → Nat) (n : Int) (w : World) (h : HF w g f s) :
    Calls Try.prog 20 #[.pointer (some ⟨g, 0, none⟩), .int .i64 n] w fun e w' => e = .returned (.int .i64 ((if 0 ≤ n ∧ n < 120 then f n.toNat else 0 : Nat) : Int)) ∧ w' = w := by
  have H := Lib.hid h
  clear h
  by_cases h0 : n < 0
  · rw [if_neg (by omega)]
    go_enter Try.func20, Try.ntmps20
    go_wp2_with fail
    go_ret
    exact ⟨rfl, rfl⟩
  by_cases h1 : 120 ≤ n
  · rw [if_neg (by omega)]
    go_enter Try.func20, Try.ntmps20
    go_wp2_with fail
    go_ret
    exact ⟨rfl, rfl⟩
  · rw [if_pos (by omega)]
    obtain ⟨k, rfl⟩ : ∃ k : Nat, n = (k : Int) := ⟨n.toNat, by omega⟩
    have hk : k < 120 := by omega
    have c0 := H.out.cell hk
    rw [Int.toNat_natCast]
    obtain ⟨v, hv⟩ : ∃ v, v = f k := ⟨_, rfl⟩
    rw [← hv] at c0 ⊢
    have h2 : ¬ (120 : Int) ≤ (k : Int) := by omega
    have h3 : (k : Int) < 120 := by omega
    clear hv h1
    go_enter Try.func20, Try.ntmps20
    go_wp2_with fail
    go_ret
    exact ⟨rfl, rfl⟩
set_option maxRecDepth 20000 in
set_option maxHeartbeats 4000000 in
theorem h_add (g s : Nat) (f : Nat → Nat) (n often : Int) (w : World) (h : HF w g f s) (hs : s ≤ 200000000000000000) (hf : ∀ r, r < 120 → f r ≤ 100000000) (hn : (Lit.int .i64 n).wf = true) (ho : (Lit.int .i64 often).wf = true) :
    Calls Try.prog 10 #[.pointer (some ⟨g, 0, none⟩), .int .i64 n, .int .i64 often] w fun e w' => e = .returned (.tuple #[]) ∧ HF w' g (fun r => f r + cntF r (n, often)) (s + ofN often * inN n) ∧ Tou g w w' := by
  have CO := Lib.hid (hwithin_any often 1048576 w ho (by omega))
  have ho1 := ofN_le often
  have hx1 := inN_lt n
  have HR : Hid (∀ w', Calls Try.prog 5 #[.int .i64 n] w' fun e w'' => e = .returned (.int .i64 (rowN (inN n) : Nat)) ∧ Below w'.heap.size w' w'') := Lib.hid fun w' => (hrow_any n w' hn).mono (by rintro e w'' ⟨rfl, rfl⟩; exact ⟨rfl, Below.refl _ _⟩)
  have HX : Hid (∀ w', Calls Try.prog 13 #[.int .i64 n, .int .i64 2147483647] w' fun e w'' => e = .returned (.int .i64 (inN n : Nat)) ∧ Below w'.heap.size w' w'') := Lib.hid fun w' => (hwithin_any n 2147483647 w' hn (by omega)).mono (by rintro e w'' ⟨rfl, rfl⟩; exact ⟨rfl, Below.refl _ _⟩)
  have hr := (rowN_spec hx1).1
  have hcf : ∀ q, cntF q (n, often) = if rowN (inN n) = q then ofN often else 0 := fun q => rfl
  have HCF := Lib.hid hcf
  clear hcf
  unfold ofN at ho1 HCF ⊢
  obtain ⟨o, hoo⟩ : ∃ o, o = clN 0 1048576 often := ⟨_, rfl⟩
  rw [← hoo] at CO ho1 HCF ⊢
  obtain ⟨x, hxx⟩ : ∃ x, x = inN n := ⟨_, rfl⟩
  rw [← hxx] at HR HX hx1 hr HCF ⊢
  obtain ⟨r, hrr⟩ : ∃ r, r = rowN x := ⟨_, rfl⟩
  rw [← hrr] at HR hr HCF
  have hfr := hf r hr
  obtain ⟨v, hv⟩ : ∃ v, v = f r := ⟨_, rfl⟩
  have HV := Lib.hid hv
  rw [← hv] at hfr
  obtain ⟨v2, hv2⟩ : ∃ v2, v2 = v + o := ⟨_, rfl⟩
  have HV2 := Lib.hid hv2
  have hvi : (v : Int) + (o : Int) = (v2 : Nat) := by omega
  have hwv : IntKind.i64.wrap (v2 : Int) = (v2 : Nat) := by rw [IntKind.wrap_i64]; omega
  obtain ⟨p, hp⟩ : ∃ p, p = x * o := ⟨_, rfl⟩
  have hpb : p ≤ 2147483648 * 1048576 := by rw [hp]; exact Nat.mul_le_mul (by omega) ho1
  have hpi : (x : Int) * (o : Int) = (p : Nat) := by rw [hp]; push_cast; rfl
  obtain ⟨s2, hs2⟩ : ∃ s2, s2 = s + p := ⟨_, rfl⟩
  have HS2 := Lib.hid (show s2 = s + o * x by rw [hs2, hp, Nat.mul_comm])
  have hsi : (s : Int) + (p : Int) = (s2 : Nat) := by omega
  have hwp : IntKind.i64.wrap (p : Int) = (p : Nat) := by rw [IntKind.wrap_i64]; omega
  have hws : IntKind.i64.wrap (s2 : Int) = (s2 : Nat) := by rw [IntKind.wrap_i64]; omega
  have hri : (r : Int) < 120 := by omega
  have hr0 : ¬ (r : Int) < 0 := by omega
  have H := Lib.hid h
  clear h hs hf hoo hxx hrr hfr hv hv2 hp hpb hs2 hn ho hx1 ho1
  go_enter Try.func10, Try.ntmps10
  go_wp2_with fail
  refine CO.out.mono ?_
  rintro e w1 ⟨rfl, rfl⟩
  go_upto_region 1 with fail
  refine GH.wp_ghl2 (M := false) 12 ((GH.SP.eq (.pointer (some ⟨g, 0, none⟩))) :: (GH.SP.eq (.int .i64 n)) :: (GH.SP.eq (.int .i64 (r : Nat))) :: (GH.SP.eq (.pointer (some ⟨g, 0, none⟩))) :: (GH.SP.eq (.pointer (some ⟨g, 0, none⟩))) :: (GH.SP.eq (.pointer (some ⟨g, r, none⟩))) :: (GH.SP.eq (.int .i64 (v : Nat))) :: (GH.SP.eq (.int .i64 (o : Nat))) :: (GH.SP.eq (.int .i64 (v2 : Nat))) :: (GH.SP.eq (.pointer (some ⟨g, 0, none⟩))) :: (GH.SP.eq (.pointer (some ⟨g, 0, none⟩))) :: (GH.SP.eq (.pointer (some ⟨g, r, none⟩))) :: []) (none :: none :: none :: none :: none :: none :: none :: none :: (some 0) :: (some 1) :: (some 2) :: (some 3) :: (some 4) :: (some 5) :: (some 6) :: (some 7) :: (some 8) :: (some 9) :: (some 10) :: (some 11) :: none :: none :: none :: none :: none :: none :: none :: none :: none :: none :: none :: []) [8, 9, 10, 11, 12, 13, 14, 15, 16, 17, 18, 19] (by rfl) (by kernel_rfl) (by kernel_rfl) ?_ ?_ ?_
  · intro S jx v hjx
    match jx, hjx with
    | 0, _ => rfl
    | 1, _ => rfl
    | 2, _ => rfl
    | 3, _ => rfl
    | 4, _ => rfl
    | 5, _ => rfl
    | 6, _ => rfl
    | 7, _ => rfl
    | 8, _ => rfl
    | 9, _ => rfl
    | 10, _ => rfl
    | 11, _ => rfl
    | nx + 12, hjx => omega
  · intro jx hjx S w' hb hd
    match jx, hjx, hd with
    | 0, _, hd =>
      simp only [GH.mkL, List.getD_cons_succ, List.getD_cons_zero]
      clear hd
      refine GH.st_eq (by rfl) ?_
      go_simp
      (try with_reducible rfl)
    | 1, _, hd =>
      simp only [GH.mkL, List.getD_cons_succ, List.getD_cons_zero]
      clear hd
      refine GH.st_eq (by rfl) ?_
      go_simp
      (try with_reducible rfl)
    | 2, _, hd =>
      simp only [GH.mkL, List.getD_cons_succ, List.getD_cons_zero]
      have d1 : S 1 = .int .i64 n := (hd 1 (by kernel_rfl)).2
      rw [d1]
      clear d1
      clear hd
      refine GH.st_call (by rfl) hb.below.size (by go_simp) ((HR.out w').mono ?_)
      rintro e w9 ⟨rfl, hb9⟩
      exact ⟨_, rfl, hb9, rfl⟩
    | 3, _, hd =>
      simp only [GH.mkL, List.getD_cons_succ, List.getD_cons_zero]
      have d0 : S 0 = .pointer (some ⟨g, 0, none⟩) := (hd 0 (by kernel_rfl)).2
      rw [d0]
      clear d0
      clear hd
      refine GH.st_eq (by rfl) ?_
      go_simp
      (try with_reducible rfl)
    | 4, _, hd =>
      simp only [GH.mkL, List.getD_cons_succ, List.getD_cons_zero]
      have d3 : S 3 = .pointer (some ⟨g, 0, none⟩) := (hd 3 (by kernel_rfl)).2
      rw [d3]
      clear d3
      clear hd
      refine GH.st_eq (by rfl) ?_
      go_simp
      (try with_reducible rfl)
    | 5, _, hd =>
      simp only [GH.mkL, List.getD_cons_succ, List.getD_cons_zero]
      have d2 : S 2 = .int .i64 (r : Nat) := (hd 2 (by kernel_rfl)).2
      rw [d2]
      clear d2
      have d4 : S 4 = .pointer (some ⟨g, 0, none⟩) := (hd 4 (by kernel_rfl)).2
      rw [d4]
      clear d4
      clear hd
      refine GH.st_eq (by rfl) ?_
      go_simp
      (try with_reducible rfl)
    | 6, _, hd =>
      simp only [GH.mkL, List.getD_cons_succ, List.getD_cons_zero]
      have d5 : S 5 = .pointer (some ⟨g, r, none⟩) := (hd 5 (by kernel_rfl)).2
      rw [d5]
      clear d5
      clear hd
      exact GH.st_load _ (by rfl) rfl rfl (((H.out.below hb.below H.out.lt).cell hr).trans (by rw [← HV.out])) (by kernel_rfl)
    | 7, _, hd =>
      simp only [GH.mkL, List.getD_cons_succ, List.getD_cons_zero]
      clear hd
      refine GH.st_eq (by rfl) ?_
      go_simp
      (try with_reducible rfl)
    | 8, _, hd =>
      simp only [GH.mkL, List.getD_cons_succ, List.getD_cons_zero]
      have d6 : S 6 = .int .i64 (v : Nat) := (hd 6 (by kernel_rfl)).2
      rw [d6]
      clear d6
      have d7 : S 7 = .int .i64 (o : Nat) := (hd 7 (by kernel_rfl)).2
      rw [d7]
      clear d7
      clear hd
      refine GH.st_eq (by rfl) ?_
      go_simp
      (try simp only [hvi, hwv])
      (try with_reducible rfl)
    | 9, _, hd =>
      simp only [GH.mkL, List.getD_cons_succ, List.getD_cons_zero]
      have d0 : S 0 = .pointer (some ⟨g, 0, none⟩) := (hd 0 (by kernel_rfl)).2
      rw [d0]
      clear d0
      clear hd
      refine GH.st_eq (by rfl) ?_
      go_simp
      (try with_reducible rfl)
    | 10, _, hd =>
      simp only [GH.mkL, List.getD_cons_succ, List.getD_cons_zero]
      have d9 : S 9 = .pointer (some ⟨g, 0, none⟩) := (hd 9 (by kernel_rfl)).2
      rw [d9]
      clear d9
      clear hd
      refine GH.st_eq (by rfl) ?_
      go_simp
      (try with_reducible rfl)
    | 11, _, hd =>
      simp only [GH.mkL, List.getD_cons_succ, List.getD_cons_zero]
      have d0 : S 0 = .pointer (some ⟨g, 0, none⟩) := (hd 0 (by kernel_rfl)).2
      rw [d0]
      clear d0
      have d1 : S 1 = .int .i64 n := (hd 1 (by kernel_rfl)).2
      rw [d1]
      clear d1
      have d2 : S 2 = .int .i64 (r : Nat) := (hd 2 (by kernel_rfl)).2
      rw [d2]
      clear d2
      have d3 : S 3 = .pointer (some ⟨g, 0, none⟩) := (hd 3 (by kernel_rfl)).2
      rw [d3]
      clear d3
      have d4 : S 4 = .pointer (some ⟨g, 0, none⟩) := (hd 4 (by kernel_rfl)).2
      rw [d4]
      clear d4
      have d5 : S 5 = .pointer (some ⟨g, r, none⟩) := (hd 5 (by kernel_rfl)).2
      rw [d5]
      clear d5
      have d6 : S 6 = .int .i64 (v : Nat) := (hd 6 (by kernel_rfl)).2
      rw [d6]
      clear d6
      have d7 : S 7 = .int .i64 (o : Nat) := (hd 7 (by kernel_rfl)).2
      rw [d7]
      clear d7
      have d8 : S 8 = .int .i64 (v2 : Nat) := (hd 8 (by kernel_rfl)).2
      rw [d8]
      clear d8
      have d10 : S 10 = .pointer (some ⟨g, 0, none⟩) := (hd 10 (by kernel_rfl)).2
      rw [d10]
      clear d10
      clear hd
      refine GH.st_eq (by rfl) ?_
      go_simp
      (try with_reducible rfl)
    | nx + 12, hjx, _ => omega
  intro S w' hb hG
  simp only [GH.mkL, List.drop_succ_cons, List.drop_zero]
  have d8 : S 8 = .int .i64 (v2 : Nat) := hG 8 (by omega)
  rw [d8]
  clear d8
  have d11 : S 11 = .pointer (some ⟨g, r, none⟩) := hG 11 (by omega)
  rw [d11]
  clear d11
  clear hG
  have KF := H.out.below hb.below H.out.lt
  have f1 := KF.frozen r
  have c1 := KF.cell hr
  have HKF := Lib.hid KF
  have HB := Lib.hid hb
  clear KF hb
  go_upto_region 2 with fail
  have H1 := Lib.hid (HKF.out.setc hr v2)
  have T1 := Lib.hid ((Tou.of HB.out.below (Nat.le_of_lt H.out.lt)).solo (Solo.refl.setCell r (.int .i64 (v2 : Nat))))
  clear c1 f1 HKF HB
  generalize w'.setCell ⟨g, r, none⟩ (.int .i64 (v2 : Nat)) = w2 at H1 T1 ⊢
  have HG := Lib.hid (show g < w1.heap.size from H.out.lt)
  clear H
  have H := H1
  clear H1
  refine GH.wp_ghl2 (M := false) 11 ((GH.SP.eq (.pointer (some ⟨g, 0, none⟩))) :: (GH.SP.eq (.pointer (some ⟨g, 0, none⟩))) :: (GH.SP.eq (.pointer (some ⟨g, 120, none⟩))) :: (GH.SP.eq (.int .i64 (s : Nat))) :: (GH.SP.eq (.int .i64 n)) :: (GH.SP.eq (.int .i64 (x : Nat))) :: (GH.SP.eq (.int .i64 (o : Nat))) :: (GH.SP.eq (.int .i64 (p : Nat))) :: (GH.SP.eq (.int .i64 (s2 : Nat))) :: (GH.SP.eq (.pointer (some ⟨g, 0, none⟩))) :: (GH.SP.eq (.pointer (some ⟨g, 120, none⟩))) :: []) (none :: none :: none :: none :: none :: none :: none :: none :: none :: none :: none :: none :: none :: none :: none :: none :: none :: none :: none :: none :: (some 0) :: (some 1) :: (some 2) :: (some 3) :: (some 4) :: (some 5) :: (some 6) :: (some 7) :: (some 8) :: (some 9) :: (some 10) :: []) [20, 21, 22, 23, 24, 25, 26, 27, 28, 29, 30] (by rfl) (by kernel_rfl) (by kernel_rfl) ?_ ?_ ?_
  · intro S jx v hjx
    match jx, hjx with
    | 0, _ => rfl
    | 1, _ => rfl
    | 2, _ => rfl
    | 3, _ => rfl
    | 4, _ => rfl
    | 5, _ => rfl
    | 6, _ => rfl
    | 7, _ => rfl
    | 8, _ => rfl
    | 9, _ => rfl
    | 10, _ => rfl
    | nx + 11, hjx => omega
  · intro jx hjx S w' hb hd
    match jx, hjx, hd with
    | 0, _, hd =>
      simp only [GH.mkL, List.getD_cons_succ, List.getD_cons_zero]
      clear hd
      refine GH.st_eq (by rfl) ?_
      go_simp
      (try with_reducible rfl)
    | 1, _, hd =>
      simp only [GH.mkL, List.getD_cons_succ, List.getD_cons_zero]
      have d0 : S 0 = .pointer (some ⟨g, 0, none⟩) := (hd 0 (by kernel_rfl)).2
      rw [d0]
      clear d0
      clear hd
      refine GH.st_eq (by rfl) ?_
      go_simp
      (try with_reducible rfl)
    | 2, _, hd =>
      simp only [GH.mkL, List.getD_cons_succ, List.getD_cons_zero]
      have d1 : S 1 = .pointer (some ⟨g, 0, none⟩) := (hd 1 (by kernel_rfl)).2
      rw [d1]
      clear d1
      clear hd
      refine GH.st_eq (by rfl) ?_
      go_simp
      (try with_reducible rfl)
    | 3, _, hd =>
      simp only [GH.mkL, List.getD_cons_succ, List.getD_cons_zero]
      have d2 : S 2 = .pointer (some ⟨g, 120, none⟩) := (hd 2 (by kernel_rfl)).2
      rw [d2]
      clear d2
      clear hd
      exact GH.st_load _ (by rfl) rfl rfl ((H.out.below hb.below H.out.lt).sum) (by kernel_rfl)
    | 4, _, hd =>
      simp only [GH.mkL, List.getD_cons_succ, List.getD_cons_zero]
      clear hd
      refine GH.st_eq (by rfl) ?_
      go_simp
      (try with_reducible rfl)
    | 5, _, hd =>
      simp only [GH.mkL, List.getD_cons_succ, List.getD_cons_zero]
      have d4 : S 4 = .int .i64 n := (hd 4 (by kernel_rfl)).2
      rw [d4]
      clear d4
      clear hd
      refine GH.st_call (by rfl) hb.below.size (by go_simp) ((HX.out w').mono ?_)
      rintro e w9 ⟨rfl, hb9⟩
      exact ⟨_, rfl, hb9, rfl⟩
    | 6, _, hd =>
      simp only [GH.mkL, List.getD_cons_succ, List.getD_cons_zero]
      clear hd
      refine GH.st_eq (by rfl) ?_
      go_simp
      (try with_reducible rfl)
    | 7, _, hd =>
      simp only [GH.mkL, List.getD_cons_succ, List.getD_cons_zero]
      have d5 : S 5 = .int .i64 (x : Nat) := (hd 5 (by kernel_rfl)).2
      rw [d5]
      clear d5
      have d6 : S 6 = .int .i64 (o : Nat) := (hd 6 (by kernel_rfl)).2
      rw [d6]
      clear d6
      clear hd
      refine GH.st_eq (by rfl) ?_
      go_simp
      (try simp only [hpi, hwp])
      (try with_reducible rfl)
    | 8, _, hd =>
      simp only [GH.mkL, List.getD_cons_succ, List.getD_cons_zero]
      have d3 : S 3 = .int .i64 (s : Nat) := (hd 3 (by kernel_rfl)).2
      rw [d3]
      clear d3
      have d7 : S 7 = .int .i64 (p : Nat) := (hd 7 (by kernel_rfl)).2
      rw [d7]
      clear d7
      clear hd
      refine GH.st_eq (by rfl) ?_
      go_simp
      (try simp only [hsi, hws])
      (try with_reducible rfl)
    | 9, _, hd =>
      simp only [GH.mkL, List.getD_cons_succ, List.getD_cons_zero]
      have d0 : S 0 = .pointer (some ⟨g, 0, none⟩) := (hd 0 (by kernel_rfl)).2
      rw [d0]
      clear d0
      have d1 : S 1 = .pointer (some ⟨g, 0, none⟩) := (hd 1 (by kernel_rfl)).2
      rw [d1]
      clear d1
      have d2 : S 2 = .pointer (some ⟨g, 120, none⟩) := (hd 2 (by kernel_rfl)).2
      rw [d2]
      clear d2
      have d3 : S 3 = .int .i64 (s : Nat) := (hd 3 (by kernel_rfl)).2
      rw [d3]
      clear d3
      have d4 : S 4 = .int .i64 n := (hd 4 (by kernel_rfl)).2
      rw [d4]
      clear d4
      have d5 : S 5 = .int .i64 (x : Nat) := (hd 5 (by kernel_rfl)).2
      rw [d5]
      clear d5
      have d6 : S 6 = .int .i64 (o : Nat) := (hd 6 (by kernel_rfl)).2
      rw [d6]
      clear d6
      have d7 : S 7 = .int .i64 (p : Nat) := (hd 7 (by kernel_rfl)).2
      rw [d7]
      clear d7
      have d8 : S 8 = .int .i64 (s2 : Nat) := (hd 8 (by kernel_rfl)).2
      rw [d8]
      clear d8
      clear hd
      refine GH.st_eq (by rfl) ?_
      go_simp
      (try with_reducible rfl)
    | 10, _, hd =>
      simp only [GH.mkL, List.getD_cons_succ, List.getD_cons_zero]
      have d0 : S 0 = .pointer (some ⟨g, 0, none⟩) := (hd 0 (by kernel_rfl)).2
      rw [d0]
      clear d0
      have d1 : S 1 = .pointer (some ⟨g, 0, none⟩) := (hd 1 (by kernel_rfl)).2
      rw [d1]
      clear d1
      have d2 : S 2 = .pointer (some ⟨g, 120, none⟩) := (hd 2 (by kernel_rfl)).2
      rw [d2]
      clear d2
      have d3 : S 3 = .int .i64 (s : Nat) := (hd 3 (by kernel_rfl)).2
      rw [d3]
      clear d3
      have d4 : S 4 = .int .i64 n := (hd 4 (by kernel_rfl)).2
      rw [d4]
      clear d4
      have d5 : S 5 = .int .i64 (x : Nat) := (hd 5 (by kernel_rfl)).2
      rw [d5]
      clear d5
      have d6 : S 6 = .int .i64 (o : Nat) := (hd 6 (by kernel_rfl)).2
      rw [d6]
      clear d6
      have d7 : S 7 = .int .i64 (p : Nat) := (hd 7 (by kernel_rfl)).2
      rw [d7]
      clear d7
      have d8 : S 8 = .int .i64 (s2 : Nat) := (hd 8 (by kernel_rfl)).2
      rw [d8]
      clear d8
      have d9 : S 9 = .pointer (some ⟨g, 0, none⟩) := (hd 9 (by kernel_rfl)).2
      rw [d9]
      clear d9
      clear hd
      refine GH.st_eq (by rfl) ?_
      go_simp
      (try with_reducible rfl)
    | nx + 11, hjx, _ => omega
  intro S w' hb hG
  simp only [GH.mkL, List.drop_succ_cons, List.drop_zero]
  have d8 : S 8 = .int .i64 (s2 : Nat) := hG 8 (by omega)
  rw [d8]
  clear d8
  have d10 : S 10 = .pointer (some ⟨g, 120, none⟩) := hG 10 (by omega)
  rw [d10]
  clear d10
  clear hG
  have KF := H.out.below hb.below H.out.lt
  have f1 := KF.frozen 120
  have c1 := KF.sum
  have HKF := Lib.hid KF
  have HB := Lib.hid hb
  have hglt := H.out.lt
  clear KF hb
  go_wp2_with fail
  go_end0
  refine ⟨rfl, ?_, (T1.out.grow HB.out.below (Nat.le_of_lt hglt)).solo (Solo.refl.setCell 120 _)⟩
  have := HKF.out.sets s2
  rw [HS2.out] at this
  refine HF.same ?_ (fun q hq => ?_) (f := fun q => if q = r then v2 else f q)
  · rw [← HS2.out] at this ⊢
    exact this
  · rw [HCF.out]
    by_cases e : q = r
    · subst e; rw [if_pos rfl, if_pos rfl, HV2.out, HV.out]
    · rw [if_neg e, if_neg (fun h => e h.symm)]; rfl
end Go.Proofs.Ytioebcjhmfndnaa
