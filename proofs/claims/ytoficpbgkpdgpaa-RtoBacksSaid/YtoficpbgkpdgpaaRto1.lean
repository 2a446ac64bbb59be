/- Package rto: what its calls do. -/
import Derived.Test.YtoficpbgkpdgpaaBlkS
import Derived.Test.YtoficpbgkpdgpaaTou
import Derived.Test.YtoficpbgkpdgpaaOrd
import Derived.Test.YtoficpbgkpdgpaaGhoP
import Derived.Test.YtoficpbgkpdgpaaGho2
import Derived.Test.YtoficpbgkpdgpaaPut
import Derived.Test.YtoficpbgkpdgpaaRows
import Derived.OwnWalk
import Derived.BigQuiet
import Derived.RegionTactic
import Derived.ChangeAlike
import Derived.Deep.Cut
namespace Go.Proofs.Ytoficpbgkpdgpaa
open Go.RowKit
set_option linter.unusedVariables false
set_option linter.unusedSimpArgs false
/-- The number from 0 to 4096 that is nearest to one. -/
def tkN (n : Int) : Nat := if n < 0 then 0 else if 4096 < n then 4096 else n.toNat
theorem tkN_le (n : Int) : tkN n ≤ 4096 := by unfold tkN; split <;> (try split) <;> omega
theorem tkN_min (n : Int) : min (max n 0) 4096 = (tkN n : Nat) := by unfold tkN; split <;> (try split) <;> omega
def absD (t m : Nat) : Nat := if t < m / 8 then m / 8 - t else t - m / 8
def EstW (w : World) (g : Nat) (kn : Bool) (m d s : Nat) : Prop := Blk w g 24 #[.bool kn, .int .i64 (m : Nat), .int .i64 (d : Nat), .int .i64 (s : Nat)]
structure EstOk (m d s : Nat) : Prop where
  m : m ≤ 32768
  d : d ≤ 16387
  s : s ≤ 8
theorem EstOk.first {t : Nat} (h : t ≤ 4096) : EstOk (8 * t) (2 * t) 0 := ⟨by omega, by omega, by omega⟩
theorem EstOk.next {m d s t : Nat} (h : EstOk m d s) (ht : t ≤ 4096) : EstOk (m + t - m / 8) (d + absD t m - d / 4) 0 := by
  have := h.m; have := h.d
  refine ⟨by omega, ?_, by omega⟩
  unfold absD
  split <;> omega
def smM (kn : Bool) (m t : Nat) : Nat := if kn then m + t - m / 8 else 8 * t
def smD (kn : Bool) (m d t : Nat) : Nat := if kn then d + absD t m - d / 4 else 2 * t
set_option maxRecDepth 20000 in
set_option maxHeartbeats 4000000 in
theorem rto_sample (g m d s : Nat) (kn : Bool) (n : Int) (w : World) (h : EstW w g kn m d s) (ho : EstOk m d s) (hn : (Lit.int .i64 n).wf = true) :
    Calls Try.prog 4 #[.pointer (some ⟨g, 0, none⟩), .int .i64 n] w fun e w' => e = .returned (.tuple #[]) ∧ ∃ m' d', m' = smM kn m (tkN n) ∧ d' = smD kn m d (tkN n) ∧ EstOk m' d' 0 ∧ EstW w' g true m' d' 0 ∧ Tou g w w' := by
  have ht := tkN_le n
  have hmin := tkN_min n
  obtain ⟨t, he⟩ : ∃ t, t = tkN n := ⟨_, rfl⟩
  rw [← he] at ht hmin ⊢
  obtain ⟨x1, hx1⟩ : ∃ x : Int, (if n < 0 then (0 : Int) else n) = x := ⟨_, rfl⟩
  have hx2 : (if (4096 : Int) < x1 then (4096 : Int) else x1) = (t : Nat) := by
    rw [← hx1, ← hmin]
    split <;> split <;> omega
  have HO := Lib.hid ho
  have hm := ho.m
  have hd := ho.d
  have H := Lib.hid (show Blk w g 24 #[.bool kn, .int .i64 (m : Nat), .int .i64 (d : Nat), .int .i64 (s : Nat)] from h)
  clear he hmin h ho
  go_enter Try.func4, Try.ntmps4
  go_upto_region 0 with fail
  refine GH.wp_ghs (M := false) 3 ((GH.SP.eq (.int .i64 n)) :: (GH.SP.eq (.int .i64 x1)) :: (GH.SP.eq (.int .i64 (t : Nat))) :: []) (none :: none :: none :: none :: none :: (some 0) :: (some 1) :: (some 2) :: none :: none :: none :: none :: none :: none :: none :: none :: none :: none :: none :: none :: none :: none :: none :: none :: none :: none :: none :: none :: none :: none :: none :: none :: none :: none :: none :: none :: none :: none :: none :: none :: none :: none :: none :: none :: none :: none :: none :: none :: none :: none :: none :: none :: none :: none :: none :: none :: none :: none :: none :: none :: none :: none :: none :: none :: none :: []) [5, 6, 7] (by rfl) (by kernel_rfl) ?_ ?_ ?_
  · intro S jx v hjx
    match jx, hjx with
    | 0, _ => rfl
    | 1, _ => rfl
    | 2, _ => rfl
    | nx + 3, hjx => omega
  · intro jx hjx S w' hb hd
    match jx, hjx, hd with
    | 0, _, hd =>
      simp only [GH.mkL, List.getD_cons_succ, List.getD_cons_zero]
      clear hd
      refine GH.st_eq (by rfl) ?_
      go_simp
      (try with_reducible rfl)
    | 1, _, hd =>
      simp only [GH.mkL, List.getD_cons_succ, List.getD_cons_zero]
      have d0 : S 0 = .int .i64 n := (hd 0 (by kernel_rfl)).2
      rw [d0]
      clear d0
      clear hd
      refine GH.st_eq (by rfl) ?_
      go_simp
      (try exact hx1)
    | 2, _, hd =>
      simp only [GH.mkL, List.getD_cons_succ, List.getD_cons_zero]
      have d1 : S 1 = .int .i64 x1 := (hd 1 (by kernel_rfl)).2
      rw [d1]
      clear d1
      clear hd
      refine GH.st_eq (by rfl) ?_
      go_simp
      (try exact hx2)
    | nx + 3, hjx, _ => omega
  intro S w' hb hG
  simp only [GH.mkL, List.drop_succ_cons, List.drop_zero]
  have d2 : S 2 = .int .i64 (t : Nat) := hG 2 (by omega)
  rw [d2]
  clear d2
  clear hG
  have hbb := Lib.hid hb.below
  clear hb hx1 hx2
  have H0 := Lib.hid (H.out.below hbb.out H.out.lt)
  obtain ⟨c0, c1, c2, c3⟩ := ptc4 H0.out
  have f3 := H0.out.frozen 3
  go_upto_region 2 with fail
  have H1 := Lib.hid (H0.out.set 3 (.int .i64 0))
  have S1 := Lib.hid ((Solo.refl (g := g) (w := w')).setCell 3 (.int .i64 0))
  clear c0 c1 c2 c3 f3 H0
  generalize w'.setCell ⟨g, 3, none⟩ (.int .i64 0) = w1 at H1 S1 ⊢
  have H1 := Lib.hid (show Blk w1 g 24 #[.bool kn, .int .i64 (m : Nat), .int .i64 (d : Nat), .int .i64 0] from H1.out)
  have T1 := Lib.hid ((Tou.of hbb.out (Nat.le_of_lt H.out.lt)).solo S1.out)
  obtain ⟨c0, c1, c2, c3⟩ := ptc4 H1.out
  cases kn with
  | false =>
    have f0 := H1.out.frozen 0
    have f1 := H1.out.frozen 1
    have f2 := H1.out.frozen 2
    go_wp2_with fail
    refine bodyPost_ret (v := .tuple #[]) (by kernel_rfl) rfl ?_
    refine ⟨rfl, 8 * t, 2 * t, rfl, rfl, .first ht, ?_, T1.out.solo (((Solo.refl.setCell 0 _).setCell 1 _).setCell 2 _)⟩
    have := ((H1.out.set 0 (.bool true)).set 1 (.int .i64 (8 * (t : Int)))).set 2 (.int .i64 (2 * (t : Int)))
    unfold EstW
    push_cast
    exact this
  | true =>
    have f1 := H1.out.frozen 1
    obtain ⟨q, hq⟩ : ∃ q, q = m / 8 := ⟨_, rfl⟩
    have hqi : (m : Int) / 8 = (q : Nat) := by omega
    obtain ⟨D, hD⟩ : ∃ D : Int, D = (t : Int) - (q : Int) := ⟨_, rfl⟩
    obtain ⟨m2, hm2⟩ : ∃ m2, m2 = m + t - m / 8 := ⟨_, rfl⟩
    have hmi : (m : Int) + D = (m2 : Nat) := by omega
    obtain ⟨a, ha⟩ : ∃ a, a = absD t m := ⟨_, rfl⟩
    have hai : (if D < -D then -D else D) = (a : Nat) := by
      rw [ha]
      unfold absD
      split <;> split <;> omega
    obtain ⟨d2, hd2⟩ : ∃ d2, d2 = d + absD t m - d / 4 := ⟨_, rfl⟩
    have hok := HO.out.next ht
    rw [← hm2, ← hd2] at hok
    have HOK := Lib.hid hok
    have HMD := Lib.hid (show m2 = smM true m t ∧ d2 = smD true m d t from ⟨hm2, hd2⟩)
    have hab : a ≤ 4096 := by rw [ha]; unfold absD; split <;> omega
    obtain ⟨s1, hs1⟩ : ∃ s1, s1 = d + a := ⟨_, rfl⟩
    have h9 : (d : Int) + (a : Int) = (s1 : Nat) := by omega
    obtain ⟨q4, hq4⟩ : ∃ q4, q4 = d / 4 := ⟨_, rfl⟩
    have h14 : (d : Int) / 4 = (q4 : Nat) := by omega
    have h15 : (s1 : Int) - (q4 : Int) = (d2 : Nat) := by omega
    have hm2b : m2 ≤ 32768 := hok.m
    have hd2b : d2 ≤ 16387 := hok.d
    have hDb1 : -4096 ≤ D := by omega
    have hDb2 : D ≤ 4096 := by omega
    have hs1b : s1 ≤ 20483 := by omega
    have w9 : IntKind.i64.wrap (s1 : Int) = (s1 : Nat) := by rw [IntKind.wrap_i64]; omega
    have w14 : IntKind.i64.wrap (q4 : Int) = (q4 : Nat) := by rw [IntKind.wrap_i64]; omega
    have w15 : IntKind.i64.wrap (d2 : Int) = (d2 : Nat) := by rw [IntKind.wrap_i64]; omega
    have wD : IntKind.i64.wrap (-D) = -D := by rw [IntKind.wrap_i64]; omega
    have hmx : (if (d2 : Int) < 0 then (0 : Int) else (d2 : Int)) = (d2 : Nat) := by rw [if_neg (by omega)]
    have HMX := Lib.hid hmx
    clear hmx
    have HAI := Lib.hid hai
    have K9 := Lib.hid h9
    have K14 := Lib.hid h14
    have K15 := Lib.hid h15
    have HMI := Lib.hid hmi
    have HQD := Lib.hid (And.intro hqi hD)
    have hqb : q ≤ 4096 := by omega
    clear hm2 ha hd2 hs1 hq4 hok hai h9 h14 h15 hmi hqi hD hq
    go_upto_region 5 with fail
    rw [HQD.out.1, ← HQD.out.2]
    clear HQD ht
    have hmi := HMI.out
    have hm0 : ¬ (m : Int) + D < 0 := by omega
    clear hmi
    go_upto_region 6 with fail
    rw [HMI.out]
    have hai := HAI.out
    have h9 := K9.out
    have h14 := K14.out
    have h15 := K15.out
    clear c0 c1 c2 c3 f1
    have H2 := Lib.hid (show Blk (w1.setCell ⟨g, 1, none⟩ (.int .i64 (m2 : Nat))) g 24 #[.bool true, .int .i64 (m2 : Nat), .int .i64 (d : Nat), .int .i64 0] from H1.out.set 1 (.int .i64 (m2 : Nat)))
    have T2 := Lib.hid (T1.out.solo ((Solo.refl (g := g)).setCell 1 (.int .i64 (m2 : Nat))))
    clear H1 T1 S1 HMI hm0
    generalize w1.setCell ⟨g, 1, none⟩ (.int .i64 (m2 : Nat)) = w2 at H2 T2 ⊢
    refine GH.wp_ghl2 (M := false) 19 ((GH.SP.eq (.pointer (some ⟨g, 0, none⟩))) :: (GH.SP.eq (.pointer (some ⟨g, 0, none⟩))) :: (GH.SP.eq (.pointer (some ⟨g, 0, none⟩))) :: (GH.SP.eq (.pointer (some ⟨g, 2, none⟩))) :: (GH.SP.eq (.int .i64 (d : Nat))) :: (GH.SP.eq (.int .i64 D)) :: (GH.SP.eq (.int .i64 D)) :: (GH.SP.eq (.int .i64 (-D))) :: (GH.SP.eq (.int .i64 (a : Nat))) :: (GH.SP.eq (.int .i64 (s1 : Nat))) :: (GH.SP.eq (.pointer (some ⟨g, 0, none⟩))) :: (GH.SP.eq (.pointer (some ⟨g, 0, none⟩))) :: (GH.SP.eq (.pointer (some ⟨g, 2, none⟩))) :: (GH.SP.eq (.int .i64 (d : Nat))) :: (GH.SP.eq (.int .i64 (q4 : Nat))) :: (GH.SP.eq (.int .i64 (d2 : Nat))) :: (GH.SP.eq (.int .i64 (d2 : Nat))) :: (GH.SP.eq (.pointer (some ⟨g, 0, none⟩))) :: (GH.SP.eq (.pointer (some ⟨g, 2, none⟩))) :: []) (none :: none :: none :: none :: none :: none :: none :: none :: none :: none :: none :: none :: none :: none :: none :: none :: none :: none :: none :: none :: none :: none :: none :: none :: none :: none :: none :: none :: none :: none :: none :: none :: none :: none :: none :: none :: none :: none :: none :: none :: none :: none :: none :: none :: none :: none :: (some 0) :: (some 1) :: (some 2) :: (some 3) :: (some 4) :: (some 5) :: (some 6) :: (some 7) :: (some 8) :: (some 9) :: (some 10) :: (some 11) :: (some 12) :: (some 13) :: (some 14) :: (some 15) :: (some 16) :: (some 17) :: (some 18) :: []) [46, 47, 48, 49, 50, 51, 52, 53, 54, 55, 56, 57, 58, 59, 60, 61, 62, 63, 64] (by rfl) (by kernel_rfl) (by kernel_rfl) ?_ ?_ ?_
    · intro S jx v hjx
      match jx, hjx with
      | 0, _ => rfl
      | 1, _ => rfl
      | 2, _ => rfl
      | 3, _ => rfl
      | 4, _ => rfl
      | 5, _ => rfl
      | 6, _ => rfl
      | 7, _ => rfl
      | 8, _ => rfl
      | 9, _ => rfl
      | 10, _ => rfl
      | 11, _ => rfl
      | 12, _ => rfl
      | 13, _ => rfl
      | 14, _ => rfl
      | 15, _ => rfl
      | 16, _ => rfl
      | 17, _ => rfl
      | 18, _ => rfl
      | nx + 19, hjx => omega
    · intro jx hjx S w' hb hd
      match jx, hjx, hd with
      | 0, _, hd =>
        simp only [GH.mkL, List.getD_cons_succ, List.getD_cons_zero]
        clear hd
        refine GH.st_eq (by rfl) ?_
        go_simp
        (try with_reducible rfl)
      | 1, _, hd =>
        simp only [GH.mkL, List.getD_cons_succ, List.getD_cons_zero]
        clear hd
        refine GH.st_eq (by rfl) ?_
        go_simp
        (try with_reducible rfl)
      | 2, _, hd =>
        simp only [GH.mkL, List.getD_cons_succ, List.getD_cons_zero]
        have d1 : S 1 = .pointer (some ⟨g, 0, none⟩) := (hd 1 (by kernel_rfl)).2
        rw [d1]
        clear d1
        clear hd
        refine GH.st_eq (by rfl) ?_
        go_simp
        (try with_reducible rfl)
      | 3, _, hd =>
        simp only [GH.mkL, List.getD_cons_succ, List.getD_cons_zero]
        have d2 : S 2 = .pointer (some ⟨g, 0, none⟩) := (hd 2 (by kernel_rfl)).2
        rw [d2]
        clear d2
        clear hd
        refine GH.st_eq (by rfl) ?_
        go_simp
        (try with_reducible rfl)
      | 4, _, hd =>
        simp only [GH.mkL, List.getD_cons_succ, List.getD_cons_zero]
        have d3 : S 3 = .pointer (some ⟨g, 2, none⟩) := (hd 3 (by kernel_rfl)).2
        rw [d3]
        clear d3
        clear hd
        exact GH.st_load _ (by rfl) rfl rfl (((H2.out.below hb.below H2.out.lt)).cell 2) (by kernel_rfl)
      | 5, _, hd =>
        simp only [GH.mkL, List.getD_cons_succ, List.getD_cons_zero]
        clear hd
        refine GH.st_eq (by rfl) ?_
        go_simp
        (try with_reducible rfl)
      | 6, _, hd =>
        simp only [GH.mkL, List.getD_cons_succ, List.getD_cons_zero]
        clear hd
        refine GH.st_eq (by rfl) ?_
        go_simp
        (try with_reducible rfl)
      | 7, _, hd =>
        simp only [GH.mkL, List.getD_cons_succ, List.getD_cons_zero]
        have d6 : S 6 = .int .i64 D := (hd 6 (by kernel_rfl)).2
        rw [d6]
        clear d6
        clear hd
        refine GH.st_eq (by rfl) ?_
        go_simp
        (try simp only [wD])
        (try with_reducible rfl)
      | 8, _, hd =>
        simp only [GH.mkL, List.getD_cons_succ, List.getD_cons_zero]
        have d5 : S 5 = .int .i64 D := (hd 5 (by kernel_rfl)).2
        rw [d5]
        clear d5
        have d7 : S 7 = .int .i64 (-D) := (hd 7 (by kernel_rfl)).2
        rw [d7]
        clear d7
        clear hd
        refine GH.st_eq (by rfl) ?_
        go_simp
        (try exact hai)
      | 9, _, hd =>
        simp only [GH.mkL, List.getD_cons_succ, List.getD_cons_zero]
        have d4 : S 4 = .int .i64 (d : Nat) := (hd 4 (by kernel_rfl)).2
        rw [d4]
        clear d4
        have d8 : S 8 = .int .i64 (a : Nat) := (hd 8 (by kernel_rfl)).2
        rw [d8]
        clear d8
        clear hd
        refine GH.st_eq (by rfl) ?_
        go_simp
        (try simp only [h9, w9])
        (try with_reducible rfl)
      | 10, _, hd =>
        simp only [GH.mkL, List.getD_cons_succ, List.getD_cons_zero]
        clear hd
        refine GH.st_eq (by rfl) ?_
        go_simp
        (try with_reducible rfl)
      | 11, _, hd =>
        simp only [GH.mkL, List.getD_cons_succ, List.getD_cons_zero]
        have d10 : S 10 = .pointer (some ⟨g, 0, none⟩) := (hd 10 (by kernel_rfl)).2
        rw [d10]
        clear d10
        clear hd
        refine GH.st_eq (by rfl) ?_
        go_simp
        (try with_reducible rfl)
      | 12, _, hd =>
        simp only [GH.mkL, List.getD_cons_succ, List.getD_cons_zero]
        have d11 : S 11 = .pointer (some ⟨g, 0, none⟩) := (hd 11 (by kernel_rfl)).2
        rw [d11]
        clear d11
        clear hd
        refine GH.st_eq (by rfl) ?_
        go_simp
        (try with_reducible rfl)
      | 13, _, hd =>
        simp only [GH.mkL, List.getD_cons_succ, List.getD_cons_zero]
        have d12 : S 12 = .pointer (some ⟨g, 2, none⟩) := (hd 12 (by kernel_rfl)).2
        rw [d12]
        clear d12
        clear hd
        exact GH.st_load _ (by rfl) rfl rfl (((H2.out.below hb.below H2.out.lt)).cell 2) (by kernel_rfl)
      | 14, _, hd =>
        simp only [GH.mkL, List.getD_cons_succ, List.getD_cons_zero]
        have d13 : S 13 = .int .i64 (d : Nat) := (hd 13 (by kernel_rfl)).2
        rw [d13]
        clear d13
        clear hd
        refine GH.st_eq (by rfl) ?_
        go_simp
        (try simp only [h14, w14])
        (try with_reducible rfl)
      | 15, _, hd =>
        simp only [GH.mkL, List.getD_cons_succ, List.getD_cons_zero]
        have d9 : S 9 = .int .i64 (s1 : Nat) := (hd 9 (by kernel_rfl)).2
        rw [d9]
        clear d9
        have d14 : S 14 = .int .i64 (q4 : Nat) := (hd 14 (by kernel_rfl)).2
        rw [d14]
        clear d14
        clear hd
        refine GH.st_eq (by rfl) ?_
        go_simp
        (try simp only [h15, w15])
        (try with_reducible rfl)
      | 16, _, hd =>
        simp only [GH.mkL, List.getD_cons_succ, List.getD_cons_zero]
        have d15 : S 15 = .int .i64 (d2 : Nat) := (hd 15 (by kernel_rfl)).2
        rw [d15]
        clear d15
        clear hd
        refine GH.st_eq (by rfl) ?_
        go_simp
        (try (intro h; omega))
      | 17, _, hd =>
        simp only [GH.mkL, List.getD_cons_succ, List.getD_cons_zero]
        have d0 : S 0 = .pointer (some ⟨g, 0, none⟩) := (hd 0 (by kernel_rfl)).2
        rw [d0]
        clear d0
        have d1 : S 1 = .pointer (some ⟨g, 0, none⟩) := (hd 1 (by kernel_rfl)).2
        rw [d1]
        clear d1
        have d2 : S 2 = .pointer (some ⟨g, 0, none⟩) := (hd 2 (by kernel_rfl)).2
        rw [d2]
        clear d2
        have d3 : S 3 = .pointer (some ⟨g, 2, none⟩) := (hd 3 (by kernel_rfl)).2
        rw [d3]
        clear d3
        have d4 : S 4 = .int .i64 (d : Nat) := (hd 4 (by kernel_rfl)).2
        rw [d4]
        clear d4
        have d5 : S 5 = .int .i64 D := (hd 5 (by kernel_rfl)).2
        rw [d5]
        clear d5
        have d6 : S 6 = .int .i64 D := (hd 6 (by kernel_rfl)).2
        rw [d6]
        clear d6
        have d7 : S 7 = .int .i64 (-D) := (hd 7 (by kernel_rfl)).2
        rw [d7]
        clear d7
        have d8 : S 8 = .int .i64 (a : Nat) := (hd 8 (by kernel_rfl)).2
        rw [d8]
        clear d8
        have d9 : S 9 = .int .i64 (s1 : Nat) := (hd 9 (by kernel_rfl)).2
        rw [d9]
        clear d9
        have d10 : S 10 = .pointer (some ⟨g, 0, none⟩) := (hd 10 (by kernel_rfl)).2
        rw [d10]
        clear d10
        have d11 : S 11 = .pointer (some ⟨g, 0, none⟩) := (hd 11 (by kernel_rfl)).2
        rw [d11]
        clear d11
        have d12 : S 12 = .pointer (some ⟨g, 2, none⟩) := (hd 12 (by kernel_rfl)).2
        rw [d12]
        clear d12
        have d13 : S 13 = .int .i64 (d : Nat) := (hd 13 (by kernel_rfl)).2
        rw [d13]
        clear d13
        have d14 : S 14 = .int .i64 (q4 : Nat) := (hd 14 (by kernel_rfl)).2
        rw [d14]
        clear d14
        have d15 : S 15 = .int .i64 (d2 : Nat) := (hd 15 (by kernel_rfl)).2
        rw [d15]
        clear d15
        have d16 : S 16 = .int .i64 (d2 : Nat) := (hd 16 (by kernel_rfl)).2
        rw [d16]
        clear d16
        clear hd
        refine GH.st_eq (by rfl) ?_
        go_simp
        (try with_reducible rfl)
      | 18, _, hd =>
        simp only [GH.mkL, List.getD_cons_succ, List.getD_cons_zero]
        have d0 : S 0 = .pointer (some ⟨g, 0, none⟩) := (hd 0 (by kernel_rfl)).2
        rw [d0]
        clear d0
        have d1 : S 1 = .pointer (some ⟨g, 0, none⟩) := (hd 1 (by kernel_rfl)).2
        rw [d1]
        clear d1
        have d2 : S 2 = .pointer (some ⟨g, 0, none⟩) := (hd 2 (by kernel_rfl)).2
        rw [d2]
        clear d2
        have d3 : S 3 = .pointer (some ⟨g, 2, none⟩) := (hd 3 (by kernel_rfl)).2
        rw [d3]
        clear d3
        have d4 : S 4 = .int .i64 (d : Nat) := (hd 4 (by kernel_rfl)).2
        rw [d4]
        clear d4
        have d5 : S 5 = .int .i64 D := (hd 5 (by kernel_rfl)).2
        rw [d5]
        clear d5
        have d6 : S 6 = .int .i64 D := (hd 6 (by kernel_rfl)).2
        rw [d6]
        clear d6
        have d7 : S 7 = .int .i64 (-D) := (hd 7 (by kernel_rfl)).2
        rw [d7]
        clear d7
        have d8 : S 8 = .int .i64 (a : Nat) := (hd 8 (by kernel_rfl)).2
        rw [d8]
        clear d8
        have d9 : S 9 = .int .i64 (s1 : Nat) := (hd 9 (by kernel_rfl)).2
        rw [d9]
        clear d9
        have d10 : S 10 = .pointer (some ⟨g, 0, none⟩) := (hd 10 (by kernel_rfl)).2
        rw [d10]
        clear d10
        have d11 : S 11 = .pointer (some ⟨g, 0, none⟩) := (hd 11 (by kernel_rfl)).2
        rw [d11]
        clear d11
        have d12 : S 12 = .pointer (some ⟨g, 2, none⟩) := (hd 12 (by kernel_rfl)).2
        rw [d12]
        clear d12
        have d13 : S 13 = .int .i64 (d : Nat) := (hd 13 (by kernel_rfl)).2
        rw [d13]
        clear d13
        have d14 : S 14 = .int .i64 (q4 : Nat) := (hd 14 (by kernel_rfl)).2
        rw [d14]
        clear d14
        have d15 : S 15 = .int .i64 (d2 : Nat) := (hd 15 (by kernel_rfl)).2
        rw [d15]
        clear d15
        have d16 : S 16 = .int .i64 (d2 : Nat) := (hd 16 (by kernel_rfl)).2
        rw [d16]
        clear d16
        have d17 : S 17 = .pointer (some ⟨g, 0, none⟩) := (hd 17 (by kernel_rfl)).2
        rw [d17]
        clear d17
        clear hd
        refine GH.st_eq (by rfl) ?_
        go_simp
        (try with_reducible rfl)
      | nx + 19, hjx, _ => omega
    intro S w' hb hG
    simp only [GH.mkL, List.drop_succ_cons, List.drop_zero]
    have d16 : S 16 = .int .i64 (d2 : Nat) := hG 16 (by omega)
    rw [d16]
    clear d16
    have d18 : S 18 = .pointer (some ⟨g, 2, none⟩) := hG 18 (by omega)
    rw [d18]
    clear d18
    clear hG
    have KF := H2.out.below hb.below H2.out.lt
    have f2 := KF.frozen 2
    obtain ⟨c0, c1, c2, c3⟩ := ptc4 KF
    have HKF := Lib.hid KF
    have HB := Lib.hid hb
    clear KF hb
    go_wp2_with fail
    go_end0
    exact ⟨rfl, m2, d2, HMD.out.1, HMD.out.2, HOK.out, HKF.out.set 2 (.int .i64 (d2 : Nat)), (T2.out.grow HB.out.below (Nat.le_of_lt H2.out.lt)).solo (Solo.refl.setCell 2 _)⟩
theorem rto_back (g m d s : Nat) (kn : Bool) (w : World) (h : EstW w g kn m d s) (ho : EstOk m d s) :
    Calls Try.prog 6 #[.pointer (some ⟨g, 0, none⟩)] w fun e w' => e = .returned (.tuple #[]) ∧ EstW w' g kn m d (min (s + 1) 8) ∧ Tou g w w' := by
  obtain ⟨c0, c1, c2, c3⟩ := ptc4 h
  have f3 := Blk.frozen h 3
  have H := Lib.hid h
  have hs := ho.s
  clear h ho
  by_cases h8 : s = 8
  · subst h8
    go_enter Try.func6, Try.ntmps6
    go_wp2_with fail
    go_end0
    exact ⟨rfl, Blk.set H.out 3 _, (Tou.refl _ _).solo (Solo.refl.setCell 3 _)⟩
  · have h9 : ¬ (8 : Int) < (s : Int) + 1 := by omega
    have h10 : ¬ 8 < s + 1 := by omega
    have e : min (s + 1) 8 = s + 1 := by omega
    rw [e]
    go_enter Try.func6, Try.ntmps6
    go_wp2_with fail
    go_end0
    refine ⟨rfl, ?_, (Tou.refl _ _).solo (Solo.refl.setCell 3 _)⟩
    have := Blk.set H.out 3 (.int .i64 ((s : Int) + 1))
    unfold EstW
    push_cast
    exact this
theorem rto_backs (g m d s : Nat) (kn : Bool) (w : World) (h : EstW w g kn m d s) :
    Calls Try.prog 7 #[.pointer (some ⟨g, 0, none⟩)] w fun e w' => e = .returned (.int .i64 (s : Nat)) ∧ w' = w := by
  obtain ⟨c0, c1, c2, c3⟩ := ptc4 h
  clear h
  go_enter Try.func7, Try.ntmps7
  go_wp2_with fail
  go_ret
  exact ⟨rfl, rfl⟩
/-- How long one waits, were no bound. -/
def rWt (kn : Bool) (m d : Nat) : Nat := max (if kn then m / 8 + max d 1 else 8) 2
set_option maxRecDepth 20000 in
set_option maxHeartbeats 4000000 in
theorem rto_patience (g m d s : Nat) (kn : Bool) (w : World) (h : EstW w g kn m d s) (ho : EstOk m d s) :
    Calls Try.prog 5 #[.pointer (some ⟨g, 0, none⟩)] w fun e w' => e = .returned (.int .i64 (min (rWt kn m d * 2 ^ s) 256 : Nat)) ∧ Below w.heap.size w w' := by
  obtain ⟨c0, c1, c2, c3⟩ := ptc4 h
  have H := Lib.hid h
  have hm := ho.m
  have hd := ho.d
  have hs := ho.s
  clear h ho
  cases kn with
  | false =>
    go_enter Try.func5, Try.ntmps5
    go_upto_region 4 with fail
    rcases (show s = 0 ∨ s = 1 ∨ s = 2 ∨ s = 3 ∨ s = 4 ∨ s = 5 ∨ s = 6 ∨ s = 7 ∨ s = 8 by omega) with rfl | rfl | rfl | rfl | rfl | rfl | rfl | rfl | rfl
    all_goals
      go_wp2_with fail
      go_ret
      exact ⟨rfl, Below.refl _ _⟩
  | true =>
    obtain ⟨q, hq⟩ : ∃ q, q = m / 8 := ⟨_, rfl⟩
    have hqi : (m : Int) / 8 = (q : Nat) := by omega
    obtain ⟨d1, hd1⟩ : ∃ d1, d1 = max d 1 := ⟨_, rfl⟩
    have hdi : (if (d : Int) < 1 then (1 : Int) else (d : Int)) = (d1 : Nat) := by split <;> omega
    obtain ⟨x, hx⟩ : ∃ x, x = q + d1 := ⟨_, rfl⟩
    have hxi : (q : Int) + (d1 : Int) = (x : Nat) := by omega
    have hd1b : d1 ≤ 16387 := by omega
    have hxb : x ≤ 20500 := by omega
    obtain ⟨k, hk0⟩ : ∃ k, k = max x 2 := ⟨_, rfl⟩
    have hk : (if (x : Int) < 2 then (2 : Int) else (x : Int)) = (k : Nat) := by split <;> omega
    have hkb : k ≤ 20500 := by omega
    have hrw : rWt true m d = k := by unfold rWt; rw [if_pos rfl, ← hq, ← hd1, ← hx, ← hk0]
    rw [hrw]
    have wq : IntKind.i64.wrap (q : Int) = (q : Nat) := by rw [IntKind.wrap_i64]; omega
    have wx : IntKind.i64.wrap (x : Int) = (x : Nat) := by rw [IntKind.wrap_i64]; omega
    clear hq hd1 hx hk0 hrw
    go_enter Try.func5, Try.ntmps5
    go_upto_region 3 with fail
    refine GH.wp_ghl2 (M := false) 12 ((GH.SP.eq (.pointer (some ⟨g, 0, none⟩))) :: (GH.SP.eq (.pointer (some ⟨g, 0, none⟩))) :: (GH.SP.eq (.pointer (some ⟨g, 1, none⟩))) :: (GH.SP.eq (.int .i64 (m : Nat))) :: (GH.SP.eq (.int .i64 (q : Nat))) :: (GH.SP.eq (.pointer (some ⟨g, 0, none⟩))) :: (GH.SP.eq (.pointer (some ⟨g, 0, none⟩))) :: (GH.SP.eq (.pointer (some ⟨g, 2, none⟩))) :: (GH.SP.eq (.int .i64 (d : Nat))) :: (GH.SP.eq (.int .i64 (d1 : Nat))) :: (GH.SP.eq (.int .i64 (x : Nat))) :: (GH.SP.eq (.int .i64 (x : Nat))) :: []) (none :: none :: none :: (some 11) :: none :: none :: none :: none :: (some 0) :: (some 1) :: (some 2) :: (some 3) :: (some 4) :: (some 5) :: (some 6) :: (some 7) :: (some 8) :: (some 9) :: (some 10) :: none :: none :: none :: none :: none :: none :: none :: none :: []) [8, 9, 10, 11, 12, 13, 14, 15, 16, 17, 18, 3] (by rfl) (by kernel_rfl) (by kernel_rfl) ?_ ?_ ?_
    · intro S jx v hjx
      match jx, hjx with
      | 0, _ => rfl
      | 1, _ => rfl
      | 2, _ => rfl
      | 3, _ => rfl
      | 4, _ => rfl
      | 5, _ => rfl
      | 6, _ => rfl
      | 7, _ => rfl
      | 8, _ => rfl
      | 9, _ => rfl
      | 10, _ => rfl
      | 11, _ => rfl
      | nx + 12, hjx => omega
    · intro jx hjx S w' hb hd
      match jx, hjx, hd with
      | 0, _, hd =>
        simp only [GH.mkL, List.getD_cons_succ, List.getD_cons_zero]
        clear hd
        refine GH.st_eq (by rfl) ?_
        go_simp
        (try with_reducible rfl)
      | 1, _, hd =>
        simp only [GH.mkL, List.getD_cons_succ, List.getD_cons_zero]
        have d0 : S 0 = .pointer (some ⟨g, 0, none⟩) := (hd 0 (by kernel_rfl)).2
        rw [d0]
        clear d0
        clear hd
        refine GH.st_eq (by rfl) ?_
        go_simp
        (try with_reducible rfl)
      | 2, _, hd =>
        simp only [GH.mkL, List.getD_cons_succ, List.getD_cons_zero]
        have d1 : S 1 = .pointer (some ⟨g, 0, none⟩) := (hd 1 (by kernel_rfl)).2
        rw [d1]
        clear d1
        clear hd
        refine GH.st_eq (by rfl) ?_
        go_simp
        (try with_reducible rfl)
      | 3, _, hd =>
        simp only [GH.mkL, List.getD_cons_succ, List.getD_cons_zero]
        have d2 : S 2 = .pointer (some ⟨g, 1, none⟩) := (hd 2 (by kernel_rfl)).2
        rw [d2]
        clear d2
        clear hd
        exact GH.st_load _ (by rfl) rfl rfl (((H.out.below hb.below H.out.lt)).cell 1) (by kernel_rfl)
      | 4, _, hd =>
        simp only [GH.mkL, List.getD_cons_succ, List.getD_cons_zero]
        have d3 : S 3 = .int .i64 (m : Nat) := (hd 3 (by kernel_rfl)).2
        rw [d3]
        clear d3
        clear hd
        refine GH.st_eq (by rfl) ?_
        go_simp
        (try simp only [hqi, wq])
        (try with_reducible rfl)
      | 5, _, hd =>
        simp only [GH.mkL, List.getD_cons_succ, List.getD_cons_zero]
        clear hd
        refine GH.st_eq (by rfl) ?_
        go_simp
        (try with_reducible rfl)
      | 6, _, hd =>
        simp only [GH.mkL, List.getD_cons_succ, List.getD_cons_zero]
        have d5 : S 5 = .pointer (some ⟨g, 0, none⟩) := (hd 5 (by kernel_rfl)).2
        rw [d5]
        clear d5
        clear hd
        refine GH.st_eq (by rfl) ?_
        go_simp
        (try with_reducible rfl)
      | 7, _, hd =>
        simp only [GH.mkL, List.getD_cons_succ, List.getD_cons_zero]
        have d6 : S 6 = .pointer (some ⟨g, 0, none⟩) := (hd 6 (by kernel_rfl)).2
        rw [d6]
        clear d6
        clear hd
        refine GH.st_eq (by rfl) ?_
        go_simp
        (try with_reducible rfl)
      | 8, _, hd =>
        simp only [GH.mkL, List.getD_cons_succ, List.getD_cons_zero]
        have d7 : S 7 = .pointer (some ⟨g, 2, none⟩) := (hd 7 (by kernel_rfl)).2
        rw [d7]
        clear d7
        clear hd
        exact GH.st_load _ (by rfl) rfl rfl (((H.out.below hb.below H.out.lt)).cell 2) (by kernel_rfl)
      | 9, _, hd =>
        simp only [GH.mkL, List.getD_cons_succ, List.getD_cons_zero]
        have d8 : S 8 = .int .i64 (d : Nat) := (hd 8 (by kernel_rfl)).2
        rw [d8]
        clear d8
        clear hd
        refine GH.st_eq (by rfl) ?_
        go_simp
        (try exact hdi)
      | 10, _, hd =>
        simp only [GH.mkL, List.getD_cons_succ, List.getD_cons_zero]
        have d4 : S 4 = .int .i64 (q : Nat) := (hd 4 (by kernel_rfl)).2
        rw [d4]
        clear d4
        have d9 : S 9 = .int .i64 (d1 : Nat) := (hd 9 (by kernel_rfl)).2
        rw [d9]
        clear d9
        clear hd
        refine GH.st_eq (by rfl) ?_
        go_simp
        (try simp only [hxi, wx])
        (try with_reducible rfl)
      | 11, _, hd =>
        simp only [GH.mkL, List.getD_cons_succ, List.getD_cons_zero]
        have d0 : S 0 = .pointer (some ⟨g, 0, none⟩) := (hd 0 (by kernel_rfl)).2
        rw [d0]
        clear d0
        have d1 : S 1 = .pointer (some ⟨g, 0, none⟩) := (hd 1 (by kernel_rfl)).2
        rw [d1]
        clear d1
        have d2 : S 2 = .pointer (some ⟨g, 1, none⟩) := (hd 2 (by kernel_rfl)).2
        rw [d2]
        clear d2
        have d3 : S 3 = .int .i64 (m : Nat) := (hd 3 (by kernel_rfl)).2
        rw [d3]
        clear d3
        have d4 : S 4 = .int .i64 (q : Nat) := (hd 4 (by kernel_rfl)).2
        rw [d4]
        clear d4
        have d5 : S 5 = .pointer (some ⟨g, 0, none⟩) := (hd 5 (by kernel_rfl)).2
        rw [d5]
        clear d5
        have d6 : S 6 = .pointer (some ⟨g, 0, none⟩) := (hd 6 (by kernel_rfl)).2
        rw [d6]
        clear d6
        have d7 : S 7 = .pointer (some ⟨g, 2, none⟩) := (hd 7 (by kernel_rfl)).2
        rw [d7]
        clear d7
        have d8 : S 8 = .int .i64 (d : Nat) := (hd 8 (by kernel_rfl)).2
        rw [d8]
        clear d8
        have d9 : S 9 = .int .i64 (d1 : Nat) := (hd 9 (by kernel_rfl)).2
        rw [d9]
        clear d9
        have d10 : S 10 = .int .i64 (x : Nat) := (hd 10 (by kernel_rfl)).2
        rw [d10]
        clear d10
        clear hd
        refine GH.st_eq (by rfl) ?_
        go_simp
        (try with_reducible rfl)
      | nx + 12, hjx, _ => omega
    intro S w' hb hG
    simp only [GH.mkL, List.drop_succ_cons, List.drop_zero]
    have d11 : S 11 = .int .i64 (x : Nat) := hG 11 (by omega)
    rw [d11]
    clear d11
    clear hG
    have HB := Lib.hid hb.below
    refine wpList_nil ?_
    clear hb hqi hdi hxi c0 c1 c2 c3
    have H2 := Lib.hid (H.out.below HB.out H.out.lt)
    obtain ⟨c0, c1, c2, c3⟩ := ptc4 H2.out
    go_upto_region 4 with fail
    rcases (show s = 0 ∨ s = 1 ∨ s = 2 ∨ s = 3 ∨ s = 4 ∨ s = 5 ∨ s = 6 ∨ s = 7 ∨ s = 8 by omega) with rfl | rfl | rfl | rfl | rfl | rfl | rfl | rfl | rfl
    all_goals
      go_wp2_with fail
      all_goals
        go_ret
        refine ⟨(show Ending.returned (.int .i64 _) = Ending.returned (.int .i64 _) from congrArg (fun x : Int => Ending.returned (.int .i64 x)) ?_), HB.out⟩
        omega
end Go.Proofs.Ytoficpbgkpdgpaa
