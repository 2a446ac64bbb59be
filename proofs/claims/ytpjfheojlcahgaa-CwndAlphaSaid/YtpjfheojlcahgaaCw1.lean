/- Layer 13: paths as pairs; within, bound, bounded, counted, together, Alpha. -/
import Derived.Test.YtpjfheojlcahgaaPairZ
import Derived.Test.YtpjfheojlcahgaaTou
import Derived.Test.YtpjfheojlcahgaaOrd
import Derived.Test.YtpjfheojlcahgaaQx
import Derived.Test.YtpjfheojlcahgaaGhoP
import Derived.Test.YtpjfheojlcahgaaGho2
import Derived.Test.YtpjfheojlcahgaaPut
import Derived.Test.YtpjfheojlcahgaaRows
import Derived.OwnWalk
import Derived.BigQuiet
import Derived.RegionTactic
import Derived.LoopTactic
import Derived.ChangeAlike
import Derived.Deep.Cut
namespace Go.Proofs.Ytpjfheojlcahgaa
open Go.RowKit
set_option linter.unusedVariables false
set_option linter.unusedSimpArgs false
/-- A path's numbers within their bounds; those of the paths that count. -/
def szP (p : Int × Int) : Nat := clN 1 65536 p.1
def mnP (p : Int × Int) : Nat := clN 1 4096 p.2
theorem szP_ge (p : Int × Int) : 1 ≤ szP p := clN_ge (by omega) _
theorem szP_le (p : Int × Int) : szP p ≤ 65536 := clN_le (by omega) _
theorem mnP_ge (p : Int × Int) : 1 ≤ mnP p := clN_ge (by omega) _
theorem mnP_le (p : Int × Int) : mnP p ≤ 4096 := clN_le (by omega) _
def bsP (p : Int × Int) : Nat := szP p * 1024 / (mnP p * mnP p)
def rtP (p : Int × Int) : Nat := szP p * 1024 / mnP p
theorem bsP_le (p : Int × Int) : bsP p ≤ 67108864 := by
  unfold bsP
  exact Nat.le_trans (Nat.div_le_self _ _) (by have := szP_le p; omega)
theorem rtP_le (p : Int × Int) : rtP p ≤ 67108864 := by
  unfold rtP
  exact Nat.le_trans (Nat.div_le_self _ _) (by have := szP_le p; omega)
def totL (l : List (Int × Int)) : Nat := sumK szP l (min l.length 64)
def bstL (l : List (Int × Int)) : Nat := maxK bsP l (min l.length 64)
def ratL (l : List (Int × Int)) : Nat := sumK rtP l (min l.length 64) / 1024
def alL (l : List (Int × Int)) : Nat := if bstL l = 0 ∨ ratL l = 0 then 1024 else clN 1 65536 ((totL l * bstL l / (ratL l * ratL l) : Nat) : Int)
theorem totL_le (l : List (Int × Int)) : totL l ≤ 4194304 := by
  have := sumK_le (l := l) (f := szP) (c := 65536) (fun p _ => szP_le p) (min l.length 64)
  have h2 := Nat.mul_le_mul_right 65536 (Nat.min_le_right l.length 64)
  unfold totL
  omega
theorem bstL_le (l : List (Int × Int)) : bstL l ≤ 67108864 := maxK_le (fun p _ => bsP_le p) _
theorem ratL_le (l : List (Int × Int)) : ratL l ≤ 4194304 := by
  have := sumK_le (l := l) (f := rtP) (c := 67108864) (fun p _ => rtP_le p) (min l.length 64)
  have h2 := Nat.mul_le_mul_right 67108864 (Nat.min_le_right l.length 64)
  unfold ratL
  omega
theorem alL_le (l : List (Int × Int)) : alL l ≤ 65536 := by
  unfold alL
  split
  · omega
  · exact clN_le (by omega) _
theorem cwbound_any (n : Int) (w : World) (hn : (Lit.int .i64 n).wf = true) : Calls Try.prog 29 #[.int .i64 n] w fun e w' => e = .returned (.int .i64 (clN 0 1024 n : Nat)) ∧ w' = w := by
  by_cases h0 : n < 0
  · rw [clN_lo (by simpa using h0)]
    have h1 : max n 0 = 0 := by omega
    go_enter Try.func29, Try.ntmps29
    go_wp2
    go_ret
    refine ⟨?_, rfl⟩
    simp
  by_cases h4 : 1024 < n
  · rw [clN_hi (by simpa using h0) (by simpa using h4)]
    go_enter Try.func29, Try.ntmps29
    go_wp2
    go_ret
    exact ⟨ret_int (by omega), rfl⟩
  · rw [clN_in (by simpa using h0) (by simpa using h4)]
    go_enter Try.func29, Try.ntmps29
    go_wp2
    go_ret
    exact ⟨ret_int (by omega), rfl⟩
theorem cwwithin_any (n : Int) (lo hi : Nat) (w : World) (hn : (Lit.int .i64 n).wf = true) : Calls Try.prog 27 #[.int .i64 n, .int .i64 (lo : Nat), .int .i64 (hi : Nat)] w fun e w' => e = .returned (.int .i64 (clN lo hi n : Nat)) ∧ w' = w := by
  by_cases h0 : n < (lo : Int)
  · rw [clN_lo h0]
    go_enter Try.func27, Try.ntmps27
    go_wp2
    go_ret
    exact ⟨rfl, rfl⟩
  by_cases h4 : (hi : Int) < n
  · rw [clN_hi h0 h4]
    go_enter Try.func27, Try.ntmps27
    go_wp2
    go_ret
    exact ⟨rfl, rfl⟩
  · rw [clN_in h0 h4]
    go_enter Try.func27, Try.ntmps27
    go_wp2
    go_ret
    exact ⟨rfl, rfl⟩
theorem cwbounded_any (x y : Int) (w : World) (hx : (Lit.int .i64 x).wf = true) (hy : (Lit.int .i64 y).wf = true) : Calls Try.prog 25 #[.agg #[.int .i64 x, .int .i64 y]] w fun e w' => e = .returned (.tuple #[.int .i64 (szP (x, y) : Nat), .int .i64 (mnP (x, y) : Nat)]) ∧ Below w.heap.size w w' := by
  unfold szP mnP
  dsimp only
  obtain ⟨x1, hx1⟩ : ∃ x1 : Int, (if x < 1 then (1 : Int) else x) = x1 := ⟨_, rfl⟩
  obtain ⟨y1, hy1⟩ : ∃ y1 : Int, (if y < 1 then (1 : Int) else y) = y1 := ⟨_, rfl⟩
  obtain ⟨u, hu, hx2⟩ : ∃ u : Nat, u = clN 1 65536 x ∧ (if (65536 : Int) < x1 then (65536 : Int) else x1) = (u : Int) := ⟨_, rfl, by rw [← hx1]; unfold clN; split <;> (try split) <;> (try split) <;> (try split) <;> omega⟩
  obtain ⟨v, hv, hy2⟩ : ∃ v : Nat, v = clN 1 4096 y ∧ (if (4096 : Int) < y1 then (4096 : Int) else y1) = (v : Int) := ⟨_, rfl, by rw [← hy1]; unfold clN; split <;> (try split) <;> (try split) <;> (try split) <;> omega⟩
  have hub : u ≤ 65536 := by rw [hu]; exact clN_le (by omega) _
  have hvb : v ≤ 4096 := by rw [hv]; exact clN_le (by omega) _
  rw [← hu, ← hv]
  clear hu hv
  go_enter Try.func25, Try.ntmps25
  go_upto_region 1 with fail
  have hk0 : Hid (Blk (w.alloc (.cells #[.int .i64 x, .int .i64 y] 45)) (w.heap.size) 45 #[.int .i64 x, .int .i64 y]) := Lib.hid ((Blk.new w 45 #[.int .i64 x, .int .i64 y]))
  have b1 : Hid (Below w.heap.size w (w.alloc (.cells #[.int .i64 x, .int .i64 y] 45))) := Lib.hid ((Below.refl w.heap.size w).alloc (Nat.le_refl _) (.cells #[.int .i64 x, .int .i64 y] 45))
  have hz : (w.alloc (.cells #[.int .i64 x, .int .i64 y] 45)).heap.size = w.heap.size + 1 := by simp
  generalize (w.alloc (.cells #[.int .i64 x, .int .i64 y] 45)) = w2 at hk0 b1 hz ⊢
  have HZ := Lib.hid hz
  clear hz
  refine GH.wp_ghl (M := false) 10 ((GH.SP.eq (.pointer (some ⟨w.heap.size, 0, none⟩))) :: (GH.SP.eq (.int .i64 x)) :: (GH.SP.eq (.int .i64 x1)) :: (GH.SP.eq (.int .i64 (u : Nat))) :: (GH.SP.eq (.pointer (some ⟨w.heap.size, 1, none⟩))) :: (GH.SP.eq (.int .i64 y)) :: (GH.SP.eq (.int .i64 y1)) :: (GH.SP.eq (.int .i64 (v : Nat))) :: (GH.SP.eq (.int .i64 (u : Nat))) :: (GH.SP.eq (.int .i64 (v : Nat))) :: []) (none :: none :: (some 8) :: (some 9) :: (some 0) :: (some 1) :: (some 2) :: (some 3) :: (some 4) :: (some 5) :: (some 6) :: (some 7) :: []) [4, 5, 6, 7, 8, 9, 10, 11, 2, 3] (by rfl) (by kernel_rfl) (by kernel_rfl) ?_ ?_ ?_
  · intro S jx v hjx
    match jx, hjx with
    | 0, _ => rfl
    | 1, _ => rfl
    | 2, _ => rfl
    | 3, _ => rfl
    | 4, _ => rfl
    | 5, _ => rfl
    | 6, _ => rfl
    | 7, _ => rfl
    | 8, _ => rfl
    | 9, _ => rfl
    | nx + 10, hjx => omega
  · intro jx hjx S w' hb hd
    match jx, hjx, hd with
    | 0, _, hd =>
      simp only [GH.mkL, List.getD_cons_succ, List.getD_cons_zero]
      clear hd
      refine GH.st_eq (by rfl) ?_
      go_simp
      (try with_reducible rfl)
    | 1, _, hd =>
      simp only [GH.mkL, List.getD_cons_succ, List.getD_cons_zero]
      have d0 : S 0 = .pointer (some ⟨w.heap.size, 0, none⟩) := (hd 0 (by kernel_rfl)).2
      rw [d0]
      clear d0
      clear hd
      exact GH.st_load _ (by rfl) rfl rfl (((hk0.out.below hb.below hk0.out.lt)).cell 0) (by kernel_rfl)
    | 2, _, hd =>
      simp only [GH.mkL, List.getD_cons_succ, List.getD_cons_zero]
      have d1 : S 1 = .int .i64 x := (hd 1 (by kernel_rfl)).2
      rw [d1]
      clear d1
      clear hd
      refine GH.st_eq (by rfl) ?_
      go_simp
      (try exact hx1)
    | 3, _, hd =>
      simp only [GH.mkL, List.getD_cons_succ, List.getD_cons_zero]
      have d2 : S 2 = .int .i64 x1 := (hd 2 (by kernel_rfl)).2
      rw [d2]
      clear d2
      clear hd
      refine GH.st_eq (by rfl) ?_
      go_simp
      (try exact hx2)
    | 4, _, hd =>
      simp only [GH.mkL, List.getD_cons_succ, List.getD_cons_zero]
      clear hd
      refine GH.st_eq (by rfl) ?_
      go_simp
      (try with_reducible rfl)
    | 5, _, hd =>
      simp only [GH.mkL, List.getD_cons_succ, List.getD_cons_zero]
      have d4 : S 4 = .pointer (some ⟨w.heap.size, 1, none⟩) := (hd 4 (by kernel_rfl)).2
      rw [d4]
      clear d4
      clear hd
      exact GH.st_load _ (by rfl) rfl rfl (((hk0.out.below hb.below hk0.out.lt)).cell 1) (by kernel_rfl)
    | 6, _, hd =>
      simp only [GH.mkL, List.getD_cons_succ, List.getD_cons_zero]
      have d5 : S 5 = .int .i64 y := (hd 5 (by kernel_rfl)).2
      rw [d5]
      clear d5
      clear hd
      refine GH.st_eq (by rfl) ?_
      go_simp
      (try exact hy1)
    | 7, _, hd =>
      simp only [GH.mkL, List.getD_cons_succ, List.getD_cons_zero]
      have d6 : S 6 = .int .i64 y1 := (hd 6 (by kernel_rfl)).2
      rw [d6]
      clear d6
      clear hd
      refine GH.st_eq (by rfl) ?_
      go_simp
      (try exact hy2)
    | 8, _, hd =>
      simp only [GH.mkL, List.getD_cons_succ, List.getD_cons_zero]
      have d0 : S 0 = .pointer (some ⟨w.heap.size, 0, none⟩) := (hd 0 (by kernel_rfl)).2
      rw [d0]
      clear d0
      have d1 : S 1 = .int .i64 x := (hd 1 (by kernel_rfl)).2
      rw [d1]
      clear d1
      have d2 : S 2 = .int .i64 x1 := (hd 2 (by kernel_rfl)).2
      rw [d2]
      clear d2
      have d3 : S 3 = .int .i64 (u : Nat) := (hd 3 (by kernel_rfl)).2
      rw [d3]
      clear d3
      clear hd
      refine GH.st_eq (by rfl) ?_
      go_simp
      (try with_reducible rfl)
    | 9, _, hd =>
      simp only [GH.mkL, List.getD_cons_succ, List.getD_cons_zero]
      have d0 : S 0 = .pointer (some ⟨w.heap.size, 0, none⟩) := (hd 0 (by kernel_rfl)).2
      rw [d0]
      clear d0
      have d1 : S 1 = .int .i64 x := (hd 1 (by kernel_rfl)).2
      rw [d1]
      clear d1
      have d2 : S 2 = .int .i64 x1 := (hd 2 (by kernel_rfl)).2
      rw [d2]
      clear d2
      have d3 : S 3 = .int .i64 (u : Nat) := (hd 3 (by kernel_rfl)).2
      rw [d3]
      clear d3
      have d4 : S 4 = .pointer (some ⟨w.heap.size, 1, none⟩) := (hd 4 (by kernel_rfl)).2
      rw [d4]
      clear d4
      have d5 : S 5 = .int .i64 y := (hd 5 (by kernel_rfl)).2
      rw [d5]
      clear d5
      have d6 : S 6 = .int .i64 y1 := (hd 6 (by kernel_rfl)).2
      rw [d6]
      clear d6
      have d7 : S 7 = .int .i64 (v : Nat) := (hd 7 (by kernel_rfl)).2
      rw [d7]
      clear d7
      have d8 : S 8 = .int .i64 (u : Nat) := (hd 8 (by kernel_rfl)).2
      rw [d8]
      clear d8
      clear hd
      refine GH.st_eq (by rfl) ?_
      go_simp
      (try with_reducible rfl)
    | nx + 10, hjx, _ => omega
  intro S w' hb hG
  simp only [GH.mkL, List.drop_succ_cons, List.drop_zero]
  have d8 : S 8 = .int .i64 (u : Nat) := hG 8 (by omega)
  rw [d8]
  clear d8
  have d9 : S 9 = .int .i64 (v : Nat) := hG 9 (by omega)
  rw [d9]
  clear d9
  clear hG
  have BF := Lib.hid (b1.out.trans (hb.below.mono b1.out.size))
  clear b1 hb
  refine wpList_nil ?_
  go_wp2_with fail
  go_ret2
  exact ⟨rfl, BF.out⟩
theorem pcEl : El Try.prog 22 45 (.agg #[.int .i64 0, .int .i64 0]) 2 16 := ⟨Try.underlying22, by kernel_rfl, rfl, by omega, by omega⟩
theorem prEl : El Try.prog 25 51 (.agg #[.int .i64 0, .int .i64 0]) 2 16 := ⟨Try.underlying25, by kernel_rfl, rfl, by omega, by omega⟩
theorem cwcounted_any (A : Option Addr) (n c : Nat) (w : World) (hnc : n ≤ c) (hc : c ≤ maxLen) : Calls Try.prog 24 #[.slice A n c] w fun e w' => e = .returned (.slice A (min n 64) c) ∧ w' = w := by
  unfold maxLen at hc
  obtain ⟨m, hm⟩ : ∃ m, m = min n 64 := ⟨_, rfl⟩
  rw [← hm]
  have hs1 : ∀ w, (Instr.slice 22 (.slice A n c) none (some (.int .i64 (m : Int))) none).run Try.prog w = .ok (.slice A m c) w := fun w => run_cut_h pcEl A n c m (by omega) w
  by_cases h : 64 < n
  · obtain rfl : m = 64 := by omega
    have h' : (64 : Int) < (n : Int) := by omega
    clear hm
    go_enter Try.func24, Try.ntmps24
    go_wp2_with fail
    go_ret
    exact ⟨rfl, rfl⟩
  · obtain rfl : m = n := by omega
    have h' : ¬ (64 : Int) < (m : Int) := by omega
    clear hm
    go_enter Try.func24, Try.ntmps24
    go_wp2_with fail
    go_ret
    exact ⟨rfl, rfl⟩
set_option maxRecDepth 20000 in
set_option maxHeartbeats 4000000 in
theorem cwtogether_any (A : Option Addr) (n c : Nat) (l : List (Int × Int)) (w : World) (h : Rd w w.heap.size 2 A n (pz l)) (hnc : n ≤ c) (hc : c ≤ maxLen) (hl : ∀ p ∈ l, (Lit.int .i64 p.1).wf = true ∧ (Lit.int .i64 p.2).wf = true) :
    Calls Try.prog 31 #[.slice A n c] w fun e w' => e = .returned (.int .i64 (totL l : Nat)) ∧ Below w.heap.size w w' := by
  have HR := Lib.hid h
  have HL := Lib.hid hl
  have HT := totL_le l
  have hmb : min n 64 ≤ 64 := Nat.min_le_right _ _
  have hmn : min n 64 ≤ n := Nat.min_le_left _ _
  obtain ⟨m, hm⟩ : ∃ m, m = min n 64 := ⟨_, rfl⟩
  have HC : Hid (∀ w, Calls Try.prog 24 #[.slice A n c] w fun e w' => e = .returned (.slice A m c) ∧ w' = w) := Lib.hid fun w => by rw [hm]; exact cwcounted_any A n c w hnc hc
  rw [← hm] at hmb hmn
  have HE := Lib.hid (show totL l = sumK szP l m from by unfold totL; rw [h.pzLen, hm])
  clear h hl hm hc
  go_enter Try.func31, Try.ntmps31
  go_wp2_with fail
  refine (HC.out w).mono ?_
  rintro e w1 ⟨rfl, rfl⟩
  go_wp2_with fail
  go_loopw [3, 11] (fun sv iv wr => ∃ (k s : Nat), k ≤ m ∧ iv = .int .i64 (k : Int) ∧ sv = .int .i64 (s : Int) ∧ Hid (s = sumK szP l k) ∧ Hid (Below w1.heap.size w1 wr)) (fun _ iv _ => m - (intOf iv).toNat)
  case atStart => exact ⟨0, 0, Nat.zero_le _, rfl, rfl, Lib.hid rfl, Lib.hid (Below.refl _ _)⟩
  case round =>
    obtain ⟨k, s, hk, rfl, rfl, hs, hb⟩ := hrel
    have hsb : s ≤ 65536 * k := by rw [hs.out, Nat.mul_comm]; exact sumK_le (fun p _ => szP_le p) k
    by_cases hlt : k < m
    · have hlt' : (k : Int) < (m : Int) := by omega
      obtain ⟨b, off, x, y, rfl, hbb, p0, p1, hp⟩ := (HR.out.into hb.out).pz (show k < n by omega)
      have hx := (HL.out _ (List.mem_of_getElem? hp.out)).1
      have hy := (HL.out _ (List.mem_of_getElem? hp.out)).2
      dsimp only at hx hy
      have HS := Lib.hid (show s + szP (x, y) = sumK szP l (k + 1) from by rw [sumK_succ hp.out, ← hs.out])
      obtain ⟨u, hu⟩ : ∃ u, u = szP (x, y) := ⟨_, rfl⟩
      have hub : u ≤ 65536 := by rw [hu]; exact szP_le _
      have CB := Lib.hid (fun w => cwbounded_any x y w hx hy)
      rw [← hu] at HS CB
      obtain ⟨v, hv⟩ : ∃ v, v = mnP (x, y) := ⟨_, rfl⟩
      rw [← hv] at CB
      obtain ⟨t, ht⟩ : ∃ t, t = s + u := ⟨_, rfl⟩
      rw [← ht] at HS
      have hsu : (s : Int) + (u : Int) = (t : Int) := by omega
      have htb : t ≤ 65536 * (k + 1) := by omega
      have hkb : k < 64 := by omega
      clear hu hs hp hx hy hv ht
      go_wp2_with fail
      refine (CB.out _).mono ?_
      rintro e w2 ⟨rfl, hb2⟩
      have HB2 := Lib.hid (hb.out.trans ((((Below.refl wr.heap.size wr).alloc (Nat.le_refl _) (.cells #[.int .i64 x, .int .i64 y] 45)).trans (hb2.mono (by simp))).mono hb.out.size))
      clear hb2 p0 p1
      go_wp2_with fail
      go_roundw
      case rel => exact ⟨k + 1, t, by omega, by go_num, rfl, HS, HB2⟩
      case measure => simp [intOf]; omega
    · obtain rfl : k = m := by omega
      have e := Lib.hid (show totL l = s from by rw [HE.out, hs.out])
      clear hs HE
      go_wp2_with fail
      go_ret
      exact ⟨by rw [e.out]; rfl, hb.out⟩
set_option maxRecDepth 20000 in
set_option maxHeartbeats 4000000 in
theorem cwalpha_any (A : Option Addr) (n c : Nat) (l : List (Int × Int)) (w : World) (h : Rd w w.heap.size 2 A n (pz l)) (hnc : n ≤ c) (hc : c ≤ maxLen) (hl : ∀ p ∈ l, (Lit.int .i64 p.1).wf = true ∧ (Lit.int .i64 p.2).wf = true) :
    Calls Try.prog 6 #[.slice A n c] w fun e w' => e = .returned (.int .i64 (alL l : Nat)) ∧ Below w.heap.size w w' := by
  have HR := Lib.hid h
  have HL := Lib.hid hl
  have hmb : min n 64 ≤ 64 := Nat.min_le_right _ _
  have hmn : min n 64 ≤ n := Nat.min_le_left _ _
  obtain ⟨m, hm⟩ : ∃ m, m = min n 64 := ⟨_, rfl⟩
  have HC : Hid (∀ w, Calls Try.prog 24 #[.slice A n c] w fun e w' => e = .returned (.slice A m c) ∧ w' = w) := Lib.hid fun w => by rw [hm]; exact cwcounted_any A n c w hnc hc
  rw [← hm] at hmb hmn
  have HE := Lib.hid (show totL l = sumK szP l m ∧ bstL l = maxK bsP l m ∧ ratL l = sumK rtP l m / 1024 from by unfold totL bstL ratL; rw [h.pzLen, hm]; exact ⟨rfl, rfl, rfl⟩)
  clear h hl hm hc
  go_enter Try.func6, Try.ntmps6
  go_wp2_with fail
  refine (HC.out w).mono ?_
  rintro e w1 ⟨rfl, rfl⟩
  go_wp2_with fail
  go_loopw [3, 4, 5, 13] (fun sv bv rv iv wr => ∃ (k s t r : Nat), k ≤ m ∧ iv = .int .i64 (k : Int) ∧ sv = .int .i64 (s : Int) ∧ bv = .int .i64 (t : Int) ∧ rv = .int .i64 (r : Int) ∧ Hid (s = sumK szP l k ∧ t = maxK bsP l k ∧ r = sumK rtP l k) ∧ Hid (Below w1.heap.size w1 wr)) (fun _ _ _ iv _ => m - (intOf iv).toNat)
  case atStart => exact ⟨0, 0, 0, 0, Nat.zero_le _, rfl, rfl, rfl, rfl, Lib.hid ⟨rfl, rfl, rfl⟩, Lib.hid (Below.refl _ _)⟩
  case round =>
    obtain ⟨k, s, t, r, hk, rfl, rfl, rfl, rfl, hs, hb⟩ := hrel
    have hsb : s ≤ 65536 * k := by rw [hs.out.1, Nat.mul_comm]; exact sumK_le (fun p _ => szP_le p) k
    have htb : t ≤ 67108864 := by rw [hs.out.2.1]; exact maxK_le (fun p _ => bsP_le p) k
    have hrb : r ≤ 67108864 * k := by rw [hs.out.2.2, Nat.mul_comm]; exact sumK_le (fun p _ => rtP_le p) k
    by_cases hlt : k < m
    · have hlt' : (k : Int) < (m : Int) := by omega
      obtain ⟨b, off, x, y, rfl, hbb, p0, p1, hp⟩ := (HR.out.into hb.out).pz (show k < n by omega)
      have hx := (HL.out _ (List.mem_of_getElem? hp.out)).1
      have hy := (HL.out _ (List.mem_of_getElem? hp.out)).2
      dsimp only at hx hy
      have HS := Lib.hid (show s + szP (x, y) = sumK szP l (k + 1) ∧ max t (bsP (x, y)) = maxK bsP l (k + 1) ∧ r + rtP (x, y) = sumK rtP l (k + 1) from by rw [sumK_succ hp.out, sumK_succ hp.out, maxK_succ hp.out, ← hs.out.1, ← hs.out.2.1, ← hs.out.2.2]; exact ⟨rfl, rfl, rfl⟩)
      have CB := Lib.hid (fun w => cwbounded_any x y w hx hy)
      have hqb := bsP_le (x, y)
      have hgb := rtP_le (x, y)
      obtain ⟨q, hq⟩ : ∃ q, q = bsP (x, y) := ⟨_, rfl⟩
      obtain ⟨g, hg⟩ : ∃ g, g = rtP (x, y) := ⟨_, rfl⟩
      rw [← hq] at hqb
      rw [← hg] at hgb
      rw [← hq, ← hg] at HS
      unfold bsP at hq
      unfold rtP at hg
      have hub := szP_le (x, y)
      have hvb := mnP_le (x, y)
      have hv0 := mnP_ge (x, y)
      obtain ⟨u, hu⟩ : ∃ u, u = szP (x, y) := ⟨_, rfl⟩
      obtain ⟨v, hv⟩ : ∃ v, v = mnP (x, y) := ⟨_, rfl⟩
      rw [← hu] at HS CB hub hq hg
      rw [← hv] at CB hvb hv0 hq hg
      obtain ⟨s1, hs1⟩ : ∃ s1, s1 = s + u := ⟨_, rfl⟩
      obtain ⟨t1, ht1⟩ : ∃ t1, t1 = max t q := ⟨_, rfl⟩
      obtain ⟨r1, hr1⟩ : ∃ r1, r1 = r + g := ⟨_, rfl⟩
      rw [← hs1, ← ht1, ← hr1] at HS
      have hkb : k < 64 := by omega
      have e1 : (s : Int) + (u : Int) = (s1 : Int) := by omega
      have e2 : (r : Int) + (g : Int) = (r1 : Int) := by omega
      obtain ⟨vv, hvv⟩ : ∃ vv, vv = v * v := ⟨_, rfl⟩
      obtain ⟨um, hum⟩ : ∃ um, um = u * 1024 := ⟨_, rfl⟩
      rw [← hvv, ← hum] at hq
      rw [← hum] at hg
      have e3 : (v : Int) * (v : Int) = (vv : Int) := by rw [hvv]; push_cast; rfl
      have e4 : (u : Int) * 1024 = (um : Int) := by omega
      have e5 : (um : Int) / (vv : Int) = (q : Int) := by rw [hq]; push_cast; rfl
      have e6 : (um : Int) / (v : Int) = (g : Int) := by rw [hg]; push_cast; rfl
      have e7 : (if t < q then (q : Int) else (t : Int)) = (t1 : Int) := by rw [ht1]; split <;> omega
      have hvvb : vv ≤ 16777216 := by rw [hvv]; exact Nat.mul_le_mul hvb hvb
      have hvv0 : 1 ≤ vv := by rw [hvv]; exact Nat.mul_le_mul hv0 hv0
      have humb : um ≤ 67108864 := by omega
      have hs1b : s1 ≤ 65536 * (k + 1) := by omega
      have hr1b : r1 ≤ 67108864 * (k + 1) := by omega
      clear hu hs hp hx hy hv hq hg hs1 ht1 hr1 hvv hum
      go_wp2_with fail
      refine (CB.out _).mono ?_
      rintro e w2 ⟨rfl, hb2⟩
      have HB2 := Lib.hid (hb.out.trans ((((Below.refl wr.heap.size wr).alloc (Nat.le_refl _) (.cells #[.int .i64 x, .int .i64 y] 45)).trans (hb2.mono (by simp))).mono hb.out.size))
      clear hb2 p0 p1
      go_wp2_with fail
      go_roundw
      case rel => exact ⟨k + 1, s1, t1, r1, by omega, by go_num, rfl, rfl, rfl, HS, HB2⟩
      case measure => simp [intOf]; omega
    · obtain rfl : k = m := by omega
      have e := Lib.hid (show totL l = s ∧ bstL l = t ∧ ratL l = r / 1024 from by rw [HE.out.1, HE.out.2.1, HE.out.2.2, hs.out.1, hs.out.2.1, hs.out.2.2]; exact ⟨rfl, rfl, rfl⟩)
      have hsb2 : s ≤ 4194304 := by omega
      obtain ⟨r2, hr2⟩ : ∃ r2, r2 = r / 1024 := ⟨_, rfl⟩
      rw [← hr2] at e
      have hr2i : (r : Int) / 1024 = (r2 : Int) := by omega
      have hr2b : r2 ≤ 4194304 := by omega
      clear hs HE hsb
      by_cases ht0 : t = 0
      · have f := Lib.hid (show alL l = 1024 from by unfold alL; rw [if_pos (.inl (by rw [e.out.2.1]; exact ht0))])
        subst ht0
        clear hr2
        go_wp2_with fail
        go_ret
        exact ⟨by rw [f.out]; rfl, hb.out⟩
      have ht1 : (((t : Nat) : Int) == 0) = false := by simp; omega
      by_cases hr0 : r2 = 0
      · have f := Lib.hid (show alL l = 1024 from by unfold alL; rw [if_pos (.inr (by rw [e.out.2.2]; exact hr0))])
        subst hr0
        clear hr2
        go_wp2_with fail
        go_ret
        exact ⟨by rw [f.out]; rfl, hb.out⟩
      · have f : alL l = clN 1 65536 ((s * t / (r2 * r2) : Nat) : Int) := by unfold alL; rw [e.out.1, e.out.2.1, e.out.2.2, if_neg (by omega)]
        obtain ⟨p, hp⟩ : ∃ p, p = s * t := ⟨_, rfl⟩
        obtain ⟨d, hd⟩ : ∃ d, d = r2 * r2 := ⟨_, rfl⟩
        have hpb : p ≤ 281474976710656 := by rw [hp]; exact Nat.mul_le_mul hsb2 htb
        have hdb : d ≤ 17592186044416 := by rw [hd]; exact Nat.mul_le_mul hr2b hr2b
        have hd0 : 1 ≤ d := by rw [hd]; exact Nat.mul_le_mul (show 1 ≤ r2 by omega) (show 1 ≤ r2 by omega)
        have e1 : (s : Int) * (t : Int) = (p : Int) := by rw [hp]; push_cast; rfl
        have e2 : (r2 : Int) * (r2 : Int) = (d : Int) := by rw [hd]; push_cast; rfl
        rw [← hp, ← hd] at f
        obtain ⟨x, hx⟩ : ∃ x, x = p / d := ⟨_, rfl⟩
        rw [← hx] at f
        have e3 : (p : Int) / (d : Int) = (x : Int) := by rw [hx]; push_cast; rfl
        have hxb : x ≤ 281474976710656 := Nat.le_trans (by rw [hx]; exact Nat.div_le_self _ _) hpb
        have F := Lib.hid f
        have hr1 : (((r2 : Nat) : Int) == 0) = false := by simp; omega
        have hd1 : ((d : Nat) : Int) ≠ 0 := by omega
        have w1' : IntKind.i64.wrap (p : Int) = (p : Nat) := by rw [IntKind.wrap_i64]; omega
        have w2' : IntKind.i64.wrap (d : Int) = (d : Nat) := by rw [IntKind.wrap_i64]; omega
        have w3' : IntKind.i64.wrap (x : Int) = (x : Nat) := by rw [IntKind.wrap_i64]; omega
        clear hp hd hx hpb hdb hxb f hr2
        by_cases hx1 : x < 1
        · obtain rfl : x = 0 := by omega
          go_wp2_with fail
          go_ret
          exact ⟨by rw [F.out]; rfl, hb.out⟩
        by_cases hx2 : 65536 < x
        · have g : clN 1 65536 (x : Int) = 65536 := clN_hi (by omega) (by omega)
          rw [g] at F
          have hx3 : ¬ (x : Int) < 1 := by omega
          have hx4 : (65536 : Int) < (x : Int) := by omega
          clear g
          go_wp2_with fail
          go_ret
          exact ⟨by rw [F.out]; rfl, hb.out⟩
        · have g : clN 1 65536 (x : Int) = x := clN_of (by omega) (by omega)
          rw [g] at F
          have hx3 : ¬ (x : Int) < 1 := by omega
          have hx4 : ¬ (65536 : Int) < (x : Int) := by omega
          clear g
          go_wp2_with fail
          go_ret
          exact ⟨by rw [F.out]; rfl, hb.out⟩
end Go.Proofs.Ytpjfheojlcahgaa
