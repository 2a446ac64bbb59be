/- Layer 44: what a count tells is the document's; the law HistPlays. -/
import Derived.Test.YtioebcjhmfndnaaHi7
import Derived.Test.YtioebcjhmfndnaaOrdF
import Derived.Test.YtioebcjhmfndnaaSz3
namespace Go.Proofs.Ytioebcjhmfndnaa
open Go.RowKit
set_option linter.unusedVariables false
set_option linter.unusedSimpArgs false
theorem HF.stay {w w' : World} {g s : Nat} {f : Nat → Nat} (h : Hid (HF w g f s)) (hb : Below w.heap.size w w') : Hid (HF w' g f s) := Lib.hid (h.out.into hb)
set_option maxRecDepth 20000 in
set_option maxHeartbeats 4000000 in
theorem same_any (g : Nat) (A : Option Addr) (n c : Nat) (l : List (Int × Int)) (part : Int) (w : World) (hf : HF w g (cntL l) (sumLI l)) (h : Rd w w.heap.size 2 A n (pz l)) (hnc : n ≤ c) (hc : c ≤ maxLen) (hl : ∀ p ∈ l, (Lit.int .i64 p.1).wf = true ∧ (Lit.int .i64 p.2).wf = true) (hn : n ≤ 80) (hpw : (Lit.int .i64 part).wf = true) :
    Calls Try.prog 11 #[.pointer (some ⟨g, 0, none⟩), .slice A n c, .int .i64 part] w fun e w' => e = .returned (.bool true) ∧ Below w.heap.size w w' := by
  have hll := h.pzLen
  have hmb := manyL_le l
  have hsb := sumLI_le l
  have CM := Lib.hid (fun w' (hb : Below w.heap.size w w') => rmany_any A n c l w' (h.into hb) hnc hc hl (by omega))
  have CC := Lib.hid (fun r w' (hb : Below w.heap.size w w') => rcount_any A n c l r w' (h.into hb) hnc hc hl (by omega))
  have CB := Lib.hid (fun w' (hb : Below w.heap.size w w') => rbelow_any A n c l part w' (h.into hb) hnc hc hl (by omega) hpw)
  have hup := upTo_many l
  have DM := Lib.hid (fun w' (hh : HF w' g (cntL l) (sumLI l)) => h_many g _ (manyL l) _ w' hh hup (by omega))
  have DA := Lib.hid (fun w' (hh : HF w' g (cntL l) (sumLI l)) => h_mean g _ (manyL l) _ w' hh hup (by omega) (by omega))
  have DB := Lib.hid (fun w' (hh : HF w' g (cntL l) (sumLI l)) => h_below g _ (manyL l) _ part w' hh hup (by omega) hpw)
  have DC := Lib.hid (fun i w' (hh : HF w' g (cntL l) (sumLI l)) => h_count g _ _ i w' hh)
  have HR := Lib.hid h
  have HL := Lib.hid hl
  have HH := Lib.hid hf
  obtain ⟨M, hM⟩ : ∃ M, M = manyL l := ⟨_, rfl⟩
  obtain ⟨s, hs⟩ : ∃ s, s = sumLI l := ⟨_, rfl⟩
  obtain ⟨f, hff⟩ : ∃ f, f = cntL l := ⟨_, rfl⟩
  obtain ⟨bl, hbl⟩ : ∃ bl, bl = belN f M (clN 0 1000 part) := ⟨_, rfl⟩
  have hMb : M ≤ 83886080 := by omega
  have hsb2 : s ≤ 200000000000000000 := by omega
  rw [← hM, ← hs] at CM
  rw [← hff, ← hM, ← hbl] at CB
  rw [← hff, ← hs, ← hM] at DM DA DB
  rw [← hbl] at DB
  rw [← hff] at CC
  rw [← hff, ← hs] at DC HH
  clear hll hmb hsb hup h hl hf hM hs hff hbl hc
  obtain ⟨mean, hmean⟩ : ∃ mean, mean = s / M := ⟨_, rfl⟩
  rw [← hmean] at DA
  have hmi : (s : Int) / (M : Int) = (mean : Nat) := by rw [hmean]; push_cast; rfl
  have hmt : (s : Int).tdiv (M : Int) = (mean : Nat) := by rw [Int.tdiv_eq_ediv_of_nonneg (by omega)]; exact hmi
  have hmb : mean ≤ s := by rw [hmean]; exact Nat.div_le_self _ _
  have HM0 := Lib.hid (show M = 0 → mean = 0 from fun e => by rw [hmean, e]; exact Nat.div_zero _)
  clear hmean
  have tail : ∀ (w1 : World), Below w.heap.size w w1 → True := fun _ _ => trivial
  clear tail
  go_enter Try.func11, Try.ntmps11
  go_wp2_with fail
  refine (CM.out _ (Below.refl _ _)).mono ?_
  rintro e w1 ⟨rfl, hb1⟩
  have B1 := Lib.hid hb1
  clear hb1 CM
  by_cases h0 : M = 0
  · obtain rfl := HM0.out h0
    have h0' : ¬ (0 : Int) < (M : Int) := by omega
    have h0N : ¬ 0 < M := by omega
    have h0D : decide (0 < M) = false := by simp; omega
    clear hmi hmt HM0 h0
    go_wp2_with fail
    go_loopw [10, 11] (fun iv rv wr => ∃ (i : Nat), i ≤ n ∧ iv = .int .i64 (i : Nat) ∧ Hid (Below w.heap.size w wr)) (fun iv _ _ => n - (intOf iv).toNat)
    case atStart => exact ⟨0, Nat.zero_le _, rfl, B1⟩
    case round =>
      clear B1
      obtain ⟨i, hi, rfl, BB⟩ := hrel
      by_cases hlt : i < n
      · have hlt' : (i : Int) < (n : Int) := by omega
        obtain ⟨ab, ao, x, y, hA, hab, p0, p1, hp⟩ := HR.out.pz hlt
        subst hA
        have p0 := (BB.out.cell (p := ⟨ab, ao + i * 2, none⟩) hab).trans p0
        have hx := Lib.hid (HL.out _ (List.mem_of_getElem? hp.out)).1
        have CR := Lib.hid (fun w' => rrow_any x w' hx.out)
        obtain ⟨q, hq⟩ : ∃ q, q = rowN (inN x) := ⟨_, rfl⟩
        have hq120 : q < 120 := by rw [hq]; exact (rowN_spec (inN_lt _)).1
        rw [← hq] at CR
        have hi0 : ¬ (i : Int) < 0 := by omega
        have H2 := Lib.hid (HH.out.into BB.out)
        have D1 := Lib.hid (DC.out (q : Int) wr H2.out)
        rw [if_pos (by omega : 0 ≤ (q : Int) ∧ (q : Int) < 120), Int.toNat_natCast] at D1
        clear hab p1 hp hq
        go_wp2_with fail
        refine (CR.out _).mono ?_
        rintro e w2 ⟨rfl, rfl⟩
        go_wp2_with fail
        refine D1.out.mono ?_
        rintro e w3 ⟨rfl, rfl⟩
        go_wp2_with fail
        refine (CC.out q _ BB.out).mono ?_
        rintro e w4 ⟨rfl, rfl⟩
        go_wp2_with fail
        go_roundw
        case rel => exact ⟨i + 1, by omega, by go_num, BB⟩
        case measure => simp [intOf]; omega
      · obtain rfl : i = n := by omega
        have H2 := Lib.hid (HH.out.into BB.out)
        go_wp2_with fail
        refine (DM.out _ H2.out).mono ?_
        rintro e w2 ⟨rfl, rfl⟩
        go_wp2_with fail
        refine (DA.out _ H2.out).mono ?_
        rintro e w3 ⟨rfl, rfl⟩
        go_wp2_with fail
        refine (DB.out _ H2.out).mono ?_
        rintro e w4 ⟨rfl, rfl⟩
        go_wp2_with fail
        refine (CB.out _ BB.out).mono ?_
        rintro e w5 ⟨rfl, hb5⟩
        have B5 := Lib.hid (BB.out.trans (hb5.mono BB.out.size))
        have H5 := Lib.hid (HH.out.into B5.out)
        clear hb5
        go_wp2_with fail
        refine (DC.out (-1) _ H5.out).mono ?_
        rw [if_neg (by omega)]
        rintro e w6 ⟨rfl, rfl⟩
        go_wp2_with fail
        refine (DC.out 120 _ H5.out).mono ?_
        rw [if_neg (by omega)]
        rintro e w7 ⟨rfl, rfl⟩
        go_wp2_with fail
        go_ret
        exact ⟨rfl, B5.out⟩
  · have h0' : (0 : Int) < (M : Int) := by omega
    have h0N : 0 < M := by omega
    have h0D : decide (0 < M) = true := by simp; omega
    have h0n : ¬ (M : Int) = 0 := by omega
    clear HM0 h0
    go_wp2_with fail
    go_loopw [10, 11] (fun iv rv wr => ∃ (i : Nat), i ≤ n ∧ iv = .int .i64 (i : Nat) ∧ Hid (Below w.heap.size w wr)) (fun iv _ _ => n - (intOf iv).toNat)
    case atStart => exact ⟨0, Nat.zero_le _, rfl, B1⟩
    case round =>
      clear B1
      obtain ⟨i, hi, rfl, BB⟩ := hrel
      by_cases hlt : i < n
      · have hlt' : (i : Int) < (n : Int) := by omega
        obtain ⟨ab, ao, x, y, hA, hab, p0, p1, hp⟩ := HR.out.pz hlt
        subst hA
        have p0 := (BB.out.cell (p := ⟨ab, ao + i * 2, none⟩) hab).trans p0
        have hx := Lib.hid (HL.out _ (List.mem_of_getElem? hp.out)).1
        have CR := Lib.hid (fun w' => rrow_any x w' hx.out)
        obtain ⟨q, hq⟩ : ∃ q, q = rowN (inN x) := ⟨_, rfl⟩
        have hq120 : q < 120 := by rw [hq]; exact (rowN_spec (inN_lt _)).1
        rw [← hq] at CR
        have hi0 : ¬ (i : Int) < 0 := by omega
        have H2 := Lib.hid (HH.out.into BB.out)
        have D1 := Lib.hid (DC.out (q : Int) wr H2.out)
        rw [if_pos (by omega : 0 ≤ (q : Int) ∧ (q : Int) < 120), Int.toNat_natCast] at D1
        clear hab p1 hp hq
        go_wp2_with fail
        refine (CR.out _).mono ?_
        rintro e w2 ⟨rfl, rfl⟩
        go_wp2_with fail
        refine D1.out.mono ?_
        rintro e w3 ⟨rfl, rfl⟩
        go_wp2_with fail
        refine (CC.out q _ BB.out).mono ?_
        rintro e w4 ⟨rfl, rfl⟩
        go_wp2_with fail
        go_roundw
        case rel => exact ⟨i + 1, by omega, by go_num, BB⟩
        case measure => simp [intOf]; omega
      · obtain rfl : i = n := by omega
        have H2 := Lib.hid (HH.out.into BB.out)
        go_wp2_with fail
        refine (DM.out _ H2.out).mono ?_
        rintro e w2 ⟨rfl, rfl⟩
        go_wp2_with fail
        refine (DA.out _ H2.out).mono ?_
        rintro e w3 ⟨rfl, rfl⟩
        go_wp2_with fail
        refine (DB.out _ H2.out).mono ?_
        rintro e w4 ⟨rfl, rfl⟩
        go_wp2_with fail
        refine (CB.out _ BB.out).mono ?_
        rintro e w5 ⟨rfl, hb5⟩
        have B5 := Lib.hid (BB.out.trans (hb5.mono BB.out.size))
        have H5 := Lib.hid (HH.out.into B5.out)
        clear hb5
        go_wp2_with fail
        refine (DC.out (-1) _ H5.out).mono ?_
        rw [if_neg (by omega)]
        rintro e w6 ⟨rfl, rfl⟩
        go_wp2_with fail
        refine (DC.out 120 _ H5.out).mono ?_
        rw [if_neg (by omega)]
        rintro e w7 ⟨rfl, rfl⟩
        go_wp2_with fail
        go_ret
        exact ⟨rfl, B5.out⟩
theorem prEl : El Try.prog 25 31 (.agg #[.int .i64 0, .int .i64 0]) 2 16 := ⟨Try.underlying25, by kernel_rfl, rfl, by omega, by omega⟩
theorem cntL_nil : cntL [] = fun _ => 0 := rfl
theorem cntL_take {l : List (Int × Int)} {i : Nat} {x y : Int} (h : l[i]? = some (x, y)) : (fun r => cntL (l.take i) r + cntF r (x, y)) = cntL (l.take (i + 1)) := by
  funext r
  rw [tkSnoc h, cntL_append]
  simp [cntL]
theorem sumLI_take {l : List (Int × Int)} {i : Nat} {x y : Int} (h : l[i]? = some (x, y)) : sumLI (l.take i) + ofN y * inN x = sumLI (l.take (i + 1)) := by
  rw [tkSnoc h, sumLI_append]
  simp [sumLI]
theorem cntL_le (l : List (Int × Int)) (h : l.length ≤ 80) (r : Nat) (hr : r < 120) : cntL l r ≤ 100000000 :=
  one_le (Nat.le_trans (Nat.le_of_eq (upTo_many l)) (by have := manyL_le l; omega)) hr
theorem sumLI_le2 (l : List (Int × Int)) (h : l.length ≤ 80) : sumLI l ≤ 200000000000000000 := by have := sumLI_le l; omega
set_option maxRecDepth 20000 in
set_option maxHeartbeats 4000000 in
theorem histPlays_walk (A : Option Addr) (n c : Nat) (l : List (Int × Int)) (A2 : Option Addr) (n2 c2 : Nat) (l2 : List (Int × Int)) (part : Int) (w : World) (h : Rd w w.heap.size 2 A n (pz l)) (hnc : n ≤ c) (hc : c ≤ maxLen) (hl : ∀ p ∈ l, (Lit.int .i64 p.1).wf = true ∧ (Lit.int .i64 p.2).wf = true) (h2 : Rd w w.heap.size 2 A2 n2 (pz l2)) (hnc2 : n2 ≤ c2) (hc2 : c2 ≤ maxLen) (hl2 : ∀ p ∈ l2, (Lit.int .i64 p.1).wf = true ∧ (Lit.int .i64 p.2).wf = true) (hpw : (Lit.int .i64 part).wf = true) :
    Calls Try.prog 4 #[.slice A n c, .slice A2 n2 c2, .int .i64 part] w fun e w' => e = .returned (.bool true) ∧ Below w.heap.size w w' := by
  have HR := Lib.hid h
  have HL := Lib.hid hl
  have HR2 := Lib.hid h2
  have HL2 := Lib.hid hl2
  have HC := Lib.hid hc
  have HC2 := Lib.hid hc2
  clear h hl h2 hl2 hc hc2
  by_cases g1 : 40 < n
  · have g1' : (40 : Int) < (n : Int) := by omega
    go_enter Try.func4, Try.ntmps4
    go_wp2_with fail
    go_ret
    exact ⟨rfl, Below.refl _ _⟩
  by_cases g2 : 40 < n2
  · have g2' : (40 : Int) < (n2 : Int) := by omega
    go_enter Try.func4, Try.ntmps4
    go_wp2_with fail
    go_ret
    exact ⟨rfl, Below.refl _ _⟩
  have g1' : ¬ (40 : Int) < (n : Int) := by omega
  have g2' : ¬ (40 : Int) < (n2 : Int) := by omega
  have hn : n ≤ 40 := by omega
  have hn2 : n2 ≤ 40 := by omega
  have hzv : ∀ w' : World, (zeroValue 28).run Try.prog w' = .ok (.agg ZH) w' := ZH_zero
  have hzs := ZH_size
  have hk1 : HF ((w.alloc (.cells ZH 28)).alloc (.cells ZH 28)) w.heap.size (fun _ => 0) 0 := Blk.alloc (ZH_new w) _
  have hk2 : HF ((w.alloc (.cells ZH 28)).alloc (.cells ZH 28)) (w.heap.size + 1) (fun _ => 0) 0 := by
    have := ZH_new (w.alloc (.cells ZH 28))
    simpa using this
  have hb0 : Below w.heap.size w ((w.alloc (.cells ZH 28)).alloc (.cells ZH 28)) := ((Below.refl _ _).alloc (Nat.le_refl _) _).alloc (by simp) _
  have hs0 : ((w.alloc (.cells ZH 28)).alloc (.cells ZH 28)).heap.size = w.heap.size + 2 := by simp
  obtain ⟨hst1, hh1, hso1⟩ := ZH_store hk1
  have hk2b := hso1.blk hk2 (by omega)
  obtain ⟨hst2, hh2, hso2⟩ := ZH_store hk2b
  have hh1b := hso2.blk hh1 (by omega)
  have S0 := Lib.hid (show HF _ w.heap.size (cntL (l.take 0)) (sumLI (l.take 0)) from hh1b)
  have O0 := Lib.hid (show HF _ (w.heap.size + 1) (cntL (l2.take 0)) (sumLI (l2.take 0)) from hh2)
  have B0 := Lib.hid ((hb0.trans hso1.1).trans (hso2.1.mono (by omega)))
  clear hk1 hk2 hb0 hs0 hh1 hso1 hk2b hh2 hso2 hh1b g1 g2
  go_enter Try.func4, Try.ntmps4
  go_wp2_with fail
  clear hst1 hst2 hzv hzs
  go_loopw [9] (fun iv wr => ∃ (i : Nat), i ≤ n ∧ iv = .int .i64 (i : Nat) ∧ Hid (HF wr (w.heap.size) (cntL (l.take i)) (sumLI (l.take i))) ∧ Hid (HF wr (w.heap.size + 1) (cntL (l2.take 0)) (sumLI (l2.take 0))) ∧ Hid (Below w.heap.size w wr)) (fun iv _ => n - (intOf iv).toNat)
  case atStart => exact ⟨0, Nat.zero_le _, rfl, S0, O0, B0⟩
  case round =>
    clear S0 O0 B0
    obtain ⟨i, hi, rfl, HH, OO, BB⟩ := hrel
    by_cases hlt : i < n
    · have hlt' : (i : Int) < (n : Int) := by omega
      obtain ⟨ab, ao, x, y, hA, hab, p0, p1, hp⟩ := HR.out.pz hlt
      subst hA
      have p0 := (BB.out.cell (p := ⟨ab, ao + i * 2, none⟩) hab).trans p0
      have p1 := (BB.out.cell (p := ⟨ab, ao + i * 2 + 1, none⟩) hab).trans p1
      have hx := Lib.hid (HL.out _ (List.mem_of_getElem? hp.out)).1
      have hy := Lib.hid (HL.out _ (List.mem_of_getElem? hp.out)).2
      have hi0 : ¬ (i : Int) < 0 := by omega
      have hll := HR.out.pzLen
      have htl : (l.take i).length ≤ 80 := by rw [List.length_take]; omega
      have CA := Lib.hid (fun w' (hh : HF w' (w.heap.size) (cntL (l.take i)) (sumLI (l.take i))) => h_add (w.heap.size) _ _ x y w' hh (sumLI_le2 _ htl) (cntL_le _ htl) hx.out hy.out)
      rw [cntL_take hp.out, sumLI_take hp.out] at CA
      have AB := Lib.hid (Nat.lt_of_lt_of_le hab BB.out.size)
      have P0 := Lib.hid p0
      have P1 := Lib.hid p1
      clear hp hll htl hab p0 p1
      go_upto_region 7 with fail
      refine GH.wp_ghl2 (M := false) 10 ((GH.SP.eq (.slice (some ⟨ab, ao, none⟩) n c)) :: (GH.SP.eq (.int .i64 (i : Nat))) :: (GH.SP.eq (.pointer (some ⟨ab, ao + i * 2, none⟩))) :: (GH.SP.eq (.pointer (some ⟨ab, ao + i * 2, none⟩))) :: (GH.SP.eq (.int .i64 x)) :: (GH.SP.eq (.slice (some ⟨ab, ao, none⟩) n c)) :: (GH.SP.eq (.int .i64 (i : Nat))) :: (GH.SP.eq (.pointer (some ⟨ab, ao + i * 2, none⟩))) :: (GH.SP.eq (.pointer (some ⟨ab, ao + i * 2 + 1, none⟩))) :: (GH.SP.eq (.int .i64 y)) :: []) (none :: none :: none :: none :: none :: none :: none :: none :: none :: none :: none :: none :: none :: none :: none :: none :: none :: none :: none :: none :: none :: none :: none :: none :: none :: none :: none :: (some 0) :: (some 1) :: (some 2) :: (some 3) :: (some 4) :: (some 5) :: (some 6) :: (some 7) :: (some 8) :: (some 9) :: none :: none :: none :: none :: none :: none :: none :: none :: none :: none :: none :: none :: none :: none :: none :: none :: none :: none :: none :: none :: none :: none :: none :: none :: none :: none :: none :: none :: none :: none :: none :: none :: none :: none :: none :: none :: none :: none :: none :: none :: none :: none :: none :: none :: none :: []) [27, 28, 29, 30, 31, 32, 33, 34, 35, 36] (by rfl) (by kernel_rfl) (by kernel_rfl) ?_ ?_ ?_
      · intro S jx v hjx
        match jx, hjx with
        | 0, _ => rfl
        | 1, _ => rfl
        | 2, _ => rfl
        | 3, _ => rfl
        | 4, _ => rfl
        | 5, _ => rfl
        | 6, _ => rfl
        | 7, _ => rfl
        | 8, _ => rfl
        | 9, _ => rfl
        | nx + 10, hjx => omega
      · intro jx hjx S w' hb hd
        match jx, hjx, hd with
        | 0, _, hd =>
          simp only [GH.mkL, List.getD_cons_succ, List.getD_cons_zero]
          clear hd
          refine GH.st_eq (by rfl) ?_
          go_simp
          (try with_reducible rfl)
        | 1, _, hd =>
          simp only [GH.mkL, List.getD_cons_succ, List.getD_cons_zero]
          clear hd
          refine GH.st_eq (by rfl) ?_
          go_simp
          (try with_reducible rfl)
        | 2, _, hd =>
          simp only [GH.mkL, List.getD_cons_succ, List.getD_cons_zero]
          have d0 : S 0 = .slice (some ⟨ab, ao, none⟩) n c := (hd 0 (by kernel_rfl)).2
          rw [d0]
          clear d0
          have d1 : S 1 = .int .i64 (i : Nat) := (hd 1 (by kernel_rfl)).2
          rw [d1]
          clear d1
          clear hd
          refine GH.st_eq (by rfl) ?_
          go_simp
          (try with_reducible rfl)
        | 3, _, hd =>
          simp only [GH.mkL, List.getD_cons_succ, List.getD_cons_zero]
          have d2 : S 2 = .pointer (some ⟨ab, ao + i * 2, none⟩) := (hd 2 (by kernel_rfl)).2
          rw [d2]
          clear d2
          clear hd
          refine GH.st_eq (by rfl) ?_
          go_simp
          (try with_reducible rfl)
        | 4, _, hd =>
          simp only [GH.mkL, List.getD_cons_succ, List.getD_cons_zero]
          have d3 : S 3 = .pointer (some ⟨ab, ao + i * 2, none⟩) := (hd 3 (by kernel_rfl)).2
          rw [d3]
          clear d3
          clear hd
          exact GH.st_load _ (by rfl) rfl rfl ((hb.below.cell (p := ⟨ab, ao + i * 2, none⟩) AB.out).trans P0.out) (by kernel_rfl)
        | 5, _, hd =>
          simp only [GH.mkL, List.getD_cons_succ, List.getD_cons_zero]
          clear hd
          refine GH.st_eq (by rfl) ?_
          go_simp
          (try with_reducible rfl)
        | 6, _, hd =>
          simp only [GH.mkL, List.getD_cons_succ, List.getD_cons_zero]
          clear hd
          refine GH.st_eq (by rfl) ?_
          go_simp
          (try with_reducible rfl)
        | 7, _, hd =>
          simp only [GH.mkL, List.getD_cons_succ, List.getD_cons_zero]
          have d5 : S 5 = .slice (some ⟨ab, ao, none⟩) n c := (hd 5 (by kernel_rfl)).2
          rw [d5]
          clear d5
          have d6 : S 6 = .int .i64 (i : Nat) := (hd 6 (by kernel_rfl)).2
          rw [d6]
          clear d6
          clear hd
          refine GH.st_eq (by rfl) ?_
          go_simp
          (try with_reducible rfl)
        | 8, _, hd =>
          simp only [GH.mkL, List.getD_cons_succ, List.getD_cons_zero]
          have d7 : S 7 = .pointer (some ⟨ab, ao + i * 2, none⟩) := (hd 7 (by kernel_rfl)).2
          rw [d7]
          clear d7
          clear hd
          refine GH.st_eq (by rfl) ?_
          go_simp
          (try with_reducible rfl)
        | 9, _, hd =>
          simp only [GH.mkL, List.getD_cons_succ, List.getD_cons_zero]
          have d8 : S 8 = .pointer (some ⟨ab, ao + i * 2 + 1, none⟩) := (hd 8 (by kernel_rfl)).2
          rw [d8]
          clear d8
          clear hd
          exact GH.st_load _ (by rfl) rfl rfl ((hb.below.cell (p := ⟨ab, ao + i * 2 + 1, none⟩) AB.out).trans P1.out) (by kernel_rfl)
        | nx + 10, hjx, _ => omega
      intro S w' hb hG
      simp only [GH.mkL, List.drop_succ_cons, List.drop_zero]
      have d4 : S 4 = .int .i64 x := hG 4 (by omega)
      rw [d4]
      clear d4
      have d9 : S 9 = .int .i64 y := hG 9 (by omega)
      rw [d9]
      clear d9
      clear hG
      have HB := Lib.hid hb.below
      clear hb
      go_wp2_with fail
      refine (CA.out _ (HH.out.into HB.out)).mono ?_
      rintro e w5 ⟨rfl, h5, t5⟩
      have TT := Lib.hid ((Tou.of HB.out (Nat.le_of_lt HH.out.lt)).1.trans t5.1)
      have H5 := Lib.hid h5
      have O5 := Lib.hid (show HF w5 (w.heap.size + 1) (cntL (l2.take 0)) (sumLI (l2.take 0)) from t5.blk (OO.out.into HB.out) (by omega))
      have B5 := Lib.hid (BB.out.trans ((HB.out.mono BB.out.size).trans (t5.1.mono (Nat.le_refl _))))
      clear h5 t5 TT HH OO BB HB CA P0 P1 AB
      go_wp2_with fail
      go_roundw
      case rel => exact ⟨i + 1, by omega, by go_num, H5, O5, B5⟩
      case measure => simp [intOf]; omega
    · obtain rfl : n = i := by omega
      have SA := Lib.hid (show HF wr w.heap.size (cntL l) (sumLI l) from by have := HH.out; rwa [List.take_of_length_le (by rw [HR.out.pzLen]; exact Nat.le_refl _)] at this)
      have S0 := OO
      have O0 := SA
      have B0 := BB
      clear HH OO BB SA hlt
      go_wp2_with fail
      go_loopw [10] (fun iv wr => ∃ (i : Nat), i ≤ n2 ∧ iv = .int .i64 (i : Nat) ∧ Hid (HF wr (w.heap.size + 1) (cntL (l2.take i)) (sumLI (l2.take i))) ∧ Hid (HF wr w.heap.size (cntL l) (sumLI l)) ∧ Hid (Below w.heap.size w wr)) (fun iv _ => n2 - (intOf iv).toNat)
      case atStart => exact ⟨0, Nat.zero_le _, rfl, S0, O0, B0⟩
      case round =>
        clear S0 O0 B0
        obtain ⟨i, hi, rfl, HH, OO, BB⟩ := hrel
        by_cases hlt : i < n2
        · have hlt' : (i : Int) < (n2 : Int) := by omega
          obtain ⟨ab, ao, x, y, hA, hab, p0, p1, hp⟩ := HR2.out.pz hlt
          subst hA
          have p0 := (BB.out.cell (p := ⟨ab, ao + i * 2, none⟩) hab).trans p0
          have p1 := (BB.out.cell (p := ⟨ab, ao + i * 2 + 1, none⟩) hab).trans p1
          have hx := Lib.hid (HL2.out _ (List.mem_of_getElem? hp.out)).1
          have hy := Lib.hid (HL2.out _ (List.mem_of_getElem? hp.out)).2
          have hi0 : ¬ (i : Int) < 0 := by omega
          have hll := HR2.out.pzLen
          have htl : (l2.take i).length ≤ 80 := by rw [List.length_take]; omega
          have CA := Lib.hid (fun w' (hh : HF w' (w.heap.size + 1) (cntL (l2.take i)) (sumLI (l2.take i))) => h_add (w.heap.size + 1) _ _ x y w' hh (sumLI_le2 _ htl) (cntL_le _ htl) hx.out hy.out)
          rw [cntL_take hp.out, sumLI_take hp.out] at CA
          have AB := Lib.hid (Nat.lt_of_lt_of_le hab BB.out.size)
          have P0 := Lib.hid p0
          have P1 := Lib.hid p1
          clear hp hll htl hab p0 p1
          go_upto_region 11 with fail
          refine GH.wp_ghl2 (M := false) 10 ((GH.SP.eq (.slice (some ⟨ab, ao, none⟩) n2 c2)) :: (GH.SP.eq (.int .i64 (i : Nat))) :: (GH.SP.eq (.pointer (some ⟨ab, ao + i * 2, none⟩))) :: (GH.SP.eq (.pointer (some ⟨ab, ao + i * 2, none⟩))) :: (GH.SP.eq (.int .i64 x)) :: (GH.SP.eq (.slice (some ⟨ab, ao, none⟩) n2 c2)) :: (GH.SP.eq (.int .i64 (i : Nat))) :: (GH.SP.eq (.pointer (some ⟨ab, ao + i * 2, none⟩))) :: (GH.SP.eq (.pointer (some ⟨ab, ao + i * 2 + 1, none⟩))) :: (GH.SP.eq (.int .i64 y)) :: []) (none :: none :: none :: none :: none :: none :: none :: none :: none :: none :: none :: none :: none :: none :: none :: none :: none :: none :: none :: none :: none :: none :: none :: none :: none :: none :: none :: none :: none :: none :: none :: none :: none :: none :: none :: none :: none :: none :: none :: none :: none :: none :: none :: none :: (some 0) :: (some 1) :: (some 2) :: (some 3) :: (some 4) :: (some 5) :: (some 6) :: (some 7) :: (some 8) :: (some 9) :: none :: none :: none :: none :: none :: none :: none :: none :: none :: none :: none :: none :: none :: none :: none :: none :: none :: none :: none :: none :: none :: none :: none :: none :: none :: none :: none :: none :: []) [44, 45, 46, 47, 48, 49, 50, 51, 52, 53] (by rfl) (by kernel_rfl) (by kernel_rfl) ?_ ?_ ?_
          · intro S jx v hjx
            match jx, hjx with
            | 0, _ => rfl
            | 1, _ => rfl
            | 2, _ => rfl
            | 3, _ => rfl
            | 4, _ => rfl
            | 5, _ => rfl
            | 6, _ => rfl
            | 7, _ => rfl
            | 8, _ => rfl
            | 9, _ => rfl
            | nx + 10, hjx => omega
          · intro jx hjx S w' hb hd
            match jx, hjx, hd with
            | 0, _, hd =>
              simp only [GH.mkL, List.getD_cons_succ, List.getD_cons_zero]
              clear hd
              refine GH.st_eq (by rfl) ?_
              go_simp
              (try with_reducible rfl)
            | 1, _, hd =>
              simp only [GH.mkL, List.getD_cons_succ, List.getD_cons_zero]
              clear hd
              refine GH.st_eq (by rfl) ?_
              go_simp
              (try with_reducible rfl)
            | 2, _, hd =>
              simp only [GH.mkL, List.getD_cons_succ, List.getD_cons_zero]
              have d0 : S 0 = .slice (some ⟨ab, ao, none⟩) n2 c2 := (hd 0 (by kernel_rfl)).2
              rw [d0]
              clear d0
              have d1 : S 1 = .int .i64 (i : Nat) := (hd 1 (by kernel_rfl)).2
              rw [d1]
              clear d1
              clear hd
              refine GH.st_eq (by rfl) ?_
              go_simp
              (try with_reducible rfl)
            | 3, _, hd =>
              simp only [GH.mkL, List.getD_cons_succ, List.getD_cons_zero]
              have d2 : S 2 = .pointer (some ⟨ab, ao + i * 2, none⟩) := (hd 2 (by kernel_rfl)).2
              rw [d2]
              clear d2
              clear hd
              refine GH.st_eq (by rfl) ?_
              go_simp
              (try with_reducible rfl)
            | 4, _, hd =>
              simp only [GH.mkL, List.getD_cons_succ, List.getD_cons_zero]
              have d3 : S 3 = .pointer (some ⟨ab, ao + i * 2, none⟩) := (hd 3 (by kernel_rfl)).2
              rw [d3]
              clear d3
              clear hd
              exact GH.st_load _ (by rfl) rfl rfl ((hb.below.cell (p := ⟨ab, ao + i * 2, none⟩) AB.out).trans P0.out) (by kernel_rfl)
            | 5, _, hd =>
              simp only [GH.mkL, List.getD_cons_succ, List.getD_cons_zero]
              clear hd
              refine GH.st_eq (by rfl) ?_
              go_simp
              (try with_reducible rfl)
            | 6, _, hd =>
              simp only [GH.mkL, List.getD_cons_succ, List.getD_cons_zero]
              clear hd
              refine GH.st_eq (by rfl) ?_
              go_simp
              (try with_reducible rfl)
            | 7, _, hd =>
              simp only [GH.mkL, List.getD_cons_succ, List.getD_cons_zero]
              have d5 : S 5 = .slice (some ⟨ab, ao, none⟩) n2 c2 := (hd 5 (by kernel_rfl)).2
              rw [d5]
              clear d5
              have d6 : S 6 = .int .i64 (i : Nat) := (hd 6 (by kernel_rfl)).2
              rw [d6]
              clear d6
              clear hd
              refine GH.st_eq (by rfl) ?_
              go_simp
              (try with_reducible rfl)
            | 8, _, hd =>
              simp only [GH.mkL, List.getD_cons_succ, List.getD_cons_zero]
              have d7 : S 7 = .pointer (some ⟨ab, ao + i * 2, none⟩) := (hd 7 (by kernel_rfl)).2
              rw [d7]
              clear d7
              clear hd
              refine GH.st_eq (by rfl) ?_
              go_simp
              (try with_reducible rfl)
            | 9, _, hd =>
              simp only [GH.mkL, List.getD_cons_succ, List.getD_cons_zero]
              have d8 : S 8 = .pointer (some ⟨ab, ao + i * 2 + 1, none⟩) := (hd 8 (by kernel_rfl)).2
              rw [d8]
              clear d8
              clear hd
              exact GH.st_load _ (by rfl) rfl rfl ((hb.below.cell (p := ⟨ab, ao + i * 2 + 1, none⟩) AB.out).trans P1.out) (by kernel_rfl)
            | nx + 10, hjx, _ => omega
          intro S w' hb hG
          simp only [GH.mkL, List.drop_succ_cons, List.drop_zero]
          have d4 : S 4 = .int .i64 x := hG 4 (by omega)
          rw [d4]
          clear d4
          have d9 : S 9 = .int .i64 y := hG 9 (by omega)
          rw [d9]
          clear d9
          clear hG
          have HB := Lib.hid hb.below
          clear hb
          go_wp2_with fail
          refine (CA.out _ (HH.out.into HB.out)).mono ?_
          rintro e w5 ⟨rfl, h5, t5⟩
          have TT := Lib.hid ((Tou.of HB.out (Nat.le_of_lt HH.out.lt)).1.trans t5.1)
          have H5 := Lib.hid h5
          have O5 := Lib.hid (show HF w5 w.heap.size (cntL l) (sumLI l) from t5.blk (OO.out.into HB.out) (by omega))
          have B5 := Lib.hid (BB.out.trans ((HB.out.mono BB.out.size).trans (t5.1.mono (by omega))))
          clear h5 t5 TT HH OO BB HB CA P0 P1 AB
          go_wp2_with fail
          go_roundw
          case rel => exact ⟨i + 1, by omega, by go_num, H5, O5, B5⟩
          case measure => simp [intOf]; omega
        · obtain rfl : n2 = i := by omega
          have SB := Lib.hid (show HF wr (w.heap.size + 1) (cntL l2) (sumLI l2) from by have := HH.out; rwa [List.take_of_length_le (by rw [HR2.out.pzLen]; exact Nat.le_refl _)] at this)
          have SA := OO
          clear HH OO hlt
          have hln := HR.out.pzLen
          have hln2 := HR2.out.pzLen
          go_wp2_with fail
          refine (same_any w.heap.size A n c l part wr SA.out (HR.out.into BB.out) hnc HC.out HL.out (by omega) hpw).mono ?_
          rintro e w1 ⟨rfl, hb1⟩
          have SA := Lib.hid (SA.out.into hb1)
          have SB := Lib.hid (SB.out.into hb1)
          have BB := Lib.hid (BB.out.trans (hb1.mono BB.out.size))
          clear hb1
          go_wp2_with fail
          refine (same_any (w.heap.size + 1) A2 n2 c2 l2 part w1 SB.out (HR2.out.into BB.out) hnc2 HC2.out HL2.out (by omega) hpw).mono ?_
          rintro e w2 ⟨rfl, hb1⟩
          have SA := Lib.hid (SA.out.into hb1)
          have SB := Lib.hid (SB.out.into hb1)
          have BB := Lib.hid (BB.out.trans (hb1.mono BB.out.size))
          clear hb1
          go_wp2_with fail
          refine (h_join w.heap.size (w.heap.size + 1) _ _ _ _ w2 SA.out SB.out (by omega) (cntL_le l (by omega)) (cntL_le l2 (by omega)) (sumLI_le2 l (by omega)) (sumLI_le2 l2 (by omega))).mono ?_
          rintro e w3 ⟨rfl, h3, t3⟩
          have SB := Lib.hid (show HF w3 (w.heap.size + 1) (cntL l2) (sumLI l2) from t3.blk SB.out (by omega))
          have SA := Lib.hid (show HF w3 w.heap.size (cntL (l ++ l2)) (sumLI (l ++ l2)) from by rw [sumLI_append]; exact h3.same fun r _ => (cntL_append l l2 r).symm)
          have BB := Lib.hid (BB.out.trans t3.1)
          clear h3 t3
          go_wp2_with fail
          refine (h_join_nil _ w3).mono ?_
          rintro e w4 ⟨rfl, rfl⟩
          have hk5 : Blk (w4.alloc (.cells #[] 31)) w4.heap.size 31 #[] := Blk.new _ _ _
          have hown : (w4.alloc (.cells #[] 31)).ownsRow w4.heap.size 31 2 (.slice (some ⟨w4.heap.size, 0, none⟩) 0 0) 0 [] := own_shut (L := []) (n := 0) (c := 0) (Nat.le_refl _) hk5 (Nat.le_refl _) (by unfold maxLen; omega) rfl rfl
          have B5 := Lib.hid ((Below.refl w4.heap.size w4).alloc (Nat.le_refl _) (.cells #[] 31))
          have OWN := Lib.hid hown
          have RD1 := Lib.hid ((HR.out.into BB.out).into B5.out)
          have hz5 : w4.heap.size ≤ (w4.alloc (.cells #[] 31)).heap.size := B5.out.size
          have HZ5 := Lib.hid hz5
          clear hown hk5 hz5
          go_wp2_with (at_builtin; go_must (refine app prEl rfl _ _ rfl rfl OWN.out rfl RD1.out (pz_one _) (room_ge (by omega)) HZ5.out ?_))
          intro v7 w7 ho7 hg7 hb7
          have OWN7 := Lib.hid (show Pzs w7 31 w4.heap.size v7 l from by unfold Pzs; rw [hln]; simpa using ho7)
          have B7 := Lib.hid (B5.out.trans hb7)
          have RD2 := Lib.hid ((HR2.out.into BB.out).into B7.out)
          have HZ7 := Lib.hid B7.out.size
          clear ho7 hg7 hb7 OWN RD1 HZ5 B5
          have HF7 := own_form OWN7.out
          obtain ⟨A7, c7, rfl, hc7, hm7, hr7⟩ := HF7
          clear hc7 hm7 hr7
          have OWN7 := Lib.hid OWN7.out
          go_wp2_with (at_builtin; go_must (refine app prEl rfl _ _ rfl rfl OWN7.out rfl RD2.out (pz_one _) (room_ge (by omega)) HZ7.out ?_))
          intro v8 w8 ho8 hg8 hb8
          have hl8 : (l ++ l2).length = n + n2 := by rw [List.length_append, hln, hln2]
          have OWN8 := Lib.hid (show w8.ownsRow w4.heap.size 31 2 v8 (n + n2) (pz (l ++ l2)) from by rw [pz_append]; exact ho8)
          have B8 := Lib.hid (B7.out.trans hb8)
          clear ho8 hg8 hb8 OWN7 RD2 HZ7 B7
          obtain ⟨A8, c8, rfl, hc8, hm8, hr8⟩ := own_form OWN8.out
          have SA := Lib.hid (SA.out.into B8.out)
          have SB := Lib.hid (SB.out.into B8.out)
          have BB := Lib.hid (BB.out.trans (B8.out.mono BB.out.size))
          obtain ⟨n8, hn8⟩ : ∃ n8, n8 = n + n2 := ⟨_, rfl⟩
          rw [← hn8] at hc8 hr8
          have hn80 : n8 ≤ 80 := by omega
          have HR8 := Lib.hid hr8
          have CS := Lib.hid (same_any w.heap.size A8 n8 c8 (l ++ l2) part w8 SA.out HR8.out hc8 hm8 (fun p hp => by
            rcases List.mem_append.1 hp with hp | hp
            · exact HL.out p hp
            · exact HL2.out p hp) hn80 hpw)
          rw [hn8] at CS
          clear hr8 OWN8 HR8 hm8 hc8 hl8 hn80 hn8
          go_wp2_with fail
          refine CS.out.mono ?_
          rintro e w9 ⟨rfl, hb1⟩
          have SB := Lib.hid (SB.out.into hb1)
          have BB := Lib.hid (BB.out.trans (hb1.mono BB.out.size))
          clear hb1 SA CS
          go_wp2_with fail
          refine (same_any (w.heap.size + 1) A2 n2 c2 l2 part w9 SB.out (HR2.out.into BB.out) hnc2 HC2.out HL2.out (by omega) hpw).mono ?_
          rintro e w10 ⟨rfl, hb1⟩
          have BB := Lib.hid (BB.out.trans (hb1.mono BB.out.size))
          clear hb1 SB
          go_wp2_with fail
          refine (alive44 w10).mono ?_
          rintro e w11 ⟨rfl, hb1⟩
          have BB := Lib.hid (BB.out.trans (hb1.mono BB.out.size))
          clear hb1
          go_wp2_with fail
          go_ret
          exact ⟨rfl, BB.out⟩
end Go.Proofs.Ytioebcjhmfndnaa
