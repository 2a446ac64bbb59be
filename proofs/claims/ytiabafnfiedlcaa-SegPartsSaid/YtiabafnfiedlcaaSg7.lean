/- The segment of some bytes. -/
import Derived.Test.YtiabafnfiedlcaaSg6
import Derived.Test.YtiabafnfiedlcaaPk5
namespace Go.Proofs.Ytiabafnfiedlcaa
open Go.RowKit
set_option linter.unusedVariables false
theorem cut14 {l : List Nat} (h : 14 ≤ l.length) : cut (l.take 14) [2, 2, 4, 4, 1, 1] = some ([ub (l.take 2), ub ((l.drop 2).take 2), ub ((l.drop 4).take 4), ub ((l.drop 8).take 4), l.getD 12 0, l.getD 13 0], []) := by
  match l, h with
  | a0 :: a1 :: a2 :: a3 :: a4 :: a5 :: a6 :: a7 :: a8 :: a9 :: a10 :: a11 :: a12 :: a13 :: r, _ => simp [cut, okS, ub]
theorem cut_len {b : List Nat} {ss : List Int} {xs r : List Nat} (h : cut b ss = some (xs, r)) : (ss.map Int.toNat).sum + r.length = b.length := by
  induction ss generalizing b xs with
  | nil =>
    simp [cut] at h
    rw [h.2]
    simp
  | cons s ss ih =>
    rw [cut] at h
    split at h
    · rename_i hc
      simp at hc
      rw [Option.map_eq_some_iff] at h
      obtain ⟨⟨ys, q⟩, h1, h2⟩ := h
      injection h2 with h2 h3
      subst h3
      have := ih h1
      rw [List.length_drop] at this
      rw [List.map_cons, List.sum_cons]
      omega
    · cases h
theorem cut_short {l : List Nat} (h : l.length < 14) (xs : List Nat) : cut l [2, 2, 4, 4, 1, 1] ≠ some (xs, []) := by
  intro h1
  have := cut_len h1
  simp at this
  omega
theorem ub_bd {l : List Nat} (hb : ∀ x ∈ l, x < 256) (k n : Nat) : ub ((l.drop k).take n) < 256 ^ n := by
  have := ub_lt _ ((l.drop k).take n) rfl (fun x hx => hb x (List.mem_of_mem_drop (List.mem_of_mem_take hx)))
  exact Nat.lt_of_lt_of_le this (Nat.pow_le_pow_right (by omega) (List.length_take_le _ _))
/-- What Parse answers. -/
def ParPost (l : List Nat) (w' : World) (e : Ending) : Prop := ∃ (v : Value) (cd : Nat) (g : Sg), e = .returned (.tuple #[v, .int .i64 (cd : Int)]) ∧ parC l cd ∧ SegV w' v g ∧ g.bd ∧ (cd = 0 → encS g = l ∧ rightS g = 0) ∧ (cd ≠ 0 → g = zeroS)
theorem parPost_err {l : List Nat} {w' : World} {cd : Nat} (h : parC l cd) (h0 : cd ≠ 0) : ParPost l w' (.returned (.tuple #[.agg (segCs zeroS none 0 0 none 0 0), .int .i64 (cd : Int)])) :=
  ⟨_, cd, zeroS, rfl, h, SegV.zero w', zeroS_bd, fun h => absurd h h0, fun _ => rfl⟩
section
variable {w w0 : World} {T B : Nat} {b0 b1 b2 b3 b4 b5 b6 : Value} (a0 a1 a2 a3 a4 a5 a6 : Value)
/-- A segment is stored whole. -/
def put7 (w : World) (T : Nat) (a0 a1 a2 a3 a4 a5 a6 : Value) : World := ((((((w.setCell ⟨T, 0, none⟩ a0).setCell ⟨T, 1, none⟩ a1).setCell ⟨T, 2, none⟩ a2).setCell ⟨T, 3, none⟩ a3).setCell ⟨T, 4, none⟩ a4).setCell ⟨T, 5, none⟩ a5).setCell ⟨T, 6, none⟩ a6
theorem seg7 {t : TypeId} (h : Blk w T t #[b0, b1, b2, b3, b4, b5, b6]) : Blk (put7 w T a0 a1 a2 a3 a4 a5 a6) T t #[a0, a1, a2, a3, a4, a5, a6] := by
  have h1 : Blk (w.setCell ⟨T, 0, none⟩ a0) T t #[a0, b1, b2, b3, b4, b5, b6] := h.set 0 a0
  have h2 : Blk ((w.setCell ⟨T, 0, none⟩ a0).setCell ⟨T, 1, none⟩ a1) T t #[a0, a1, b2, b3, b4, b5, b6] := h1.set 1 a1
  have h3 : Blk (((w.setCell ⟨T, 0, none⟩ a0).setCell ⟨T, 1, none⟩ a1).setCell ⟨T, 2, none⟩ a2) T t #[a0, a1, a2, b3, b4, b5, b6] := h2.set 2 a2
  have h4 : Blk ((((w.setCell ⟨T, 0, none⟩ a0).setCell ⟨T, 1, none⟩ a1).setCell ⟨T, 2, none⟩ a2).setCell ⟨T, 3, none⟩ a3) T t #[a0, a1, a2, a3, b4, b5, b6] := h3.set 3 a3
  have h5 : Blk (((((w.setCell ⟨T, 0, none⟩ a0).setCell ⟨T, 1, none⟩ a1).setCell ⟨T, 2, none⟩ a2).setCell ⟨T, 3, none⟩ a3).setCell ⟨T, 4, none⟩ a4) T t #[a0, a1, a2, a3, a4, b5, b6] := h4.set 4 a4
  have h6 : Blk ((((((w.setCell ⟨T, 0, none⟩ a0).setCell ⟨T, 1, none⟩ a1).setCell ⟨T, 2, none⟩ a2).setCell ⟨T, 3, none⟩ a3).setCell ⟨T, 4, none⟩ a4).setCell ⟨T, 5, none⟩ a5) T t #[a0, a1, a2, a3, a4, a5, b6] := h5.set 5 a5
  have h7 : Blk (((((((w.setCell ⟨T, 0, none⟩ a0).setCell ⟨T, 1, none⟩ a1).setCell ⟨T, 2, none⟩ a2).setCell ⟨T, 3, none⟩ a3).setCell ⟨T, 4, none⟩ a4).setCell ⟨T, 5, none⟩ a5).setCell ⟨T, 6, none⟩ a6) T t #[a0, a1, a2, a3, a4, a5, a6] := h6.set 6 a6
  exact h7
theorem bel7 (h : Below B w0 w) (hT : B ≤ T) : Below B w0 (put7 w T a0 a1 a2 a3 a4 a5 a6) :=
  ((((((h.setCell (p := ⟨T, 0, none⟩) hT a0).setCell (p := ⟨T, 1, none⟩) hT a1).setCell (p := ⟨T, 2, none⟩) hT a2).setCell (p := ⟨T, 3, none⟩) hT a3).setCell (p := ⟨T, 4, none⟩) hT a4).setCell (p := ⟨T, 5, none⟩) hT a5).setCell (p := ⟨T, 6, none⟩) hT a6
theorem Rd.solo {w w' : World} {T : Nat} {A : Option Addr} {n sz : Nat} {xs : List Value} (h : Rd w w.heap.size sz A n xs) (hs : Solo T w w') (hA : ∀ b o, A = some ⟨b, o, none⟩ → T < b) : Rd w' w'.heap.size sz A n xs := by
  refine ⟨h.1, fun hn => ?_⟩
  obtain ⟨b, off, e, hb, hc⟩ := h.2 hn
  exact ⟨b, off, e, by rw [hs.2.1]; exact hb, fun j hj => (World.cell?_of_block (a := ⟨b, off + j, none⟩) (hs.2.2 b (by have := hA b off e; omega))).trans (hc j hj)⟩
theorem solo7 : Solo T w (put7 w T a0 a1 a2 a3 a4 a5 a6) := ((((((Solo.refl.setCell 0 a0).setCell 1 a1).setCell 2 a2).setCell 3 a3).setCell 4 a4).setCell 5 a5).setCell 6 a6
end
set_option maxRecDepth 20000 in
set_option maxHeartbeats 4000000 in
theorem parse_any (A : Option Addr) (n c : Nat) (l : List Nat) (w : World) (h : Rd w w.heap.size 1 A n (ns .u8 l)) (hnc : n ≤ c) (hcm : c ≤ maxLen) (hb : ∀ x ∈ l, x < 256) (hn : n ≤ 10000) :
    Calls Try.prog 38 #[.slice A n c] w fun e w' => ParPost l w' e ∧ Below w.heap.size w w' := by
  have HR := Lib.hid h
  have HL := Lib.hid h.natLen
  have HB := Lib.hid hb
  have HCM := Lib.hid hcm
  clear hcm
  have hk0 := (Blk.new w 56 #[.int .u16 0, .int .u16 0, .int .u32 0, .int .u32 0, .int .u8 0, .slice none 0 0, .slice none 0 0]).alloc (.cells #[.int .i64 2, .int .i64 2, .int .i64 4, .int .i64 4, .int .i64 1, .int .i64 1] 3)
  have hb0 : Below w.heap.size w ((w.alloc (.cells #[.int .u16 0, .int .u16 0, .int .u32 0, .int .u32 0, .int .u8 0, .slice none 0 0, .slice none 0 0] 56)).alloc (.cells #[.int .i64 2, .int .i64 2, .int .i64 4, .int .i64 4, .int .i64 1, .int .i64 1] 3)) := ((Below.refl _ _).alloc (Nat.le_refl _) _).alloc (by simp) _
  have hs0 : Rd ((w.alloc (.cells #[.int .u16 0, .int .u16 0, .int .u32 0, .int .u32 0, .int .u8 0, .slice none 0 0, .slice none 0 0] 56)).alloc (.cells #[.int .i64 2, .int .i64 2, .int .i64 4, .int .i64 4, .int .i64 1, .int .i64 1] 3)) (w.heap.size + 2) 1 (some ⟨w.heap.size + 1, 0, none⟩) 6 (zs .i64 [2, 2, 4, 4, 1, 1]) := Rd.litz [2, 2, 4, 4, 1, 1] (by simp) (by omega) rfl rfl
  have hz0 : ((w.alloc (.cells #[.int .u16 0, .int .u16 0, .int .u32 0, .int .u32 0, .int .u8 0, .slice none 0 0, .slice none 0 0] 56)).alloc (.cells #[.int .i64 2, .int .i64 2, .int .i64 4, .int .i64 4, .int .i64 1, .int .i64 1] 3)).heap.size = w.heap.size + 2 := by simp
  obtain ⟨mm, hmm⟩ : ∃ mm : Nat, mm = min n 14 := ⟨_, rfl⟩
  have hmin : min (n : Int) 14 = (mm : Int) := by omega
  have hmn : mm ≤ n := by omega
  have hu : Try.prog.underlying 54 = some (.slice (Try.prog.elem 54)) := by unfold Program.elem; rw [Try.underlying54]
  have hc1 := run_cut_h pel8 A n c mm (by omega)
  have hc2 : ∀ w, (Instr.sliceAt 54 (.slice A n c) none (some (.int .i64 (mm : Int))) none).run Try.prog w = _ := fun w => (run_sliceAt_slice w _ _ _ _ _ hu).trans (hc1 w)
  have HMM := Lib.hid hmm
  clear h hb hmm hu
  have HK0 := Lib.hid hk0
  have HB0 := Lib.hid hb0
  have HS0 := Lib.hid hs0
  have HZ0 := Lib.hid hz0
  clear hk0 hb0 hs0 hz0
  go_enter Try.func38, Try.ntmps38
  go_wp2_with fail
  clear hmin hc1 hc2
  generalize (w.alloc (.cells #[.int .u16 0, .int .u16 0, .int .u32 0, .int .u32 0, .int .u8 0, .slice none 0 0, .slice none 0 0] 56)).alloc (.cells #[.int .i64 2, .int .i64 2, .int .i64 4, .int .i64 4, .int .i64 1, .int .i64 1] 3) = W at *
  obtain ⟨T, hT⟩ : ∃ T, T = w.heap.size := ⟨_, rfl⟩
  rw [← hT] at HK0 HS0 HZ0 ⊢
  have HT := Lib.hid hT
  clear hT
  have hall := pall_any A (some ⟨T + 1, 0, none⟩) mm 6 c 6 (l.take mm) [2, 2, 4, 4, 1, 1] W (((HR.out.into HB0.out).takeN hmn)) (by have := HS0.out; rw [← HZ0.out] at this; exact this) (by omega) (fun x hx => HB.out x (List.mem_of_mem_take hx)) (by omega) (by omega)
  have HALL := Lib.hid hall
  clear hall
  refine HALL.out.mono ?_
  rintro e w2 ⟨hb2, hpost⟩
  have K2 := Lib.hid (HK0.out.below hb2 HK0.out.lt)
  have B2 := Lib.hid (HB0.out.trans (hb2.mono HB0.out.size))
  clear HALL hb2
  have hTs : T < w2.heap.size := K2.out.lt
  rcases hpost with ⟨xs, v, hcut, rfl, hN⟩ | ⟨hno, rfl⟩
  · have h14 : 14 ≤ n := by
      refine Nat.le_of_not_lt fun h => ?_
      have hl := HL.out
      rw [List.take_of_length_le (by have := HMM.out; omega)] at hcut
      exact cut_short (by omega) _ hcut
    have hm14 : mm = 14 := by have := HMM.out; omega
    subst hm14
    rw [cut14 (by have := HL.out; omega)] at hcut
    injection hcut with hcut
    injection hcut with hcut _
    subst hcut
    obtain ⟨A3, n3, c3, rfl, hnc3, hl3, hr3⟩ := hN.out
    have hn6 : n3 = 6 := hl3.out.symm
    subst hn6
    obtain ⟨bb, off, eA, hbb, hcc⟩ := hr3.out.2 (by omega)
    subst eA
    obtain ⟨x0, hx0⟩ : ∃ x0, x0 = ub (l.take 2) := ⟨_, rfl⟩
    obtain ⟨x1, hx1⟩ : ∃ x1, x1 = ub ((l.drop 2).take 2) := ⟨_, rfl⟩
    obtain ⟨x2, hx2⟩ : ∃ x2, x2 = ub ((l.drop 4).take 4) := ⟨_, rfl⟩
    obtain ⟨x3, hx3⟩ : ∃ x3, x3 = ub ((l.drop 8).take 4) := ⟨_, rfl⟩
    obtain ⟨x4, hx4⟩ : ∃ x4, x4 = l.getD 12 0 := ⟨_, rfl⟩
    obtain ⟨x5, hx5⟩ : ∃ x5, x5 = l.getD 13 0 := ⟨_, rfl⟩
    rw [← hx0, ← hx1, ← hx2, ← hx3, ← hx4, ← hx5] at hcc
    have u0 : w2.cell? ⟨bb, off, none⟩ = some (.int .u64 (x0 : Int)) := hcc 0 (by omega)
    have u1 : w2.cell? ⟨bb, off + 1, none⟩ = some (.int .u64 (x1 : Int)) := hcc 1 (by omega)
    have u2 : w2.cell? ⟨bb, off + 2, none⟩ = some (.int .u64 (x2 : Int)) := hcc 2 (by omega)
    have u3 : w2.cell? ⟨bb, off + 3, none⟩ = some (.int .u64 (x3 : Int)) := hcc 3 (by omega)
    have u4 : w2.cell? ⟨bb, off + 4, none⟩ = some (.int .u64 (x4 : Int)) := hcc 4 (by omega)
    have u5 : w2.cell? ⟨bb, off + 5, none⟩ = some (.int .u64 (x5 : Int)) := hcc 5 (by omega)
    have hx5b : x5 < 256 := by
      rw [hx5, List.getD_eq_getElem?_getD, List.getElem?_eq_getElem (by have := HL.out; omega)]
      exact HB.out _ (List.getElem_mem _)
    have hx4b : x4 < 256 := by
      rw [hx4, List.getD_eq_getElem?_getD, List.getElem?_eq_getElem (by have := HL.out; omega)]
      exact HB.out _ (List.getElem_mem _)
    have b0 : x0 < 65536 := by have := ub_bd HB.out 0 2; rw [List.drop_zero, ← hx0] at this; exact this
    have b1 : x1 < 65536 := by have := ub_bd HB.out 2 2; rw [← hx1] at this; exact this
    have b2 : x2 < 4294967296 := by have := ub_bd HB.out 4 4; rw [← hx2] at this; exact this
    have b3 : x3 < 4294967296 := by have := ub_bd HB.out 8 4; rw [← hx3] at this; exact this
    have HX0 := Lib.hid hx0
    have HX1 := Lib.hid hx1
    have HX2 := Lib.hid hx2
    have HX3 := Lib.hid hx3
    have HX4 := Lib.hid hx4
    have HX5 := Lib.hid hx5
    clear hx0 hx1 hx2 hx3 hx4 hx5 hcc hl3 hr3 hN
    by_cases h7 : 7 < x4
    · have h7' : (7 : Int) < (x4 : Int) := by omega
      have H70 := Lib.hid (show parC l 70 from .inl ⟨rfl, .inr (by rw [← HX4.out]; exact h7)⟩)
      obtain ⟨t0, t1, t2, t3, t4, t5, t6⟩ := seg_cells (show Blk w2 T 56 (segCs zeroS none 0 0 none 0 0) from K2.out)
      have f0 := K2.out.frozen 0
      have f1 := K2.out.frozen 1
      have f2 := K2.out.frozen 2
      have f3 := K2.out.frozen 3
      have f4 := K2.out.frozen 4
      have f5 := K2.out.frozen 5
      have f6 := K2.out.frozen 6
      go_wp2_with fail
      have hkz := seg7 (.int .u16 0) (.int .u16 0) (.int .u32 0) (.int .u32 0) (.int .u8 0) (.slice none 0 0) (.slice none 0 0) K2.out
      have hbz := bel7 (.int .u16 0) (.int .u16 0) (.int .u32 0) (.int .u32 0) (.int .u8 0) (.slice none 0 0) (.slice none 0 0) B2.out (show w.heap.size ≤ T by rw [HT.out]; exact Nat.le_refl _)
      unfold put7 at hkz hbz
      generalize ((((((w2.setCell ⟨T, 0, none⟩ (.int .u16 0)).setCell ⟨T, 1, none⟩ (.int .u16 0)).setCell ⟨T, 2, none⟩ (.int .u32 0)).setCell ⟨T, 3, none⟩ (.int .u32 0)).setCell ⟨T, 4, none⟩ (.int .u8 0)).setCell ⟨T, 5, none⟩ (.slice none 0 0)).setCell ⟨T, 6, none⟩ (.slice none 0 0) = wz at *
      clear t0 t1 t2 t3 t4 t5 t6 f0 f1 f2 f3 f4 f5 f6
      obtain ⟨z0, z1, z2, z3, z4, z5, z6⟩ := seg_cells (show Blk wz T 56 (segCs zeroS none 0 0 none 0 0) from hkz)
      exact bodyPost_ret (v := .tuple #[.agg (segCs zeroS none 0 0 none 0 0), .int .i64 70]) (by simp [results, Try.results38, go_sem, z0, z1, z2, z3, z4, z5, z6, segCs, zeroS]) rfl ⟨parPost_err H70.out (by decide), hbz⟩
    · have h7' : ¬ (7 : Int) < (x4 : Int) := by omega
      have h7d : decide ((7 : Int) < (x4 : Int)) = false := decide_eq_false h7'
      have N70 := Lib.hid (show ¬ is70 l from fun h => by
        rcases h with h | h
        · have := HL.out; omega
        · rw [← HX4.out] at h; exact h7 h)
      obtain ⟨e, he⟩ : ∃ e, e = 14 + x5 := ⟨_, rfl⟩
      have ee : (14 : Int) + (x5 : Int) = (e : Int) := by omega
      have w5 : IntKind.i64.wrap (x5 : Int) = (x5 : Int) := by rw [IntKind.wrap_i64]; omega
      have we : IntKind.i64.wrap (e : Int) = (e : Int) := by rw [IntKind.wrap_i64]; omega
      obtain ⟨m2, hm2⟩ : ∃ m2 : Nat, m2 = min n 214 := ⟨_, rfl⟩
      have hmin2 : min (n : Int) 214 = (m2 : Int) := by omega
      have HM2 := Lib.hid hm2
      have HE := Lib.hid he
      clear hm2 he
      by_cases hem : m2 < e
      · have hem' : (m2 : Int) < (e : Int) := by omega
        have H71 := Lib.hid (show parC l 71 from .inr (.inl ⟨rfl, N70.out, by
          unfold is71
          rw [← HX5.out]
          have := HM2.out
          have := HE.out
          have := HL.out
          by_cases h : 200 < x5
          · exact .inl h
          · exact .inr (.inl (by omega))⟩))
        obtain ⟨t0, t1, t2, t3, t4, t5, t6⟩ := seg_cells (show Blk w2 T 56 (segCs zeroS none 0 0 none 0 0) from K2.out)
        have f0 := K2.out.frozen 0
        have f1 := K2.out.frozen 1
        have f2 := K2.out.frozen 2
        have f3 := K2.out.frozen 3
        have f4 := K2.out.frozen 4
        have f5 := K2.out.frozen 5
        have f6 := K2.out.frozen 6
        go_wp2_with fail
        have hkz := seg7 (.int .u16 0) (.int .u16 0) (.int .u32 0) (.int .u32 0) (.int .u8 0) (.slice none 0 0) (.slice none 0 0) K2.out
        have hbz := bel7 (.int .u16 0) (.int .u16 0) (.int .u32 0) (.int .u32 0) (.int .u8 0) (.slice none 0 0) (.slice none 0 0) B2.out (show w.heap.size ≤ T by rw [HT.out]; exact Nat.le_refl _)
        unfold put7 at hkz hbz
        generalize ((((((w2.setCell ⟨T, 0, none⟩ (.int .u16 0)).setCell ⟨T, 1, none⟩ (.int .u16 0)).setCell ⟨T, 2, none⟩ (.int .u32 0)).setCell ⟨T, 3, none⟩ (.int .u32 0)).setCell ⟨T, 4, none⟩ (.int .u8 0)).setCell ⟨T, 5, none⟩ (.slice none 0 0)).setCell ⟨T, 6, none⟩ (.slice none 0 0) = wz at *
        clear t0 t1 t2 t3 t4 t5 t6 f0 f1 f2 f3 f4 f5 f6
        obtain ⟨z0, z1, z2, z3, z4, z5, z6⟩ := seg_cells (show Blk wz T 56 (segCs zeroS none 0 0 none 0 0) from hkz)
        exact bodyPost_ret (v := .tuple #[.agg (segCs zeroS none 0 0 none 0 0), .int .i64 71]) (by simp [results, Try.results38, go_sem, z0, z1, z2, z3, z4, z5, z6, segCs, zeroS]) rfl ⟨parPost_err H71.out (by decide), hbz⟩
      · have hem' : ¬ (m2 : Int) < (e : Int) := by omega
        have hen : e ≤ n := by have := HM2.out; omega
        have hx200 : x5 ≤ 200 := by have := HM2.out; have := HE.out; omega
        have hu : Try.prog.underlying 54 = some (.slice (Try.prog.elem 54)) := by unfold Program.elem; rw [Try.underlying54]
        have hc1 : ∀ w, (Instr.slice 54 (.slice A n c) (some (.int .i64 14)) (some (.int .i64 (e : Int))) none).run Try.prog w = _ := fun w => run_cut_lh pel8 A n c 14 e (by have := HE.out; omega) (by omega) w
        have hc2 : ∀ w, (Instr.sliceAt 54 (.slice A n c) (some (.int .i64 14)) (some (.int .i64 (e : Int))) none).run Try.prog w = _ := fun w => (run_sliceAt_slice w _ _ _ _ _ hu).trans (hc1 w)
        have hc3 := run_cut_l pel8 A n c e hen
        have hc4 : ∀ w, (Instr.sliceAt 54 (.slice A n c) (some (.int .i64 (e : Int))) none none).run Try.prog w = _ := fun w => (run_sliceAt_slice w _ _ _ _ _ hu).trans (hc3 w)
        have hr := HR.out
        have hrO := (hr.takeN hen).dropN (show 14 ≤ e by have := HE.out; omega) (show e ≤ c by omega)
        have hrD := hr.dropN hen hnc
        have eY : cutA A c 14 1 = (if c = 14 then A else A.map (·.add 14)) := rfl
        have eZ : cutA A c e 1 = (if c = e then A else A.map (·.add e)) := by unfold cutA; rw [Nat.mul_one]
        rw [← eY] at hrO
        rw [← eZ] at hrD
        clear eY eZ hu hr
        generalize cutA A c 14 1 = Y at *
        generalize cutA A c e 1 = Z at *
        rw [show e - 14 = x5 by have := HE.out; omega] at hrO hc1 hc2
        obtain ⟨dn, hdn⟩ : ∃ dn, dn = n - e := ⟨_, rfl⟩
        obtain ⟨dc, hdc⟩ : ∃ dc, dc = c - e := ⟨_, rfl⟩
        rw [← hdn] at hrD hc3 hc4
        rw [← hdc] at hc3 hc4
        have eo : (l.take e).drop 14 = (l.drop 14).take x5 := by rw [List.drop_take]; congr 1; have := HE.out; omega
        rw [eo] at hrO
        have HRO := Lib.hid hrO
        have HRD := Lib.hid hrD
        have HDN := Lib.hid hdn
        have edn : (n : Int) - (e : Int) = (dn : Int) := by omega
        have wdn : IntKind.i64.wrap ((n : Int) - (e : Int)) = (dn : Int) := by rw [edn, IntKind.wrap_i64]; omega
        have hcl := clone_any Y x5 (c - 14) _ w2 (HRO.out.into B2.out) (by omega)
        have HCL := Lib.hid hcl
        clear hrO hrD hdn hdc eo hcl
        go_wp2_with fail
        refine HCL.out.mono ?_
        rintro e3 w3 ⟨v3, rfl, hN3, hb3⟩
        obtain ⟨A4, n4, c4, rfl, hnc4, hl4, hr4⟩ := hN3.out
        have hcm4 : c4 ≤ maxLen := by
          obtain ⟨_, _, e9, _, h9, _⟩ := own_form (show w3.ownsRow w2.heap.size 5 1 (.slice A4 n4 c4) _ _ from hN3)
          injection e9 with _ _ e9
          rw [e9]
          exact h9
        have hn4 : n4 = x5 := by have := hl4.out; rw [List.length_take, List.length_drop, HL.out] at this; have := HE.out; omega
        subst hn4
        have K3 := Lib.hid (K2.out.below hb3 hTs)
        have B3 := Lib.hid (B2.out.trans (hb3.mono B2.out.size))
        have u0 := (hb3.cell (p := ⟨bb, off, none⟩) hbb).trans u0
        have u1 := (hb3.cell (p := ⟨bb, off + 1, none⟩) hbb).trans u1
        have u2 := (hb3.cell (p := ⟨bb, off + 2, none⟩) hbb).trans u2
        have u3 := (hb3.cell (p := ⟨bb, off + 3, none⟩) hbb).trans u3
        have u4 := (hb3.cell (p := ⟨bb, off + 4, none⟩) hbb).trans u4
        have hbb3 : bb < w3.heap.size := Nat.lt_of_lt_of_le hbb hb3.size
        have HCUT := Lib.hid (scut_any A4 n4 c4 w3.heap.size ((l.drop 14).take n4) w3 hr4.out (Nat.le_refl _) hnc4 hcm4 (fun x hx => HB.out x (List.mem_of_mem_drop (List.mem_of_mem_take hx))) (by omega))
        have HA4 := Lib.hid (show ∀ b o, A4 = some ⟨b, o, none⟩ → T < b from fun b o e => by
          subst e
          have := ((show w3.ownsRow w2.heap.size 5 1 (.slice (some ⟨b, o, none⟩) n4 c4) _ _ from hN3).lt b rfl).1
          omega)
        clear hN3 hb3 hr4 hl4 hcm4 HCL hc1 hc2
        go_wp2_with fail
        refine HCUT.out.mono ?_
        rintro e4 w4 ⟨hcp, hb4⟩
        have K4 := Lib.hid (K3.out.below hb4 K3.out.lt)
        have B4 := Lib.hid (B3.out.trans (hb4.mono B3.out.size))
        have hTs4 : T < w4.heap.size := K4.out.lt
        rcases hcp with ⟨vo, os, rfl, hown, hbod, hsbb, hopt⟩ | ⟨hno, rfl⟩
        · have v0 := (hb4.cell (p := ⟨bb, off, none⟩) hbb3).trans u0
          have v1 := (hb4.cell (p := ⟨bb, off + 1, none⟩) hbb3).trans u1
          have v2 := (hb4.cell (p := ⟨bb, off + 2, none⟩) hbb3).trans u2
          have v3 := (hb4.cell (p := ⟨bb, off + 3, none⟩) hbb3).trans u3
          have v4 := (hb4.cell (p := ⟨bb, off + 4, none⟩) hbb3).trans u4
          have hbb4 : bb < w4.heap.size := Nat.lt_of_lt_of_le hbb3 hb4.size
          obtain ⟨A5, c5, rfl, hnc5, hcm5, hr5⟩ := own_form hown
          have HOS := Lib.hid (show Os w4 A5 os.length c5 os from ⟨hr5, fun p hp => ⟨((hbod p hp).1.below hb4).mono hb4.size, (hbod p hp).2⟩, hnc5, hcm5⟩)
          have HOPT := Lib.hid hopt
          have HFB := Lib.hid (show (∀ b o, A5 = some ⟨b, o, none⟩ → T < b) ∧ ∀ p ∈ os, ∀ b o, p.2.A = some ⟨b, o, none⟩ → T < b from ⟨fun b o e => by
            subst e
            have h1 := (hown.lt b rfl).1
            have h2 := K3.out.lt
            omega, fun p hp b o e => by
            obtain ⟨o', e'⟩ := hsbb p hp b o e
            exact HA4.out b o' e'⟩)
          have N71 := Lib.hid (show ¬ is71 l from fun h => by
            unfold is71 at h
            rw [← HX5.out] at h
            rcases h with h | h | h
            · omega
            · have := HL.out; have := HE.out; omega
            · exact h ⟨_, hopt⟩)
          clear hown hbod hopt hr5 hcm5 hsbb hb4 u0 u1 u2 u3 u4 HCUT
          by_cases hd : 1024 < dn
          · have hd' : (1024 : Int) < (dn : Int) := by omega
            have H72 := Lib.hid (show parC l 72 from .inr (.inr (.inl ⟨rfl, N70.out, N71.out, by unfold is72; rw [← HX5.out]; have := HL.out; have := HDN.out; have := HE.out; omega⟩)))
            obtain ⟨t0, t1, t2, t3, t4, t5, t6⟩ := seg_cells (show Blk w4 T 56 (segCs zeroS none 0 0 none 0 0) from K4.out)
            have f0 := K4.out.frozen 0
            have f1 := K4.out.frozen 1
            have f2 := K4.out.frozen 2
            have f3 := K4.out.frozen 3
            have f4 := K4.out.frozen 4
            have f5 := K4.out.frozen 5
            have f6 := K4.out.frozen 6
            go_wp2_with fail
            have hkz := seg7 (.int .u16 0) (.int .u16 0) (.int .u32 0) (.int .u32 0) (.int .u8 0) (.slice none 0 0) (.slice none 0 0) K4.out
            have hbz := bel7 (.int .u16 0) (.int .u16 0) (.int .u32 0) (.int .u32 0) (.int .u8 0) (.slice none 0 0) (.slice none 0 0) B4.out (show w.heap.size ≤ T by rw [HT.out]; exact Nat.le_refl _)
            unfold put7 at hkz hbz
            generalize ((((((w4.setCell ⟨T, 0, none⟩ (.int .u16 0)).setCell ⟨T, 1, none⟩ (.int .u16 0)).setCell ⟨T, 2, none⟩ (.int .u32 0)).setCell ⟨T, 3, none⟩ (.int .u32 0)).setCell ⟨T, 4, none⟩ (.int .u8 0)).setCell ⟨T, 5, none⟩ (.slice none 0 0)).setCell ⟨T, 6, none⟩ (.slice none 0 0) = wz at *
            clear t0 t1 t2 t3 t4 t5 t6 f0 f1 f2 f3 f4 f5 f6
            obtain ⟨z0, z1, z2, z3, z4, z5, z6⟩ := seg_cells (show Blk wz T 56 (segCs zeroS none 0 0 none 0 0) from hkz)
            exact bodyPost_ret (v := .tuple #[.agg (segCs zeroS none 0 0 none 0 0), .int .i64 72]) (by simp [results, Try.results38, go_sem, z0, z1, z2, z3, z4, z5, z6, segCs, zeroS]) rfl ⟨parPost_err H72.out (by decide), hbz⟩
          · have hd' : ¬ (1024 : Int) < (dn : Int) := by omega
            have N72 := Lib.hid (show ¬ is72 l from fun h => by unfold is72 at h; rw [← HX5.out] at h; have := HL.out; have := HDN.out; have := HE.out; omega)
            have H0 := Lib.hid (show parC l 0 from .inr (.inr (.inr ⟨rfl, N70.out, N71.out, N72.out⟩)))
            have SG := Lib.hid (segOf_ok (l := osay os) HB.out N70.out (by rw [← HX5.out]; exact HOPT.out) (by rw [← HX5.out]; have := HL.out; have := HE.out; omega) (by rw [← HX5.out]; omega) N72.out)
            have y0 : IntKind.u16.wrap (x0 : Int) = (x0 : Int) := by rw [IntKind.wrap_u16]; omega
            have y1 : IntKind.u16.wrap (x1 : Int) = (x1 : Int) := by rw [IntKind.wrap_u16]; omega
            have y2 : IntKind.u32.wrap (x2 : Int) = (x2 : Int) := by rw [IntKind.wrap_u32]; omega
            have y3 : IntKind.u32.wrap (x3 : Int) = (x3 : Int) := by rw [IntKind.wrap_u32]; omega
            have y4 : IntKind.u8.wrap (x4 : Int) = (x4 : Int) := by rw [IntKind.wrap_u8]; omega
            have hdn2 : dn ≤ 10000 := by have := HDN.out; omega
            generalize os.length = no at *
            go_wp2_with fail
            refine wp_ord [(0, .pure), (1, .pure), (2, .read), (3, .pure), (4, .pure), (5, .pure), (6, .read), (7, .pure), (8, .pure), (9, .pure), (10, .read), (11, .pure), (12, .pure), (13, .pure), (14, .read), (15, .pure), (16, .pure), (17, .pure), (18, .read), (19, .pure), (20, .pure), (21, .pure), (22, .pure), (23, .pure), (24, .sole), (25, .pure), (26, .sole), (27, .pure)] [26] (by kernel_rfl) (by kernel_rfl) (fun QQ hQ wd hwd => ?_); simp only [List.map_cons, List.map_nil, List.getD_cons_zero, List.getD_cons_succ]
            have z0 : wd.cell? ⟨bb, off, none⟩ = some (.int .u64 (x0 : Int)) := by rw [hwd.out]; exact v0
            have z1 : wd.cell? ⟨bb, off + 1, none⟩ = some (.int .u64 (x1 : Int)) := by rw [hwd.out]; exact v1
            have z2 : wd.cell? ⟨bb, off + 2, none⟩ = some (.int .u64 (x2 : Int)) := by rw [hwd.out]; exact v2
            have z3 : wd.cell? ⟨bb, off + 3, none⟩ = some (.int .u64 (x3 : Int)) := by rw [hwd.out]; exact v3
            have z4 : wd.cell? ⟨bb, off + 4, none⟩ = some (.int .u64 (x4 : Int)) := by rw [hwd.out]; exact v4
            have KD := Lib.hid (show Blk wd T 56 #[.int .u16 0, .int .u16 0, .int .u32 0, .int .u32 0, .int .u8 0, .slice none 0 0, .slice none 0 0] by rw [hwd.out]; exact K4.out)
            have BD := Lib.hid (show Below w.heap.size w wd by rw [hwd.out]; exact B4.out.drew)
            have OD := Lib.hid (show Os wd A5 no c5 os by rw [hwd.out]; exact HOS.out.into ((Below.refl _ _).drew))
            clear hwd v0 v1 v2 v3 v4 K4 B4 HOS
            (refine o_pure (v := ?_) (by rfl) (fun w' => ?_) ?_; rotate_left; (focus (go_simp; (try with_reducible rfl))); (try simp only [Act.put, List.setIfInBounds_toArray, List.set_cons_zero, List.set_cons_succ]))
            (refine o_pure (v := ?_) (by rfl) (fun w' => ?_) ?_; rotate_left; (focus (go_simp; (try with_reducible rfl))); (try simp only [Act.put, List.setIfInBounds_toArray, List.set_cons_zero, List.set_cons_succ]))
            (refine o_load _ (by rfl) rfl rfl (by assumption) (by kernel_rfl) ?_; simp only [Act.put, List.setIfInBounds_toArray, List.set_cons_zero, List.set_cons_succ])
            (refine o_pure (v := ?_) (by rfl) (fun w' => ?_) ?_; rotate_left; (focus (go_simp; (try with_reducible rfl))); (try simp only [Act.put, List.setIfInBounds_toArray, List.set_cons_zero, List.set_cons_succ]))
            (refine o_pure (v := ?_) (by rfl) (fun w' => ?_) ?_; rotate_left; (focus (go_simp; (try with_reducible rfl))); (try simp only [Act.put, List.setIfInBounds_toArray, List.set_cons_zero, List.set_cons_succ]))
            (refine o_pure (v := ?_) (by rfl) (fun w' => ?_) ?_; rotate_left; (focus (go_simp; (try with_reducible rfl))); (try simp only [Act.put, List.setIfInBounds_toArray, List.set_cons_zero, List.set_cons_succ]))
            (refine o_load _ (by rfl) rfl rfl (by assumption) (by kernel_rfl) ?_; simp only [Act.put, List.setIfInBounds_toArray, List.set_cons_zero, List.set_cons_succ])
            (refine o_pure (v := ?_) (by rfl) (fun w' => ?_) ?_; rotate_left; (focus (go_simp; (try with_reducible rfl))); (try simp only [Act.put, List.setIfInBounds_toArray, List.set_cons_zero, List.set_cons_succ]))
            (refine o_pure (v := ?_) (by rfl) (fun w' => ?_) ?_; rotate_left; (focus (go_simp; (try with_reducible rfl))); (try simp only [Act.put, List.setIfInBounds_toArray, List.set_cons_zero, List.set_cons_succ]))
            (refine o_pure (v := ?_) (by rfl) (fun w' => ?_) ?_; rotate_left; (focus (go_simp; (try with_reducible rfl))); (try simp only [Act.put, List.setIfInBounds_toArray, List.set_cons_zero, List.set_cons_succ]))
            (refine o_load _ (by rfl) rfl rfl (by assumption) (by kernel_rfl) ?_; simp only [Act.put, List.setIfInBounds_toArray, List.set_cons_zero, List.set_cons_succ])
            (refine o_pure (v := ?_) (by rfl) (fun w' => ?_) ?_; rotate_left; (focus (go_simp; (try with_reducible rfl))); (try simp only [Act.put, List.setIfInBounds_toArray, List.set_cons_zero, List.set_cons_succ]))
            (refine o_pure (v := ?_) (by rfl) (fun w' => ?_) ?_; rotate_left; (focus (go_simp; (try with_reducible rfl))); (try simp only [Act.put, List.setIfInBounds_toArray, List.set_cons_zero, List.set_cons_succ]))
            (refine o_pure (v := ?_) (by rfl) (fun w' => ?_) ?_; rotate_left; (focus (go_simp; (try with_reducible rfl))); (try simp only [Act.put, List.setIfInBounds_toArray, List.set_cons_zero, List.set_cons_succ]))
            (refine o_load _ (by rfl) rfl rfl (by assumption) (by kernel_rfl) ?_; simp only [Act.put, List.setIfInBounds_toArray, List.set_cons_zero, List.set_cons_succ])
            (refine o_pure (v := ?_) (by rfl) (fun w' => ?_) ?_; rotate_left; (focus (go_simp; (try with_reducible rfl))); (try simp only [Act.put, List.setIfInBounds_toArray, List.set_cons_zero, List.set_cons_succ]))
            (refine o_pure (v := ?_) (by rfl) (fun w' => ?_) ?_; rotate_left; (focus (go_simp; (try with_reducible rfl))); (try simp only [Act.put, List.setIfInBounds_toArray, List.set_cons_zero, List.set_cons_succ]))
            (refine o_pure (v := ?_) (by rfl) (fun w' => ?_) ?_; rotate_left; (focus (go_simp; (try with_reducible rfl))); (try simp only [Act.put, List.setIfInBounds_toArray, List.set_cons_zero, List.set_cons_succ]))
            (refine o_load _ (by rfl) rfl rfl (by assumption) (by kernel_rfl) ?_; simp only [Act.put, List.setIfInBounds_toArray, List.set_cons_zero, List.set_cons_succ])
            (refine o_pure (v := ?_) (by rfl) (fun w' => ?_) ?_; rotate_left; (focus (go_simp; (try with_reducible rfl))); (try simp only [Act.put, List.setIfInBounds_toArray, List.set_cons_zero, List.set_cons_succ]))
            (refine o_pure (v := ?_) (by rfl) (fun w' => ?_) ?_; rotate_left; (focus (go_simp; (try with_reducible rfl))); (try simp only [Act.put, List.setIfInBounds_toArray, List.set_cons_zero, List.set_cons_succ]))
            (refine o_pure (v := ?_) (by rfl) (fun w' => ?_) ?_; rotate_left; (focus (go_simp; (try with_reducible rfl))); (try simp only [Act.put, List.setIfInBounds_toArray, List.set_cons_zero, List.set_cons_succ]))
            (refine o_pure (v := ?_) (by rfl) (fun w' => ?_) ?_; rotate_left; (focus (go_simp; (try with_reducible rfl))); (try simp only [Act.put, List.setIfInBounds_toArray, List.set_cons_zero, List.set_cons_succ]))
            (refine o_pure (v := ?_) (by rfl) (fun w' => ?_) ?_; rotate_left; (focus (go_simp; (try with_reducible rfl))); (try simp only [Act.put, List.setIfInBounds_toArray, List.set_cons_zero, List.set_cons_succ]))
            refine o_sole (fun K hK => ?_)
            go_wp2_with fail
            refine (clone_any Z dn dc _ wd (HRD.out.into BD.out) (by omega)).mono ?_
            rintro e5 w5 ⟨v5, rfl, hN5, hb5⟩
            obtain ⟨A6, n6, c6, rfl, hnc6, hl6, hr6⟩ := hN5.out
            have hcm6 : c6 ≤ maxLen := by
              obtain ⟨_, _, e9, _, h9, _⟩ := own_form (show w5.ownsRow wd.heap.size 5 1 (.slice A6 n6 c6) _ _ from hN5)
              injection e9 with _ _ e9
              rw [e9]
              exact h9
            have HCM6 := Lib.hid hcm6
            have HA6 := Lib.hid (show ∀ b o, A6 = some ⟨b, o, none⟩ → T < b from fun b o e => by
              subst e
              have h1 := ((show w5.ownsRow wd.heap.size 5 1 (.slice (some ⟨b, o, none⟩) n6 c6) _ _ from hN5).lt b rfl).1
              have h2 := KD.out.lt
              omega)
            have K5 := Lib.hid (KD.out.below hb5 KD.out.lt)
            have B5 := Lib.hid (BD.out.trans (hb5.mono BD.out.size))
            have O5 := Lib.hid (OD.out.into hb5)
            have R6 := hr6
            have L6 := hl6
            go_wp2_with fail
            refine hK _ _ (fun _ => Ext.of hb5) ?_; clear hK K
            clear hN5 hb5 KD BD OD hcm6 hr6 hl6 z0 z1 z2 z3 z4
            (refine o_pure (v := ?_) (by rfl) (fun w' => ?_) ?_; rotate_left; (focus (go_simp; (try with_reducible rfl))); (try simp only [Act.put, List.setIfInBounds_toArray, List.set_cons_zero, List.set_cons_succ]))
            refine o_sole (fun K hK => ?_)
            obtain ⟨t0, t1, t2, t3, t4, t5, t6⟩ := seg_cells (show Blk w5 T 56 (segCs zeroS none 0 0 none 0 0) from K5.out)
            have f0 := K5.out.frozen 0
            have f1 := K5.out.frozen 1
            have f2 := K5.out.frozen 2
            have f3 := K5.out.frozen 3
            have f4 := K5.out.frozen 4
            have f5 := K5.out.frozen 5
            have f6 := K5.out.frozen 6
            go_wp2_with fail
            refine hK _ _ (fun h => by cases h) ?_; clear hK K
            have hkz := seg7 (.int .u16 (x0 : Int)) (.int .u16 (x1 : Int)) (.int .u32 (x2 : Int)) (.int .u32 (x3 : Int)) (.int .u8 (x4 : Int)) (.slice A5 no c5) (.slice A6 n6 c6) K5.out
            have hbz := bel7 (.int .u16 (x0 : Int)) (.int .u16 (x1 : Int)) (.int .u32 (x2 : Int)) (.int .u32 (x3 : Int)) (.int .u8 (x4 : Int)) (.slice A5 no c5) (.slice A6 n6 c6) B5.out (show w.heap.size ≤ T by rw [HT.out]; exact Nat.le_refl _)
            have hsz := solo7 (w := w5) (T := T) (.int .u16 (x0 : Int)) (.int .u16 (x1 : Int)) (.int .u32 (x2 : Int)) (.int .u32 (x3 : Int)) (.int .u8 (x4 : Int)) (.slice A5 no c5) (.slice A6 n6 c6)
            unfold put7 at hkz hbz hsz
            generalize ((((((w5.setCell ⟨T, 0, none⟩ (.int .u16 (x0 : Int))).setCell ⟨T, 1, none⟩ (.int .u16 (x1 : Int))).setCell ⟨T, 2, none⟩ (.int .u32 (x2 : Int))).setCell ⟨T, 3, none⟩ (.int .u32 (x3 : Int))).setCell ⟨T, 4, none⟩ (.int .u8 (x4 : Int))).setCell ⟨T, 5, none⟩ (.slice A5 no c5)).setCell ⟨T, 6, none⟩ (.slice A6 n6 c6) = wz at *
            clear t0 t1 t2 t3 t4 t5 t6 f0 f1 f2 f3 f4 f5 f6
            have HKZ := Lib.hid hkz
            have HBZ := Lib.hid hbz
            have HSZ := Lib.hid hsz
            clear hkz hbz hsz
            (refine o_pure (v := ?_) (by rfl) (fun w' => ?_) ?_; rotate_left; (focus (go_simp; (try with_reducible rfl))); (try simp only [Act.put, List.setIfInBounds_toArray, List.set_cons_zero, List.set_cons_succ]))
            refine o_nil (hQ.out _ _ ?_); clear hQ QQ
            go_wp2
            have hg : segCs (segOf l (osay os)) A5 no c5 A6 n6 c6 = #[.int .u16 (x0 : Int), .int .u16 (x1 : Int), .int .u32 (x2 : Int), .int .u32 (x3 : Int), .int .u8 (x4 : Int), .slice A5 no c5, .slice A6 n6 c6] := by
              unfold segCs segOf
              rw [← HX0.out, ← HX1.out, ← HX2.out, ← HX3.out, ← HX4.out]
            obtain ⟨z0, z1, z2, z3, z4, z5, z6⟩ := seg_cells (show Blk wz T 56 (segCs (segOf l (osay os)) A5 no c5 A6 n6 c6) from by rw [hg]; exact HKZ.out)
            have HSV : SegV wz (.agg (segCs (segOf l (osay os)) A5 no c5 A6 n6 c6)) (segOf l (osay os)) := by
              refine ⟨A5, no, c5, A6, n6, c6, os, rfl, ⟨O5.out.row.solo HSZ.out HFB.out.1, fun p hp => ⟨(O5.out.bod p hp).1.solo HSZ.out (HFB.out.2 p hp), (O5.out.bod p hp).2⟩, O5.out.cap⟩, rfl, ?_, hnc6, HCM6.out⟩
              have h1 := R6.out.solo HSZ.out HA6.out
              have h2 : (segOf l (osay os)).data = l.drop e := by unfold segOf; dsimp only; rw [← HX5.out, ← HE.out]
              rw [h2]
              exact h1
            exact bodyPost_ret (v := .tuple #[.agg (segCs (segOf l (osay os)) A5 no c5 A6 n6 c6), .int .i64 0]) (by simp [results, Try.results38, go_sem, z0, z1, z2, z3, z4, z5, z6, segCs]) rfl ⟨⟨_, 0, segOf l (osay os), rfl, H0.out, HSV, SG.out.2.2, fun _ => ⟨SG.out.1, SG.out.2.1⟩, fun h => absurd rfl h⟩, HBZ.out⟩
        · have H71 := Lib.hid (show parC l 71 from .inr (.inl ⟨rfl, N70.out, .inr (.inr (by rw [← HX5.out]; exact hno))⟩))
          clear hno hb4 HCUT
          obtain ⟨t0, t1, t2, t3, t4, t5, t6⟩ := seg_cells (show Blk w4 T 56 (segCs zeroS none 0 0 none 0 0) from K4.out)
          have f0 := K4.out.frozen 0
          have f1 := K4.out.frozen 1
          have f2 := K4.out.frozen 2
          have f3 := K4.out.frozen 3
          have f4 := K4.out.frozen 4
          have f5 := K4.out.frozen 5
          have f6 := K4.out.frozen 6
          go_wp2_with fail
          have hkz := seg7 (.int .u16 0) (.int .u16 0) (.int .u32 0) (.int .u32 0) (.int .u8 0) (.slice none 0 0) (.slice none 0 0) K4.out
          have hbz := bel7 (.int .u16 0) (.int .u16 0) (.int .u32 0) (.int .u32 0) (.int .u8 0) (.slice none 0 0) (.slice none 0 0) B4.out (show w.heap.size ≤ T by rw [HT.out]; exact Nat.le_refl _)
          unfold put7 at hkz hbz
          generalize ((((((w4.setCell ⟨T, 0, none⟩ (.int .u16 0)).setCell ⟨T, 1, none⟩ (.int .u16 0)).setCell ⟨T, 2, none⟩ (.int .u32 0)).setCell ⟨T, 3, none⟩ (.int .u32 0)).setCell ⟨T, 4, none⟩ (.int .u8 0)).setCell ⟨T, 5, none⟩ (.slice none 0 0)).setCell ⟨T, 6, none⟩ (.slice none 0 0) = wz at *
          clear t0 t1 t2 t3 t4 t5 t6 f0 f1 f2 f3 f4 f5 f6
          obtain ⟨z0, z1, z2, z3, z4, z5, z6⟩ := seg_cells (show Blk wz T 56 (segCs zeroS none 0 0 none 0 0) from hkz)
          exact bodyPost_ret (v := .tuple #[.agg (segCs zeroS none 0 0 none 0 0), .int .i64 71]) (by simp [results, Try.results38, go_sem, z0, z1, z2, z3, z4, z5, z6, segCs, zeroS]) rfl ⟨parPost_err H71.out (by decide), hbz⟩
  · have h70 : parC l 70 := by
      refine .inl ⟨rfl, .inl ?_⟩
      refine Nat.lt_of_not_le fun h14 => ?_
      have hm14 : mm = 14 := by have := HMM.out; have := HL.out; omega
      subst hm14
      exact hno _ (cut14 h14)
    have H70 := Lib.hid h70
    clear hno h70
    obtain ⟨t0, t1, t2, t3, t4, t5, t6⟩ := seg_cells (show Blk w2 T 56 (segCs zeroS none 0 0 none 0 0) from K2.out)
    have f0 := K2.out.frozen 0
    have f1 := K2.out.frozen 1
    have f2 := K2.out.frozen 2
    have f3 := K2.out.frozen 3
    have f4 := K2.out.frozen 4
    have f5 := K2.out.frozen 5
    have f6 := K2.out.frozen 6
    go_wp2_with fail
    have hkz := seg7 (.int .u16 0) (.int .u16 0) (.int .u32 0) (.int .u32 0) (.int .u8 0) (.slice none 0 0) (.slice none 0 0) K2.out
    have hbz := bel7 (.int .u16 0) (.int .u16 0) (.int .u32 0) (.int .u32 0) (.int .u8 0) (.slice none 0 0) (.slice none 0 0) B2.out (show w.heap.size ≤ T by rw [HT.out]; exact Nat.le_refl _)
    unfold put7 at hkz hbz
    generalize ((((((w2.setCell ⟨T, 0, none⟩ (.int .u16 0)).setCell ⟨T, 1, none⟩ (.int .u16 0)).setCell ⟨T, 2, none⟩ (.int .u32 0)).setCell ⟨T, 3, none⟩ (.int .u32 0)).setCell ⟨T, 4, none⟩ (.int .u8 0)).setCell ⟨T, 5, none⟩ (.slice none 0 0)).setCell ⟨T, 6, none⟩ (.slice none 0 0) = wz at *
    clear t0 t1 t2 t3 t4 t5 t6 f0 f1 f2 f3 f4 f5 f6
    obtain ⟨z0, z1, z2, z3, z4, z5, z6⟩ := seg_cells (show Blk wz T 56 (segCs zeroS none 0 0 none 0 0) from hkz)
    exact bodyPost_ret (v := .tuple #[.agg (segCs zeroS none 0 0 none 0 0), .int .i64 70]) (by simp [results, Try.results38, go_sem, z0, z1, z2, z3, z4, z5, z6, segCs, zeroS]) rfl ⟨parPost_err H70.out (by decide), hbz⟩
end Go.Proofs.Ytiabafnfiedlcaa
