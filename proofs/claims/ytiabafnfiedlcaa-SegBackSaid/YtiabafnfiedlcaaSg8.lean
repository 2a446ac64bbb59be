/- The document's segment of some bytes. -/
import Derived.Test.YtiabafnfiedlcaaSg7
import Derived.Test.YtiabafnfiedlcaaPkR
import Derived.Test.YtiabafnfiedlcaaOrdB
import Derived.Test.YtiabafnfiedlcaaSz2
namespace Go.Proofs.Ytiabafnfiedlcaa
open Go.RowKit
set_option linter.unusedVariables false
theorem cut12 {l : List Nat} (h : 12 ≤ l.length) : cut l [2, 2, 4, 4] = some ([ub (l.take 2), ub ((l.drop 2).take 2), ub ((l.drop 4).take 4), ub ((l.drop 8).take 4)], l.drop 12) := by
  match l, h with
  | a0 :: a1 :: a2 :: a3 :: a4 :: a5 :: a6 :: a7 :: a8 :: a9 :: a10 :: a11 :: r, _ => simp [cut, okS, ub]
/-- An option whose body is a row of the call's own. -/
def OwnB (w : World) (B : Nat) (p : Ob) : Prop := Nats w 5 .u8 B (.slice p.2.A p.2.n p.2.c) p.2.l
theorem OwnB.kept {w w' : World} {B : Nat} {p : Ob} (h : OwnB w B p) (hk : ∀ g, B ≤ g → g < w.heap.size → (∃ cs, Blk w g 5 cs) → w'.heap[g]? = w.heap[g]?) : OwnB w' B p := by
  refine Nats.kept h fun g hg => ?_
  have hl := (show w.ownsRow B 5 1 _ _ _ from h).lt g hg
  refine hk g hl.1 hl.2 ?_
  rcases own_open (show w.ownsRow B 5 1 _ _ _ from h) with ⟨e, _⟩ | ⟨g', c', L, e, _, hb, _⟩
  · rw [e] at hg; cases hg
  · rw [e] at hg
    injection hg with hg
    subst hg
    exact ⟨_, hb⟩
/-- Another row, of options, grows. -/
theorem OwnB.grown {w w' : World} {B B' n : Nat} {v : Value} {xs : List Value} {p : Ob} (h : OwnB w B p) (ho : w.ownsRow B' 74 2 v n xs) (hg : w.grownBy w' v.ownBlock) : OwnB w' B p := by
  refine h.kept fun g _ hlt ⟨cs, hb⟩ => hg.block g hlt fun e => ?_
  rcases own_open ho with ⟨rfl, _⟩ | ⟨g2, c2, L2, rfl, _, hb2, _⟩
  · cases e
  · injection e with e
    subst e
    unfold Blk at hb hb2
    rw [hb] at hb2
    injection hb2 with hb2
    injection hb2 with _ ht
    exact absurd ht (by decide)
theorem OwnB.below {w w' : World} {B : Nat} {p : Ob} (h : OwnB w B p) (hb : Below w.heap.size w w') : OwnB w' B p := Nats.below h hb
theorem OwnB.rd {w : World} {B : Nat} {p : Ob} (h : OwnB w B p) : Rd w w.heap.size 1 p.2.A p.2.n (ns .u8 p.2.l) ∧ p.2.n ≤ p.2.c ∧ p.2.c ≤ maxLen := by
  obtain ⟨A, c, e, h1, h2, h3⟩ := own_form (show w.ownsRow B 5 1 _ _ _ from h)
  injection e with e1 e2 e3
  rw [e1, e2, e3]
  exact ⟨h3, h1, h2⟩
theorem body_mid {l : List Nat} {k x y : Nat} (h : k + 2 + y ≤ x) : (l.take (14 + k + 2 + y)).drop (14 + k + 2) = ((((l.drop 14).take x).drop k).take (2 + y)).drop 2 := by
  apply List.ext_getElem?
  intro i
  simp only [List.getElem?_drop, List.getElem?_take]
  by_cases hi : i < y
  · rw [if_pos (by omega), if_pos (by omega), if_pos (by omega)]
    congr 1
    omega
  · rw [if_neg (by omega), if_neg (by omega)]
set_option maxRecDepth 20000 in
set_option maxHeartbeats 4000000 in
theorem rparse_any (A : Option Addr) (n c : Nat) (l : List Nat) (w : World) (h : Rd w w.heap.size 1 A n (ns .u8 l)) (hnc : n ≤ c) (hcm : c ≤ maxLen) (hb : ∀ x ∈ l, x < 256) (hn : n ≤ 10000) :
    Calls Try.prog 39 #[.slice A n c] w fun e w' => ParPost l w' e ∧ Below w.heap.size w w' := by
  have HR := Lib.hid h
  have HL := Lib.hid h.natLen
  have HB := Lib.hid hb
  have HCM := Lib.hid hcm
  clear hcm
  have hk0 := Blk.new w 56 #[.int .u16 0, .int .u16 0, .int .u32 0, .int .u32 0, .int .u8 0, .slice none 0 0, .slice none 0 0]
  have hb0 : Below w.heap.size w (w.alloc (.cells #[.int .u16 0, .int .u16 0, .int .u32 0, .int .u32 0, .int .u8 0, .slice none 0 0, .slice none 0 0] 56)) := (Below.refl _ _).alloc (Nat.le_refl _) _
  have HK0 := Lib.hid hk0
  have HB0 := Lib.hid hb0
  have HTR := Lib.hid (show Rd (w.alloc (.cells #[.int .u16 0, .int .u16 0, .int .u32 0, .int .u32 0, .int .u8 0, .slice none 0 0, .slice none 0 0] 56)) w.heap.size 1 A n (ns .u8 l) from h.below hb0)
  clear hk0 hb0 h hb
  obtain ⟨T, hT⟩ : ∃ T, T = w.heap.size := ⟨_, rfl⟩
  have HT := Lib.hid hT
  go_enter Try.func39, Try.ntmps39
  by_cases h14 : n < 14
  · have h14' : (n : Int) < 14 := by omega
    have H70 := Lib.hid (show parC l 70 from .inl ⟨rfl, .inl (by have := HL.out; omega)⟩)
    clear hT
    have K0 := Lib.hid (show Blk (w.alloc (.cells #[.int .u16 0, .int .u16 0, .int .u32 0, .int .u32 0, .int .u8 0, .slice none 0 0, .slice none 0 0] 56)) T 56 #[.int .u16 0, .int .u16 0, .int .u32 0, .int .u32 0, .int .u8 0, .slice none 0 0, .slice none 0 0] by rw [HT.out]; exact HK0.out)
    go_wp2_with fail
    obtain ⟨z0, z1, z2, z3, z4, z5, z6⟩ := seg_cells (show Blk _ _ 56 (segCs zeroS none 0 0 none 0 0) from HK0.out)
    exact bodyPost_ret (v := .tuple #[.agg (segCs zeroS none 0 0 none 0 0), .int .i64 70]) (by simp [results, Try.results39, go_sem, z0, z1, z2, z3, z4, z5, z6, segCs, zeroS]) rfl ⟨parPost_err H70.out (by decide), HB0.out⟩
  · have h14' : ¬ (n : Int) < 14 := by omega
    have h14d : decide ((n : Int) < 14) = false := decide_eq_false h14'
    have hn12 : 12 < n := by omega
    have hn13 : 13 < n := by omega
    have hn12' : (12 : Int) < (n : Int) := by omega
    have hn13' : (13 : Int) < (n : Int) := by omega
    obtain ⟨b, off, x4, rfl, hbb, p12, hx4⟩ := HTR.out.nth hn12
    obtain ⟨b', off', x5, eA, _, p13, hx5⟩ := HTR.out.nth hn13
    injection eA with eA
    injection eA with eb eo
    subst eb eo
    have g4 : l.getD 12 0 = x4 := by rw [List.getD_eq_getElem?_getD, hx4.out]; rfl
    have g5 : l.getD 13 0 = x5 := by rw [List.getD_eq_getElem?_getD, hx5.out]; rfl
    have hx4b := HB.out x4 (List.mem_of_getElem? hx4.out)
    have hx5b := HB.out x5 (List.mem_of_getElem? hx5.out)
    have w5 : IntKind.i64.wrap (x5 : Int) = (x5 : Int) := by rw [IntKind.wrap_i64]; omega
    have HX4 := Lib.hid g4.symm
    have HX5 := Lib.hid g5.symm
    clear g4 g5 hT hx4 hx5
    by_cases h7 : 7 < x4
    · have h7' : (7 : Int) < (x4 : Int) := by omega
      have H70 := Lib.hid (show parC l 70 from .inl ⟨rfl, .inr (by rw [← HX4.out]; exact h7)⟩)
      go_wp2_with fail
      obtain ⟨z0, z1, z2, z3, z4, z5, z6⟩ := seg_cells (show Blk _ _ 56 (segCs zeroS none 0 0 none 0 0) from HK0.out)
      exact bodyPost_ret (v := .tuple #[.agg (segCs zeroS none 0 0 none 0 0), .int .i64 70]) (by simp [results, Try.results39, go_sem, z0, z1, z2, z3, z4, z5, z6, segCs, zeroS]) rfl ⟨parPost_err H70.out (by decide), HB0.out⟩
    · have h7' : ¬ (7 : Int) < (x4 : Int) := by omega
      have N70 := Lib.hid (show ¬ is70 l from fun h => by
        rcases h with h | h
        · have := HL.out; omega
        · rw [← HX4.out] at h; exact h7 h)
      obtain ⟨rn, hrn⟩ : ∃ rn, rn = n - 14 := ⟨_, rfl⟩
      have ern : (n : Int) - 14 = (rn : Int) := by omega
      have wrn : IntKind.i64.wrap ((n : Int) - 14) = (rn : Int) := by rw [ern, IntKind.wrap_i64]; omega
      have wrn2 : IntKind.i64.wrap (rn : Int) = (rn : Int) := by rw [IntKind.wrap_i64]; omega
      have HRN := Lib.hid hrn
      clear hrn
      by_cases h200 : 200 < x5
      · have h200' : (200 : Int) < (x5 : Int) := by omega
        have H71 := Lib.hid (show parC l 71 from .inr (.inl ⟨rfl, N70.out, by unfold is71; rw [← HX5.out]; exact .inl h200⟩))
        go_wp2_with fail
        obtain ⟨z0, z1, z2, z3, z4, z5, z6⟩ := seg_cells (show Blk _ _ 56 (segCs zeroS none 0 0 none 0 0) from HK0.out)
        exact bodyPost_ret (v := .tuple #[.agg (segCs zeroS none 0 0 none 0 0), .int .i64 71]) (by simp [results, Try.results39, go_sem, z0, z1, z2, z3, z4, z5, z6, segCs, zeroS]) rfl ⟨parPost_err H71.out (by decide), HB0.out⟩
      · have h200' : ¬ (200 : Int) < (x5 : Int) := by omega
        have h200d : decide ((200 : Int) < (x5 : Int)) = false := decide_eq_false h200'
        by_cases hrx : rn < x5
        · have hrx' : (rn : Int) < (x5 : Int) := by omega
          have H71 := Lib.hid (show parC l 71 from .inr (.inl ⟨rfl, N70.out, by unfold is71; rw [← HX5.out]; have := HRN.out; have := HL.out; exact .inr (.inl (by omega))⟩))
          go_wp2_with fail
          obtain ⟨z0, z1, z2, z3, z4, z5, z6⟩ := seg_cells (show Blk _ _ 56 (segCs zeroS none 0 0 none 0 0) from HK0.out)
          exact bodyPost_ret (v := .tuple #[.agg (segCs zeroS none 0 0 none 0 0), .int .i64 71]) (by simp [results, Try.results39, go_sem, z0, z1, z2, z3, z4, z5, z6, segCs, zeroS]) rfl ⟨parPost_err H71.out (by decide), HB0.out⟩
        · have hrx' : ¬ (rn : Int) < (x5 : Int) := by omega
          have hs0 : Rd ((w.alloc (.cells #[.int .u16 0, .int .u16 0, .int .u32 0, .int .u32 0, .int .u8 0, .slice none 0 0, .slice none 0 0] 56)).alloc (.cells #[.int .i64 2, .int .i64 2, .int .i64 4, .int .i64 4] 3)) (w.heap.size + 2) 1 (some ⟨w.heap.size + 1, 0, none⟩) 4 (zs .i64 [2, 2, 4, 4]) := Rd.litz [2, 2, 4, 4] (by simp) (by omega) rfl rfl
          have hz0 : ((w.alloc (.cells #[.int .u16 0, .int .u16 0, .int .u32 0, .int .u32 0, .int .u8 0, .slice none 0 0, .slice none 0 0] 56)).alloc (.cells #[.int .i64 2, .int .i64 2, .int .i64 4, .int .i64 4] 3)).heap.size = w.heap.size + 2 := by simp
          have K1 := Lib.hid (HK0.out.alloc (.cells #[.int .i64 2, .int .i64 2, .int .i64 4, .int .i64 4] 3))
          have B1 := Lib.hid (HB0.out.alloc (by simp) (.cells #[.int .i64 2, .int .i64 2, .int .i64 4, .int .i64 4] 3))
          have S1 := Lib.hid hs0
          have Z1 := Lib.hid hz0
          clear hs0 hz0 HB0 HK0 HTR
          go_wp2_with fail
          clear p12 p13
          generalize (w.alloc (.cells #[.int .u16 0, .int .u16 0, .int .u32 0, .int .u32 0, .int .u8 0, .slice none 0 0, .slice none 0 0] 56)).alloc (.cells #[.int .i64 2, .int .i64 2, .int .i64 4, .int .i64 4] 3) = W at *
          rw [← HT.out] at K1 S1 Z1 ⊢
          have HALL := Lib.hid (rall_any (some ⟨b, off, none⟩) (some ⟨T + 1, 0, none⟩) n 4 c 4 l [2, 2, 4, 4] W (HR.out.into B1.out) (by have := S1.out; rw [← Z1.out] at this; exact this) hnc HB.out (by omega) (by omega) (by omega))
          refine HALL.out.mono ?_
          rintro e w2 ⟨hb2, hpost⟩
          have K2 := Lib.hid (K1.out.below hb2 K1.out.lt)
          have B2 := Lib.hid (B1.out.trans (hb2.mono B1.out.size))
          clear HALL hb2 K1 B1 S1 Z1
          rcases hpost with ⟨xs, rest, v, A', n', c', hcut, rfl, hN, _, _, _⟩ | ⟨hno, rfl⟩
          rotate_left
          · rw [cut12 (by have := HL.out; omega)] at hno
            cases hno
          rw [cut12 (by have := HL.out; omega)] at hcut
          injection hcut with hcut
          injection hcut with hcut _
          subst hcut
          obtain ⟨A3, n3, c3, rfl, hnc3, hl3, hr3⟩ := hN.out
          have hn4 : n3 = 4 := hl3.out.symm
          subst hn4
          obtain ⟨bb, of2, eA, hbb2, hcc⟩ := hr3.out.2 (by omega)
          subst eA
          obtain ⟨x0, hx0⟩ : ∃ x0, x0 = ub (l.take 2) := ⟨_, rfl⟩
          obtain ⟨x1, hx1⟩ : ∃ x1, x1 = ub ((l.drop 2).take 2) := ⟨_, rfl⟩
          obtain ⟨x2, hx2⟩ : ∃ x2, x2 = ub ((l.drop 4).take 4) := ⟨_, rfl⟩
          obtain ⟨x3, hx3⟩ : ∃ x3, x3 = ub ((l.drop 8).take 4) := ⟨_, rfl⟩
          rw [← hx0, ← hx1, ← hx2, ← hx3] at hcc
          have u0 : w2.cell? ⟨bb, of2, none⟩ = some (.int .u64 (x0 : Int)) := hcc 0 (by omega)
          have u1 : w2.cell? ⟨bb, of2 + 1, none⟩ = some (.int .u64 (x1 : Int)) := hcc 1 (by omega)
          have u2 : w2.cell? ⟨bb, of2 + 2, none⟩ = some (.int .u64 (x2 : Int)) := hcc 2 (by omega)
          have u3 : w2.cell? ⟨bb, of2 + 3, none⟩ = some (.int .u64 (x3 : Int)) := hcc 3 (by omega)
          have b0 : x0 < 65536 := by have := ub_bd HB.out 0 2; rw [List.drop_zero, ← hx0] at this; exact this
          have b1 : x1 < 65536 := by have := ub_bd HB.out 2 2; rw [← hx1] at this; exact this
          have b2 : x2 < 4294967296 := by have := ub_bd HB.out 4 4; rw [← hx2] at this; exact this
          have b3 : x3 < 4294967296 := by have := ub_bd HB.out 8 4; rw [← hx3] at this; exact this
          have HX0 := Lib.hid hx0
          have HX1 := Lib.hid hx1
          have HX2 := Lib.hid hx2
          have HX3 := Lib.hid hx3
          have y0 : IntKind.u16.wrap (x0 : Int) = (x0 : Int) := by rw [IntKind.wrap_u16]; omega
          have y1 : IntKind.u16.wrap (x1 : Int) = (x1 : Int) := by rw [IntKind.wrap_u16]; omega
          have y2 : IntKind.u32.wrap (x2 : Int) = (x2 : Int) := by rw [IntKind.wrap_u32]; omega
          have y3 : IntKind.u32.wrap (x3 : Int) = (x3 : Int) := by rw [IntKind.wrap_u32]; omega
          have hTs2 : T < w2.heap.size := K2.out.lt
          clear hx0 hx1 hx2 hx3 hcc hl3 hr3 hN
          have q12 : w2.cell? ⟨b, off + 12, none⟩ = some (.int .u8 (x4 : Int)) := by
            obtain ⟨b', off', x', e', _, p', hx'⟩ := (HR.out.below B2.out).nth hn12
            injection e' with e'
            injection e' with e1 e2
            subst e1 e2
            rw [p']
            have : x' = x4 := by rw [HX4.out, List.getD_eq_getElem?_getD, hx'.out]; rfl
            rw [this]
          go_wp2_with fail
          refine wp_ord [(0, .pure), (1, .pure), (2, .read), (3, .pure), (4, .pure), (5, .pure), (6, .read), (7, .pure), (8, .pure), (9, .pure), (10, .read), (11, .pure), (12, .pure), (13, .pure), (14, .read), (15, .pure), (16, .pure), (17, .pure), (18, .read), (19, .pure), (20, .sole), (21, .sole)] [21] (by kernel_rfl) (by kernel_rfl) (fun QQ hQ wd hwd => ?_); simp only [List.map_cons, List.map_nil, List.getD_cons_zero, List.getD_cons_succ]
          have z0 : wd.cell? ⟨bb, of2, none⟩ = some (.int .u64 (x0 : Int)) := by rw [hwd.out]; exact u0
          have z1 : wd.cell? ⟨bb, of2 + 1, none⟩ = some (.int .u64 (x1 : Int)) := by rw [hwd.out]; exact u1
          have z2 : wd.cell? ⟨bb, of2 + 2, none⟩ = some (.int .u64 (x2 : Int)) := by rw [hwd.out]; exact u2
          have z3 : wd.cell? ⟨bb, of2 + 3, none⟩ = some (.int .u64 (x3 : Int)) := by rw [hwd.out]; exact u3
          have z4 : wd.cell? ⟨b, off + 12, none⟩ = some (.int .u8 (x4 : Int)) := by rw [hwd.out]; exact q12
          have KD := Lib.hid (show Blk wd T 56 #[.int .u16 0, .int .u16 0, .int .u32 0, .int .u32 0, .int .u8 0, .slice none 0 0, .slice none 0 0] by rw [hwd.out]; exact K2.out)
          have BD := Lib.hid (show Below w.heap.size w wd by rw [hwd.out]; exact B2.out.drew)
          clear hwd u0 u1 u2 u3 q12 K2 B2
          (refine o_pure (v := ?_) (by rfl) (fun w' => ?_) ?_; rotate_left; (focus (go_simp; (try with_reducible rfl))); (try simp only [Act.put, List.setIfInBounds_toArray, List.set_cons_zero, List.set_cons_succ]))
          (refine o_pure (v := ?_) (by rfl) (fun w' => ?_) ?_; rotate_left; (focus (go_simp; (try with_reducible rfl))); (try simp only [Act.put, List.setIfInBounds_toArray, List.set_cons_zero, List.set_cons_succ]))
          (refine o_load _ (by rfl) rfl rfl (by assumption) (by kernel_rfl) ?_; simp only [Act.put, List.setIfInBounds_toArray, List.set_cons_zero, List.set_cons_succ])
          (refine o_pure (v := ?_) (by rfl) (fun w' => ?_) ?_; rotate_left; (focus (go_simp; (try with_reducible rfl))); (try simp only [Act.put, List.setIfInBounds_toArray, List.set_cons_zero, List.set_cons_succ]))
          (refine o_pure (v := ?_) (by rfl) (fun w' => ?_) ?_; rotate_left; (focus (go_simp; (try with_reducible rfl))); (try simp only [Act.put, List.setIfInBounds_toArray, List.set_cons_zero, List.set_cons_succ]))
          (refine o_pure (v := ?_) (by rfl) (fun w' => ?_) ?_; rotate_left; (focus (go_simp; (try with_reducible rfl))); (try simp only [Act.put, List.setIfInBounds_toArray, List.set_cons_zero, List.set_cons_succ]))
          (refine o_load _ (by rfl) rfl rfl (by assumption) (by kernel_rfl) ?_; simp only [Act.put, List.setIfInBounds_toArray, List.set_cons_zero, List.set_cons_succ])
          (refine o_pure (v := ?_) (by rfl) (fun w' => ?_) ?_; rotate_left; (focus (go_simp; (try with_reducible rfl))); (try simp only [Act.put, List.setIfInBounds_toArray, List.set_cons_zero, List.set_cons_succ]))
          (refine o_pure (v := ?_) (by rfl) (fun w' => ?_) ?_; rotate_left; (focus (go_simp; (try with_reducible rfl))); (try simp only [Act.put, List.setIfInBounds_toArray, List.set_cons_zero, List.set_cons_succ]))
          (refine o_pure (v := ?_) (by rfl) (fun w' => ?_) ?_; rotate_left; (focus (go_simp; (try with_reducible rfl))); (try simp only [Act.put, List.setIfInBounds_toArray, List.set_cons_zero, List.set_cons_succ]))
          (refine o_load _ (by rfl) rfl rfl (by assumption) (by kernel_rfl) ?_; simp only [Act.put, List.setIfInBounds_toArray, List.set_cons_zero, List.set_cons_succ])
          (refine o_pure (v := ?_) (by rfl) (fun w' => ?_) ?_; rotate_left; (focus (go_simp; (try with_reducible rfl))); (try simp only [Act.put, List.setIfInBounds_toArray, List.set_cons_zero, List.set_cons_succ]))
          (refine o_pure (v := ?_) (by rfl) (fun w' => ?_) ?_; rotate_left; (focus (go_simp; (try with_reducible rfl))); (try simp only [Act.put, List.setIfInBounds_toArray, List.set_cons_zero, List.set_cons_succ]))
          (refine o_pure (v := ?_) (by rfl) (fun w' => ?_) ?_; rotate_left; (focus (go_simp; (try with_reducible rfl))); (try simp only [Act.put, List.setIfInBounds_toArray, List.set_cons_zero, List.set_cons_succ]))
          (refine o_load _ (by rfl) rfl rfl (by assumption) (by kernel_rfl) ?_; simp only [Act.put, List.setIfInBounds_toArray, List.set_cons_zero, List.set_cons_succ])
          (refine o_pure (v := ?_) (by rfl) (fun w' => ?_) ?_; rotate_left; (focus (go_simp; (try with_reducible rfl))); (try simp only [Act.put, List.setIfInBounds_toArray, List.set_cons_zero, List.set_cons_succ]))
          (refine o_pure (v := ?_) (by rfl) (fun w' => ?_) ?_; rotate_left; (focus (go_simp; (try with_reducible rfl))); (try simp only [Act.put, List.setIfInBounds_toArray, List.set_cons_zero, List.set_cons_succ]))
          (refine o_pure (v := ?_) (by rfl) (fun w' => ?_) ?_; rotate_left; (focus (go_simp; (try with_reducible rfl))); (try simp only [Act.put, List.setIfInBounds_toArray, List.set_cons_zero, List.set_cons_succ]))
          (refine o_load _ (by rfl) rfl rfl (by assumption) (by kernel_rfl) ?_; simp only [Act.put, List.setIfInBounds_toArray, List.set_cons_zero, List.set_cons_succ])
          (refine o_pure (v := ?_) (by rfl) (fun w' => ?_) ?_; rotate_left; (focus (go_simp; (try with_reducible rfl))); (try simp only [Act.put, List.setIfInBounds_toArray, List.set_cons_zero, List.set_cons_succ]))
          clear z0 z1 z2 z3 z4
          refine o_sole (fun K hK => ?_)
          go_wp2_with fail
          refine hK _ _ (fun _ => Ext.of ((Below.refl _ _).alloc (Nat.le_refl _) _)) ?_; clear hK K
          refine o_sole (fun K hK => ?_)
          go_wp2_with fail
          refine hK _ _ (fun h => by cases h) ?_; clear hK K
          refine o_nil (hQ.out _ _ ?_); clear hQ QQ
          have hKS := Blk.new wd 56 #[.int .u16 (x0 : Int), .int .u16 (x1 : Int), .int .u32 (x2 : Int), .int .u32 (x3 : Int), .int .u8 (x4 : Int), .slice none 0 0, .slice none 0 0]
          have hKT := KD.out.alloc (.cells #[.int .u16 (x0 : Int), .int .u16 (x1 : Int), .int .u32 (x2 : Int), .int .u32 (x3 : Int), .int .u8 (x4 : Int), .slice none 0 0, .slice none 0 0] 56)
          have hBW := BD.out.alloc BD.out.size (.cells #[.int .u16 (x0 : Int), .int .u16 (x1 : Int), .int .u32 (x2 : Int), .int .u32 (x3 : Int), .int .u8 (x4 : Int), .slice none 0 0, .slice none 0 0] 56)
          obtain ⟨Ts, hTs⟩ : ∃ Ts, Ts = wd.heap.size := ⟨_, rfl⟩
          have hTTs : T < Ts := by rw [hTs]; exact KD.out.lt
          rw [← hTs] at hKS ⊢
          have HKS := Lib.hid hKS
          have HKT := Lib.hid hKT
          have HBW := Lib.hid hBW
          clear hKS hKT hBW KD BD hTs hTs2
          generalize wd.alloc (.cells #[.int .u16 (x0 : Int), .int .u16 (x1 : Int), .int .u32 (x2 : Int), .int .u32 (x3 : Int), .int .u8 (x4 : Int), .slice none 0 0, .slice none 0 0] 56) = W7 at *
          obtain ⟨O, hO⟩ : ∃ O, O = (l.drop 14).take x5 := ⟨_, rfl⟩
          have hOl : O.length = x5 := by rw [hO, List.length_take, List.length_drop, HL.out]; have := HRN.out; omega
          have hOget : ∀ k i, k + i < x5 → (O.drop k)[i]? = l[14 + k + i]? := by
            intro k i hki
            rw [hO, List.getElem?_drop, List.getElem?_take, if_pos hki, List.getElem?_drop]
            congr 1
            omega
          have HO := Lib.hid hO
          have HOL := Lib.hid hOl
          have HOG := Lib.hid hOget
          obtain ⟨e, he⟩ : ∃ e, e = 14 + x5 := ⟨_, rfl⟩
          have ee : (14 : Int) + (x5 : Int) = (e : Int) := by omega
          have he300 : e ≤ 300 := by omega
          have hen : e ≤ n := by have := HRN.out; omega
          have HE := Lib.hid he
          clear hO hOl hOget he
          go_wp2_with fail
          go_loopw [9] (fun iv wr => ∃ (k a : Nat) (os : List Ob) (ov : Value), k ≤ x5 ∧ Hid (a = 14 + k) ∧ iv = .int .i64 (a : Int) ∧ Hid (oBytes (osay os) = O.take k) ∧ Hid (∀ p ∈ osay os, p.1 ≠ 0) ∧ Hid (wr.ownsRow (Ts + 1) 74 2 ov os.length (ocs os)) ∧ Hid (∀ p ∈ os, OwnB wr (Ts + 1) p) ∧ os.length ≤ k ∧ Hid (Blk wr Ts 56 #[.int .u16 (x0 : Int), .int .u16 (x1 : Int), .int .u32 (x2 : Int), .int .u32 (x3 : Int), .int .u8 (x4 : Int), ov, .slice none 0 0]) ∧ Hid (Blk wr T 56 #[.int .u16 0, .int .u16 0, .int .u32 0, .int .u32 0, .int .u8 0, .slice none 0 0, .slice none 0 0]) ∧ Below w.heap.size w wr) (fun iv _ => e - (intOf iv).toNat)
          case atStart => exact ⟨0, 14, [], _, Nat.zero_le _, Lib.hid rfl, rfl, Lib.hid (by simp [oBytes, osay]), Lib.hid (by simp [osay]), Lib.hid (World.ownsRow_nil _ _ _ _), Lib.hid (by simp), Nat.le_refl _, HKS, HKT, HBW.out⟩
          case round =>
            obtain ⟨k, a, os, ov, hkx, ha, rfl, hby, hkd, hown, hbod, hol, hks, hkt, hbw⟩ := hrel
            clear HKS HKT HBW
            have hTw : Ts + 1 ≤ wr.heap.size := hks.out.lt
            have hroom : (os.length + 1) * 32 ≤ room := room_ge (by omega)
            obtain ⟨A7, c7, rfl, hnc7, hcm7, _⟩ := own_form hown.out
            have HC7 := Lib.hid (And.intro hnc7 hcm7)
            clear hnc7 hcm7
            by_cases hae : a < e
            · have hae' : (a : Int) < (e : Int) := by omega
              have hkx2 : k < x5 := by have := ha.out; have := HE.out; omega
              have han : a < n := by omega
              obtain ⟨a2, ha2⟩ : ∃ a2, a2 = a + 2 := ⟨_, rfl⟩
              have ea2 : (a : Int) + 2 = (a2 : Int) := by omega
              have wa2 : IntKind.i64.wrap ((a : Int) + 2) = (a2 : Int) := by rw [ea2, IntKind.wrap_i64]; omega
              have HA2 := Lib.hid ha2
              have ha2b : a2 ≤ 302 := by omega
              clear ha2
              have hdl : (O.drop k).length = x5 - k := by rw [List.length_drop, HOL.out]
              by_cases hb1 : e < a2
              · have hb1' : (e : Int) < (a2 : Int) := by omega
                have HBAD := Lib.hid (badO_no hby.out (⟨by omega, .inl (by have := HA2.out; have := ha.out; have := HE.out; omega)⟩ : badO (O.drop k)))
                have H71 := Lib.hid (show parC l 71 from .inr (.inl ⟨rfl, N70.out, .inr (.inr (by rw [← HX5.out, ← HO.out]; exact HBAD.out))⟩))
                obtain ⟨t0, t1, t2, t3, t4, t5, t6⟩ := seg_cells (show Blk wr T 56 (segCs zeroS none 0 0 none 0 0) from hkt.out)
                have f0 := hkt.out.frozen 0
                have f1 := hkt.out.frozen 1
                have f2 := hkt.out.frozen 2
                have f3 := hkt.out.frozen 3
                have f4 := hkt.out.frozen 4
                have f5 := hkt.out.frozen 5
                have f6 := hkt.out.frozen 6
                go_wp2_with fail
                have hkz := seg7 (.int .u16 0) (.int .u16 0) (.int .u32 0) (.int .u32 0) (.int .u8 0) (.slice none 0 0) (.slice none 0 0) hkt.out
                have hbz := bel7 (.int .u16 0) (.int .u16 0) (.int .u32 0) (.int .u32 0) (.int .u8 0) (.slice none 0 0) (.slice none 0 0) (Lib.hid hbw).out (show w.heap.size ≤ T by rw [HT.out]; exact Nat.le_refl _)
                unfold put7 at hkz hbz
                generalize (((((((wr.setCell ⟨T, 0, none⟩ (.int .u16 0)).setCell ⟨T, 1, none⟩ (.int .u16 0)).setCell ⟨T, 2, none⟩ (.int .u32 0)).setCell ⟨T, 3, none⟩ (.int .u32 0)).setCell ⟨T, 4, none⟩ (.int .u8 0)).setCell ⟨T, 5, none⟩ (.slice none 0 0)).setCell ⟨T, 6, none⟩ (.slice none 0 0)) = wz at *
                clear t0 t1 t2 t3 t4 t5 t6 f0 f1 f2 f3 f4 f5 f6
                obtain ⟨z0, z1, z2, z3, z4, z5, z6⟩ := seg_cells (show Blk wz T 56 (segCs zeroS none 0 0 none 0 0) from hkz)
                exact bodyPost_ret (v := .tuple #[.agg (segCs zeroS none 0 0 none 0 0), .int .i64 71]) (by simp [results, Try.results39, go_sem, z0, z1, z2, z3, z4, z5, z6, segCs, zeroS]) rfl ⟨parPost_err H71.out (by decide), hbz⟩
              · have hb1' : ¬ (e : Int) < (a2 : Int) := by omega
                have hb1d : decide (e < a2) = false := decide_eq_false hb1
                have ha1n : a + 1 < n := by have := HA2.out; omega
                obtain ⟨a1, ha1⟩ : ∃ a1, a1 = a + 1 := ⟨_, rfl⟩
                have ea1 : (a : Int) + 1 = (a1 : Int) := by omega
                have wa1 : IntKind.i64.wrap ((a : Int) + 1) = (a1 : Int) := by rw [ea1, IntKind.wrap_i64]; omega
                rw [← ha1] at ha1n
                have ha1n' : (a1 : Int) < (n : Int) := by omega
                have han' : (a : Int) < (n : Int) := by omega
                have HA1 := Lib.hid ha1
                clear ha1
                have hRw := HR.out.below hbw
                obtain ⟨b', off', v0, e', _, p0, hv0⟩ := hRw.nth han
                injection e' with e'
                injection e' with e1 e2
                subst e1 e2
                obtain ⟨b', off', v1, e', _, p1, hv1⟩ := hRw.nth ha1n
                injection e' with e'
                injection e' with e1 e2
                subst e1 e2
                have hO0 : (O.drop k)[0]? = some v0 := by rw [HOG.out k 0 (by omega), show 14 + k + 0 = a by have := ha.out; omega]; exact hv0.out
                have hO1 : (O.drop k)[1]? = some v1 := by rw [HOG.out k 1 (by have := HA2.out; have := ha.out; have := HE.out; omega), show 14 + k + 1 = a1 by have := ha.out; have := HA1.out; omega]; exact hv1.out
                have hv1b := HB.out v1 (List.mem_of_getElem? hv1.out)
                clear hRw hv0 hv1
                by_cases hz : v0 = 0
                · subst hz
                  have HBAD := Lib.hid (badO_no hby.out (⟨by omega, .inr (.inl hO0)⟩ : badO (O.drop k)))
                  have H71 := Lib.hid (show parC l 71 from .inr (.inl ⟨rfl, N70.out, .inr (.inr (by rw [← HX5.out, ← HO.out]; exact HBAD.out))⟩))
                  obtain ⟨t0, t1, t2, t3, t4, t5, t6⟩ := seg_cells (show Blk wr T 56 (segCs zeroS none 0 0 none 0 0) from hkt.out)
                  have f0 := hkt.out.frozen 0
                  have f1 := hkt.out.frozen 1
                  have f2 := hkt.out.frozen 2
                  have f3 := hkt.out.frozen 3
                  have f4 := hkt.out.frozen 4
                  have f5 := hkt.out.frozen 5
                  have f6 := hkt.out.frozen 6
                  go_wp2_with fail
                  have hkz := seg7 (.int .u16 0) (.int .u16 0) (.int .u32 0) (.int .u32 0) (.int .u8 0) (.slice none 0 0) (.slice none 0 0) hkt.out
                  have hbz := bel7 (.int .u16 0) (.int .u16 0) (.int .u32 0) (.int .u32 0) (.int .u8 0) (.slice none 0 0) (.slice none 0 0) (Lib.hid hbw).out (show w.heap.size ≤ T by rw [HT.out]; exact Nat.le_refl _)
                  unfold put7 at hkz hbz
                  generalize (((((((wr.setCell ⟨T, 0, none⟩ (.int .u16 0)).setCell ⟨T, 1, none⟩ (.int .u16 0)).setCell ⟨T, 2, none⟩ (.int .u32 0)).setCell ⟨T, 3, none⟩ (.int .u32 0)).setCell ⟨T, 4, none⟩ (.int .u8 0)).setCell ⟨T, 5, none⟩ (.slice none 0 0)).setCell ⟨T, 6, none⟩ (.slice none 0 0)) = wz at *
                  clear t0 t1 t2 t3 t4 t5 t6 f0 f1 f2 f3 f4 f5 f6
                  obtain ⟨z0, z1, z2, z3, z4, z5, z6⟩ := seg_cells (show Blk wz T 56 (segCs zeroS none 0 0 none 0 0) from hkz)
                  exact bodyPost_ret (v := .tuple #[.agg (segCs zeroS none 0 0 none 0 0), .int .i64 71]) (by simp [results, Try.results39, go_sem, z0, z1, z2, z3, z4, z5, z6, segCs, zeroS]) rfl ⟨parPost_err H71.out (by decide), hbz⟩
                · have hz1 : ¬ (v0 : Int) = 0 := by omega
                  have hz2 : ((v0 : Int) == 0) = false := beq_eq_false_iff_ne.2 hz1
                  have wv : IntKind.i64.wrap (v1 : Int) = (v1 : Int) := by rw [IntKind.wrap_i64]; omega
                  obtain ⟨a3, ha3⟩ : ∃ a3, a3 = a2 + v1 := ⟨_, rfl⟩
                  have ea3 : (a2 : Int) + (v1 : Int) = (a3 : Int) := by omega
                  have wa3 : IntKind.i64.wrap ((a2 : Int) + (v1 : Int)) = (a3 : Int) := by rw [ea3, IntKind.wrap_i64]; omega
                  have ha3b : a3 ≤ 600 := by omega
                  have HA3 := Lib.hid ha3
                  clear ha3
                  by_cases hb3 : e < a3
                  · have hb3' : (e : Int) < (a3 : Int) := by omega
                    have HBAD := Lib.hid (badO_no hby.out (⟨by omega, .inr (.inr ⟨v1, hO1, by have := HA3.out; have := HA2.out; have := ha.out; have := HE.out; omega⟩)⟩ : badO (O.drop k)))
                    have H71 := Lib.hid (show parC l 71 from .inr (.inl ⟨rfl, N70.out, .inr (.inr (by rw [← HX5.out, ← HO.out]; exact HBAD.out))⟩))
                    obtain ⟨t0, t1, t2, t3, t4, t5, t6⟩ := seg_cells (show Blk wr T 56 (segCs zeroS none 0 0 none 0 0) from hkt.out)
                    have f0 := hkt.out.frozen 0
                    have f1 := hkt.out.frozen 1
                    have f2 := hkt.out.frozen 2
                    have f3 := hkt.out.frozen 3
                    have f4 := hkt.out.frozen 4
                    have f5 := hkt.out.frozen 5
                    have f6 := hkt.out.frozen 6
                    go_wp2_with fail
                    have hkz := seg7 (.int .u16 0) (.int .u16 0) (.int .u32 0) (.int .u32 0) (.int .u8 0) (.slice none 0 0) (.slice none 0 0) hkt.out
                    have hbz := bel7 (.int .u16 0) (.int .u16 0) (.int .u32 0) (.int .u32 0) (.int .u8 0) (.slice none 0 0) (.slice none 0 0) (Lib.hid hbw).out (show w.heap.size ≤ T by rw [HT.out]; exact Nat.le_refl _)
                    unfold put7 at hkz hbz
                    generalize (((((((wr.setCell ⟨T, 0, none⟩ (.int .u16 0)).setCell ⟨T, 1, none⟩ (.int .u16 0)).setCell ⟨T, 2, none⟩ (.int .u32 0)).setCell ⟨T, 3, none⟩ (.int .u32 0)).setCell ⟨T, 4, none⟩ (.int .u8 0)).setCell ⟨T, 5, none⟩ (.slice none 0 0)).setCell ⟨T, 6, none⟩ (.slice none 0 0)) = wz at *
                    clear t0 t1 t2 t3 t4 t5 t6 f0 f1 f2 f3 f4 f5 f6
                    obtain ⟨z0, z1, z2, z3, z4, z5, z6⟩ := seg_cells (show Blk wz T 56 (segCs zeroS none 0 0 none 0 0) from hkz)
                    exact bodyPost_ret (v := .tuple #[.agg (segCs zeroS none 0 0 none 0 0), .int .i64 71]) (by simp [results, Try.results39, go_sem, z0, z1, z2, z3, z4, z5, z6, segCs, zeroS]) rfl ⟨parPost_err H71.out (by decide), hbz⟩
                  · have hb3' : ¬ (e : Int) < (a3 : Int) := by omega
                    have ha3n : a3 ≤ n := by omega
                    have ha23 : a2 ≤ a3 := by have := HA3.out; omega
                    have hu : Try.prog.underlying 54 = some (.slice (Try.prog.elem 54)) := by unfold Program.elem; rw [Try.underlying54]
                    have hc1 := run_cut_lh pel8 (some ⟨b, off, none⟩) n c a2 a3 ha23 (by omega)
                    have hc2 : ∀ w, (Instr.sliceAt 54 (.slice (some ⟨b, off, none⟩) n c) (some (.int .i64 (a2 : Int))) (some (.int .i64 (a3 : Int))) none).run Try.prog w = _ := fun w => (run_sliceAt_slice w _ _ _ _ _ hu).trans (hc1 w)
                    have hrB := (HR.out.takeN ha3n).dropN ha23 (show a3 ≤ c by omega)
                    have eY : cutA (some ⟨b, off, none⟩) c a2 1 = (if c = a2 then some ⟨b, off, none⟩ else (some (⟨b, off, none⟩ : Addr)).map (·.add a2)) := by unfold cutA; rw [Nat.mul_one]
                    rw [← eY] at hrB
                    clear eY hu
                    generalize cutA (some ⟨b, off, none⟩) c a2 1 = Y at *
                    rw [show a3 - a2 = v1 by have := HA3.out; omega] at hrB hc1 hc2
                    obtain ⟨bd, hbd⟩ : ∃ bd, bd = ((O.drop k).take (2 + v1)).drop 2 := ⟨_, rfl⟩
                    have hbe : (l.take a3).drop a2 = bd := by
                      rw [hbd, HO.out, ← body_mid (show k + 2 + v1 ≤ x5 by have := HA3.out; have := HA2.out; have := ha.out; have := HE.out; omega), show a3 = 14 + k + 2 + v1 by have := HA3.out; have := HA2.out; have := ha.out; omega, show a2 = 14 + k + 2 by have := HA2.out; have := ha.out; omega]
                    rw [hbe] at hrB
                    have hst := okO_step hby.out hO0 hO1 (by rw [hdl]; have := HA3.out; have := HA2.out; have := ha.out; have := HE.out; omega)
                    rw [← hbd] at hst
                    have hbl : bd.length = v1 := hrB.natLen
                    have HBL := Lib.hid hbl
                    have HRB := Lib.hid (hrB.below hbw)
                    have HST := Lib.hid hst
                    obtain ⟨qq, hqq⟩ : ∃ qq, qq = 2 + v1 := ⟨_, rfl⟩
                    have eqq : (2 : Int) + (v1 : Int) = (qq : Int) := by omega
                    have wqq : IntKind.i64.wrap ((2 : Int) + (v1 : Int)) = (qq : Int) := by rw [eqq, IntKind.wrap_i64]; omega
                    have eaq : (a : Int) + (qq : Int) = (a3 : Int) := by have := HA3.out; have := HA2.out; omega
                    have waq : IntKind.i64.wrap ((a : Int) + (qq : Int)) = (a3 : Int) := by rw [eaq, IntKind.wrap_i64]; omega
                    have HQQ := Lib.hid hqq
                    have va2 : IntKind.i64.wrap (a2 : Int) = (a2 : Int) := by rw [IntKind.wrap_i64]; omega
                    have va3 : IntKind.i64.wrap (a3 : Int) = (a3 : Int) := by rw [IntKind.wrap_i64]; omega
                    have vqq : IntKind.i64.wrap (qq : Int) = (qq : Int) := by rw [IntKind.wrap_i64]; omega
                    have ks5 : wr.cell? ⟨Ts, 5, none⟩ = some (.slice A7 os.length c7) := by rw [hks.out.cell]; rfl
                    clear hbd hbe hst hrB hO0 hO1 hdl hbl hqq hby
                    go_wp2_with fail
                    refine OB.wp_ord [(0, .pure), (1, .read), (2, .pure), (3, .pure), (4, .pure), (5, .read), (7, .pure), (8, .pure), (9, .pure), (10, .pure), (11, .pure), (12, .pure), (13, .pure), (14, .pure), (6, .sole), (15, .sole), (16, .pure), (17, .sole), (18, .sole), (19, .pure), (20, .sole)] ⟨fun k => k = Ts ∨ k < T, [18, 20]⟩ (by kernel_rfl) (by kernel_rfl) (fun QQ hQ wd hwd => ?_); (try simp only [List.map_cons, List.map_nil, List.getD_cons_zero, List.getD_cons_succ])
                    have y5 : wd.cell? ⟨Ts, 5, none⟩ = some (.slice A7 os.length c7) := by rw [hwd.out]; exact ks5
                    have y0' : wd.cell? ⟨b, off + a, none⟩ = some (.int .u8 (v0 : Int)) := by rw [hwd.out]; exact p0
                    have OD := Lib.hid (show wd.ownsRow (Ts + 1) 74 2 (.slice A7 os.length c7) os.length (ocs os) by rw [hwd.out]; exact hown.out)
                    have PD := Lib.hid (show ∀ p ∈ os, OwnB wd (Ts + 1) p by rw [hwd.out]; exact hbod.out)
                    have KS := Lib.hid (show Blk wd Ts 56 #[.int .u16 (x0 : Int), .int .u16 (x1 : Int), .int .u32 (x2 : Int), .int .u32 (x3 : Int), .int .u8 (x4 : Int), .slice A7 os.length c7, .slice none 0 0] by rw [hwd.out]; exact hks.out)
                    have KT := Lib.hid (show Blk wd T 56 #[.int .u16 0, .int .u16 0, .int .u32 0, .int .u32 0, .int .u8 0, .slice none 0 0, .slice none 0 0] by rw [hwd.out]; exact hkt.out)
                    have BD := Lib.hid (show Below w.heap.size w wd by rw [hwd.out]; exact hbw.drew)
                    have RB := Lib.hid (show Rd wd w.heap.size 1 Y v1 (ns .u8 bd) by rw [hwd.out]; exact HRB.out)
                    have hTd : Ts < wd.heap.size := KS.out.lt
                    have hbT : b < T := by rw [HT.out]; exact hbb
                    clear hwd ks5 p0 p1 hown hbod hks hkt hbw HRB hTw
                    (refine OB.o_pure (v := ?_) (by rfl) (fun w' => ?_) ?_; rotate_left; (focus (go_simp; (try with_reducible rfl))); (try simp only [Act.put, List.setIfInBounds_toArray, List.set_cons_zero, List.set_cons_succ]))
                    (refine OB.o_load _ (by rfl) rfl rfl (by dsimp only; first | assumption | omega) (by assumption) (by kernel_rfl) ?_; simp only [Act.put, List.setIfInBounds_toArray, List.set_cons_zero, List.set_cons_succ])
                    (refine OB.o_pure (v := ?_) (by rfl) (fun w' => ?_) ?_; rotate_left; (focus (go_simp; (try with_reducible rfl))); (try simp only [Act.put, List.setIfInBounds_toArray, List.set_cons_zero, List.set_cons_succ]))
                    (refine OB.o_pure (v := ?_) (by rfl) (fun w' => ?_) ?_; rotate_left; (focus (go_simp; (try with_reducible rfl))); (try simp only [Act.put, List.setIfInBounds_toArray, List.set_cons_zero, List.set_cons_succ]))
                    (refine OB.o_pure (v := ?_) (by rfl) (fun w' => ?_) ?_; rotate_left; (focus (go_simp; (try with_reducible rfl))); (try simp only [Act.put, List.setIfInBounds_toArray, List.set_cons_zero, List.set_cons_succ]))
                    (refine OB.o_load _ (by rfl) rfl rfl (by dsimp only; first | assumption | omega) (by assumption) (by kernel_rfl) ?_; simp only [Act.put, List.setIfInBounds_toArray, List.set_cons_zero, List.set_cons_succ])
                    (refine OB.o_pure (v := ?_) (by rfl) (fun w' => ?_) ?_; rotate_left; (focus (go_simp; (try with_reducible rfl))); (try simp only [Act.put, List.setIfInBounds_toArray, List.set_cons_zero, List.set_cons_succ]))
                    (refine OB.o_pure (v := ?_) (by rfl) (fun w' => ?_) ?_; rotate_left; (focus (go_simp; (try with_reducible rfl))); (try simp only [Act.put, List.setIfInBounds_toArray, List.set_cons_zero, List.set_cons_succ]))
                    (refine OB.o_pure (v := ?_) (by rfl) (fun w' => ?_) ?_; rotate_left; (focus (go_simp; (try with_reducible rfl))); (try simp only [Act.put, List.setIfInBounds_toArray, List.set_cons_zero, List.set_cons_succ]))
                    (refine OB.o_pure (v := ?_) (by rfl) (fun w' => ?_) ?_; rotate_left; (focus (go_simp; (try with_reducible rfl))); (try simp only [Act.put, List.setIfInBounds_toArray, List.set_cons_zero, List.set_cons_succ]))
                    (refine OB.o_pure (v := ?_) (by rfl) (fun w' => ?_) ?_; rotate_left; (focus (go_simp; (try with_reducible rfl))); (try simp only [Act.put, List.setIfInBounds_toArray, List.set_cons_zero, List.set_cons_succ]))
                    (refine OB.o_pure (v := ?_) (by rfl) (fun w' => ?_) ?_; rotate_left; (focus (go_simp; (try with_reducible rfl))); (try simp only [Act.put, List.setIfInBounds_toArray, List.set_cons_zero, List.set_cons_succ]))
                    (refine OB.o_pure (v := ?_) (by rfl) (fun w' => ?_) ?_; rotate_left; (focus (go_simp; (try with_reducible rfl))); (try simp only [Act.put, List.setIfInBounds_toArray, List.set_cons_zero, List.set_cons_succ]))
                    (refine OB.o_pure (v := ?_) (by rfl) (fun w' => ?_) ?_; rotate_left; (focus (go_simp; (try with_reducible rfl))); (try simp only [Act.put, List.setIfInBounds_toArray, List.set_cons_zero, List.set_cons_succ]))
                    refine OB.o_sole (fun K hK => ?_)
                    go_wp2_with fail
                    refine hK _ _ (fun _ => OB.ExtB.at_ ((Below.refl _ _).alloc (Nat.le_refl _) _) (fun k hk => by dsimp only at hk; omega)) ?_; clear hK K
                    refine OB.o_sole (fun K hK => ?_)
                    refine appn pel8 rfl (.tmp 105) (.tmp 113) rfl rfl (Nats.lit0 wd 5 .u8 (Nat.le_refl _)) rfl (RB.out.alloc BD.out.size _) (by rw [HBL.out]; simp only [List.length_nil]; exact room_ge (by omega)) (by simp) ?_
                    intro w15v w15 hN15 _ hb15
                    rw [List.nil_append] at hN15
                    have hbA : Below wd.heap.size wd w15 := ((Below.refl _ _).alloc (Nat.le_refl _) _).trans hb15
                    refine wpList_nil ?_
                    refine hK _ _ (fun _ => OB.ExtB.at_ hb15 (fun k hk => by dsimp only at hk; omega)) ?_; clear hK K
                    obtain ⟨A15, n15, c15, rfl, hnc15, hl15, _⟩ := hN15.out
                    have hn15 : n15 = v1 := by have := hl15.out; have := HBL.out; omega
                    subst hn15
                    have O15 := Lib.hid (own_below OD.out hbA fun g hg => (OD.out.lt g hg).2)
                    have P15 := Lib.hid (show ∀ p ∈ os ++ [(v0, (⟨A15, n15, c15, bd⟩ : Body))], OwnB w15 (Ts + 1) p from by
                      intro p hp
                      rcases List.mem_append.1 hp with hp | hp
                      · exact (PD.out p hp).below hbA
                      · simp only [List.mem_singleton] at hp
                        subst hp
                        exact Nats.mono hN15 hTd)
                    have KS15 := Lib.hid (KS.out.below hbA hTd)
                    have KT15 := Lib.hid (KT.out.below hbA (by omega))
                    have B15 := Lib.hid (BD.out.trans (hbA.mono BD.out.size))
                    have hT15 : Ts + 1 ≤ w15.heap.size := Nat.le_trans hTd hbA.size
                    clear hN15 hb15 hbA hl15 OD PD KS KT BD RB y5 y0'
                    (refine OB.o_pure (v := ?_) (by rfl) (fun w' => ?_) ?_; rotate_left; (focus (go_simp; (try with_reducible rfl))); (try simp only [Act.put, List.setIfInBounds_toArray, List.set_cons_zero, List.set_cons_succ]))
                    refine OB.o_sole (fun K hK => ?_)
                    go_wp2_with fail
                    refine hK _ _ (fun _ => OB.ExtB.at_ ((Below.refl _ _).alloc (Nat.le_refl _) _) (fun k hk => by dsimp only at hk; omega)) ?_; clear hK K
                    refine OB.o_sole (fun K hK => ?_)
                    refine app1o poel (v0, ⟨A15, n15, c15, bd⟩) rfl (.tmp 100) (.tmp 116) rfl rfl O15.out rfl rfl hroom hT15 ?_
                    intro w18v w18 ho18 hg18 hb18
                    have O18 := Lib.hid ho18
                    have P18 := Lib.hid (show ∀ p ∈ os ++ [(v0, (⟨A15, n15, c15, bd⟩ : Body))], OwnB w18 (Ts + 1) p from fun p hp => (P15.out p hp).grown O15.out hg18)
                    have KS18 := Lib.hid (KS15.out.far2 O15.out (by decide) hg18)
                    have KT18 := Lib.hid (KT15.out.far2 O15.out (by decide) hg18)
                    have B18 := Lib.hid (B15.out.trans (hb18.mono (by have := HT.out; omega)))
                    obtain ⟨A18, c18, e18, hnc18, hcm18, _⟩ := own_form O18.out
                    rw [show (os ++ [(v0, (⟨A15, n15, c15, bd⟩ : Body))]).length = os.length + 1 by simp] at e18
                    subst e18
                    refine wpList_nil ?_
                    refine hK _ _ (fun h => by cases h) ?_; clear hK K
                    clear ho18 hg18 hb18 O15 P15 KS15 KT15 B15
                    have ks5 : w18.cell? ⟨Ts, 5, none⟩ = some (.slice A7 os.length c7) := by rw [KS18.out.cell]; rfl
                    have kf5 := KS18.out.frozen 5
                    (refine OB.o_pure (v := ?_) (by rfl) (fun w' => ?_) ?_; rotate_left; (focus (go_simp; (try with_reducible rfl))); (try simp only [Act.put, List.setIfInBounds_toArray, List.set_cons_zero, List.set_cons_succ]))
                    refine OB.o_sole (fun K hK => ?_)
                    go_wp2_with fail
                    refine hK _ _ (fun h => by cases h) ?_; clear hK K
                    have hsolo : Solo Ts w18 (w18.setCell ⟨Ts, 5, none⟩ (.slice A18 (os.length + 1) c18)) := Solo.refl.setCell 5 _
                    have KZ := Lib.hid (show Blk (w18.setCell ⟨Ts, 5, none⟩ (.slice A18 (os.length + 1) c18)) Ts 56 #[.int .u16 (x0 : Int), .int .u16 (x1 : Int), .int .u32 (x2 : Int), .int .u32 (x3 : Int), .int .u8 (x4 : Int), .slice A18 (os.length + 1) c18, .slice none 0 0] from KS18.out.set 5 _)
                    have KTZ := Lib.hid (hsolo.blk KT18.out (by omega))
                    have BZ := Lib.hid (B18.out.setCell (p := ⟨Ts, 5, none⟩) (show w.heap.size ≤ Ts by have := HT.out; omega) (.slice A18 (os.length + 1) c18))
                    have OZ := Lib.hid (own_kept O18.out fun g hg => hsolo.2.2 g (by have := (O18.out.lt g hg).1; omega))
                    have PZ := Lib.hid (show ∀ p ∈ os ++ [(v0, (⟨A15, n15, c15, bd⟩ : Body))], OwnB (w18.setCell ⟨Ts, 5, none⟩ (.slice A18 (os.length + 1) c18)) (Ts + 1) p from fun p hp => (P18.out p hp).kept fun g hg _ _ => hsolo.2.2 g (by omega))
                    clear hsolo KS18 KT18 B18 O18 P18 ks5 kf5 hnc18 hcm18
                    generalize w18.setCell ⟨Ts, 5, none⟩ (.slice A18 (os.length + 1) c18) = wz at *
                    refine OB.o_nil (hQ.out _ _ ?_); clear hQ QQ
                    go_wp2_with fail
                    go_roundw
                    case rel =>
                      refine ⟨k + (2 + n15), a3, os ++ [(v0, ⟨A15, n15, c15, bd⟩)], _, ?_, Lib.hid ?_, rfl, Lib.hid ?_, Lib.hid ?_, OZ, PZ, ?_, KZ, KTZ, BZ.out⟩
                      · have := HA3.out; have := HA2.out; have := ha.out; have := HE.out; omega
                      · have := HA3.out; have := HA2.out; have := ha.out; omega
                      · have h1 := HST.out
                        unfold osay at h1 ⊢
                        rw [List.map_append]
                        exact h1
                      · intro p hp
                        unfold osay at hp
                        rw [List.map_append] at hp
                        rcases List.mem_append.1 hp with hp | hp
                        · exact hkd.out p hp
                        · simp at hp; subst hp; exact hz
                      · rw [List.length_append]; simp; omega
                    case measure => simp [intOf]; have := HA3.out; have := HA2.out; omega
            · skip
              have hae' : ¬ (a : Int) < (e : Int) := by omega
              have hax : a = e := by have := ha.out; have := HE.out; omega
              have hkx3 : k = x5 := by have := ha.out; have := HE.out; omega
              have hby2 := hby.out
              rw [List.take_of_length_le (by rw [HOL.out]; omega), HO.out] at hby2
              have HOPT := Lib.hid (show isOpts ((l.drop 14).take (l.getD 13 0)) (osay os) from by rw [← HX5.out]; exact ⟨hby2, hkd.out⟩)
              have N71 := Lib.hid (show ¬ is71 l from fun h => by
                unfold is71 at h
                rw [← HX5.out] at h
                rcases h with h | h | h
                · omega
                · have := HL.out; have := HE.out; omega
                · exact h ⟨_, by rw [HX5.out]; exact HOPT.out⟩)
              clear hby2 hby
              obtain ⟨dn, hdn⟩ : ∃ dn, dn = n - e := ⟨_, rfl⟩
              subst hax
              have edn : (n : Int) - (a : Int) = (dn : Int) := by omega
              have wdn : IntKind.i64.wrap ((n : Int) - (a : Int)) = (dn : Int) := by rw [edn, IntKind.wrap_i64]; omega
              have wdn2 : IntKind.i64.wrap (dn : Int) = (dn : Int) := by rw [IntKind.wrap_i64]; omega
              have HDN := Lib.hid hdn
              have hdn2 : dn ≤ 10000 := by omega
              by_cases hd : 1024 < dn
              · have hd' : (1024 : Int) < (dn : Int) := by omega
                have H72 := Lib.hid (show parC l 72 from .inr (.inr (.inl ⟨rfl, N70.out, N71.out, by unfold is72; rw [← HX5.out]; have := HL.out; have := HDN.out; have := HE.out; omega⟩)))
                clear hdn
                obtain ⟨t0, t1, t2, t3, t4, t5, t6⟩ := seg_cells (show Blk wr T 56 (segCs zeroS none 0 0 none 0 0) from hkt.out)
                have f0 := hkt.out.frozen 0
                have f1 := hkt.out.frozen 1
                have f2 := hkt.out.frozen 2
                have f3 := hkt.out.frozen 3
                have f4 := hkt.out.frozen 4
                have f5 := hkt.out.frozen 5
                have f6 := hkt.out.frozen 6
                go_wp2_with fail
                have hkz := seg7 (.int .u16 0) (.int .u16 0) (.int .u32 0) (.int .u32 0) (.int .u8 0) (.slice none 0 0) (.slice none 0 0) hkt.out
                have hbz := bel7 (.int .u16 0) (.int .u16 0) (.int .u32 0) (.int .u32 0) (.int .u8 0) (.slice none 0 0) (.slice none 0 0) (Lib.hid hbw).out (show w.heap.size ≤ T by rw [HT.out]; exact Nat.le_refl _)
                unfold put7 at hkz hbz
                generalize (((((((wr.setCell ⟨T, 0, none⟩ (.int .u16 0)).setCell ⟨T, 1, none⟩ (.int .u16 0)).setCell ⟨T, 2, none⟩ (.int .u32 0)).setCell ⟨T, 3, none⟩ (.int .u32 0)).setCell ⟨T, 4, none⟩ (.int .u8 0)).setCell ⟨T, 5, none⟩ (.slice none 0 0)).setCell ⟨T, 6, none⟩ (.slice none 0 0)) = wz at *
                clear t0 t1 t2 t3 t4 t5 t6 f0 f1 f2 f3 f4 f5 f6
                obtain ⟨z0, z1, z2, z3, z4, z5, z6⟩ := seg_cells (show Blk wz T 56 (segCs zeroS none 0 0 none 0 0) from hkz)
                exact bodyPost_ret (v := .tuple #[.agg (segCs zeroS none 0 0 none 0 0), .int .i64 72]) (by simp [results, Try.results39, go_sem, z0, z1, z2, z3, z4, z5, z6, segCs, zeroS]) rfl ⟨parPost_err H72.out (by decide), hbz⟩
              · have hd' : ¬ (1024 : Int) < (dn : Int) := by omega
                have N72 := Lib.hid (show ¬ is72 l from fun h => by unfold is72 at h; rw [← HX5.out] at h; have := HL.out; have := HDN.out; have := HE.out; omega)
                have H0 := Lib.hid (show parC l 0 from .inr (.inr (.inr ⟨rfl, N70.out, N71.out, N72.out⟩)))
                have SG := Lib.hid (segOf_ok (l := osay os) HB.out N70.out HOPT.out (by rw [← HX5.out]; have := HL.out; have := HE.out; omega) (by rw [← HX5.out]; omega) N72.out)
                have hu : Try.prog.underlying 54 = some (.slice (Try.prog.elem 54)) := by unfold Program.elem; rw [Try.underlying54]
                have hc3 := run_cut_l pel8 (some ⟨b, off, none⟩) n c a hen
                have hc4 : ∀ w, (Instr.sliceAt 54 (.slice (some ⟨b, off, none⟩) n c) (some (.int .i64 (a : Int))) none none).run Try.prog w = _ := fun w => (run_sliceAt_slice w _ _ _ _ _ hu).trans (hc3 w)
                have hrD := HR.out.dropN hen hnc
                have eZ : cutA (some ⟨b, off, none⟩) c a 1 = (if c = a then some ⟨b, off, none⟩ else (some (⟨b, off, none⟩ : Addr)).map (·.add a)) := by unfold cutA; rw [Nat.mul_one]
                rw [← eZ] at hrD
                clear eZ hu
                generalize cutA (some ⟨b, off, none⟩) c a 1 = Z at *
                rw [← hdn] at hrD hc3 hc4
                have RD := Lib.hid (hrD.below hbw)
                have hdl := hrD.natLen
                have HDL := Lib.hid hdl
                clear hrD hdl hdn
                go_wp2_with (at_builtin; go_must (refine appn pel8 rfl _ _ rfl rfl (Nats.lit0 wr 5 .u8 (Nat.le_refl _)) rfl (RD.out.alloc hbw.size _) (by rw [HDL.out]; simp only [List.length_nil]; exact room_ge (by omega)) (by simp) ?_))
                intro w9v w9 hN9 _ hb9
                have hbA : Below wr.heap.size wr w9 := ((Below.refl _ _).alloc (Nat.le_refl _) _).trans hb9
                obtain ⟨A9, n9, c9, rfl, hnc9, hl9, hr9⟩ := hN9.out
                have hcm9 : c9 ≤ maxLen := by
                  obtain ⟨_, _, e9, _, h9, _⟩ := own_form (show w9.ownsRow wr.heap.size 5 1 (.slice A9 n9 c9) _ _ from hN9)
                  injection e9 with _ _ e9
                  rw [e9]
                  exact h9
                have HCM9 := Lib.hid hcm9
                have HA9 := Lib.hid (show ∀ b o, A9 = some ⟨b, o, none⟩ → Ts < b from fun b o e => by
                  subst e
                  have h1 := ((show w9.ownsRow wr.heap.size 5 1 (.slice (some ⟨b, o, none⟩) n9 c9) _ _ from hN9).lt b rfl).1
                  omega)
                have O9 := Lib.hid (own_below hown.out hbA fun g hg => (hown.out.lt g hg).2)
                have P9 := Lib.hid (show ∀ p ∈ os, OwnB w9 (Ts + 1) p from fun p hp => (hbod.out p hp).below hbA)
                have KS9 := Lib.hid (hks.out.below hbA hTw)
                have KT9 := Lib.hid (hkt.out.below hbA (by omega))
                have B9 := Lib.hid (hbw.trans (hbA.mono hbw.size))
                have R9 := hr9
                clear hN9 hb9 hbA hcm9 hr9 hl9 hown hbod hks hkt hbw RD
                have k0 : w9.cell? ⟨Ts, 0, none⟩ = some (.int .u16 (x0 : Int)) := by rw [KS9.out.cell]; rfl
                have k1 : w9.cell? ⟨Ts, 1, none⟩ = some (.int .u16 (x1 : Int)) := by rw [KS9.out.cell]; rfl
                have k2 : w9.cell? ⟨Ts, 2, none⟩ = some (.int .u32 (x2 : Int)) := by rw [KS9.out.cell]; rfl
                have k3 : w9.cell? ⟨Ts, 3, none⟩ = some (.int .u32 (x3 : Int)) := by rw [KS9.out.cell]; rfl
                have k4 : w9.cell? ⟨Ts, 4, none⟩ = some (.int .u8 (x4 : Int)) := by rw [KS9.out.cell]; rfl
                have k5 : w9.cell? ⟨Ts, 5, none⟩ = some (.slice A7 os.length c7) := by rw [KS9.out.cell]; rfl
                have k6 : w9.cell? ⟨Ts, 6, none⟩ = some (.slice none 0 0) := by rw [KS9.out.cell]; rfl
                have kf6 := KS9.out.frozen 6
                have hsolo : Solo Ts w9 (w9.setCell ⟨Ts, 6, none⟩ (.slice A9 n9 c9)) := Solo.refl.setCell 6 _
                have KSX := Lib.hid (show Blk (w9.setCell ⟨Ts, 6, none⟩ (.slice A9 n9 c9)) Ts 56 #[.int .u16 (x0 : Int), .int .u16 (x1 : Int), .int .u32 (x2 : Int), .int .u32 (x3 : Int), .int .u8 (x4 : Int), .slice A7 os.length c7, .slice A9 n9 c9] from KS9.out.set 6 _)
                have KTX := Lib.hid (hsolo.blk KT9.out (by omega))
                have BX := Lib.hid (B9.out.setCell (p := ⟨Ts, 6, none⟩) (show w.heap.size ≤ Ts by have := HT.out; omega) (.slice A9 n9 c9))
                have OX := Lib.hid (own_kept O9.out fun g hg => hsolo.2.2 g (by have := (O9.out.lt g hg).1; omega))
                have PX := Lib.hid (show ∀ p ∈ os, OwnB (w9.setCell ⟨Ts, 6, none⟩ (.slice A9 n9 c9)) (Ts + 1) p from fun p hp => (P9.out p hp).kept fun g hg _ _ => hsolo.2.2 g (by omega))
                have RX := Lib.hid (R9.out.solo hsolo HA9.out)
                obtain ⟨k0', k1', k2', k3', k4', k5', k6'⟩ := seg_cells (g := ⟨x0, x1, x2, x3, x4, [], []⟩) (show Blk (w9.setCell ⟨Ts, 6, none⟩ (.slice A9 n9 c9)) Ts 56 (segCs ⟨x0, x1, x2, x3, x4, [], []⟩ A7 os.length c7 A9 n9 c9) from KSX.out)
                obtain ⟨t0, t1, t2, t3, t4, t5, t6⟩ := seg_cells (show Blk (w9.setCell ⟨Ts, 6, none⟩ (.slice A9 n9 c9)) T 56 (segCs zeroS none 0 0 none 0 0) from KTX.out)
                have f0 := KTX.out.frozen 0
                have f1 := KTX.out.frozen 1
                have f2 := KTX.out.frozen 2
                have f3 := KTX.out.frozen 3
                have f4 := KTX.out.frozen 4
                have f5 := KTX.out.frozen 5
                have f6 := KTX.out.frozen 6
                dsimp only at k0' k1' k2' k3' k4' k5' k6'
                clear k0 k1 k2 k3 k4 k5
                clear hsolo KS9 KT9 B9 O9 P9 R9
                have hwx := fun (Q : World → Prop) (h : Q (w9.setCell ⟨Ts, 6, none⟩ (.slice A9 n9 c9))) => h
                clear hwx
                go_wp2_with fail
                have hkz := seg7 (.int .u16 (x0 : Int)) (.int .u16 (x1 : Int)) (.int .u32 (x2 : Int)) (.int .u32 (x3 : Int)) (.int .u8 (x4 : Int)) (.slice A7 os.length c7) (.slice A9 n9 c9) KTX.out
                have hbz := bel7 (.int .u16 (x0 : Int)) (.int .u16 (x1 : Int)) (.int .u32 (x2 : Int)) (.int .u32 (x3 : Int)) (.int .u8 (x4 : Int)) (.slice A7 os.length c7) (.slice A9 n9 c9) BX.out (show w.heap.size ≤ T by rw [HT.out]; exact Nat.le_refl _)
                have hsz := solo7 (w := (w9.setCell ⟨Ts, 6, none⟩ (.slice A9 n9 c9))) (T := T) (.int .u16 (x0 : Int)) (.int .u16 (x1 : Int)) (.int .u32 (x2 : Int)) (.int .u32 (x3 : Int)) (.int .u8 (x4 : Int)) (.slice A7 os.length c7) (.slice A9 n9 c9)
                unfold put7 at hkz hbz hsz
                have HKZ := Lib.hid hkz
                have HBZ := Lib.hid hbz
                have HSZ := Lib.hid hsz
                clear hkz hbz hsz t0 t1 t2 t3 t4 t5 t6 f0 f1 f2 f3 f4 f5 f6 k0' k1' k2' k3' k4' k5' k6' KTX BX KSX
                generalize ((((((((w9.setCell ⟨Ts, 6, none⟩ (.slice A9 n9 c9)).setCell ⟨T, 0, none⟩ (.int .u16 (x0 : Int))).setCell ⟨T, 1, none⟩ (.int .u16 (x1 : Int))).setCell ⟨T, 2, none⟩ (.int .u32 (x2 : Int))).setCell ⟨T, 3, none⟩ (.int .u32 (x3 : Int))).setCell ⟨T, 4, none⟩ (.int .u8 (x4 : Int))).setCell ⟨T, 5, none⟩ (.slice A7 os.length c7)).setCell ⟨T, 6, none⟩ (.slice A9 n9 c9)) = wz at *
                have hg : segCs (segOf l (osay os)) A7 os.length c7 A9 n9 c9 = #[.int .u16 (x0 : Int), .int .u16 (x1 : Int), .int .u32 (x2 : Int), .int .u32 (x3 : Int), .int .u8 (x4 : Int), .slice A7 os.length c7, .slice A9 n9 c9] := by
                  unfold segCs segOf
                  rw [← HX0.out, ← HX1.out, ← HX2.out, ← HX3.out, ← HX4.out]
                obtain ⟨z0, z1, z2, z3, z4, z5, z6⟩ := seg_cells (show Blk wz T 56 (segCs (segOf l (osay os)) A7 os.length c7 A9 n9 c9) from by rw [hg]; exact HKZ.out)
                have HSV : SegV wz (.agg (segCs (segOf l (osay os)) A7 os.length c7 A9 n9 c9)) (segOf l (osay os)) := by
                  refine ⟨A7, os.length, c7, A9, n9, c9, os, rfl, ⟨(Rd.of_own OX.out).solo HSZ.out (fun b o e => by
                    have h1 := OX.out
                    rw [e] at h1
                    have := (h1.lt b rfl).1
                    omega), fun p hp => ⟨(PX.out p hp).rd.1.solo HSZ.out (fun b o e => by
                    have := ((show World.ownsRow _ (Ts + 1) 5 1 (.slice p.2.A p.2.n p.2.c) _ _ from PX.out p hp).lt b (by rw [e]; rfl)).1
                    omega), (PX.out p hp).rd.2⟩, HC7.out⟩, rfl, ?_, hnc9, HCM9.out⟩
                  have h1 := RX.out.solo HSZ.out (fun b o e => by have := HA9.out b o e; omega)
                  have h2 : (segOf l (osay os)).data = l.drop a := by unfold segOf; dsimp only; rw [← HX5.out, ← HE.out]
                  rw [h2]
                  exact h1
                exact bodyPost_ret (v := .tuple #[.agg (segCs (segOf l (osay os)) A7 os.length c7 A9 n9 c9), .int .i64 0]) (by simp [results, Try.results39, go_sem, z0, z1, z2, z3, z4, z5, z6, segCs]) rfl ⟨⟨_, 0, segOf l (osay os), rfl, H0.out, HSV, SG.out.2.2, fun _ => ⟨SG.out.1, SG.out.2.1⟩, fun h => absurd rfl h⟩, HBZ.out⟩
end Go.Proofs.Ytiabafnfiedlcaa
