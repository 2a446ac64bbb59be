/- Layer 6: the law SpansPlay answers true, and nothing that was there has turned. -/
import Derived.Test.YtiabafnfiedlcaaLawSpF
import Derived.Test.YtiabafnfiedlcaaSpk
namespace Go.Proofs.Ytiabafnfiedlcaa
open Go.RowKit
set_option linter.unusedVariables false
theorem Pcs.rd {w : World} {e : TypeId} {B n c : Nat} {A : Option Addr} {l : List Sp} (h : Pcs w e B (.slice A n c) l) (hn : l.length = n) : Rd w w.heap.size 2 A n (cels l) := by
  unfold Pcs at h
  rw [hn] at h
  exact Rd.of_own h
/-- The document's pieces are none of what a call on a set turns. -/
theorem Pcs.keptS {w w' : World} {g B B' most : Nat} {v v' rv : Value} {l l' : List Sp} (h : Pcs w 40 B rv l) (hS : SetI w g B' most v l') (hk : KeptS g v v' w w') : Pcs w' 40 B rv l := by
  refine own_kept h fun q hq => ?_
  have hlt := (h.lt q hq).2
  rcases own_open h with ⟨rfl, _⟩ | ⟨g', c', L, rfl, _, hb, _⟩
  · cases hq
  · have e : g' = q := by injection hq
    subst e
    refine hk.1 g' hlt ?_ ?_
    · rintro rfl
      have h1 := hS.blk
      unfold Blk at h1 hb
      rw [h1] at hb
      injection hb with hb
      injection hb with _ ht
      exact absurd ht (by decide)
    · intro hv
      rcases own_open hS.own with ⟨rfl, _⟩ | ⟨g2, c2, L2, rfl, _, hb2, _⟩
      · cases hv
      · have e : g2 = g' := by injection hv
        subst e
        unfold Blk at hb2 hb
        rw [hb2] at hb
        injection hb with hb
        injection hb with _ ht
        exact absurd ht (by decide)
theorem Blk.keptS {w w' : World} {g q B' most : Nat} {v v' : Value} {l' : List Sp} {cs : Array Value} (h : Blk w q 25 cs) (hS : SetI w g B' most v l') (hk : KeptS g v v' w w') : Blk w' q 25 cs := by
  refine (hk.1 q h.lt ?_ ?_).trans h
  · rintro rfl
    have h1 := hS.blk
    unfold Blk at h1 h
    rw [h1] at h
    injection h with h
    injection h with _ ht
    exact absurd ht (by decide)
  · intro hv
    rcases own_open hS.own with ⟨rfl, _⟩ | ⟨g2, c2, L2, rfl, _, hb2, _⟩
    · cases hv
    · have e : g2 = q := by injection hv
      subst e
      unfold Blk at hb2 h
      rw [hb2] at h
      injection h with h
      injection h with _ ht
      exact absurd ht (by decide)
set_option maxRecDepth 20000 in
set_option maxHeartbeats 8000000 in
theorem spansPlay_walk (many : Int) (A : Option Addr) (n c : Nat) (lo : List (Int × Nat × Nat)) (kx : Int) (xf xt : Nat) (w : World) (hm : -9223372036854775808 ≤ many ∧ many < 9223372036854775808) (h : Rd w w.heap.size 3 A n (ocel lo)) (hnc : n ≤ c) (hmax : c ≤ maxLen)
    (hb : ∀ p ∈ lo, (-9223372036854775808 ≤ p.1 ∧ p.1 < 9223372036854775808) ∧ p.2.1 < pmax ∧ p.2.2 < pmax) (hf : xf < pmax) (ht : xt < pmax) :
    Calls Try.prog 3 #[.int .i64 many, .slice A n c, .agg #[.int .i64 kx, .int .u64 (xf : Int), .int .u64 (xt : Int)]] w fun e w' => e = .returned (.bool true) ∧ Below w.heap.size w w' := by
  have HR := Lib.hid h
  have HLN := Lib.hid h.ocLen
  have HBD := Lib.hid hb
  have HF := Lib.hid hf
  have HT := Lib.hid ht
  have HMB := Lib.hid hm
  unfold maxLen at hmax
  have HBK := Lib.hid (Blk.new w 25 #[.int .i64 kx, .int .u64 (xf : Int), .int .u64 (xt : Int)])
  have HB0 := Lib.hid ((Below.refl w.heap.size w).alloc (Nat.le_refl _) (.cells #[.int .i64 kx, .int .u64 (xf : Int), .int .u64 (xt : Int)] 25))
  clear h hb hf ht hm
  by_cases hn : 100 < n
  · have hn' : (100 : Int) < (n : Int) := by omega
    go_enter Try.func3, Try.ntmps3
    go_wp2_with fail
    go_ret
    exact ⟨rfl, HB0.out⟩
  have hn3 : n ≤ 100 := by omega
  have hn4 : (n : Int) ≤ 100 := by omega
  clear hn
  go_enter Try.func3, Try.ntmps3
  go_wp2_with fail
  generalize w.alloc (.cells #[.int .i64 kx, .int .u64 (xf : Int), .int .u64 (xt : Int)] 25) = W at *
  refine (new_any many W HMB.out).mono ?_
  rintro e w1 ⟨rfl, hS1, hb1⟩
  obtain ⟨X, hX⟩ : ∃ X, X = w.heap.size := ⟨_, rfl⟩
  rw [← hX] at HBK HB0 ⊢
  obtain ⟨g, hg⟩ : ∃ g, g = W.heap.size := ⟨_, rfl⟩
  rw [← hg] at hS1 ⊢
  have hXg : X < g := by rw [hg]; exact HBK.out.lt
  obtain ⟨M, hM⟩ : ∃ M, M = mostN many := ⟨_, rfl⟩
  have hM64 := mostN_le many
  have hmo := fun w => most_any many w
  rw [← hM] at hS1 hM64 hmo
  have HX := Lib.hid hX
  have HG := Lib.hid hg
  have HMO := Lib.hid hmo
  have HS1 := Lib.hid (show SetI w1 g g M (.slice none 0 0) [] from hS1)
  have HB1 := Lib.hid (HB0.out.trans (hb1.mono (by omega)))
  have HBK1 := Lib.hid (HBK.out.below hb1 HBK.out.lt)
  clear hS1 hg hX hM hmo hb1 HB0 HBK
  go_wp2_with fail
  go_loopw [8, 9] (fun rv iv wr => ∃ (k : Nat) (v : Value) (l : List Sp), k ≤ n ∧ iv = .int .i64 k ∧ Hid (SetI wr g g M v l) ∧ Hid (Pcs wr 40 X rv l) ∧ Hid (Blk wr X 25 #[.int .i64 kx, .int .u64 (xf : Int), .int .u64 (xt : Int)]) ∧ Below X w wr) (fun _ iv _ => n - (intOf iv).toNat)
  case atStart => exact ⟨0, _, [], Nat.zero_le _, rfl, HS1, Lib.hid (Pcs.nil _ _ _), HBK1, HB1.out⟩
  case round =>
    obtain ⟨k, v, l, hk, rfl, hS, hP, hK, hbw⟩ := hrel
    clear HS1 HB1 w1 HBK1
    obtain ⟨A7, n7, c7, rfl, hnc7, hcm7, hl7, hr7⟩ := hP.out.out
    unfold maxLen at hcm7
    have hlen := hS.out.len
    have hl64 : n7 ≤ 64 := by have := hl7.out; omega
    have hlM : n7 ≤ M := by have := hl7.out; omega
    clear hlen
    by_cases hlt : k < n
    · have hlt' : (k : Int) < (n : Int) := by omega
      obtain ⟨b, off, kk, x, y, rfl, hbb, p0, p1, p2, hp⟩ := (HR.out.below (by rw [← HX.out]; exact hbw)).oc hlt
      have hxy := (HBD.out _ (List.mem_of_getElem? hp.out))
      dsimp only at hxy
      -- THE ROUND
      rcases Bool.eq_false_or_eq_true ((wrap64 (kk.tmod 5 + 5)).tmod 5 == 4) with hq | hq
      · skip
        have hfr := hS.out.rise
        go_wp2_with fail
        refine (cut_any g g M v l x wr hS.out).mono ?_
        rintro e w2 ⟨⟨u, rfl⟩, ⟨v2, hS2, hk2⟩, hb2⟩
        have HS2 := Lib.hid hS2
        have HP2 := Lib.hid (hP.out.keptS hS.out hk2)
        have HK2 := Lib.hid (hK.out.keptS hS.out hk2)
        have hb2x := hb2.mono (Nat.le_of_lt hXg)
        have q1 := (hb2x.cell (p := ⟨b, off + k * 3 + 1, none⟩) (by rw [HX.out]; exact hbb)).trans p1
        have HB2 := Lib.hid (hbw.trans hb2x)
        have HB2x : X ≤ w2.heap.size := by have := HK2.out.lt; omega
        clear hS2 hk2 hb2 hb2x p0 p1 p2 hS hP hK hbw hp hxy
        go_wp2_with fail
        refine (rcut_any (.slice A7 n7 c7) l x X w2 HP2.out hfr (by have := hl7.out; omega)).mono ?_
        rintro e w3 ⟨v3, rfl, hP3, hb3⟩
        obtain ⟨A8, n8, c8, rfl, _, _, hl8, _⟩ := hP3.out
        have HS3 := Lib.hid (HS2.out.below hb3 (Nat.le_refl _))
        have HP3 := Lib.hid (show Pcs w3 40 X (.slice A8 n8 c8) (cutL l x) from own_mono hP3 HB2x)
        have HK3 := Lib.hid (HK2.out.below hb3 HK2.out.lt)
        have HB3 := Lib.hid (HB2.out.trans (hb3.mono HB2x))
        have HB3x : X ≤ w3.heap.size := Nat.le_trans HB2x hb3.size
        clear hP3 hb3 HS2 HP2 HK2 HB2 HB2x q1 hfr hl7 hr7
        have hlM8 : ¬ (M : Int) < (n8 : Int) := by have := HS3.out.len; have := hl8.out; omega
        have hl648 : n8 ≤ 64 := by have := HS3.out.len; have := hl8.out; omega
        go_wp2_with fail
        refine (list_any g g M v2 _ w3 HS3.out).mono ?_
        rintro e w4 ⟨v4, rfl, hO4, hb4⟩
        obtain ⟨A4, n4, c4, rfl, _, _, hl4, hr4⟩ := (show Pcs w4 49 w3.heap.size v4 (cutL l x) from hO4).out
        have HS4 := Lib.hid (HS3.out.below hb4 (Nat.le_refl _))
        have HP4 := Lib.hid (HP3.out.below hb4)
        have HK4 := Lib.hid (HK3.out.below hb4 HK3.out.lt)
        have HB4 := Lib.hid (HB3.out.trans (hb4.mono HB3x))
        have hn4 : n4 ≤ 64 := by have := hl4.out; have := hl8.out; omega
        have hX4 : X ≤ w4.heap.size := Nat.le_trans HB3x hb4.size
        clear hO4 hb4
        go_wp2_with fail
        refine (plain_any A4 n4 c4 _ _ w4 hr4.out (Nat.le_refl _) (by omega)).mono ?_
        rintro e w5 ⟨v5, rfl, hP5, hb5⟩
        obtain ⟨A5, n5, c5, rfl, _, _, hl5, hr5⟩ := hP5.out
        have HS5 := Lib.hid (HS4.out.below hb5 (Nat.le_refl _))
        have HP5 := Lib.hid (HP4.out.below hb5)
        have HK5 := Lib.hid (HK4.out.below hb5 HK4.out.lt)
        have HB5 := Lib.hid (HB4.out.trans (hb5.mono hX4))
        have hn5 : n5 ≤ 64 := by have := hl5.out; have := hl8.out; omega
        have hX5 : X ≤ w5.heap.size := Nat.le_trans hX4 hb5.size
        clear hP5 hb5 HS4 HP4 HK4 HB4 hX4 hr4
        go_wp2_with fail
        have hrr : Rd w5 w5.heap.size 2 A8 n8 (cels (cutL l x)) := HP5.out.rd hl8.out
        refine (same_any A5 A8 n5 c5 n8 c8 _ _ _ _ w5 hr5.out hrr (by omega)).mono ?_
        rintro e w6 ⟨rfl, hb6⟩
        rw [decide_eq_true rfl]
        have HS6 := Lib.hid (HS5.out.below hb6 (Nat.le_refl _))
        have HP6 := Lib.hid (HP5.out.below hb6)
        have HK6 := Lib.hid (HK5.out.below hb6 HK5.out.lt)
        have HB6 := Lib.hid (HB5.out.trans (hb6.mono hX5))
        clear hb6 HS5 HP5 HK5 HB5 hX5 hrr hr5
        go_wp2_with fail
        refine (HMO.out _).mono ?_
        rintro e w7 ⟨rfl, rfl⟩
        go_wp2_with fail
        go_roundw
        case rel => exact ⟨k + 1, v2, _, by omega, by go_num, HS6, HP6, HK6, HB6.out⟩
        case measure => simp [intOf]; omega
      · skip
        have hfr := hS.out.rise
        have hle := hS.out.len
        go_wp2_with fail
        refine wp_ord [(0, .pure), (1, .pure), (2, .pure), (3, .pure), (4, .pure), (5, .read), (6, .pure), (7, .pure), (8, .pure), (9, .pure), (10, .read), (11, .pure), (12, .sole), (13, .sole), (14, .pure), (15, .pure), (16, .pure), (17, .pure), (18, .pure)] [] (by kernel_rfl) (by kernel_rfl) (fun QQ hQ wd hwd => ?_); simp only [List.map_cons, List.map_nil, List.getD_cons_zero, List.getD_cons_succ]
        have pp1 : wd.cell? ⟨b, off + k * 3 + 1, none⟩ = some (.int .u64 (x : Int)) := by rw [hwd.out]; exact p1
        have pp2 : wd.cell? ⟨b, off + k * 3 + 2, none⟩ = some (.int .u64 (y : Int)) := by rw [hwd.out]; exact p2
        have HSD := Lib.hid (show SetI wd g g M v l from hS.out.below (by rw [hwd.out]; exact (Below.refl _ _).drew) (Nat.le_refl _))
        have HPD := Lib.hid (show Pcs wd 40 X (.slice A7 n7 c7) l by rw [hwd.out]; exact hP.out)
        have HKD := Lib.hid (show Blk wd X 25 #[.int .i64 kx, .int .u64 (xf : Int), .int .u64 (xt : Int)] by rw [hwd.out]; exact hK.out)
        have HBD2 := Lib.hid (show Below X w wd by rw [hwd.out]; exact hbw.drew)
        have HBDx : X ≤ wd.heap.size := Nat.le_of_lt HKD.out.lt
        clear hwd p0 p1 p2 hS hP hK hbw hp
        (refine o_pure (v := ?_) (by rfl) (fun w' => ?_) ?_; rotate_left; (focus (go_simp; (try with_reducible rfl))); (try simp only [Act.put, List.setIfInBounds_toArray, List.set_cons_zero, List.set_cons_succ]))
        (refine o_pure (v := ?_) (by rfl) (fun w' => ?_) ?_; rotate_left; (focus (go_simp; (try with_reducible rfl))); (try simp only [Act.put, List.setIfInBounds_toArray, List.set_cons_zero, List.set_cons_succ]))
        (refine o_pure (v := ?_) (by rfl) (fun w' => ?_) ?_; rotate_left; (focus (go_simp; (try with_reducible rfl))); (try simp only [Act.put, List.setIfInBounds_toArray, List.set_cons_zero, List.set_cons_succ]))
        (refine o_pure (v := ?_) (by rfl) (fun w' => ?_) ?_; rotate_left; (focus (go_simp; (try with_reducible rfl))); (try simp only [Act.put, List.setIfInBounds_toArray, List.set_cons_zero, List.set_cons_succ]))
        (refine o_pure (v := ?_) (by rfl) (fun w' => ?_) ?_; rotate_left; (focus (go_simp; (try with_reducible rfl))); (try simp only [Act.put, List.setIfInBounds_toArray, List.set_cons_zero, List.set_cons_succ]))
        (refine o_load _ (by rfl) rfl rfl (by assumption) (by kernel_rfl) ?_; simp only [Act.put, List.setIfInBounds_toArray, List.set_cons_zero, List.set_cons_succ])
        (refine o_pure (v := ?_) (by rfl) (fun w' => ?_) ?_; rotate_left; (focus (go_simp; (try with_reducible rfl))); (try simp only [Act.put, List.setIfInBounds_toArray, List.set_cons_zero, List.set_cons_succ]))
        (refine o_pure (v := ?_) (by rfl) (fun w' => ?_) ?_; rotate_left; (focus (go_simp; (try with_reducible rfl))); (try simp only [Act.put, List.setIfInBounds_toArray, List.set_cons_zero, List.set_cons_succ]))
        (refine o_pure (v := ?_) (by rfl) (fun w' => ?_) ?_; rotate_left; (focus (go_simp; (try with_reducible rfl))); (try simp only [Act.put, List.setIfInBounds_toArray, List.set_cons_zero, List.set_cons_succ]))
        (refine o_pure (v := ?_) (by rfl) (fun w' => ?_) ?_; rotate_left; (focus (go_simp; (try with_reducible rfl))); (try simp only [Act.put, List.setIfInBounds_toArray, List.set_cons_zero, List.set_cons_succ]))
        (refine o_load _ (by rfl) rfl rfl (by assumption) (by kernel_rfl) ?_; simp only [Act.put, List.setIfInBounds_toArray, List.set_cons_zero, List.set_cons_succ])
        (refine o_pure (v := ?_) (by rfl) (fun w' => ?_) ?_; rotate_left; (focus (go_simp; (try with_reducible rfl))); (try simp only [Act.put, List.setIfInBounds_toArray, List.set_cons_zero, List.set_cons_succ]))
        refine o_sole (fun K hK => ?_)
        go_wp2_with fail
        refine (HMO.out _).mono ?_
        rintro e w2 ⟨rfl, rfl⟩
        go_wp2_with fail
        refine hK _ _ (fun _ => Ext.of (Below.refl _ _)) ?_; clear hK K
        refine o_sole (fun K hK => ?_)
        go_wp2_with fail
        refine (radd_any (.slice A7 n7 c7) l x y M X wd HPD.out HBDx hfr hle hM64.2).mono ?_
        rintro e w2 ⟨v2, rfl, hP2, hb2⟩
        obtain ⟨bq, hbq⟩ : ∃ bq, bq = (addS M l x y).2 := ⟨_, rfl⟩
        obtain ⟨Lq, hLq⟩ : ∃ Lq, Lq = (addS M l x y).1 := ⟨_, rfl⟩
        rw [← hbq]
        rw [← hLq] at hP2
        have HBQ := Lib.hid hbq
        have HLQ := Lib.hid hLq
        obtain ⟨A8, n8, c8, rfl, _, _, hl8, _⟩ := hP2.out
        have HS2 := Lib.hid (HSD.out.below hb2 (Nat.le_refl _))
        have HP2 := Lib.hid hP2
        have HK2 := Lib.hid (HKD.out.below hb2 HKD.out.lt)
        have HB2 := Lib.hid (HBD2.out.trans (hb2.mono HBDx))
        have q1 := (hb2.cell (p := ⟨b, off + k * 3 + 1, none⟩) (by have := HBDx; have := HX.out; show b < _; omega)).trans pp1
        have q2 := (hb2.cell (p := ⟨b, off + k * 3 + 2, none⟩) (by have := HBDx; have := HX.out; show b < _; omega)).trans pp2
        go_wp2_with fail
        refine hK _ _ (fun _ => Ext.of hb2) ?_; clear hK K
        clear hbq hLq hP2 hb2 HSD HPD HKD HBD2 HBDx pp1 pp2 hfr hle hl7 hr7
        (refine o_pure (v := ?_) (by rfl) (fun w' => ?_) ?_; rotate_left; (focus (go_simp; (try with_reducible rfl))); (try simp only [Act.put, List.setIfInBounds_toArray, List.set_cons_zero, List.set_cons_succ]))
        (refine o_pure (v := ?_) (by rfl) (fun w' => ?_) ?_; rotate_left; (focus (go_simp; (try with_reducible rfl))); (try simp only [Act.put, List.setIfInBounds_toArray, List.set_cons_zero, List.set_cons_succ]))
        (refine o_pure (v := ?_) (by rfl) (fun w' => ?_) ?_; rotate_left; (focus (go_simp; (try with_reducible rfl))); (try simp only [Act.put, List.setIfInBounds_toArray, List.set_cons_zero, List.set_cons_succ]))
        (refine o_pure (v := ?_) (by rfl) (fun w' => ?_) ?_; rotate_left; (focus (go_simp; (try with_reducible rfl))); (try simp only [Act.put, List.setIfInBounds_toArray, List.set_cons_zero, List.set_cons_succ]))
        (refine o_pure (v := ?_) (by rfl) (fun w' => ?_) ?_; rotate_left; (focus (go_simp; (try with_reducible rfl))); (try simp only [Act.put, List.setIfInBounds_toArray, List.set_cons_zero, List.set_cons_succ]))
        refine o_nil (hQ.out _ _ ?_); clear hQ QQ
        go_wp2_with fail
        refine wp_ord [(0, .pure), (1, .pure), (2, .pure), (3, .pure), (4, .pure), (5, .read), (6, .pure), (7, .pure), (8, .pure), (9, .pure), (10, .read), (12, .pure), (11, .sole), (13, .pure)] [11] (by kernel_rfl) (by kernel_rfl) (fun QQ hQ wd hwd => ?_); simp only [List.map_cons, List.map_nil, List.getD_cons_zero, List.getD_cons_succ]
        have pp1 : wd.cell? ⟨b, off + k * 3 + 1, none⟩ = some (.int .u64 (x : Int)) := by rw [hwd.out]; exact q1
        have pp2 : wd.cell? ⟨b, off + k * 3 + 2, none⟩ = some (.int .u64 (y : Int)) := by rw [hwd.out]; exact q2
        have HSD := Lib.hid (show SetI wd g g M v l from HS2.out.below (by rw [hwd.out]; exact (Below.refl _ _).drew) (Nat.le_refl _))
        have HPD := Lib.hid (show Pcs wd 40 X (.slice A8 n8 c8) Lq by rw [hwd.out]; exact HP2.out)
        have HKD := Lib.hid (show Blk wd X 25 #[.int .i64 kx, .int .u64 (xf : Int), .int .u64 (xt : Int)] by rw [hwd.out]; exact HK2.out)
        have HBD2 := Lib.hid (show Below X w wd by rw [hwd.out]; exact HB2.out.drew)
        clear hwd q1 q2 HS2 HP2 HK2 HB2
        (refine o_pure (v := ?_) (by rfl) (fun w' => ?_) ?_; rotate_left; (focus (go_simp; (try with_reducible rfl))); (try simp only [Act.put, List.setIfInBounds_toArray, List.set_cons_zero, List.set_cons_succ]))
        (refine o_pure (v := ?_) (by rfl) (fun w' => ?_) ?_; rotate_left; (focus (go_simp; (try with_reducible rfl))); (try simp only [Act.put, List.setIfInBounds_toArray, List.set_cons_zero, List.set_cons_succ]))
        (refine o_pure (v := ?_) (by rfl) (fun w' => ?_) ?_; rotate_left; (focus (go_simp; (try with_reducible rfl))); (try simp only [Act.put, List.setIfInBounds_toArray, List.set_cons_zero, List.set_cons_succ]))
        (refine o_pure (v := ?_) (by rfl) (fun w' => ?_) ?_; rotate_left; (focus (go_simp; (try with_reducible rfl))); (try simp only [Act.put, List.setIfInBounds_toArray, List.set_cons_zero, List.set_cons_succ]))
        (refine o_pure (v := ?_) (by rfl) (fun w' => ?_) ?_; rotate_left; (focus (go_simp; (try with_reducible rfl))); (try simp only [Act.put, List.setIfInBounds_toArray, List.set_cons_zero, List.set_cons_succ]))
        (refine o_load _ (by rfl) rfl rfl (by assumption) (by kernel_rfl) ?_; simp only [Act.put, List.setIfInBounds_toArray, List.set_cons_zero, List.set_cons_succ])
        (refine o_pure (v := ?_) (by rfl) (fun w' => ?_) ?_; rotate_left; (focus (go_simp; (try with_reducible rfl))); (try simp only [Act.put, List.setIfInBounds_toArray, List.set_cons_zero, List.set_cons_succ]))
        (refine o_pure (v := ?_) (by rfl) (fun w' => ?_) ?_; rotate_left; (focus (go_simp; (try with_reducible rfl))); (try simp only [Act.put, List.setIfInBounds_toArray, List.set_cons_zero, List.set_cons_succ]))
        (refine o_pure (v := ?_) (by rfl) (fun w' => ?_) ?_; rotate_left; (focus (go_simp; (try with_reducible rfl))); (try simp only [Act.put, List.setIfInBounds_toArray, List.set_cons_zero, List.set_cons_succ]))
        (refine o_pure (v := ?_) (by rfl) (fun w' => ?_) ?_; rotate_left; (focus (go_simp; (try with_reducible rfl))); (try simp only [Act.put, List.setIfInBounds_toArray, List.set_cons_zero, List.set_cons_succ]))
        (refine o_load _ (by rfl) rfl rfl (by assumption) (by kernel_rfl) ?_; simp only [Act.put, List.setIfInBounds_toArray, List.set_cons_zero, List.set_cons_succ])
        (refine o_pure (v := ?_) (by rfl) (fun w' => ?_) ?_; rotate_left; (focus (go_simp; (try with_reducible rfl))); (try simp only [Act.put, List.setIfInBounds_toArray, List.set_cons_zero, List.set_cons_succ]))
        refine o_sole (fun K hK => ?_)
        go_wp2_with fail
        refine (add_any g g M v l x y wd HSD.out hxy.2.1 hxy.2.2).mono ?_
        rintro e w3 ⟨rfl, ⟨v3, hS3, hk3⟩, hb3⟩
        rw [← HBQ.out]
        rw [← HLQ.out] at hS3
        have HS3 := Lib.hid hS3
        have HP3 := Lib.hid (HPD.out.keptS HSD.out hk3)
        have HK3 := Lib.hid (HKD.out.keptS HSD.out hk3)
        have HB3 := Lib.hid (HBD2.out.trans (hb3.mono (Nat.le_of_lt hXg)))
        have HB3x : X ≤ w3.heap.size := Nat.le_of_lt HK3.out.lt
        clear hS3 hk3 hb3 pp1 pp2 HSD HPD HKD HBD2 hxy
        go_wp2_with fail
        refine hK _ _ (fun h => by cases h) ?_; clear hK K
        (refine o_pure (v := ?_) (by rfl) (fun w' => ?_) ?_; rotate_left; (focus (go_simp; (try with_reducible rfl))); (try simp only [Act.put, List.setIfInBounds_toArray, List.set_cons_zero, List.set_cons_succ]))
        refine o_nil (hQ.out _ _ ?_); clear hQ QQ
        have hlM8 : ¬ (M : Int) < (n8 : Int) := by have := HS3.out.len; have := hl8.out; omega
        have hl648 : n8 ≤ 64 := by have := HS3.out.len; have := hl8.out; omega
        go_wp2_with fail
        refine (list_any g g M v3 _ w3 HS3.out).mono ?_
        rintro e w4 ⟨v4, rfl, hO4, hb4⟩
        obtain ⟨A4, n4, c4, rfl, _, _, hl4, hr4⟩ := (show Pcs w4 49 w3.heap.size v4 Lq from hO4).out
        have HS4 := Lib.hid (HS3.out.below hb4 (Nat.le_refl _))
        have HP4 := Lib.hid (HP3.out.below hb4)
        have HK4 := Lib.hid (HK3.out.below hb4 HK3.out.lt)
        have HB4 := Lib.hid (HB3.out.trans (hb4.mono HB3x))
        have hn4 : n4 ≤ 64 := by have := hl4.out; have := hl8.out; omega
        have hX4 : X ≤ w4.heap.size := Nat.le_trans HB3x hb4.size
        clear hO4 hb4
        go_wp2_with fail
        refine (plain_any A4 n4 c4 _ _ w4 hr4.out (Nat.le_refl _) (by omega)).mono ?_
        rintro e w5 ⟨v5, rfl, hP5, hb5⟩
        obtain ⟨A5, n5, c5, rfl, _, _, hl5, hr5⟩ := hP5.out
        have HS5 := Lib.hid (HS4.out.below hb5 (Nat.le_refl _))
        have HP5 := Lib.hid (HP4.out.below hb5)
        have HK5 := Lib.hid (HK4.out.below hb5 HK4.out.lt)
        have HB5 := Lib.hid (HB4.out.trans (hb5.mono hX4))
        have hn5 : n5 ≤ 64 := by have := hl5.out; have := hl8.out; omega
        have hX5 : X ≤ w5.heap.size := Nat.le_trans hX4 hb5.size
        clear hP5 hb5 HS4 HP4 HK4 HB4 hX4 hr4
        go_wp2_with fail
        have hrr : Rd w5 w5.heap.size 2 A8 n8 (cels Lq) := HP5.out.rd hl8.out
        refine (same_any A5 A8 n5 c5 n8 c8 _ _ _ _ w5 hr5.out hrr (by omega)).mono ?_
        rintro e w6 ⟨rfl, hb6⟩
        rw [decide_eq_true rfl]
        have HS6 := Lib.hid (HS5.out.below hb6 (Nat.le_refl _))
        have HP6 := Lib.hid (HP5.out.below hb6)
        have HK6 := Lib.hid (HK5.out.below hb6 HK5.out.lt)
        have HB6 := Lib.hid (HB5.out.trans (hb6.mono hX5))
        clear hb6 HS5 HP5 HK5 HB5 hX5 hrr hr5
        go_wp2_with fail
        refine (HMO.out _).mono ?_
        rintro e w7 ⟨rfl, rfl⟩
        go_wp2_with fail
        go_roundw
        case rel => exact ⟨k + 1, v3, _, by omega, by go_num, HS6, HP6, HK6, HB6.out⟩
        case measure => simp [intOf]; omega
    · have hge : ¬ (k : Int) < (n : Int) := by omega
      have hfr := Lib.hid hS.out.rise
      have hbd := Lib.hid hS.out.bd
      have HML := Lib.hid (many_lt hS.out.rise hS.out.bd (by decide))
      have hX1 : X ≤ wr.heap.size := Nat.le_of_lt hK.out.lt
      go_wp2_with fail
      go_loopw [11, 12] (fun sv iv wq => ∃ (j s : Nat), j ≤ n7 ∧ iv = .int .i64 j ∧ sv = .int .u64 (s : Int) ∧ Hid (manyL (l.take j) = s) ∧ Below wr.heap.size wr wq) (fun _ iv _ => n7 - (intOf iv).toNat)
      case atStart => exact ⟨0, 0, Nat.zero_le _, rfl, rfl, Lib.hid (by simp [manyL]), Below.refl _ _⟩
      case round =>
        obtain ⟨j, s, hj, rfl, rfl, hs, hbq⟩ := hrel
        by_cases hjt : j < n7
        · have hjt' : (j : Int) < (n7 : Int) := by omega
          obtain ⟨b, off, x, y, rfl, hbb, p0, p1, hp⟩ := (hr7.out.below hbq).mono hbq.size |>.pc hjt
          have hy := hbd.out _ (List.mem_of_getElem? hp.out)
          have hxy := hfr.out.pos _ (List.mem_of_getElem? hp.out)
          have ht3 := many_take hp.out
          have hle := many_take_le l (j + 1)
          have hm := HML.out
          dsimp only at ht3 hy hxy
          rw [hs.out] at ht3
          obtain ⟨d, hd⟩ : ∃ d, d = y - x := ⟨_, rfl⟩
          rw [← hd] at ht3
          have ed : (y : Int) - (x : Int) = (d : Int) := by omega
          have wd2 := wrap_u64_lt (x := d) (by omega)
          have wd1 : IntKind.u64.wrap ((y : Int) - (x : Int)) = (d : Int) := by rw [ed, wd2]
          have ws2 := wrap_u64_lt (x := s + d) (by omega)
          have e3 : (s : Int) + (d : Int) = ((s + d : Nat) : Int) := by omega
          obtain ⟨s2, hs2⟩ : ∃ s2, s2 = s + d := ⟨_, rfl⟩
          rw [← hs2] at ht3 ws2 e3
          have ws1 : IntKind.u64.wrap ((s : Int) + (d : Int)) = (s2 : Int) := by rw [e3, ws2]
          have HT3 := Lib.hid ht3
          clear ht3 hle hm hy hxy hd hs2 hp
          go_wp2_with fail
          refine wp_ext (by kernel_rfl) (by kernel_rfl) (fun QQ hQ => ?_)
          (first | (refine x_load _ (by rfl) rfl rfl (by assumption) (by kernel_rfl) ?_; simp only [Act.put, List.setIfInBounds_toArray, List.set_cons_zero, List.set_cons_succ]) | (refine x_val (v := ?_) (by rfl) (fun w' hx => ?_) ?_; rotate_left; (focus (go_simp; (try with_reducible rfl))); (try simp only [Act.put, List.setIfInBounds_toArray, List.set_cons_zero, List.set_cons_succ])))
          (first | (refine x_load _ (by rfl) rfl rfl (by assumption) (by kernel_rfl) ?_; simp only [Act.put, List.setIfInBounds_toArray, List.set_cons_zero, List.set_cons_succ]) | (refine x_val (v := ?_) (by rfl) (fun w' hx => ?_) ?_; rotate_left; (focus (go_simp; (try with_reducible rfl))); (try simp only [Act.put, List.setIfInBounds_toArray, List.set_cons_zero, List.set_cons_succ])))
          (first | (refine x_load _ (by rfl) rfl rfl (by assumption) (by kernel_rfl) ?_; simp only [Act.put, List.setIfInBounds_toArray, List.set_cons_zero, List.set_cons_succ]) | (refine x_val (v := ?_) (by rfl) (fun w' hx => ?_) ?_; rotate_left; (focus (go_simp; (try with_reducible rfl))); (try simp only [Act.put, List.setIfInBounds_toArray, List.set_cons_zero, List.set_cons_succ])))
          (first | (refine x_load _ (by rfl) rfl rfl (by assumption) (by kernel_rfl) ?_; simp only [Act.put, List.setIfInBounds_toArray, List.set_cons_zero, List.set_cons_succ]) | (refine x_val (v := ?_) (by rfl) (fun w' hx => ?_) ?_; rotate_left; (focus (go_simp; (try with_reducible rfl))); (try simp only [Act.put, List.setIfInBounds_toArray, List.set_cons_zero, List.set_cons_succ])))
          (first | (refine x_load _ (by rfl) rfl rfl (by assumption) (by kernel_rfl) ?_; simp only [Act.put, List.setIfInBounds_toArray, List.set_cons_zero, List.set_cons_succ]) | (refine x_val (v := ?_) (by rfl) (fun w' hx => ?_) ?_; rotate_left; (focus (go_simp; (try with_reducible rfl))); (try simp only [Act.put, List.setIfInBounds_toArray, List.set_cons_zero, List.set_cons_succ])))
          (first | (refine x_load _ (by rfl) rfl rfl (by assumption) (by kernel_rfl) ?_; simp only [Act.put, List.setIfInBounds_toArray, List.set_cons_zero, List.set_cons_succ]) | (refine x_val (v := ?_) (by rfl) (fun w' hx => ?_) ?_; rotate_left; (focus (go_simp; (try with_reducible rfl))); (try simp only [Act.put, List.setIfInBounds_toArray, List.set_cons_zero, List.set_cons_succ])))
          (first | (refine x_load _ (by rfl) rfl rfl (by assumption) (by kernel_rfl) ?_; simp only [Act.put, List.setIfInBounds_toArray, List.set_cons_zero, List.set_cons_succ]) | (refine x_val (v := ?_) (by rfl) (fun w' hx => ?_) ?_; rotate_left; (focus (go_simp; (try with_reducible rfl))); (try simp only [Act.put, List.setIfInBounds_toArray, List.set_cons_zero, List.set_cons_succ])))
          (first | (refine x_load _ (by rfl) rfl rfl (by assumption) (by kernel_rfl) ?_; simp only [Act.put, List.setIfInBounds_toArray, List.set_cons_zero, List.set_cons_succ]) | (refine x_val (v := ?_) (by rfl) (fun w' hx => ?_) ?_; rotate_left; (focus (go_simp; (try with_reducible rfl))); (try simp only [Act.put, List.setIfInBounds_toArray, List.set_cons_zero, List.set_cons_succ])))
          (first | (refine x_load _ (by rfl) rfl rfl (by assumption) (by kernel_rfl) ?_; simp only [Act.put, List.setIfInBounds_toArray, List.set_cons_zero, List.set_cons_succ]) | (refine x_val (v := ?_) (by rfl) (fun w' hx => ?_) ?_; rotate_left; (focus (go_simp; (try with_reducible rfl))); (try simp only [Act.put, List.setIfInBounds_toArray, List.set_cons_zero, List.set_cons_succ])))
          (first | (refine x_load _ (by rfl) rfl rfl (by assumption) (by kernel_rfl) ?_; simp only [Act.put, List.setIfInBounds_toArray, List.set_cons_zero, List.set_cons_succ]) | (refine x_val (v := ?_) (by rfl) (fun w' hx => ?_) ?_; rotate_left; (focus (go_simp; (try with_reducible rfl))); (try simp only [Act.put, List.setIfInBounds_toArray, List.set_cons_zero, List.set_cons_succ])))
          (first | (refine x_load _ (by rfl) rfl rfl (by assumption) (by kernel_rfl) ?_; simp only [Act.put, List.setIfInBounds_toArray, List.set_cons_zero, List.set_cons_succ]) | (refine x_val (v := ?_) (by rfl) (fun w' hx => ?_) ?_; rotate_left; (focus (go_simp; (try with_reducible rfl))); (try simp only [Act.put, List.setIfInBounds_toArray, List.set_cons_zero, List.set_cons_succ])))
          (first | (refine x_load _ (by rfl) rfl rfl (by assumption) (by kernel_rfl) ?_; simp only [Act.put, List.setIfInBounds_toArray, List.set_cons_zero, List.set_cons_succ]) | (refine x_val (v := ?_) (by rfl) (fun w' hx => ?_) ?_; rotate_left; (focus (go_simp; (try with_reducible rfl))); (try simp only [Act.put, List.setIfInBounds_toArray, List.set_cons_zero, List.set_cons_succ])))
          (first | (refine x_load _ (by rfl) rfl rfl (by assumption) (by kernel_rfl) ?_; simp only [Act.put, List.setIfInBounds_toArray, List.set_cons_zero, List.set_cons_succ]) | (refine x_val (v := ?_) (by rfl) (fun w' hx => ?_) ?_; rotate_left; (focus (go_simp; (try with_reducible rfl))); (try simp only [Act.put, List.setIfInBounds_toArray, List.set_cons_zero, List.set_cons_succ])))
          (first | (refine x_load _ (by rfl) rfl rfl (by assumption) (by kernel_rfl) ?_; simp only [Act.put, List.setIfInBounds_toArray, List.set_cons_zero, List.set_cons_succ]) | (refine x_val (v := ?_) (by rfl) (fun w' hx => ?_) ?_; rotate_left; (focus (go_simp; (try with_reducible rfl))); (try simp only [Act.put, List.setIfInBounds_toArray, List.set_cons_zero, List.set_cons_succ])))
          refine x_nil (hQ.out _ ?_); clear hQ QQ
          intro w5 hb5
          have hbq5 := hbq.trans (hb5.mono hbq.size)
          clear hb5 p0 p1
          go_wp2_with fail
          go_roundw
          case rel => exact ⟨j + 1, s2, by omega, by go_num, rfl, HT3, hbq5⟩
          case measure => simp [intOf]; omega
        · have hge2 : ¬ (j : Int) < (n7 : Int) := by omega
          have hs5 : Hid (manyL l = s) := Lib.hid (by rw [← hs.out, List.take_of_length_le (by rw [hl7.out]; omega)])
          have HS4 := Lib.hid (hS.out.below hbq (Nat.le_refl _))
          have HP4 := Lib.hid (hP.out.below hbq)
          have HK4 := Lib.hid (hK.out.below hbq hK.out.lt)
          have HB4 := Lib.hid (hbw.trans (hbq.mono hX1))
          have hX4 : X ≤ wr.heap.size := Nat.le_trans hX1 hbq.size
          have c1 : wr.cell? ⟨X, 1, none⟩ = some (.int .u64 (xf : Int)) := by rw [HK4.out.cell]; rfl
          have c2 : wr.cell? ⟨X, 2, none⟩ = some (.int .u64 (xt : Int)) := by rw [HK4.out.cell]; rfl
          clear hs hbq hS hP hK hbw HML hbd hX1 hr7
          go_wp2_with fail
          have hrr : Rd wr wr.heap.size 2 A7 n7 (cels l) := HP4.out.rd hl7.out
          refine (rrun_any A7 n7 c7 _ l xf wr hrr hfr.out (by omega)).mono ?_
          rintro e w5 ⟨rfl, hb5⟩
          have hRge := run_ge l xf
          obtain ⟨R, hR⟩ : ∃ R, R = runL l xf := ⟨_, rfl⟩
          rw [← hR] at hRge ⊢
          have HRR := Lib.hid hR
          have HS5 := Lib.hid (HS4.out.below hb5 (Nat.le_refl _))
          have HP5 := Lib.hid (HP4.out.below hb5)
          have HB5 := Lib.hid (HB4.out.trans (hb5.mono hX4))
          have hXlt : X < wr.heap.size := HK4.out.lt
          have z1 := (hb5.cell (p := ⟨X, 1, none⟩) hXlt).trans c1
          have z2 := (hb5.cell (p := ⟨X, 2, none⟩) hXlt).trans c2
          clear hR hb5 hrr HS4 HP4 HB4 HK4 c1 c2 hXlt hX4
          by_cases hcv : xt ≤ xf
          · have hcv' : (xt : Int) ≤ (xf : Int) := by omega
            have hRt : xt ≤ R := by omega
            go_wp2_with fail
            refine wp_ord [(0, .pure), (1, .pure), (2, .read), (4, .pure), (5, .pure), (6, .read), (7, .pure), (3, .sole), (8, .pure), (9, .pure), (10, .pure), (11, .pure), (12, .read), (14, .pure), (13, .sole), (15, .pure), (16, .pure), (17, .pure), (18, .pure), (19, .pure), (20, .read), (21, .pure), (22, .read), (24, .pure), (23, .sole), (25, .pure), (26, .pure), (27, .pure), (28, .pure), (29, .pure), (30, .read), (31, .pure), (32, .read), (35, .pure), (36, .pure), (37, .read), (38, .pure), (39, .read), (33, .sole), (34, .sole), (40, .sole), (41, .sole), (42, .pure), (43, .pure), (44, .pure), (46, .pure), (45, .sole), (47, .pure), (48, .pure), (49, .pure), (50, .sole), (51, .pure), (52, .pure)] [] (by kernel_rfl) (by kernel_rfl) (fun QQ hQ wd hwd => ?_); simp only [List.map_cons, List.map_nil, List.getD_cons_zero, List.getD_cons_succ]
            have x1 : wd.cell? ⟨X, 1, none⟩ = some (.int .u64 (xf : Int)) := by rw [hwd.out]; exact z1
            have x2 : wd.cell? ⟨X, 2, none⟩ = some (.int .u64 (xt : Int)) := by rw [hwd.out]; exact z2
            have S0 := Lib.hid (show SetI wd g g M v l from HS5.out.below (by rw [hwd.out]; exact (Below.refl _ _).drew) (Nat.le_refl _))
            have P0 := Lib.hid (show Pcs wd 40 X (.slice A7 n7 c7) l by rw [hwd.out]; exact HP5.out)
            have B0 := Lib.hid (show Below X w wd by rw [hwd.out]; exact HB5.out.drew)
            have X0 : X ≤ wd.heap.size := by have := S0.out.lt; omega
            clear hwd z1 z2 HS5 HP5 HB5
            (refine o_pure (v := ?_) (by rfl) (fun w' => ?_) ?_; rotate_left; (focus (go_simp; (try with_reducible rfl))); (try simp only [Act.put, List.setIfInBounds_toArray, List.set_cons_zero, List.set_cons_succ]))
            (refine o_pure (v := ?_) (by rfl) (fun w' => ?_) ?_; rotate_left; (focus (go_simp; (try with_reducible rfl))); (try simp only [Act.put, List.setIfInBounds_toArray, List.set_cons_zero, List.set_cons_succ]))
            (refine o_load _ (by rfl) rfl rfl (by assumption) (by kernel_rfl) ?_; simp only [Act.put, List.setIfInBounds_toArray, List.set_cons_zero, List.set_cons_succ])
            (refine o_pure (v := ?_) (by rfl) (fun w' => ?_) ?_; rotate_left; (focus (go_simp; (try with_reducible rfl))); (try simp only [Act.put, List.setIfInBounds_toArray, List.set_cons_zero, List.set_cons_succ]))
            (refine o_pure (v := ?_) (by rfl) (fun w' => ?_) ?_; rotate_left; (focus (go_simp; (try with_reducible rfl))); (try simp only [Act.put, List.setIfInBounds_toArray, List.set_cons_zero, List.set_cons_succ]))
            (refine o_load _ (by rfl) rfl rfl (by assumption) (by kernel_rfl) ?_; simp only [Act.put, List.setIfInBounds_toArray, List.set_cons_zero, List.set_cons_succ])
            (refine o_pure (v := ?_) (by rfl) (fun w' => ?_) ?_; rotate_left; (focus (go_simp; (try with_reducible rfl))); (try simp only [Act.put, List.setIfInBounds_toArray, List.set_cons_zero, List.set_cons_succ]))
            refine o_sole (fun K hK => ?_)
            go_wp2_with fail
            refine (has_any g g M v l xf wd S0.out).mono ?_
            rintro e y1 ⟨rfl, hb⟩
            rw [← HRR.out]
            have S1 := Lib.hid (S0.out.below hb (Nat.le_refl _))
            have P1 := Lib.hid (P0.out.below hb)
            have B1 := Lib.hid (B0.out.trans (hb.mono X0))
            have X1 : X ≤ y1.heap.size := Nat.le_trans X0 hb.size
            have r1 := (hb.cell (p := ⟨X, 1, none⟩) (by have := S0.out.lt; show X < _; omega)).trans x1
            have r2 := (hb.cell (p := ⟨X, 2, none⟩) (by have := S0.out.lt; show X < _; omega)).trans x2
            go_wp2_with fail
            refine hK _ _ (fun _ => Ext.of hb) ?_; clear hK K
            clear hb S0 P0 B0 X0 x1 x2
            (refine o_pure (v := ?_) (by rfl) (fun w' => ?_) ?_; rotate_left; (focus (go_simp; (try with_reducible rfl))); (try simp only [Act.put, List.setIfInBounds_toArray, List.set_cons_zero, List.set_cons_succ]))
            (refine o_pure (v := ?_) (by rfl) (fun w' => ?_) ?_; rotate_left; (focus (go_simp; (try with_reducible rfl))); (try simp only [Act.put, List.setIfInBounds_toArray, List.set_cons_zero, List.set_cons_succ]))
            (refine o_pure (v := ?_) (by rfl) (fun w' => ?_) ?_; rotate_left; (focus (go_simp; (try with_reducible rfl))); (try simp only [Act.put, List.setIfInBounds_toArray, List.set_cons_zero, List.set_cons_succ]))
            (refine o_pure (v := ?_) (by rfl) (fun w' => ?_) ?_; rotate_left; (focus (go_simp; (try with_reducible rfl))); (try simp only [Act.put, List.setIfInBounds_toArray, List.set_cons_zero, List.set_cons_succ]))
            (refine o_load _ (by rfl) rfl rfl (by assumption) (by kernel_rfl) ?_; simp only [Act.put, List.setIfInBounds_toArray, List.set_cons_zero, List.set_cons_succ])
            (refine o_pure (v := ?_) (by rfl) (fun w' => ?_) ?_; rotate_left; (focus (go_simp; (try with_reducible rfl))); (try simp only [Act.put, List.setIfInBounds_toArray, List.set_cons_zero, List.set_cons_succ]))
            refine o_sole (fun K hK => ?_)
            go_wp2_with fail
            refine (run_any g g M v l xf y1 S1.out).mono ?_
            rintro e y2 ⟨rfl, hb⟩
            rw [← HRR.out]
            have S2 := Lib.hid (S1.out.below hb (Nat.le_refl _))
            have P2 := Lib.hid (P1.out.below hb)
            have B2 := Lib.hid (B1.out.trans (hb.mono X1))
            have X2 : X ≤ y2.heap.size := Nat.le_trans X1 hb.size
            have x1 := (hb.cell (p := ⟨X, 1, none⟩) (by have := S1.out.lt; show X < _; omega)).trans r1
            have x2 := (hb.cell (p := ⟨X, 2, none⟩) (by have := S1.out.lt; show X < _; omega)).trans r2
            go_wp2_with fail
            refine hK _ _ (fun _ => Ext.of hb) ?_; clear hK K
            clear hb S1 P1 B1 X1 r1 r2
            (refine o_pure (v := ?_) (by rfl) (fun w' => ?_) ?_; rotate_left; (focus (go_simp; (try with_reducible rfl))); (try simp only [Act.put, List.setIfInBounds_toArray, List.set_cons_zero, List.set_cons_succ]))
            (refine o_pure (v := ?_) (by rfl) (fun w' => ?_) ?_; rotate_left; (focus (go_simp; (try with_reducible rfl))); (try simp only [Act.put, List.setIfInBounds_toArray, List.set_cons_zero, List.set_cons_succ]))
            (refine o_pure (v := ?_) (by rfl) (fun w' => ?_) ?_; rotate_left; (focus (go_simp; (try with_reducible rfl))); (try simp only [Act.put, List.setIfInBounds_toArray, List.set_cons_zero, List.set_cons_succ]))
            (refine o_pure (v := ?_) (by rfl) (fun w' => ?_) ?_; rotate_left; (focus (go_simp; (try with_reducible rfl))); (try simp only [Act.put, List.setIfInBounds_toArray, List.set_cons_zero, List.set_cons_succ]))
            (refine o_pure (v := ?_) (by rfl) (fun w' => ?_) ?_; rotate_left; (focus (go_simp; (try with_reducible rfl))); (try simp only [Act.put, List.setIfInBounds_toArray, List.set_cons_zero, List.set_cons_succ]))
            (refine o_load _ (by rfl) rfl rfl (by assumption) (by kernel_rfl) ?_; simp only [Act.put, List.setIfInBounds_toArray, List.set_cons_zero, List.set_cons_succ])
            (refine o_pure (v := ?_) (by rfl) (fun w' => ?_) ?_; rotate_left; (focus (go_simp; (try with_reducible rfl))); (try simp only [Act.put, List.setIfInBounds_toArray, List.set_cons_zero, List.set_cons_succ]))
            (refine o_load _ (by rfl) rfl rfl (by assumption) (by kernel_rfl) ?_; simp only [Act.put, List.setIfInBounds_toArray, List.set_cons_zero, List.set_cons_succ])
            (refine o_pure (v := ?_) (by rfl) (fun w' => ?_) ?_; rotate_left; (focus (go_simp; (try with_reducible rfl))); (try simp only [Act.put, List.setIfInBounds_toArray, List.set_cons_zero, List.set_cons_succ]))
            refine o_sole (fun K hK => ?_)
            go_wp2_with fail
            refine (covers_any g g M v l xf xt y2 S2.out).mono ?_
            rintro e y3 ⟨rfl, hb⟩
            rw [← HRR.out, decide_eq_true hRt]
            have S3 := Lib.hid (S2.out.below hb (Nat.le_refl _))
            have P3 := Lib.hid (P2.out.below hb)
            have B3 := Lib.hid (B2.out.trans (hb.mono X2))
            have X3 : X ≤ y3.heap.size := Nat.le_trans X2 hb.size
            have r1 := (hb.cell (p := ⟨X, 1, none⟩) (by have := S2.out.lt; show X < _; omega)).trans x1
            have r2 := (hb.cell (p := ⟨X, 2, none⟩) (by have := S2.out.lt; show X < _; omega)).trans x2
            go_wp2_with fail
            refine hK _ _ (fun _ => Ext.of hb) ?_; clear hK K
            clear hb S2 P2 B2 X2 x1 x2
            (refine o_pure (v := ?_) (by rfl) (fun w' => ?_) ?_; rotate_left; (focus (go_simp; (try with_reducible rfl))); (try simp only [Act.put, List.setIfInBounds_toArray, List.set_cons_zero, List.set_cons_succ]))
            (refine o_pure (v := ?_) (by rfl) (fun w' => ?_) ?_; rotate_left; (focus (go_simp; (try with_reducible rfl))); (try simp only [Act.put, List.setIfInBounds_toArray, List.set_cons_zero, List.set_cons_succ]))
            (refine o_pure (v := ?_) (by rfl) (fun w' => ?_) ?_; rotate_left; (focus (go_simp; (try with_reducible rfl))); (try simp only [Act.put, List.setIfInBounds_toArray, List.set_cons_zero, List.set_cons_succ]))
            (refine o_pure (v := ?_) (by rfl) (fun w' => ?_) ?_; rotate_left; (focus (go_simp; (try with_reducible rfl))); (try simp only [Act.put, List.setIfInBounds_toArray, List.set_cons_zero, List.set_cons_succ]))
            (refine o_pure (v := ?_) (by rfl) (fun w' => ?_) ?_; rotate_left; (focus (go_simp; (try with_reducible rfl))); (try simp only [Act.put, List.setIfInBounds_toArray, List.set_cons_zero, List.set_cons_succ]))
            (refine o_load _ (by rfl) rfl rfl (by assumption) (by kernel_rfl) ?_; simp only [Act.put, List.setIfInBounds_toArray, List.set_cons_zero, List.set_cons_succ])
            (refine o_pure (v := ?_) (by rfl) (fun w' => ?_) ?_; rotate_left; (focus (go_simp; (try with_reducible rfl))); (try simp only [Act.put, List.setIfInBounds_toArray, List.set_cons_zero, List.set_cons_succ]))
            (refine o_load _ (by rfl) rfl rfl (by assumption) (by kernel_rfl) ?_; simp only [Act.put, List.setIfInBounds_toArray, List.set_cons_zero, List.set_cons_succ])
            (refine o_pure (v := ?_) (by rfl) (fun w' => ?_) ?_; rotate_left; (focus (go_simp; (try with_reducible rfl))); (try simp only [Act.put, List.setIfInBounds_toArray, List.set_cons_zero, List.set_cons_succ]))
            (refine o_pure (v := ?_) (by rfl) (fun w' => ?_) ?_; rotate_left; (focus (go_simp; (try with_reducible rfl))); (try simp only [Act.put, List.setIfInBounds_toArray, List.set_cons_zero, List.set_cons_succ]))
            (refine o_load _ (by rfl) rfl rfl (by assumption) (by kernel_rfl) ?_; simp only [Act.put, List.setIfInBounds_toArray, List.set_cons_zero, List.set_cons_succ])
            (refine o_pure (v := ?_) (by rfl) (fun w' => ?_) ?_; rotate_left; (focus (go_simp; (try with_reducible rfl))); (try simp only [Act.put, List.setIfInBounds_toArray, List.set_cons_zero, List.set_cons_succ]))
            (refine o_load _ (by rfl) rfl rfl (by assumption) (by kernel_rfl) ?_; simp only [Act.put, List.setIfInBounds_toArray, List.set_cons_zero, List.set_cons_succ])
            refine o_sole (fun K hK => ?_)
            go_wp2_with fail
            refine (gaps_any g g M v l xf xt y3 S3.out).mono ?_
            rintro e y4 ⟨v4, rfl, hP4, hb⟩
            obtain ⟨A4, n4, c4, rfl, _, _, hl4, hr4⟩ := hP4.out
            have S4 := Lib.hid (S3.out.below hb (Nat.le_refl _))
            have P4 := Lib.hid (P3.out.below hb)
            have B4 := Lib.hid (B3.out.trans (hb.mono X3))
            have X4 : X ≤ y4.heap.size := Nat.le_trans X3 hb.size
            have hn4 : n4 ≤ 100 := by have := (gapL_facts xf xt S3.out.rise).2.2.1; have := hl4.out; have := hl7.out; omega
            go_wp2_with fail
            refine hK _ _ (fun _ => Ext.of hb) ?_; clear hK K
            clear hb S3 P3 B3 X3 r1 r2 hP4
            refine o_sole (fun K hK => ?_)
            go_wp2_with fail
            refine (plain_any A4 n4 c4 _ _ y4 hr4.out (Nat.le_refl _) (by omega)).mono ?_
            rintro e y5 ⟨v5, rfl, hP5, hb⟩
            obtain ⟨A5, n5, c5, rfl, _, _, hl5, hr5⟩ := hP5.out
            have S5 := Lib.hid (S4.out.below hb (Nat.le_refl _))
            have P5 := Lib.hid (P4.out.below hb)
            have B5 := Lib.hid (B4.out.trans (hb.mono X4))
            have X5 : X ≤ y5.heap.size := Nat.le_trans X4 hb.size
            have hn5 : n5 ≤ 100 := by have := hl5.out; have := hl4.out; omega
            have Q5 := Lib.hid hP5
            go_wp2_with fail
            refine hK _ _ (fun _ => Ext.of hb) ?_; clear hK K
            clear hb S4 P4 B4 X4 hP5 hr4 hr5
            refine o_sole (fun K hK => ?_)
            go_wp2_with fail
            have hrr : Rd y5 y5.heap.size 2 A7 n7 (cels l) := P5.out.rd hl7.out
            refine (rgaps_any A7 n7 c7 _ l xf xt y5 hrr (Nat.le_refl _) S5.out.rise (by omega)).mono ?_
            rintro e y6 ⟨v6, rfl, hP6, hb⟩
            obtain ⟨A6, n6, c6, rfl, _, _, hl6, hr6⟩ := hP6.out
            have S6 := Lib.hid (S5.out.below hb (Nat.le_refl _))
            have Q6 := Lib.hid (Q5.out.below hb)
            have B6 := Lib.hid (B5.out.trans (hb.mono X5))
            have X6 : X ≤ y6.heap.size := Nat.le_trans X5 hb.size
            go_wp2_with fail
            refine hK _ _ (fun _ => Ext.of hb) ?_; clear hK K
            clear hb S5 P5 B5 X5 hP6 hrr Q5
            refine o_sole (fun K hK => ?_)
            go_wp2_with fail
            have hrr : Rd y6 y6.heap.size 2 A5 n5 (cels (gapL l xf xt)) := Q6.out.rd hl5.out
            refine (same_any A5 A6 n5 c5 n6 c6 _ _ _ _ y6 hrr hr6.out (by omega)).mono ?_
            rintro e y7 ⟨rfl, hb⟩
            rw [decide_eq_true rfl]
            have S7 := Lib.hid (S6.out.below hb (Nat.le_refl _))
            have B7 := Lib.hid (B6.out.trans (hb.mono X6))
            have X7 : X ≤ y7.heap.size := Nat.le_trans X6 hb.size
            go_wp2_with fail
            refine hK _ _ (fun _ => Ext.of hb) ?_; clear hK K
            clear hb S6 B6 X6 hrr hr6 Q6
            (refine o_pure (v := ?_) (by rfl) (fun w' => ?_) ?_; rotate_left; (focus (go_simp; (try with_reducible rfl))); (try simp only [Act.put, List.setIfInBounds_toArray, List.set_cons_zero, List.set_cons_succ]))
            (refine o_pure (v := ?_) (by rfl) (fun w' => ?_) ?_; rotate_left; (focus (go_simp; (try with_reducible rfl))); (try simp only [Act.put, List.setIfInBounds_toArray, List.set_cons_zero, List.set_cons_succ]))
            (refine o_pure (v := ?_) (by rfl) (fun w' => ?_) ?_; rotate_left; (focus (go_simp; (try with_reducible rfl))); (try simp only [Act.put, List.setIfInBounds_toArray, List.set_cons_zero, List.set_cons_succ]))
            (refine o_pure (v := ?_) (by rfl) (fun w' => ?_) ?_; rotate_left; (focus (go_simp; (try with_reducible rfl))); (try simp only [Act.put, List.setIfInBounds_toArray, List.set_cons_zero, List.set_cons_succ]))
            refine o_sole (fun K hK => ?_)
            go_wp2_with fail
            refine (many_any g g M v l y7 S7.out).mono ?_
            rintro e y8 ⟨rfl, hb⟩
            rw [hs5.out]
            have B8 := Lib.hid (B7.out.trans (hb.mono X7))
            have X8 : X ≤ y8.heap.size := Nat.le_trans X7 hb.size
            go_wp2_with fail
            refine hK _ _ (fun _ => Ext.of hb) ?_; clear hK K
            clear hb S7 B7 X7
            (refine o_pure (v := ?_) (by rfl) (fun w' => ?_) ?_; rotate_left; (focus (go_simp; (try with_reducible rfl))); (try simp only [Act.put, List.setIfInBounds_toArray, List.set_cons_zero, List.set_cons_succ]))
            (refine o_pure (v := ?_) (by rfl) (fun w' => ?_) ?_; rotate_left; (focus (go_simp; (try with_reducible rfl))); (try simp only [Act.put, List.setIfInBounds_toArray, List.set_cons_zero, List.set_cons_succ]))
            (refine o_pure (v := ?_) (by rfl) (fun w' => ?_) ?_; rotate_left; (focus (go_simp; (try with_reducible rfl))); (try simp only [Act.put, List.setIfInBounds_toArray, List.set_cons_zero, List.set_cons_succ]))
            refine o_sole (fun K hK => ?_)
            go_wp2_with fail
            refine (alive_any y8).mono ?_
            rintro e y9 ⟨rfl, hb⟩
            have B9 := Lib.hid (B8.out.trans (hb.mono X8))
            go_wp2_with fail
            refine hK _ _ (fun _ => Ext.of hb) ?_; clear hK K
            clear hb B8 X8
            (refine o_pure (v := ?_) (by rfl) (fun w' => ?_) ?_; rotate_left; (focus (go_simp; (try with_reducible rfl))); (try simp only [Act.put, List.setIfInBounds_toArray, List.set_cons_zero, List.set_cons_succ]))
            (refine o_pure (v := ?_) (by rfl) (fun w' => ?_) ?_; rotate_left; (focus (go_simp; (try with_reducible rfl))); (try simp only [Act.put, List.setIfInBounds_toArray, List.set_cons_zero, List.set_cons_succ]))
            refine o_nil (hQ.out _ _ ?_); clear hQ QQ
            go_wp2
            go_ret
            refine ⟨rfl, ?_⟩
            rw [← HX.out]
            exact B9.out
          · have hcv' : ¬ (xt : Int) ≤ (xf : Int) := by omega
            have hcd : decide (xt ≤ xf) = false := decide_eq_false hcv
            go_wp2_with fail
            refine wp_ord [(0, .pure), (1, .pure), (2, .read), (4, .pure), (5, .pure), (6, .read), (7, .pure), (3, .sole), (8, .pure), (9, .pure), (10, .pure), (11, .pure), (12, .read), (14, .pure), (13, .sole), (15, .pure), (16, .pure), (17, .pure), (18, .pure), (19, .pure), (20, .read), (21, .pure), (22, .read), (24, .pure), (23, .sole), (25, .pure), (26, .pure), (27, .pure), (28, .pure), (29, .pure), (30, .read), (31, .pure), (32, .read), (35, .pure), (36, .pure), (37, .read), (38, .pure), (39, .read), (33, .sole), (34, .sole), (40, .sole), (41, .sole), (42, .pure), (43, .pure), (44, .pure), (46, .pure), (45, .sole), (47, .pure), (48, .pure), (49, .pure), (50, .sole), (51, .pure), (52, .pure)] [] (by kernel_rfl) (by kernel_rfl) (fun QQ hQ wd hwd => ?_); simp only [List.map_cons, List.map_nil, List.getD_cons_zero, List.getD_cons_succ]
            have x1 : wd.cell? ⟨X, 1, none⟩ = some (.int .u64 (xf : Int)) := by rw [hwd.out]; exact z1
            have x2 : wd.cell? ⟨X, 2, none⟩ = some (.int .u64 (xt : Int)) := by rw [hwd.out]; exact z2
            have S0 := Lib.hid (show SetI wd g g M v l from HS5.out.below (by rw [hwd.out]; exact (Below.refl _ _).drew) (Nat.le_refl _))
            have P0 := Lib.hid (show Pcs wd 40 X (.slice A7 n7 c7) l by rw [hwd.out]; exact HP5.out)
            have B0 := Lib.hid (show Below X w wd by rw [hwd.out]; exact HB5.out.drew)
            have X0 : X ≤ wd.heap.size := by have := S0.out.lt; omega
            clear hwd z1 z2 HS5 HP5 HB5
            (refine o_pure (v := ?_) (by rfl) (fun w' => ?_) ?_; rotate_left; (focus (go_simp; (try with_reducible rfl))); (try simp only [Act.put, List.setIfInBounds_toArray, List.set_cons_zero, List.set_cons_succ]))
            (refine o_pure (v := ?_) (by rfl) (fun w' => ?_) ?_; rotate_left; (focus (go_simp; (try with_reducible rfl))); (try simp only [Act.put, List.setIfInBounds_toArray, List.set_cons_zero, List.set_cons_succ]))
            (refine o_load _ (by rfl) rfl rfl (by assumption) (by kernel_rfl) ?_; simp only [Act.put, List.setIfInBounds_toArray, List.set_cons_zero, List.set_cons_succ])
            (refine o_pure (v := ?_) (by rfl) (fun w' => ?_) ?_; rotate_left; (focus (go_simp; (try with_reducible rfl))); (try simp only [Act.put, List.setIfInBounds_toArray, List.set_cons_zero, List.set_cons_succ]))
            (refine o_pure (v := ?_) (by rfl) (fun w' => ?_) ?_; rotate_left; (focus (go_simp; (try with_reducible rfl))); (try simp only [Act.put, List.setIfInBounds_toArray, List.set_cons_zero, List.set_cons_succ]))
            (refine o_load _ (by rfl) rfl rfl (by assumption) (by kernel_rfl) ?_; simp only [Act.put, List.setIfInBounds_toArray, List.set_cons_zero, List.set_cons_succ])
            (refine o_pure (v := ?_) (by rfl) (fun w' => ?_) ?_; rotate_left; (focus (go_simp; (try with_reducible rfl))); (try simp only [Act.put, List.setIfInBounds_toArray, List.set_cons_zero, List.set_cons_succ]))
            refine o_sole (fun K hK => ?_)
            go_wp2_with fail
            refine (has_any g g M v l xf wd S0.out).mono ?_
            rintro e y1 ⟨rfl, hb⟩
            rw [← HRR.out]
            have S1 := Lib.hid (S0.out.below hb (Nat.le_refl _))
            have P1 := Lib.hid (P0.out.below hb)
            have B1 := Lib.hid (B0.out.trans (hb.mono X0))
            have X1 : X ≤ y1.heap.size := Nat.le_trans X0 hb.size
            have r1 := (hb.cell (p := ⟨X, 1, none⟩) (by have := S0.out.lt; show X < _; omega)).trans x1
            have r2 := (hb.cell (p := ⟨X, 2, none⟩) (by have := S0.out.lt; show X < _; omega)).trans x2
            go_wp2_with fail
            refine hK _ _ (fun _ => Ext.of hb) ?_; clear hK K
            clear hb S0 P0 B0 X0 x1 x2
            (refine o_pure (v := ?_) (by rfl) (fun w' => ?_) ?_; rotate_left; (focus (go_simp; (try with_reducible rfl))); (try simp only [Act.put, List.setIfInBounds_toArray, List.set_cons_zero, List.set_cons_succ]))
            (refine o_pure (v := ?_) (by rfl) (fun w' => ?_) ?_; rotate_left; (focus (go_simp; (try with_reducible rfl))); (try simp only [Act.put, List.setIfInBounds_toArray, List.set_cons_zero, List.set_cons_succ]))
            (refine o_pure (v := ?_) (by rfl) (fun w' => ?_) ?_; rotate_left; (focus (go_simp; (try with_reducible rfl))); (try simp only [Act.put, List.setIfInBounds_toArray, List.set_cons_zero, List.set_cons_succ]))
            (refine o_pure (v := ?_) (by rfl) (fun w' => ?_) ?_; rotate_left; (focus (go_simp; (try with_reducible rfl))); (try simp only [Act.put, List.setIfInBounds_toArray, List.set_cons_zero, List.set_cons_succ]))
            (refine o_load _ (by rfl) rfl rfl (by assumption) (by kernel_rfl) ?_; simp only [Act.put, List.setIfInBounds_toArray, List.set_cons_zero, List.set_cons_succ])
            (refine o_pure (v := ?_) (by rfl) (fun w' => ?_) ?_; rotate_left; (focus (go_simp; (try with_reducible rfl))); (try simp only [Act.put, List.setIfInBounds_toArray, List.set_cons_zero, List.set_cons_succ]))
            refine o_sole (fun K hK => ?_)
            go_wp2_with fail
            refine (run_any g g M v l xf y1 S1.out).mono ?_
            rintro e y2 ⟨rfl, hb⟩
            rw [← HRR.out]
            have S2 := Lib.hid (S1.out.below hb (Nat.le_refl _))
            have P2 := Lib.hid (P1.out.below hb)
            have B2 := Lib.hid (B1.out.trans (hb.mono X1))
            have X2 : X ≤ y2.heap.size := Nat.le_trans X1 hb.size
            have x1 := (hb.cell (p := ⟨X, 1, none⟩) (by have := S1.out.lt; show X < _; omega)).trans r1
            have x2 := (hb.cell (p := ⟨X, 2, none⟩) (by have := S1.out.lt; show X < _; omega)).trans r2
            go_wp2_with fail
            refine hK _ _ (fun _ => Ext.of hb) ?_; clear hK K
            clear hb S1 P1 B1 X1 r1 r2
            (refine o_pure (v := ?_) (by rfl) (fun w' => ?_) ?_; rotate_left; (focus (go_simp; (try with_reducible rfl))); (try simp only [Act.put, List.setIfInBounds_toArray, List.set_cons_zero, List.set_cons_succ]))
            (refine o_pure (v := ?_) (by rfl) (fun w' => ?_) ?_; rotate_left; (focus (go_simp; (try with_reducible rfl))); (try simp only [Act.put, List.setIfInBounds_toArray, List.set_cons_zero, List.set_cons_succ]))
            (refine o_pure (v := ?_) (by rfl) (fun w' => ?_) ?_; rotate_left; (focus (go_simp; (try with_reducible rfl))); (try simp only [Act.put, List.setIfInBounds_toArray, List.set_cons_zero, List.set_cons_succ]))
            (refine o_pure (v := ?_) (by rfl) (fun w' => ?_) ?_; rotate_left; (focus (go_simp; (try with_reducible rfl))); (try simp only [Act.put, List.setIfInBounds_toArray, List.set_cons_zero, List.set_cons_succ]))
            (refine o_pure (v := ?_) (by rfl) (fun w' => ?_) ?_; rotate_left; (focus (go_simp; (try with_reducible rfl))); (try simp only [Act.put, List.setIfInBounds_toArray, List.set_cons_zero, List.set_cons_succ]))
            (refine o_load _ (by rfl) rfl rfl (by assumption) (by kernel_rfl) ?_; simp only [Act.put, List.setIfInBounds_toArray, List.set_cons_zero, List.set_cons_succ])
            (refine o_pure (v := ?_) (by rfl) (fun w' => ?_) ?_; rotate_left; (focus (go_simp; (try with_reducible rfl))); (try simp only [Act.put, List.setIfInBounds_toArray, List.set_cons_zero, List.set_cons_succ]))
            (refine o_load _ (by rfl) rfl rfl (by assumption) (by kernel_rfl) ?_; simp only [Act.put, List.setIfInBounds_toArray, List.set_cons_zero, List.set_cons_succ])
            (refine o_pure (v := ?_) (by rfl) (fun w' => ?_) ?_; rotate_left; (focus (go_simp; (try with_reducible rfl))); (try simp only [Act.put, List.setIfInBounds_toArray, List.set_cons_zero, List.set_cons_succ]))
            refine o_sole (fun K hK => ?_)
            go_wp2_with fail
            refine (covers_any g g M v l xf xt y2 S2.out).mono ?_
            rintro e y3 ⟨rfl, hb⟩
            rw [← HRR.out]
            have S3 := Lib.hid (S2.out.below hb (Nat.le_refl _))
            have P3 := Lib.hid (P2.out.below hb)
            have B3 := Lib.hid (B2.out.trans (hb.mono X2))
            have X3 : X ≤ y3.heap.size := Nat.le_trans X2 hb.size
            have r1 := (hb.cell (p := ⟨X, 1, none⟩) (by have := S2.out.lt; show X < _; omega)).trans x1
            have r2 := (hb.cell (p := ⟨X, 2, none⟩) (by have := S2.out.lt; show X < _; omega)).trans x2
            go_wp2_with fail
            refine hK _ _ (fun _ => Ext.of hb) ?_; clear hK K
            clear hb S2 P2 B2 X2 x1 x2
            (refine o_pure (v := ?_) (by rfl) (fun w' => ?_) ?_; rotate_left; (focus (go_simp; (try with_reducible rfl))); (try simp only [Act.put, List.setIfInBounds_toArray, List.set_cons_zero, List.set_cons_succ]))
            (refine o_pure (v := ?_) (by rfl) (fun w' => ?_) ?_; rotate_left; (focus (go_simp; (try with_reducible rfl))); (try simp only [Act.put, List.setIfInBounds_toArray, List.set_cons_zero, List.set_cons_succ]))
            (refine o_pure (v := ?_) (by rfl) (fun w' => ?_) ?_; rotate_left; (focus (go_simp; (try with_reducible rfl))); (try simp only [Act.put, List.setIfInBounds_toArray, List.set_cons_zero, List.set_cons_succ]))
            (refine o_pure (v := ?_) (by rfl) (fun w' => ?_) ?_; rotate_left; (focus (go_simp; (try with_reducible rfl))); (try simp only [Act.put, List.setIfInBounds_toArray, List.set_cons_zero, List.set_cons_succ]))
            (refine o_pure (v := ?_) (by rfl) (fun w' => ?_) ?_; rotate_left; (focus (go_simp; (try with_reducible rfl))); (try simp only [Act.put, List.setIfInBounds_toArray, List.set_cons_zero, List.set_cons_succ]))
            (refine o_load _ (by rfl) rfl rfl (by assumption) (by kernel_rfl) ?_; simp only [Act.put, List.setIfInBounds_toArray, List.set_cons_zero, List.set_cons_succ])
            (refine o_pure (v := ?_) (by rfl) (fun w' => ?_) ?_; rotate_left; (focus (go_simp; (try with_reducible rfl))); (try simp only [Act.put, List.setIfInBounds_toArray, List.set_cons_zero, List.set_cons_succ]))
            (refine o_load _ (by rfl) rfl rfl (by assumption) (by kernel_rfl) ?_; simp only [Act.put, List.setIfInBounds_toArray, List.set_cons_zero, List.set_cons_succ])
            (refine o_pure (v := ?_) (by rfl) (fun w' => ?_) ?_; rotate_left; (focus (go_simp; (try with_reducible rfl))); (try simp only [Act.put, List.setIfInBounds_toArray, List.set_cons_zero, List.set_cons_succ]))
            (refine o_pure (v := ?_) (by rfl) (fun w' => ?_) ?_; rotate_left; (focus (go_simp; (try with_reducible rfl))); (try simp only [Act.put, List.setIfInBounds_toArray, List.set_cons_zero, List.set_cons_succ]))
            (refine o_load _ (by rfl) rfl rfl (by assumption) (by kernel_rfl) ?_; simp only [Act.put, List.setIfInBounds_toArray, List.set_cons_zero, List.set_cons_succ])
            (refine o_pure (v := ?_) (by rfl) (fun w' => ?_) ?_; rotate_left; (focus (go_simp; (try with_reducible rfl))); (try simp only [Act.put, List.setIfInBounds_toArray, List.set_cons_zero, List.set_cons_succ]))
            (refine o_load _ (by rfl) rfl rfl (by assumption) (by kernel_rfl) ?_; simp only [Act.put, List.setIfInBounds_toArray, List.set_cons_zero, List.set_cons_succ])
            refine o_sole (fun K hK => ?_)
            go_wp2_with fail
            refine (gaps_any g g M v l xf xt y3 S3.out).mono ?_
            rintro e y4 ⟨v4, rfl, hP4, hb⟩
            obtain ⟨A4, n4, c4, rfl, _, _, hl4, hr4⟩ := hP4.out
            have S4 := Lib.hid (S3.out.below hb (Nat.le_refl _))
            have P4 := Lib.hid (P3.out.below hb)
            have B4 := Lib.hid (B3.out.trans (hb.mono X3))
            have X4 : X ≤ y4.heap.size := Nat.le_trans X3 hb.size
            have hn4 : n4 ≤ 100 := by have := (gapL_facts xf xt S3.out.rise).2.2.1; have := hl4.out; have := hl7.out; omega
            go_wp2_with fail
            refine hK _ _ (fun _ => Ext.of hb) ?_; clear hK K
            clear hb S3 P3 B3 X3 r1 r2 hP4
            refine o_sole (fun K hK => ?_)
            go_wp2_with fail
            refine (plain_any A4 n4 c4 _ _ y4 hr4.out (Nat.le_refl _) (by omega)).mono ?_
            rintro e y5 ⟨v5, rfl, hP5, hb⟩
            obtain ⟨A5, n5, c5, rfl, _, _, hl5, hr5⟩ := hP5.out
            have S5 := Lib.hid (S4.out.below hb (Nat.le_refl _))
            have P5 := Lib.hid (P4.out.below hb)
            have B5 := Lib.hid (B4.out.trans (hb.mono X4))
            have X5 : X ≤ y5.heap.size := Nat.le_trans X4 hb.size
            have hn5 : n5 ≤ 100 := by have := hl5.out; have := hl4.out; omega
            have Q5 := Lib.hid hP5
            go_wp2_with fail
            refine hK _ _ (fun _ => Ext.of hb) ?_; clear hK K
            clear hb S4 P4 B4 X4 hP5 hr4 hr5
            refine o_sole (fun K hK => ?_)
            go_wp2_with fail
            have hrr : Rd y5 y5.heap.size 2 A7 n7 (cels l) := P5.out.rd hl7.out
            refine (rgaps_any A7 n7 c7 _ l xf xt y5 hrr (Nat.le_refl _) S5.out.rise (by omega)).mono ?_
            rintro e y6 ⟨v6, rfl, hP6, hb⟩
            obtain ⟨A6, n6, c6, rfl, _, _, hl6, hr6⟩ := hP6.out
            have S6 := Lib.hid (S5.out.below hb (Nat.le_refl _))
            have Q6 := Lib.hid (Q5.out.below hb)
            have B6 := Lib.hid (B5.out.trans (hb.mono X5))
            have X6 : X ≤ y6.heap.size := Nat.le_trans X5 hb.size
            go_wp2_with fail
            refine hK _ _ (fun _ => Ext.of hb) ?_; clear hK K
            clear hb S5 P5 B5 X5 hP6 hrr Q5
            refine o_sole (fun K hK => ?_)
            go_wp2_with fail
            have hrr : Rd y6 y6.heap.size 2 A5 n5 (cels (gapL l xf xt)) := Q6.out.rd hl5.out
            refine (same_any A5 A6 n5 c5 n6 c6 _ _ _ _ y6 hrr hr6.out (by omega)).mono ?_
            rintro e y7 ⟨rfl, hb⟩
            rw [decide_eq_true rfl]
            have S7 := Lib.hid (S6.out.below hb (Nat.le_refl _))
            have B7 := Lib.hid (B6.out.trans (hb.mono X6))
            have X7 : X ≤ y7.heap.size := Nat.le_trans X6 hb.size
            go_wp2_with fail
            refine hK _ _ (fun _ => Ext.of hb) ?_; clear hK K
            clear hb S6 B6 X6 hrr hr6 Q6
            (refine o_pure (v := ?_) (by rfl) (fun w' => ?_) ?_; rotate_left; (focus (go_simp; (try with_reducible rfl))); (try simp only [Act.put, List.setIfInBounds_toArray, List.set_cons_zero, List.set_cons_succ]))
            (refine o_pure (v := ?_) (by rfl) (fun w' => ?_) ?_; rotate_left; (focus (go_simp; (try with_reducible rfl))); (try simp only [Act.put, List.setIfInBounds_toArray, List.set_cons_zero, List.set_cons_succ]))
            (refine o_pure (v := ?_) (by rfl) (fun w' => ?_) ?_; rotate_left; (focus (go_simp; (try with_reducible rfl))); (try simp only [Act.put, List.setIfInBounds_toArray, List.set_cons_zero, List.set_cons_succ]))
            (refine o_pure (v := ?_) (by rfl) (fun w' => ?_) ?_; rotate_left; (focus (go_simp; (try with_reducible rfl))); (try simp only [Act.put, List.setIfInBounds_toArray, List.set_cons_zero, List.set_cons_succ]))
            refine o_sole (fun K hK => ?_)
            go_wp2_with fail
            refine (many_any g g M v l y7 S7.out).mono ?_
            rintro e y8 ⟨rfl, hb⟩
            rw [hs5.out]
            have B8 := Lib.hid (B7.out.trans (hb.mono X7))
            have X8 : X ≤ y8.heap.size := Nat.le_trans X7 hb.size
            go_wp2_with fail
            refine hK _ _ (fun _ => Ext.of hb) ?_; clear hK K
            clear hb S7 B7 X7
            (refine o_pure (v := ?_) (by rfl) (fun w' => ?_) ?_; rotate_left; (focus (go_simp; (try with_reducible rfl))); (try simp only [Act.put, List.setIfInBounds_toArray, List.set_cons_zero, List.set_cons_succ]))
            (refine o_pure (v := ?_) (by rfl) (fun w' => ?_) ?_; rotate_left; (focus (go_simp; (try with_reducible rfl))); (try simp only [Act.put, List.setIfInBounds_toArray, List.set_cons_zero, List.set_cons_succ]))
            (refine o_pure (v := ?_) (by rfl) (fun w' => ?_) ?_; rotate_left; (focus (go_simp; (try with_reducible rfl))); (try simp only [Act.put, List.setIfInBounds_toArray, List.set_cons_zero, List.set_cons_succ]))
            refine o_sole (fun K hK => ?_)
            go_wp2_with fail
            refine (alive_any y8).mono ?_
            rintro e y9 ⟨rfl, hb⟩
            have B9 := Lib.hid (B8.out.trans (hb.mono X8))
            go_wp2_with fail
            refine hK _ _ (fun _ => Ext.of hb) ?_; clear hK K
            clear hb B8 X8
            (refine o_pure (v := ?_) (by rfl) (fun w' => ?_) ?_; rotate_left; (focus (go_simp; (try with_reducible rfl))); (try simp only [Act.put, List.setIfInBounds_toArray, List.set_cons_zero, List.set_cons_succ]))
            (refine o_pure (v := ?_) (by rfl) (fun w' => ?_) ?_; rotate_left; (focus (go_simp; (try with_reducible rfl))); (try simp only [Act.put, List.setIfInBounds_toArray, List.set_cons_zero, List.set_cons_succ]))
            refine o_nil (hQ.out _ _ ?_); clear hQ QQ
            go_wp2
            go_ret
            refine ⟨rfl, ?_⟩
            rw [← HX.out]
            exact B9.out
end Go.Proofs.Ytiabafnfiedlcaa
