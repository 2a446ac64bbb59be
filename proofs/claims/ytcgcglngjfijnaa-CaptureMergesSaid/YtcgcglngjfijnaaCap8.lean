/- Layer 34: a capture's bytes. -/
import Derived.Test.YtcgcglngjfijnaaCapM
import Derived.Test.YtcgcglngjfijnaaOrd
import Derived.Test.YtcgcglngjfijnaaPut
import Derived.Test.YtcgcglngjfijnaaOp1
namespace Go.Proofs.Ytcgcglngjfijnaa
open Go.RowKit
set_option linter.unusedVariables false
set_option linter.unusedSimpArgs false
def CEPost (l : List Rcd) (B : Nat) (w' : World) (e : Ending) : Prop := ∃ v b, e = .returned (.tuple #[v, .bool b]) ∧ (b = true ↔ rightR l) ∧ Nats w' 5 .u8 B v (capA b l)
theorem fbs_rec {d h m : Nat} (hh : h < 256) : fbs [((4 : Int), d), ((1 : Int), h), ((2 : Int), m)] = be d 4 ++ (h :: be m 2) := by
  unfold fbs
  simp only [List.flatMap_cons, List.flatMap_nil]
  rw [if_pos (by decide), if_pos (by decide), if_pos (by decide)]
  show be d 4 ++ (be h 1 ++ (be m 2 ++ [])) = _
  rw [ope1 hh, List.append_nil]
  rfl
theorem fbs_head (n : Nat) : fbs [((4 : Int), 1112690517), ((2 : Int), n)] = capH n := by
  unfold fbs capH
  simp only [List.flatMap_cons, List.flatMap_nil]
  rw [if_pos (by decide), if_pos (by decide), List.append_nil]
  rfl
set_option maxRecDepth 20000 in
set_option maxHeartbeats 4000000 in
theorem cencode_any (A : Option Addr) (n c : Nat) (l : List Rb) (w : World) (h : Rs w A n c l) (hs : rightR (rsay l) → bsum (rsay l) ≤ 20000) :
    Calls Try.prog 87 #[.slice A n c] w fun e w' => CEPost (rsay l) w.heap.size w' e ∧ Below w.heap.size w w' := by
  have HRI := Lib.hid (cright_any A n c l w h)
  have HO := Lib.hid h
  have HL := Lib.hid h.len
  have HS := Lib.hid hs
  have HBY := Lib.hid (show ∀ p ∈ rsay l, ∀ x ∈ p.2.2.2, x < 256 from by
    intro p hp
    obtain ⟨q, hq, rfl⟩ := List.mem_map.1 hp
    exact (h.bds q hq).2.2.2)
  clear h hs
  go_enter Try.func87, Try.ntmps87
  go_wp2_with fail
  refine HRI.out.mono ?_
  rintro e w1 ⟨⟨bb, rfl, hiff⟩, hb1⟩
  have HIFF := Lib.hid hiff
  have B1 := Lib.hid hb1
  clear hiff hb1 HRI
  cases bb with
  | false =>
    go_wp2_with fail
    go_ret2
    exact ⟨⟨_, false, rfl, HIFF.out, Nats.nil _ _ _ _⟩, B1.out⟩
  | true =>
    have HRR := Lib.hid (HIFF.out.1 rfl)
    have hsz := HS.out HRR.out
    have hn24 : n ≤ 1024 := by have := HRR.out.1; rw [rsay_len, HL.out] at this; exact this
    have wn : IntKind.u16.wrap (n : Int) = (n : Int) := by rw [IntKind.wrap_u16]; omega
    go_wp2_with fail
    refine (pW_any 1112690517 w1 (by omega) (by omega)).mono ?_
    rintro e w2 ⟨rfl, hb2⟩
    have B2 := Lib.hid (B1.out.trans (hb2.mono B1.out.size))
    clear hb2 B1
    go_wp2_with fail
    refine (pH_any (n : Int) w2 (by omega) (by omega)).mono ?_
    rintro e w3 ⟨rfl, hb3⟩
    have B3 := Lib.hid (B2.out.trans (hb3.mono B2.out.size))
    clear hb3 B2
    go_wp2_with fail
    have hrd : Rd (w3.alloc (.cells #[.int .i64 4, .int .u64 1112690517, .int .i64 2, .int .u64 (n : Int)] 129)) (w3.heap.size + 1) 2 (some ⟨w3.heap.size, 0, none⟩) 2 (fs [((4 : Int), 1112690517), ((2 : Int), n)]) := Rd.made w3 129 #[.int .i64 4, .int .u64 1112690517, .int .i64 2, .int .u64 (n : Int)] rfl
    have hz : (w3.alloc (.cells #[.int .i64 4, .int .u64 1112690517, .int .i64 2, .int .u64 (n : Int)] 129)).heap.size = w3.heap.size + 1 := by simp
    rw [← hz] at hrd
    have hb4 : Below w3.heap.size w3 (w3.alloc (.cells #[.int .i64 4, .int .u64 1112690517, .int .i64 2, .int .u64 (n : Int)] 129)) := (Below.refl _ _).alloc (Nat.le_refl _) _
    have B4 := Lib.hid (B3.out.trans (hb4.mono B3.out.size))
    have HRD := Lib.hid hrd
    clear hrd hz hb4 B3
    generalize w3.alloc (.cells #[.int .i64 4, .int .u64 1112690517, .int .i64 2, .int .u64 (n : Int)] 129) = w4 at *
    refine (pput_any none _ 0 2 0 2 [] _ w4 (Rd.nil _ _ _ _) HRD.out (by omega) (by
      intro p hp
      simp only [List.mem_cons, List.not_mem_nil, or_false] at hp
      rcases hp with rfl | rfl <;> dsimp only <;> omega)).mono ?_
    rintro e w5 ⟨v5, rfl, hN5, hb5⟩
    rw [List.nil_append, fbs_head] at hN5
    have N5 := Lib.hid (hN5.mono B4.out.size)
    have B5 := Lib.hid (B4.out.trans (hb5.mono B4.out.size))
    clear hN5 hb5 HRD B4
    go_wp2_with fail
    obtain ⟨Y, hY⟩ : ∃ Y, Y = capH n := ⟨_, rfl⟩
    rw [← hY] at N5
    have hYl : Y.length = 6 := by rw [hY, capH_len]
    have HY := Lib.hid hY
    clear hY
    go_loopw [4, 5, 20] (fun bv av iv wr => ∃ (k : Nat) (a : Int), k ≤ n ∧ iv = .int .i64 k ∧ av = .int .i64 a ∧ Hid (a = lastT 0 ((rsay l).take k)) ∧ Hid (Nats wr 5 .u8 w.heap.size bv (Y ++ recsB 0 ((rsay l).take k))) ∧ Below w.heap.size w wr) (fun _ _ iv _ => n - (intOf iv).toNat)
    case atStart => exact ⟨0, 0, Nat.zero_le _, rfl, rfl, Lib.hid (by simp [lastT]), by simpa [recsB] using N5, B5.out⟩
    case round =>
      obtain ⟨k, a, hk, rfl, rfl, hla, hN, hbw⟩ := hrel
      clear N5 B5
      have hszk : (recsB 0 ((rsay l).take k)).length ≤ 7 * k + 20000 := by
        rw [recsB_len, List.length_take]
        have := bsum_take (rsay l) k
        omega
      by_cases hlt : k < n
      · have hlt' : (k : Int) < (n : Int) := by omega
        obtain ⟨b, off, t, s, p, q, rfl, hbb, p0, p1, p2, p3, hp, hq, hql, hbs⟩ := (HO.out.into hbw).at_ hlt
        obtain ⟨qA, qn, qc, ql⟩ := q
        dsimp only at *
        have hp2 := rsay_at hp
        have hok : recOk a (t, s, p, ql) := by rw [hla.out]; exact rightGo_at HRR.out.2 hp2
        have ha0 : 0 ≤ a := by rw [hla.out]; exact lastT_nn (rightGo_take HRR.out.2 k) (by omega)
        obtain ⟨o1, o2, o3, o4, o5, o6⟩ := hok
        dsimp only at o1 o2 o3 o4 o5 o6
        have hqn : qn ≤ 2048 := by have := hql.out; omega
        obtain ⟨d, hd⟩ : ∃ d : Nat, d = (t - a).toNat := ⟨_, rfl⟩
        have ed : t - a = (d : Int) := by omega
        have wd1 : IntKind.i64.wrap (t - a) = (d : Int) := by rw [ed, IntKind.wrap_i64]; omega
        have wd2 : IntKind.u32.wrap (d : Int) = (d : Int) := by rw [IntKind.wrap_u32]; omega
        have hd32 : d < 4294967296 := by omega
        obtain ⟨z1, hz1⟩ : ∃ z1 : Int, z1 = 128 * s := ⟨_, rfl⟩
        have wz1 : IntKind.i64.wrap (128 * s) = z1 := by rw [← hz1, IntKind.wrap_i64]; rcases o4 with h | h <;> omega
        obtain ⟨hh, hhh⟩ : ∃ hh : Nat, hh = (128 * s + p).toNat := ⟨_, rfl⟩
        have eh : z1 + p = (hh : Int) := by rcases o4 with h | h <;> omega
        have wh1 : IntKind.i64.wrap (z1 + p) = (hh : Int) := by rw [eh, IntKind.wrap_i64]; rcases o4 with h | h <;> omega
        have hh8 : hh < 256 := by rcases o4 with h | h <;> omega
        have wh2 : IntKind.u8.wrap (hh : Int) = (hh : Int) := by rw [IntKind.wrap_u8]; omega
        have wq : IntKind.u16.wrap (qn : Int) = (qn : Int) := by rw [IntKind.wrap_u16]; omega
        have HREC := Lib.hid (show Y ++ recsB 0 ((rsay l).take (k + 1)) = (Y ++ recsB 0 ((rsay l).take k)) ++ (be d 4 ++ (hh :: be qn 2)) ++ ql from by
          rw [nth_take (Lib.hid hp2), recsB_snoc, ← hla.out]
          unfold recB
          dsimp only
          rw [← hd, ← hhh, hql.out]
          simp)
        have HLA := Lib.hid (show t = lastT 0 ((rsay l).take (k + 1)) from by rw [nth_take (Lib.hid hp2), lastT_snoc])
        have QW := Lib.hid ((HO.out.bod _ (List.mem_of_getElem? hp.out)).1)
        have hqlen := hql.out
        have HQL := Lib.hid hqlen
        obtain ⟨A7, n7, c7, rfl, hnc7, hl7, hr7⟩ := hN.out.out
        have hA : Below wr.heap.size wr (wr.alloc (.cells #[.int .i64 t, .int .i64 s, .int .i64 p, .slice qA qn qc] 93)) := (Below.refl _ _).alloc (Nat.le_refl _) _
        have KN := Lib.hid (Blk.new wr 93 #[.int .i64 t, .int .i64 s, .int .i64 p, .slice qA qn qc])
        have NA := Lib.hid (hN.out.below hA)
        have QA := Lib.hid (hq.out.into hA)
        have BA := Lib.hid (hbw.trans (hA.mono hbw.size))
        clear hd ed hz1 eh hhh o1 o2 o3 o4 o5 o6 ha0 hla hql hqlen hp hq hbs hp2 hA hN hr7
        go_wp2_with fail
        clear p0 p1 p2 p3
        generalize wr.alloc (.cells #[.int .i64 t, .int .i64 s, .int .i64 p, .slice qA qn qc] 93) = W at *
        obtain ⟨T, hT⟩ : ∃ T, T = wr.heap.size := ⟨_, rfl⟩
        rw [← hT] at KN ⊢
        have HWT := Lib.hid (show w.heap.size ≤ T from by rw [hT]; exact hbw.size)
        clear hT hbw
        refine wp_ord [(0, .pure), (1, .pure), (2, .read), (3, .pure), (4, .pure), (5, .pure), (7, .pure), (8, .read), (9, .pure), (10, .pure), (11, .read), (12, .pure), (13, .pure), (15, .pure), (16, .read), (17, .pure), (18, .pure), (6, .sole), (14, .sole), (19, .sole), (20, .sole), (21, .sole), (22, .sole), (23, .pure)] [22] (by kernel_rfl) (by kernel_rfl) (fun QQ hQ wd hwd => ?_); simp only [List.map_cons, List.map_nil, List.getD_cons_zero, List.getD_cons_succ]
        have hD : Below W.heap.size W wd := by rw [hwd.out]; exact (Below.refl _ _).drew
        have KD := Lib.hid (KN.out.below hD KN.out.lt)
        have ND := Lib.hid (NA.out.below hD)
        have QD := Lib.hid (QA.out.into hD)
        have BD := Lib.hid (BA.out.trans (hD.mono BA.out.size))
        obtain ⟨t0, t1, t2, t3⟩ := ptc4 KD.out
        clear hD hwd KN NA QA BA
        (refine o_pure (v := ?_) (by rfl) (fun w' => ?_) ?_; rotate_left; (focus (go_simp; (try with_reducible rfl))); (try simp only [Act.put, List.setIfInBounds_toArray, List.set_cons_zero, List.set_cons_succ]))
        (refine o_pure (v := ?_) (by rfl) (fun w' => ?_) ?_; rotate_left; (focus (go_simp; (try with_reducible rfl))); (try simp only [Act.put, List.setIfInBounds_toArray, List.set_cons_zero, List.set_cons_succ]))
        (refine o_load _ (by rfl) rfl rfl (by assumption) (by kernel_rfl) ?_; simp only [Act.put, List.setIfInBounds_toArray, List.set_cons_zero, List.set_cons_succ])
        (refine o_pure (v := ?_) (by rfl) (fun w' => ?_) ?_; rotate_left; (focus (go_simp; (try with_reducible rfl))); (try simp only [Act.put, List.setIfInBounds_toArray, List.set_cons_zero, List.set_cons_succ]))
        (refine o_pure (v := ?_) (by rfl) (fun w' => ?_) ?_; rotate_left; (focus (go_simp; (try with_reducible rfl))); (try simp only [Act.put, List.setIfInBounds_toArray, List.set_cons_zero, List.set_cons_succ]))
        (refine o_pure (v := ?_) (by rfl) (fun w' => ?_) ?_; rotate_left; (focus (go_simp; (try with_reducible rfl))); (try simp only [Act.put, List.setIfInBounds_toArray, List.set_cons_zero, List.set_cons_succ]))
        (refine o_pure (v := ?_) (by rfl) (fun w' => ?_) ?_; rotate_left; (focus (go_simp; (try with_reducible rfl))); (try simp only [Act.put, List.setIfInBounds_toArray, List.set_cons_zero, List.set_cons_succ]))
        (refine o_load _ (by rfl) rfl rfl (by assumption) (by kernel_rfl) ?_; simp only [Act.put, List.setIfInBounds_toArray, List.set_cons_zero, List.set_cons_succ])
        (refine o_pure (v := ?_) (by rfl) (fun w' => ?_) ?_; rotate_left; (focus (go_simp; (try with_reducible rfl))); (try simp only [Act.put, List.setIfInBounds_toArray, List.set_cons_zero, List.set_cons_succ]))
        (refine o_pure (v := ?_) (by rfl) (fun w' => ?_) ?_; rotate_left; (focus (go_simp; (try with_reducible rfl))); (try simp only [Act.put, List.setIfInBounds_toArray, List.set_cons_zero, List.set_cons_succ]))
        (refine o_load _ (by rfl) rfl rfl (by assumption) (by kernel_rfl) ?_; simp only [Act.put, List.setIfInBounds_toArray, List.set_cons_zero, List.set_cons_succ])
        (refine o_pure (v := ?_) (by rfl) (fun w' => ?_) ?_; rotate_left; (focus (go_simp; (try with_reducible rfl))); (try simp only [Act.put, List.setIfInBounds_toArray, List.set_cons_zero, List.set_cons_succ]))
        (refine o_pure (v := ?_) (by rfl) (fun w' => ?_) ?_; rotate_left; (focus (go_simp; (try with_reducible rfl))); (try simp only [Act.put, List.setIfInBounds_toArray, List.set_cons_zero, List.set_cons_succ]))
        (refine o_pure (v := ?_) (by rfl) (fun w' => ?_) ?_; rotate_left; (focus (go_simp; (try with_reducible rfl))); (try simp only [Act.put, List.setIfInBounds_toArray, List.set_cons_zero, List.set_cons_succ]))
        (refine o_load _ (by rfl) rfl rfl (by assumption) (by kernel_rfl) ?_; simp only [Act.put, List.setIfInBounds_toArray, List.set_cons_zero, List.set_cons_succ])
        (refine o_pure (v := ?_) (by rfl) (fun w' => ?_) ?_; rotate_left; (focus (go_simp; (try with_reducible rfl))); (try simp only [Act.put, List.setIfInBounds_toArray, List.set_cons_zero, List.set_cons_succ]))
        (refine o_pure (v := ?_) (by rfl) (fun w' => ?_) ?_; rotate_left; (focus (go_simp; (try with_reducible rfl))); (try simp only [Act.put, List.setIfInBounds_toArray, List.set_cons_zero, List.set_cons_succ]))
        clear t0 t1 t2 t3
        refine o_sole (fun K hK => ?_)
        go_wp2_with fail
        refine (pW_any (d : Int) wd (by omega) (by omega)).mono ?_
        rintro e v1 ⟨rfl, hb⟩
        have K1 := Lib.hid (KD.out.below hb KD.out.lt)
        have N1 := Lib.hid (ND.out.below hb)
        have Q1 := Lib.hid (QD.out.into hb)
        have X1 := Lib.hid (BD.out.trans (hb.mono BD.out.size))
        go_wp2_with fail
        refine hK _ _ (fun _ => Ext.of hb) ?_; clear hK K
        clear hb KD ND QD BD
        refine o_sole (fun K hK => ?_)
        go_wp2_with fail
        refine (pB_any (hh : Int) v1 (by omega) (by omega)).mono ?_
        rintro e v2 ⟨rfl, hb⟩
        have K2 := Lib.hid (K1.out.below hb K1.out.lt)
        have N2 := Lib.hid (N1.out.below hb)
        have Q2 := Lib.hid (Q1.out.into hb)
        have X2 := Lib.hid (X1.out.trans (hb.mono X1.out.size))
        go_wp2_with fail
        refine hK _ _ (fun _ => Ext.of hb) ?_; clear hK K
        clear hb K1 N1 Q1 X1
        refine o_sole (fun K hK => ?_)
        go_wp2_with fail
        refine (pH_any (qn : Int) v2 (by omega) (by omega)).mono ?_
        rintro e v3 ⟨rfl, hb⟩
        have K3 := Lib.hid (K2.out.below hb K2.out.lt)
        have N3 := Lib.hid (N2.out.below hb)
        have Q3 := Lib.hid (Q2.out.into hb)
        have X3 := Lib.hid (X2.out.trans (hb.mono X2.out.size))
        go_wp2_with fail
        refine hK _ _ (fun _ => Ext.of hb) ?_; clear hK K
        clear hb K2 N2 Q2 X2
        refine o_sole (fun K hK => ?_)
        go_wp2_with fail
        refine hK _ _ (fun _ => Ext.of ((Below.refl _ _).alloc (Nat.le_refl _) _)) ?_; clear hK K
        have hrd : Rd (v3.alloc (.cells #[.int .i64 4, .int .u64 (d : Int), .int .i64 1, .int .u64 (hh : Int), .int .i64 2, .int .u64 (qn : Int)] 129)) (v3.heap.size + 1) 2 (some ⟨v3.heap.size, 0, none⟩) 3 (fs [((4 : Int), d), ((1 : Int), hh), ((2 : Int), qn)]) := Rd.made v3 129 #[.int .i64 4, .int .u64 (d : Int), .int .i64 1, .int .u64 (hh : Int), .int .i64 2, .int .u64 (qn : Int)] rfl
        have hz : (v3.alloc (.cells #[.int .i64 4, .int .u64 (d : Int), .int .i64 1, .int .u64 (hh : Int), .int .i64 2, .int .u64 (qn : Int)] 129)).heap.size = v3.heap.size + 1 := by simp
        rw [← hz] at hrd
        have hb : Below v3.heap.size v3 (v3.alloc (.cells #[.int .i64 4, .int .u64 (d : Int), .int .i64 1, .int .u64 (hh : Int), .int .i64 2, .int .u64 (qn : Int)] 129)) := (Below.refl _ _).alloc (Nat.le_refl _) _
        have K4 := Lib.hid (K3.out.below hb K3.out.lt)
        have N4 := Lib.hid (N3.out.below hb)
        have Q4 := Lib.hid (Q3.out.into hb)
        have X4 := Lib.hid (X3.out.trans (hb.mono X3.out.size))
        have HRD := Lib.hid hrd
        clear hrd hz hb K3 N3 Q3 X3
        refine o_sole (fun K hK => ?_)
        go_wp2_with fail
        generalize v3.alloc (.cells #[.int .i64 4, .int .u64 (d : Int), .int .i64 1, .int .u64 (hh : Int), .int .i64 2, .int .u64 (qn : Int)] 129) = v4 at *
        refine (pput_any none _ 0 3 0 3 [] _ v4 (Rd.nil _ _ _ _) HRD.out (by omega) (by
          intro p hp
          simp only [List.mem_cons, List.not_mem_nil, or_false] at hp
          rcases hp with rfl | rfl | rfl <;> dsimp only <;> omega)).mono ?_
        rintro e v5 ⟨u5, rfl, hN5, hb⟩
        rw [List.nil_append, fbs_rec hh8] at hN5
        obtain ⟨A5, n5, c5, rfl, _, hl5, hr5⟩ := hN5.out
        have K5 := Lib.hid (K4.out.below hb K4.out.lt)
        have N5 := Lib.hid (N4.out.below hb)
        have Q5 := Lib.hid (Q4.out.into hb)
        have X5 := Lib.hid (X4.out.trans (hb.mono X4.out.size))
        go_wp2_with fail
        refine hK _ _ (fun _ => Ext.of hb) ?_; clear hK K
        clear hb hN5 HRD K4 N4 Q4 X4
        refine o_sole (fun K hK => ?_)
        refine appn pel8 rfl (.tmp 24) (.tmp 45) rfl rfl N5.out rfl hr5.out (by simp [be_len, hYl]; exact room_ge (by omega)) X5.out.size ?_
        intro u6 v6 hN6 hg6 hb
        have K6 := Lib.hid (K5.out.far N5.out (by decide) hg6)
        have N6 := Lib.hid hN6
        have Q6 := Lib.hid (show Rd v6 w.heap.size 1 qA qn (ns .u8 ql) from (QW.out.below (X5.out.trans hb)))
        have X6 := Lib.hid (X5.out.trans hb)
        obtain ⟨A6, n6, c6, rfl, _, _, _⟩ := N6.out.out
        refine wpList_nil ?_
        refine hK _ _ (fun h => by cases h) ?_; clear hK K
        clear hb hN6 hg6 hr5 hl5 K5 N5 Q5 X5
        (refine o_pure (v := ?_) (by rfl) (fun w' => ?_) ?_; rotate_left; (focus (go_simp; (try with_reducible rfl))); (try simp only [Act.put, List.setIfInBounds_toArray, List.set_cons_zero, List.set_cons_succ]))
        refine o_nil (hQ.out _ _ ?_); clear hQ QQ
        obtain ⟨t0, t1, t2, t3⟩ := ptc4 K6.out
        go_wp2_with (at_builtin; go_must (refine appn pel8 rfl _ _ rfl rfl N6.out rfl Q6.out (by simp [be_len, hYl, HQL.out]; exact room_ge (by omega)) X6.out.size ?_))
        intro u7 v7 hN7 hg7 hb
        have K7 := Lib.hid (K6.out.far N6.out (by decide) hg7)
        have N7 := Lib.hid (show Nats v7 5 .u8 w.heap.size u7 (Y ++ recsB 0 ((rsay l).take (k + 1))) from by rw [HREC.out]; simpa using hN7)
        have X7 := Lib.hid (X6.out.trans hb)
        clear t0 t1 t2 t3 hN7 hg7 hb K6 N6 Q6 X6
        obtain ⟨t0, t1, t2, t3⟩ := ptc4 K7.out
        go_wp2_with fail
        go_roundw
        case rel => exact ⟨k + 1, t, by omega, by go_num, rfl, HLA, N7, X7.out⟩
        case measure => simp [intOf]; omega
      · have hge : ¬ (k : Int) < (n : Int) := by omega
        have hall : (rsay l).take k = rsay l := List.take_of_length_le (by rw [rsay_len, HL.out]; omega)
        have hN2 := hN.out
        have eB : Y ++ recsB 0 (rsay l) = capB (rsay l) := by rw [HY.out]; unfold capB; rw [rsay_len, HL.out]
        rw [hall, eB] at hN2
        obtain ⟨A7, n7, c7, rfl, hnc7, hl7, hr7⟩ := hN2.out
        have hn7 : n7 ≤ 50000 := by rw [← hl7.out, capB_len, rsay_len, HL.out]; omega
        have hcm7 : c7 ≤ maxLen := by
          obtain ⟨_, _, e, _, h, _⟩ := own_form (show wr.ownsRow w.heap.size 5 1 (.slice A7 n7 c7) _ _ from hN2)
          injection e with _ _ e
          omega
        have BY := Lib.hid (capB_byte HRR.out HBY.out)
        have N7 := Lib.hid hN2
        clear hall hN2 hN eB hl7
        go_wp2_with fail
        refine (csum_any A7 n7 c7 _ wr hr7.out hnc7 hcm7 BY.out).mono ?_
        rintro e w8 ⟨rfl, hb⟩
        have R8 := Lib.hid (hr7.out.into hb)
        have X8 := Lib.hid (hbw.trans (hb.mono hbw.size))
        obtain ⟨S, hS⟩ : ∃ S, S = sumS (capB (rsay l)) := ⟨_, rfl⟩
        rw [← hS]
        have HSS := Lib.hid hS
        have hS32 : S < 4294967296 := by rw [hS]; exact sumS_lt _
        clear hb hS hr7 N7
        go_wp2_with fail
        refine (pW_any (S : Int) w8 (by omega) (by omega)).mono ?_
        rintro e w9 ⟨rfl, hb⟩
        have R9 := Lib.hid (R8.out.into hb)
        have X9 := Lib.hid (X8.out.trans (hb.mono X8.out.size))
        clear hb R8 X8
        go_wp2_with fail
        have hrd : Rd (w9.alloc (.cells #[.int .i64 4, .int .u64 (S : Int)] 129)) (w9.heap.size + 1) 2 (some ⟨w9.heap.size, 0, none⟩) 1 (fs [((4 : Int), S)]) := Rd.made w9 129 #[.int .i64 4, .int .u64 (S : Int)] rfl
        have hz : (w9.alloc (.cells #[.int .i64 4, .int .u64 (S : Int)] 129)).heap.size = w9.heap.size + 1 := by simp
        rw [← hz] at hrd
        have hb : Below w9.heap.size w9 (w9.alloc (.cells #[.int .i64 4, .int .u64 (S : Int)] 129)) := (Below.refl _ _).alloc (Nat.le_refl _) _
        have R10 := Lib.hid (R9.out.into hb)
        have X10 := Lib.hid (X9.out.trans (hb.mono X9.out.size))
        have HRD := Lib.hid hrd
        clear hrd hz hb R9 X9
        generalize w9.alloc (.cells #[.int .i64 4, .int .u64 (S : Int)] 129) = w10 at *
        refine (pput_any A7 _ n7 1 c7 1 _ _ w10 R10.out HRD.out (by omega) (fun p hp => by simp at hp; subst hp; dsimp only; omega)).mono ?_
        rintro e w11 ⟨v11, rfl, hN, hb⟩
        rw [fbs_one 4 S rfl] at hN
        have X11 := Lib.hid (X10.out.trans (hb.mono X10.out.size))
        have N11 := Lib.hid (hN.mono X10.out.size)
        clear hb hN HRD R10 X10
        go_wp2_with fail
        go_ret2
        refine ⟨⟨_, true, rfl, ⟨fun _ => HRR.out, fun _ => rfl⟩, ?_⟩, X11.out⟩
        have h1 := N11.out
        rw [HSS.out] at h1
        exact h1
end Go.Proofs.Ytcgcglngjfijnaa
