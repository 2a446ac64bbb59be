/- Layer 7: the law SegParts answers true, and nothing that was there has turned. -/
import Derived.Test.YtiabafnfiedlcaaOpenSq
import Derived.Test.YtiabafnfiedlcaaSgP4
import Derived.Test.YtiabafnfiedlcaaLawSgW
namespace Go.Proofs.Ytiabafnfiedlcaa
open Go.RowKit
set_option linter.unusedVariables false
/-- Data, the first k bytes of which have been turned round. -/
def xq (l : List Nat) (k : Nat) : List Nat := (l.take k).map (· ^^^ 255) ++ l.drop k
theorem xq_zero (l : List Nat) : xq l 0 = l := by simp [xq]
theorem xq_at {l : List Nat} {k x : Nat} (h : l[k]? = some x) : (xq l k)[k]? = some x := by
  unfold xq
  have hk : k < l.length := (List.getElem?_eq_some_iff.1 h).1
  rw [List.getElem?_append_right (by simp; omega)]
  simp [Nat.min_eq_left (Nat.le_of_lt hk), h]
theorem xq_step {l : List Nat} {k x : Nat} (h : l[k]? = some x) : (xq l k).set k (x ^^^ 255) = xq l (k + 1) := by
  have hk : k < l.length := (List.getElem?_eq_some_iff.1 h).1
  have e : l.drop k = x :: l.drop (k + 1) := by
    have := (List.getElem?_eq_some_iff.1 h).2
    rw [← this, List.drop_eq_getElem_cons hk]
  unfold xq
  rw [e, List.set_append_right _ _ (by simp; omega), nth_take (Lib.hid h)]
  simp [Nat.min_eq_left (Nat.le_of_lt hk)]
theorem xq_head {l : List Nat} {x : Nat} (h : l[0]? = some x) : (xq l l.length)[0]? = some (x ^^^ 255) := by
  cases l with
  | nil => simp at h
  | cons a l => simp at h; subst h; simp [xq]
theorem xor_ne (x : Nat) : x ^^^ 255 ≠ x := by
  intro h
  have h2 := congrArg (x ^^^ ·) h
  simp only [← Nat.xor_assoc, Nat.xor_self, Nat.zero_xor] at h2
  cases h2
/-- A byte of a row of one's own: read, and set anew. -/
theorem own1_at {w : World} {B m d k x : Nat} {D : Option Addr} {l : List Nat} (h : w.ownsRow B 5 1 (.slice D m d) m (ns .u8 l)) (hx : l[k]? = some x) :
    ∃ gD, D = some ⟨gD, 0, none⟩ ∧ B ≤ gD ∧ gD < w.heap.size ∧ w.cell? ⟨gD, k, none⟩ = some (.int .u8 (x : Int)) ∧ w.frozen? ⟨gD, k, none⟩ = false ∧ Hid (∀ y : Nat, (w.setCell ⟨gD, k, none⟩ (.int .u8 (y : Int))).ownsRow B 5 1 (.slice D m d) m (ns .u8 (l.set k y))) := by
  have hl : (ns .u8 l).length = m * 1 := h.1
  have hk : k < l.length := (List.getElem?_eq_some_iff.1 hx).1
  have hlm : l.length = m := by unfold ns at hl; rw [List.length_map] at hl; omega
  rcases own_open h with ⟨_, h0, _⟩ | ⟨g, c2, L, e, hB, hb, hnc, hcm, hL, hxs⟩
  · omega
  · injection e with e1 e2 e3
    subst e1 e3
    refine ⟨g, rfl, hB, hb.lt, ?_, hb.frozen _, Lib.hid fun y => own_shut (L := L.set k (.int .u8 (y : Int))) hB ?_ hnc hcm (by rw [List.length_set]; exact hL) ?_⟩
    · have h2 : (ns .u8 l)[k]? = some (.int .u8 (x : Int)) := by unfold ns; rw [List.getElem?_map, hx]; rfl
      rw [hb.cell, ← h2, ← hxs, List.getElem?_take_of_lt (by omega)]
      simp
    · have := hb.set k (.int .u8 (y : Int))
      simpa using this
    · rw [List.take_set, hxs]
      unfold ns
      rw [List.map_set]
theorem cells2k {w : World} {T : Nat} {t : TypeId} {a0 a1 : Value} (h : Blk w T t #[a0, a1]) : ∀ j x, [a0, a1][j]? = some x → w.cell? ⟨T, 0 + j, none⟩ = some x := by
  intro j x hx
  rw [Nat.zero_add, h.cell]
  simpa using hx
set_option maxRecDepth 20000 in
set_option maxHeartbeats 8000000 in
theorem segParts_walk (v : Value) (g : Sg) (kd : Nat) (A1 : Option Addr) (n1 c1 : Nat) (lo : List Ob) (w : World) (hv : SegV w v g) (hg : g.bd) (h1 : Os w A1 n1 c1 lo) :
    Calls Try.prog 8 #[v, .int .u8 (kd : Int), .slice A1 n1 c1] w fun e w' => e = .returned (.bool true) ∧ Below w.heap.size w w' := by
  obtain ⟨A, n, c, D, m, d, l, rfl, hO, ho, hD, hmd, hdm⟩ := hv
  have S := Lib.hid (SBox.mk' (d := d) hO ho hD)
  have HMD := Lib.hid (And.intro hmd hdm)
  have HG := Lib.hid hg
  have HO1 := Lib.hid h1
  clear hO ho hD hmd hdm hg h1
  obtain ⟨s0, s1, s2, s3, s4, s5, s6⟩ := seg_cells S.out.blk
  obtain ⟨r, hr⟩ : ∃ r, r = greatS g := ⟨_, rfl⟩
  have HGR := Lib.hid (great_any _ g _ (S.out.val HMD.out.1 HMD.out.2))
  rw [← hr] at HGR
  have HRG := Lib.hid hr
  clear hr
  unfold segCs at *
  go_enter Try.func8, Try.ntmps8
  go_wp2_with fail
  generalize w.alloc (.cells #[.int .u16 (g.src : Int), .int .u16 (g.dst : Int), .int .u32 (g.seq : Int), .int .u32 (g.ack : Int), .int .u8 (g.flags : Int), .slice A n c, .slice D m d] 56) = W at *
  obtain ⟨T, hT⟩ : ∃ T, T = w.heap.size := ⟨_, rfl⟩
  rw [← hT] at S s0 s1 s2 s3 s4 s5 s6 ⊢
  have HT := Lib.hid hT
  clear hT
  refine HGR.out.mono ?_
  rintro e w1 ⟨rfl, hb⟩
  replace S := Lib.hid (S.out.into hb)
  clear HGR hb
  clear s0 s1 s2 s3 s4 s5 s6
  cases r with
  | true =>
    go_wp2_with fail
    go_ret
    exact ⟨rfl, S.out.bel⟩
  | false =>
  obtain ⟨r2, hr2⟩ : ∃ r2, r2 = greatS ({ zeroS with opts := osay lo } : Sg) := ⟨_, rfl⟩
  have HGR := Lib.hid (great_any (.agg #[.int .u16 0, .int .u16 0, .int .u32 0, .int .u32 0, .int .u8 0, .slice A1 n1 c1, .slice none 0 0]) ({ zeroS with opts := osay lo } : Sg) w1 ⟨A1, n1, c1, none, 0, 0, lo, rfl, HO1.out.into S.out.bel, rfl, Rd.nil _ _ _ _, Nat.le_refl _, Nat.zero_le _⟩)
  rw [← hr2] at HGR
  have HRG2 := Lib.hid hr2
  clear hr2
  go_wp2_with fail
  refine HGR.out.mono ?_
  rintro e w2 ⟨rfl, hb⟩
  replace S := Lib.hid (S.out.into hb)
  clear HGR hb
  cases r2 with
  | true =>
    go_wp2_with fail
    go_ret
    exact ⟨rfl, S.out.bel⟩
  | false =>
  have HS := Lib.hid (greatS_small HRG.out.symm).1
  have HS2 := Lib.hid (greatS_small HRG2.out.symm).1
  have HS3 := Lib.hid (show ({ g with opts := osay lo } : Sg).small from ⟨HS2.out.opts, HS2.out.bodies, HS.out.data⟩)
  have hn1 : n1 ≤ 10000 := by have h1 := HS2.out.opts; dsimp only at h1; unfold osay at h1; rw [List.length_map, HO1.out.len] at h1; exact h1
  have hmm : m ≤ 10000 := by have := HS.out.data; have := S.out.dlen; omega
  clear HRG HRG2
  obtain ⟨s0, s1, s2, s3, s4, s5, s6⟩ := seg_cells S.out.blk
  unfold segCs at *
  go_wp2_with fail
  refine (first_any _ g kd w2 (S.out.val HMD.out.1 HMD.out.2) HS.out).mono ?_
  rintro e w3 ⟨⟨kd7, A7, n7, c7, b7, is7, rfl, hr7, hf7⟩, hb⟩
  replace S := Lib.hid (S.out.into hb)
  clear hb
  clear s0 s1 s2 s3 s4 s5 s6
  have hb : Below w3.heap.size w3 (w3.alloc (.cells #[.int .u8 (kd7 : Int), .slice A7 n7 c7] 74)) := (Below.refl _ _).alloc (Nat.le_refl _) _
  replace S := Lib.hid (S.out.into hb)
  have K7 := Lib.hid (Blk.new w3 74 #[.int .u8 (kd7 : Int), .slice A7 n7 c7])
  have R7 := Lib.hid (hr7.into hb)
  have HF7 := Lib.hid hf7
  clear hr7 hf7 hb
  obtain ⟨s0, s1, s2, s3, s4, s5, s6⟩ := seg_cells S.out.blk
  unfold segCs at *
  go_wp2_with fail
  generalize w3.alloc (.cells #[.int .u8 (kd7 : Int), .slice A7 n7 c7] 74) = W3 at *
  obtain ⟨T7, hT⟩ : ∃ T, T = w3.heap.size := ⟨_, rfl⟩
  rw [← hT] at K7 ⊢
  clear hT
  refine (rfirst_any _ g kd W3 (S.out.val HMD.out.1 HMD.out.2) HS.out).mono ?_
  rintro e w4 ⟨⟨kd9, A9, n9, c9, b9, is9, rfl, hr9, hf9⟩, hb⟩
  replace S := Lib.hid (S.out.into hb)
  replace K7 := Lib.hid (K7.out.below hb K7.out.lt)
  replace R7 := Lib.hid (R7.out.into hb)
  clear hb
  clear s0 s1 s2 s3 s4 s5 s6
  have HF9 := Lib.hid hf9
  have S4 := Lib.hid (S.out.into (show Below w4.heap.size w4 (w4.alloc (.cells #[.int .u8 (kd9 : Int), .slice A9 n9 c9] 74)) from (Below.refl _ _).alloc (Nat.le_refl _) _))
  obtain ⟨s0, s1, s2, s3, s4, s5, s6⟩ := seg_cells S4.out.blk
  have hk11 := Blk.new (w4.alloc (.cells #[.int .u8 (kd9 : Int), .slice A9 n9 c9] 74)) 56 #[.int .u16 (g.src : Int), .int .u16 (g.dst : Int), .int .u32 (g.seq : Int), .int .u32 (g.ack : Int), .int .u8 (g.flags : Int), .slice A1 n1 c1, .slice D m d]
  rw [show (w4.alloc (.cells #[.int .u8 (kd9 : Int), .slice A9 n9 c9] 74)).heap.size = w4.heap.size + 1 by simp] at hk11
  have hb : Below w4.heap.size w4 ((w4.alloc (.cells #[.int .u8 (kd9 : Int), .slice A9 n9 c9] 74)).alloc (.cells #[.int .u16 (g.src : Int), .int .u16 (g.dst : Int), .int .u32 (g.seq : Int), .int .u32 (g.ack : Int), .int .u8 (g.flags : Int), .slice A1 n1 c1, .slice D m d] 56)) := ((Below.refl _ _).alloc (Nat.le_refl _) _).alloc (by simp) _
  have K9 := Lib.hid ((Blk.new w4 74 #[.int .u8 (kd9 : Int), .slice A9 n9 c9]).alloc (.cells #[.int .u16 (g.src : Int), .int .u16 (g.dst : Int), .int .u32 (g.seq : Int), .int .u32 (g.ack : Int), .int .u8 (g.flags : Int), .slice A1 n1 c1, .slice D m d] 56))
  have K11 := Lib.hid (show Blk ((w4.alloc (.cells #[.int .u8 (kd9 : Int), .slice A9 n9 c9] 74)).alloc (.cells #[.int .u16 (g.src : Int), .int .u16 (g.dst : Int), .int .u32 (g.seq : Int), .int .u32 (g.ack : Int), .int .u8 (g.flags : Int), .slice A1 n1 c1, .slice D m d] 56)) (w4.heap.size + 1) 56 (segCs g A1 n1 c1 D m d) from hk11)
  have R9 := Lib.hid (hr9.into hb)
  replace S := Lib.hid (S.out.into hb)
  replace K7 := Lib.hid (K7.out.below hb K7.out.lt)
  replace R7 := Lib.hid (R7.out.into hb)
  clear hr9 hf9 hb hk11 S4
  obtain ⟨p0, p1, p2, p3, p4, p5, p6⟩ := seg_cells S.out.blk
  unfold segCs at *
  go_wp2_with fail
  clear s0 s1 s2 s3 s4 s5 s6
  generalize (w4.alloc (.cells #[.int .u8 (kd9 : Int), .slice A9 n9 c9] 74)).alloc (.cells #[.int .u16 (g.src : Int), .int .u16 (g.dst : Int), .int .u32 (g.seq : Int), .int .u32 (g.ack : Int), .int .u8 (g.flags : Int), .slice A1 n1 c1, .slice D m d] 56) = W4 at *
  obtain ⟨T9, hT⟩ : ∃ T, T = w4.heap.size := ⟨_, rfl⟩
  rw [← hT] at K9 K11 ⊢
  clear hT
  obtain ⟨T11, hT⟩ : ∃ T, T = T9 + 1 := ⟨_, rfl⟩
  rw [← hT] at K11 ⊢
  clear hT
  refine (copy_any _ g W4 (S.out.val HMD.out.1 HMD.out.2) HS.out).mono ?_
  rintro e w5 ⟨⟨A5, n5, c5, D5, m5, d5, l5, rfl, hO5, hsay5, hD5⟩, hb5⟩
  clear p0 p1 p2 p3 p4 p5 p6
  have hdl := S.out.dlen
  have hm5 : m5 = m := by
    have h1 : (ns .u8 g.data).length = m5 * 1 := hD5.1
    unfold ns at h1
    rw [List.length_map] at h1
    omega
  subst hm5
  obtain ⟨_, _, e5, hmd5, hdm5, hr5⟩ := own_form hD5
  injection e5 with e5 _ e6
  subst e5 e6
  have bA : Below w5.heap.size w5 (w5.alloc (.cells (segCs g A5 n5 c5 D5 m5 d5) 56)) := (Below.refl _ _).alloc (Nat.le_refl _) _
  have K12 := Lib.hid (Blk.new w5 56 (segCs g A5 n5 c5 D5 m5 d5))
  have V5 := Lib.hid (SegV.into (⟨A5, n5, c5, D5, m5, d5, l5, rfl, hO5, hsay5.symm, hr5, hmd5, hdm5⟩ : SegV w5 (.agg (segCs g A5 n5 c5 D5 m5 d5)) g) bA)
  have B5 := Lib.hid (hb5.trans (bA.mono hb5.size))
  have D12 := Lib.hid (own_below hD5 bA (fun g hg => (own_lt hD5 g hg).2))
  have HLT := Lib.hid (fun g hg => (own_lt hD5 g hg).2)
  have S5 := Lib.hid (S.out.into B5.out)
  have HDL := Lib.hid hdl
  obtain ⟨s0, s1, s2, s3, s4, s5, s6⟩ := seg_cells S5.out.blk
  obtain ⟨t0, t1, t2, t3, t4, t5, t6⟩ := seg_cells K12.out
  clear hO5 hsay5 hD5 hr5 hmd5 hdm5 bA hb5 hdl
  unfold segCs at *
  go_wp2_with fail
  generalize w5.alloc (.cells #[.int .u16 (g.src : Int), .int .u16 (g.dst : Int), .int .u32 (g.seq : Int), .int .u32 (g.ack : Int), .int .u8 (g.flags : Int), .slice A5 n5 c5, .slice D5 m5 d5] 56) = w6 at *
  obtain ⟨T12, hT⟩ : ∃ T, T = w5.heap.size := ⟨_, rfl⟩
  rw [← hT] at K12 HLT ⊢
  clear hT
  refine (same_true _ _ g w6 V5.out (S5.out.val HMD.out.1 HMD.out.2) HS.out).mono ?_
  rintro e w7 ⟨rfl, hb⟩
  replace K12 := Lib.hid (K12.out.below hb K12.out.lt)
  replace D12 := Lib.hid (own_below D12.out hb (fun g hg => (own_lt D12.out g hg).2))
  replace B5 := Lib.hid (B5.out.trans (hb.mono B5.out.size))
  clear V5 S5 hb
  clear s0 s1 s2 s3 s4 s5 s6
  clear t0 t1 t2 t3 t4 t5 t6
  go_wp2_with fail
  go_loopw [13] (fun iv wr => ∃ k : Nat, k ≤ m5 ∧ iv = .int .i64 k ∧ Hid (Blk wr T12 56 (segCs g A5 n5 c5 D5 m5 d5)) ∧ Hid (wr.ownsRow W4.heap.size 5 1 (.slice D5 m5 d5) m5 (ns .u8 (xq g.data k))) ∧ Hid (Below W4.heap.size W4 wr)) (fun iv _ => m5 - (intOf iv).toNat)
  case atStart => exact ⟨0, Nat.zero_le _, rfl, K12, Lib.hid (by rw [xq_zero]; exact D12.out), B5⟩
  case round =>
    clear K12 D12 B5
    obtain ⟨k, hk, rfl, K12, D12, BW⟩ := hrel
    by_cases hlt : k < m5
    · have hlt' : (k : Int) < (m5 : Int) := by omega
      have hkl : k < g.data.length := by rw [HDL.out]; exact hlt
      obtain ⟨x, hx⟩ : ∃ x, g.data[k]? = some x := ⟨_, List.getElem?_eq_getElem hkl⟩
      have xb : x < 256 := HG.out.data x (List.mem_of_getElem? hx)
      have hxor : bits .xor .u8 (x : Int) 255 = ((x ^^^ 255 : Nat) : Int) := u8_xor_nat x 255 xb (by omega)
      obtain ⟨y, hy⟩ : ∃ y, y = x ^^^ 255 := ⟨_, rfl⟩
      rw [← hy] at hxor
      have HX := Lib.hid hx
      have HY := Lib.hid hy
      clear hx hy hkl
      obtain ⟨gD, rfl, hgB, hgl, q0, qf, hset⟩ := own1_at D12.out (xq_at HX.out)
      obtain ⟨_, _, _, _, _, _, t6⟩ := seg_cells K12.out
      have wk : IntKind.i64.wrap (k : Int) = (k : Int) := by rw [IntKind.wrap_i64]; omega
      clear q0 qf hset hgl
      go_wp2_with fail
      refine wp_ord [(0, .pure), (1, .read), (2, .pure), (3, .pure), (4, .read), (5, .pure), (6, .pure), (7, .read), (8, .pure), (9, .pure), (10, .sole)] [10] (by kernel_rfl) (by kernel_rfl) (fun QQ hQ wd hwd => ?_); simp only [List.map_cons, List.map_nil, List.getD_cons_zero, List.getD_cons_succ]
      have hwb : Below wr.heap.size wr wd := by rw [hwd.out]; exact (Below.refl _ _).drew
      replace K12 := Lib.hid (K12.out.below hwb K12.out.lt)
      replace D12 := Lib.hid (own_below D12.out hwb (fun g hg => (own_lt D12.out g hg).2))
      replace BW := Lib.hid (BW.out.trans (hwb.mono BW.out.size))
      clear hwd hwb t6
      obtain ⟨gD2, e2, _, hgl, q0, qf, hset⟩ := own1_at D12.out (xq_at HX.out)
      injection e2 with e2
      injection e2 with e2 _ _
      subst e2
      obtain ⟨_, _, _, _, _, _, t6⟩ := seg_cells K12.out
      (refine o_pure (v := ?_) (by rfl) (fun w' => ?_) ?_; rotate_left; (focus (go_simp; (try with_reducible rfl))); (try simp only [Act.put, List.setIfInBounds_toArray, List.set_cons_zero, List.set_cons_succ]))
      (refine o_load _ (by rfl) rfl rfl (by assumption) (by kernel_rfl) ?_; simp only [Act.put, List.setIfInBounds_toArray, List.set_cons_zero, List.set_cons_succ])
      (refine o_pure (v := ?_) (by rfl) (fun w' => ?_) ?_; rotate_left; (focus (go_simp; (try with_reducible rfl))); (try simp only [Act.put, List.setIfInBounds_toArray, List.set_cons_zero, List.set_cons_succ]))
      (refine o_pure (v := ?_) (by rfl) (fun w' => ?_) ?_; rotate_left; (focus (go_simp; (try with_reducible rfl))); (try simp only [Act.put, List.setIfInBounds_toArray, List.set_cons_zero, List.set_cons_succ]))
      (refine o_load _ (by rfl) rfl rfl (by assumption) (by kernel_rfl) ?_; simp only [Act.put, List.setIfInBounds_toArray, List.set_cons_zero, List.set_cons_succ])
      (refine o_pure (v := ?_) (by rfl) (fun w' => ?_) ?_; rotate_left; (focus (go_simp; (try with_reducible rfl))); (try simp only [Act.put, List.setIfInBounds_toArray, List.set_cons_zero, List.set_cons_succ]))
      (refine o_pure (v := ?_) (by rfl) (fun w' => ?_) ?_; rotate_left; (focus (go_simp; (try with_reducible rfl))); (try simp only [Act.put, List.setIfInBounds_toArray, List.set_cons_zero, List.set_cons_succ]))
      (refine o_load _ (by rfl) rfl rfl (by assumption) (by kernel_rfl) ?_; simp only [Act.put, List.setIfInBounds_toArray, List.set_cons_zero, List.set_cons_succ])
      (refine o_pure (v := ?_) (by rfl) (fun w' => ?_) ?_; rotate_left; (focus (go_simp; (try with_reducible rfl))); (try simp only [Act.put, List.setIfInBounds_toArray, List.set_cons_zero, List.set_cons_succ]))
      (refine o_pure (v := ?_) (by rfl) (fun w' => ?_) ?_; rotate_left; (focus (go_simp; (try with_reducible rfl))); (try simp only [Act.put, List.setIfInBounds_toArray, List.set_cons_zero, List.set_cons_succ]))
      refine o_sole (fun K hK => ?_)
      go_wp2_with fail
      refine hK _ _ (fun h => by cases h) ?_; clear hK K
      refine o_nil (hQ.out _ _ ?_); clear hQ QQ
      have hsol : Solo gD wd (wd.setCell ⟨gD, k, none⟩ (.int .u8 (y : Int))) := Solo.refl.setCell _ _
      have K12 := Lib.hid (hsol.blk K12.out (by have := HLT.out gD rfl; omega))
      have D12 := Lib.hid (show (wd.setCell ⟨gD, k, none⟩ (.int .u8 (y : Int))).ownsRow W4.heap.size 5 1 (.slice (some ⟨gD, 0, none⟩) m5 d5) m5 (ns .u8 (xq g.data (k + 1))) by rw [← xq_step HX.out, ← HY.out]; exact hset.out y)
      have BW := Lib.hid (show Below W4.heap.size W4 (wd.setCell ⟨gD, k, none⟩ (.int .u8 (y : Int))) from BW.out.setCell (p := ⟨gD, k, none⟩) hgB _)
      clear hsol q0 qf hset t6 hgl
      generalize wd.setCell ⟨gD, k, none⟩ (.int .u8 (y : Int)) = wf at *
      go_wp2_with fail
      go_roundw
      case rel => exact ⟨k + 1, by omega, by go_num, K12, D12, BW⟩
      case measure => simp [intOf]; omega
    · have hge : ¬ (k : Int) < (m5 : Int) := by omega
      have hkn : k = m5 := by omega
      subst hkn
      have HLT2 := HLT
      replace S := Lib.hid (S.out.into BW.out)
      replace K7 := Lib.hid (K7.out.below BW.out K7.out.lt)
      replace R7 := Lib.hid (R7.out.into BW.out)
      replace K9 := Lib.hid (K9.out.below BW.out K9.out.lt)
      replace R9 := Lib.hid (R9.out.into BW.out)
      replace K11 := Lib.hid (K11.out.below BW.out K11.out.lt)
      obtain ⟨s0, s1, s2, s3, s4, s5, s6⟩ := seg_cells S.out.blk
      obtain ⟨_, _, _, _, _, _, t6⟩ := seg_cells K12.out
      unfold segCs at *
      go_wp2_with fail
      clear s0 s1 s2 s3 s4 s5 s6 t6
      refine (copy_any _ g wr (S.out.val HMD.out.1 HMD.out.2) HS.out).mono ?_
      rintro e w8 ⟨⟨A8, n8, c8, D8, m8, d8, l8, rfl, hO8, hsay8, hD8⟩, hb⟩
      replace S := Lib.hid (S.out.into hb)
      replace K7 := Lib.hid (K7.out.below hb K7.out.lt)
      replace R7 := Lib.hid (R7.out.into hb)
      replace K9 := Lib.hid (K9.out.below hb K9.out.lt)
      replace R9 := Lib.hid (R9.out.into hb)
      replace K11 := Lib.hid (K11.out.below hb K11.out.lt)
      replace K12 := Lib.hid (K12.out.below hb K12.out.lt)
      replace D12 := Lib.hid (own_below D12.out hb (fun g hg => (own_lt D12.out g hg).2))
      obtain ⟨_, _, e5, hmd8, hdm8, hr8⟩ := own_form hD8
      injection e5 with e5 _ e6
      subst e5 e6
      have bA : Below w8.heap.size w8 (w8.alloc (.cells (segCs g A8 n8 c8 D8 m8 d8) 56)) := (Below.refl _ _).alloc (Nat.le_refl _) _
      have K14 := Lib.hid (Blk.new w8 56 (segCs g A8 n8 c8 D8 m8 d8))
      have V14 := Lib.hid (SegV.into (⟨A8, n8, c8, D8, m8, d8, l8, rfl, hO8, hsay8.symm, hr8, hmd8, hdm8⟩ : SegV w8 (.agg (segCs g A8 n8 c8 D8 m8 d8)) g) bA)
      replace S := Lib.hid (S.out.into bA)
      replace K7 := Lib.hid (K7.out.below bA K7.out.lt)
      replace R7 := Lib.hid (R7.out.into bA)
      replace K9 := Lib.hid (K9.out.below bA K9.out.lt)
      replace R9 := Lib.hid (R9.out.into bA)
      replace K11 := Lib.hid (K11.out.below bA K11.out.lt)
      replace K12 := Lib.hid (K12.out.below bA K12.out.lt)
      replace D12 := Lib.hid (own_below D12.out bA (fun g hg => (own_lt D12.out g hg).2))
      clear hO8 hsay8 hD8 hr8 hmd8 hdm8 bA hb BW HLT HLT2
      have hff := HF7.out.symm.trans HF9.out
      injection hff with e1 hff
      injection hff with e2 e3
      subst e1 e2 e3
      unfold segCs at *
      by_cases h0 : k = 0
      · subst h0
        go_wp2_with fail
        generalize w8.alloc (.cells #[.int .u16 (g.src : Int), .int .u16 (g.dst : Int), .int .u32 (g.seq : Int), .int .u32 (g.ack : Int), .int .u8 (g.flags : Int), .slice A8 n8 c8, .slice D8 m8 d8] 56) = W9 at *
        obtain ⟨T14, hT⟩ : ∃ T, T = w8.heap.size := ⟨_, rfl⟩
        rw [← hT] at K14 ⊢
        clear hT
        refine wp_ord [(0, .read), (2, .read), (1, .sole), (3, .sole), (4, .pure), (5, .pure), (6, .pure), (7, .pure), (8, .pure), (9, .pure), (10, .pure), (11, .read), (12, .read), (13, .sole), (14, .pure), (15, .pure), (16, .read), (17, .pure), (19, .read), (18, .sole), (20, .sole), (21, .pure), (22, .pure), (23, .read), (24, .read), (25, .sole), (26, .pure), (27, .pure), (28, .pure), (29, .read), (30, .pure), (31, .pure), (32, .pure), (33, .pure), (34, .read), (35, .pure), (36, .read), (37, .pure), (38, .read), (39, .pure), (40, .read), (41, .pure), (42, .pure), (43, .pure), (44, .pure), (45, .sole), (46, .pure), (47, .pure)] [] (by kernel_rfl) (by kernel_rfl) (fun QQ hQ wd hwd => ?_); simp only [List.map_cons, List.map_nil, List.getD_cons_zero, List.getD_cons_succ]
        have hb : Below W9.heap.size W9 wd := by rw [hwd.out]; exact (Below.refl _ _).drew
        replace S := Lib.hid (S.out.into hb)
        replace K7 := Lib.hid (K7.out.below hb K7.out.lt)
        replace R7 := Lib.hid (R7.out.into hb)
        replace K9 := Lib.hid (K9.out.below hb K9.out.lt)
        replace R9 := Lib.hid (R9.out.into hb)
        replace K11 := Lib.hid (K11.out.below hb K11.out.lt)
        replace K12 := Lib.hid (K12.out.below hb K12.out.lt)
        replace D12 := Lib.hid (own_below D12.out hb (fun g hg => (own_lt D12.out g hg).2))
        replace K14 := Lib.hid (K14.out.below hb K14.out.lt)
        replace V14 := Lib.hid (V14.out.into hb)
        clear hwd hb
        (refine o_loads _ [.int .u16 (g.src : Int), .int .u16 (g.dst : Int), .int .u32 (g.seq : Int), .int .u32 (g.ack : Int), .int .u8 (g.flags : Int), .slice A n c, .slice D 0 d] (by rfl) rfl rfl (cells7v S.out.blk) (Nat.succ_pos _) (by kernel_rfl) (by kernel_rfl) ?_; simp only [Act.put, List.setIfInBounds_toArray, List.set_cons_zero, List.set_cons_succ])
        (refine o_loads _ [.int .u16 (g.src : Int), .int .u16 (g.dst : Int), .int .u32 (g.seq : Int), .int .u32 (g.ack : Int), .int .u8 (g.flags : Int), .slice A n c, .slice D 0 d] (by rfl) rfl rfl (cells7v S.out.blk) (Nat.succ_pos _) (by kernel_rfl) (by kernel_rfl) ?_; simp only [Act.put, List.setIfInBounds_toArray, List.set_cons_zero, List.set_cons_succ])
        refine o_sole (fun K hK => ?_)
        go_wp2_with fail
        refine (take_any _ g wd (S.out.val HMD.out.1 HMD.out.2) HS.out HG.out.flags).mono ?_
        rintro e x1 ⟨rfl, hb⟩
        replace S := Lib.hid (S.out.into hb)
        replace K7 := Lib.hid (K7.out.below hb K7.out.lt)
        replace R7 := Lib.hid (R7.out.into hb)
        replace K9 := Lib.hid (K9.out.below hb K9.out.lt)
        replace R9 := Lib.hid (R9.out.into hb)
        replace K11 := Lib.hid (K11.out.below hb K11.out.lt)
        replace K12 := Lib.hid (K12.out.below hb K12.out.lt)
        replace D12 := Lib.hid (own_below D12.out hb (fun g hg => (own_lt D12.out g hg).2))
        replace K14 := Lib.hid (K14.out.below hb K14.out.lt)
        replace V14 := Lib.hid (V14.out.into hb)
        go_wp2_with fail
        refine hK _ _ (fun _ => Ext.of hb) ?_; clear hK K
        clear hb
        refine o_sole (fun K hK => ?_)
        go_wp2_with fail
        refine (rtake_any _ g x1 (S.out.val HMD.out.1 HMD.out.2) HS.out HG.out.flags).mono ?_
        rintro e x2 ⟨rfl, hb⟩
        replace S := Lib.hid (S.out.into hb)
        replace K7 := Lib.hid (K7.out.below hb K7.out.lt)
        replace R7 := Lib.hid (R7.out.into hb)
        replace K9 := Lib.hid (K9.out.below hb K9.out.lt)
        replace R9 := Lib.hid (R9.out.into hb)
        replace K11 := Lib.hid (K11.out.below hb K11.out.lt)
        replace K12 := Lib.hid (K12.out.below hb K12.out.lt)
        replace D12 := Lib.hid (own_below D12.out hb (fun g hg => (own_lt D12.out g hg).2))
        replace K14 := Lib.hid (K14.out.below hb K14.out.lt)
        replace V14 := Lib.hid (V14.out.into hb)
        go_wp2_with fail
        refine hK _ _ (fun _ => Ext.of hb) ?_; clear hK K
        clear hb
        (refine o_pure (v := ?_) (by rfl) (fun w' => ?_) ?_; rotate_left; (focus (go_simp; (try with_reducible rfl))); (try simp only [Act.put, List.setIfInBounds_toArray, List.set_cons_zero, List.set_cons_succ]))
        (refine o_pure (v := ?_) (by rfl) (fun w' => ?_) ?_; rotate_left; (focus (go_simp; (try with_reducible rfl))); (try simp only [Act.put, List.setIfInBounds_toArray, List.set_cons_zero, List.set_cons_succ]))
        (refine o_pure (v := ?_) (by rfl) (fun w' => ?_) ?_; rotate_left; (focus (go_simp; (try with_reducible rfl))); (try simp only [Act.put, List.setIfInBounds_toArray, List.set_cons_zero, List.set_cons_succ]))
        (refine o_pure (v := ?_) (by rfl) (fun w' => ?_) ?_; rotate_left; (focus (go_simp; (try with_reducible rfl))); (try simp only [Act.put, List.setIfInBounds_toArray, List.set_cons_zero, List.set_cons_succ]))
        (refine o_pure (v := ?_) (by rfl) (fun w' => ?_) ?_; rotate_left; (focus (go_simp; (try with_reducible rfl))); (try simp only [Act.put, List.setIfInBounds_toArray, List.set_cons_zero, List.set_cons_succ]))
        (refine o_pure (v := ?_) (by rfl) (fun w' => ?_) ?_; rotate_left; (focus (go_simp; (try with_reducible rfl))); (try simp only [Act.put, List.setIfInBounds_toArray, List.set_cons_zero, List.set_cons_succ]))
        (refine o_pure (v := ?_) (by rfl) (fun w' => ?_) ?_; rotate_left; (focus (go_simp; (try with_reducible rfl))); (try simp only [Act.put, List.setIfInBounds_toArray, List.set_cons_zero, List.set_cons_succ]))
        (refine o_loads _ [.int .u8 (kd7 : Int), .slice A7 n7 c7] (by rfl) rfl rfl (cells2k K7.out) (Nat.succ_pos _) (by kernel_rfl) (by kernel_rfl) ?_; simp only [Act.put, List.setIfInBounds_toArray, List.set_cons_zero, List.set_cons_succ])
        (refine o_loads _ [.int .u8 (kd7 : Int), .slice A9 n9 c9] (by rfl) rfl rfl (cells2k K9.out) (Nat.succ_pos _) (by kernel_rfl) (by kernel_rfl) ?_; simp only [Act.put, List.setIfInBounds_toArray, List.set_cons_zero, List.set_cons_succ])
        refine o_sole (fun K hK => ?_)
        go_wp2_with fail
        refine (sameo_any kd7 A7 A9 n7 c7 n9 c9 b7 x2 R7.out R9.out).mono ?_
        rintro e x3 ⟨rfl, hb⟩
        replace S := Lib.hid (S.out.into hb)
        replace K7 := Lib.hid (K7.out.below hb K7.out.lt)
        replace R7 := Lib.hid (R7.out.into hb)
        replace K9 := Lib.hid (K9.out.below hb K9.out.lt)
        replace R9 := Lib.hid (R9.out.into hb)
        replace K11 := Lib.hid (K11.out.below hb K11.out.lt)
        replace K12 := Lib.hid (K12.out.below hb K12.out.lt)
        replace D12 := Lib.hid (own_below D12.out hb (fun g hg => (own_lt D12.out g hg).2))
        replace K14 := Lib.hid (K14.out.below hb K14.out.lt)
        replace V14 := Lib.hid (V14.out.into hb)
        go_wp2_with fail
        refine hK _ _ (fun _ => Ext.of hb) ?_; clear hK K
        clear hb
        (refine o_pure (v := ?_) (by rfl) (fun w' => ?_) ?_; rotate_left; (focus (go_simp; (try with_reducible rfl))); (try simp only [Act.put, List.setIfInBounds_toArray, List.set_cons_zero, List.set_cons_succ]))
        (refine o_pure (v := ?_) (by rfl) (fun w' => ?_) ?_; rotate_left; (focus (go_simp; (try with_reducible rfl))); (try simp only [Act.put, List.setIfInBounds_toArray, List.set_cons_zero, List.set_cons_succ]))
        (refine o_loads _ [.int .u16 (g.src : Int), .int .u16 (g.dst : Int), .int .u32 (g.seq : Int), .int .u32 (g.ack : Int), .int .u8 (g.flags : Int), .slice A n c, .slice D 0 d] (by rfl) rfl rfl (cells7v S.out.blk) (Nat.succ_pos _) (by kernel_rfl) (by kernel_rfl) ?_; simp only [Act.put, List.setIfInBounds_toArray, List.set_cons_zero, List.set_cons_succ])
        (refine o_pure (v := ?_) (by rfl) (fun w' => ?_) ?_; rotate_left; (focus (go_simp; (try with_reducible rfl))); (try simp only [Act.put, List.setIfInBounds_toArray, List.set_cons_zero, List.set_cons_succ]))
        (refine o_loads _ [.int .u16 (g.src : Int), .int .u16 (g.dst : Int), .int .u32 (g.seq : Int), .int .u32 (g.ack : Int), .int .u8 (g.flags : Int), .slice A1 n1 c1, .slice D 0 d] (by rfl) rfl rfl (cells7v K11.out) (Nat.succ_pos _) (by kernel_rfl) (by kernel_rfl) ?_; simp only [Act.put, List.setIfInBounds_toArray, List.set_cons_zero, List.set_cons_succ])
        refine o_sole (fun K hK => ?_)
        go_wp2_with fail
        refine (of_any _ g A1 n1 c1 lo x3 (S.out.val HMD.out.1 HMD.out.2) (HO1.out.into S.out.bel) hn1).mono ?_
        rintro e x4 ⟨⟨v11, rfl, hv11⟩, hb⟩
        replace S := Lib.hid (S.out.into hb)
        replace K7 := Lib.hid (K7.out.below hb K7.out.lt)
        replace R7 := Lib.hid (R7.out.into hb)
        replace K9 := Lib.hid (K9.out.below hb K9.out.lt)
        replace R9 := Lib.hid (R9.out.into hb)
        replace K11 := Lib.hid (K11.out.below hb K11.out.lt)
        replace K12 := Lib.hid (K12.out.below hb K12.out.lt)
        replace D12 := Lib.hid (own_below D12.out hb (fun g hg => (own_lt D12.out g hg).2))
        replace K14 := Lib.hid (K14.out.below hb K14.out.lt)
        replace V14 := Lib.hid (V14.out.into hb)
        have V11 := Lib.hid hv11
        clear hv11
        go_wp2_with fail
        refine hK _ _ (fun _ => Ext.of hb) ?_; clear hK K
        clear hb
        refine o_sole (fun K hK => ?_)
        go_wp2_with fail
        refine (same_true v11 _ ({ g with opts := osay lo } : Sg) x4 V11.out (⟨A1, n1, c1, D, 0, d, lo, rfl, HO1.out.into S.out.bel, rfl, S.out.dat, HMD.out.1, HMD.out.2⟩ : SegV x4 (.agg (segCs g A1 n1 c1 D 0 d)) ({ g with opts := osay lo } : Sg)) HS3.out).mono ?_
        rintro e x5 ⟨rfl, hb⟩
        replace S := Lib.hid (S.out.into hb)
        replace K7 := Lib.hid (K7.out.below hb K7.out.lt)
        replace R7 := Lib.hid (R7.out.into hb)
        replace K9 := Lib.hid (K9.out.below hb K9.out.lt)
        replace R9 := Lib.hid (R9.out.into hb)
        replace K11 := Lib.hid (K11.out.below hb K11.out.lt)
        replace K12 := Lib.hid (K12.out.below hb K12.out.lt)
        replace D12 := Lib.hid (own_below D12.out hb (fun g hg => (own_lt D12.out g hg).2))
        replace K14 := Lib.hid (K14.out.below hb K14.out.lt)
        replace V14 := Lib.hid (V14.out.into hb)
        clear V11
        go_wp2_with fail
        refine hK _ _ (fun _ => Ext.of hb) ?_; clear hK K
        clear hb
        (refine o_pure (v := ?_) (by rfl) (fun w' => ?_) ?_; rotate_left; (focus (go_simp; (try with_reducible rfl))); (try simp only [Act.put, List.setIfInBounds_toArray, List.set_cons_zero, List.set_cons_succ]))
        (refine o_pure (v := ?_) (by rfl) (fun w' => ?_) ?_; rotate_left; (focus (go_simp; (try with_reducible rfl))); (try simp only [Act.put, List.setIfInBounds_toArray, List.set_cons_zero, List.set_cons_succ]))
        (refine o_loads _ [.int .u16 (g.src : Int), .int .u16 (g.dst : Int), .int .u32 (g.seq : Int), .int .u32 (g.ack : Int), .int .u8 (g.flags : Int), .slice A8 n8 c8, .slice D8 m8 d8] (by rfl) rfl rfl (cells7v K14.out) (Nat.succ_pos _) (by kernel_rfl) (by kernel_rfl) ?_; simp only [Act.put, List.setIfInBounds_toArray, List.set_cons_zero, List.set_cons_succ])
        (refine o_loads _ [.int .u16 (g.src : Int), .int .u16 (g.dst : Int), .int .u32 (g.seq : Int), .int .u32 (g.ack : Int), .int .u8 (g.flags : Int), .slice A n c, .slice D 0 d] (by rfl) rfl rfl (cells7v S.out.blk) (Nat.succ_pos _) (by kernel_rfl) (by kernel_rfl) ?_; simp only [Act.put, List.setIfInBounds_toArray, List.set_cons_zero, List.set_cons_succ])
        refine o_sole (fun K hK => ?_)
        go_wp2_with fail
        refine (same_true _ _ g x5 V14.out (S.out.val HMD.out.1 HMD.out.2) HS.out).mono ?_
        rintro e x6 ⟨rfl, hb⟩
        replace S := Lib.hid (S.out.into hb)
        replace K7 := Lib.hid (K7.out.below hb K7.out.lt)
        replace R7 := Lib.hid (R7.out.into hb)
        replace K9 := Lib.hid (K9.out.below hb K9.out.lt)
        replace R9 := Lib.hid (R9.out.into hb)
        replace K11 := Lib.hid (K11.out.below hb K11.out.lt)
        replace K12 := Lib.hid (K12.out.below hb K12.out.lt)
        replace D12 := Lib.hid (own_below D12.out hb (fun g hg => (own_lt D12.out g hg).2))
        replace K14 := Lib.hid (K14.out.below hb K14.out.lt)
        replace V14 := Lib.hid (V14.out.into hb)
        go_wp2_with fail
        refine hK _ _ (fun _ => Ext.of hb) ?_; clear hK K
        clear hb
        obtain ⟨_, _, _, _, _, _, s6⟩ := seg_cells S.out.blk
        obtain ⟨_, _, _, _, _, _, t6⟩ := seg_cells K12.out
        (refine o_pure (v := ?_) (by rfl) (fun w' => ?_) ?_; rotate_left; (focus (go_simp; (try with_reducible rfl))); (try simp only [Act.put, List.setIfInBounds_toArray, List.set_cons_zero, List.set_cons_succ]))
        (refine o_pure (v := ?_) (by rfl) (fun w' => ?_) ?_; rotate_left; (focus (go_simp; (try with_reducible rfl))); (try simp only [Act.put, List.setIfInBounds_toArray, List.set_cons_zero, List.set_cons_succ]))
        (refine o_pure (v := ?_) (by rfl) (fun w' => ?_) ?_; rotate_left; (focus (go_simp; (try with_reducible rfl))); (try simp only [Act.put, List.setIfInBounds_toArray, List.set_cons_zero, List.set_cons_succ]))
        (refine o_load _ (by rfl) rfl rfl (by assumption) (by kernel_rfl) ?_; simp only [Act.put, List.setIfInBounds_toArray, List.set_cons_zero, List.set_cons_succ])
        (refine o_pure (v := ?_) (by rfl) (fun w' => ?_) ?_; rotate_left; (focus (go_simp; (try with_reducible rfl))); (try simp only [Act.put, List.setIfInBounds_toArray, List.set_cons_zero, List.set_cons_succ]))
        (refine o_pure (v := ?_) (by rfl) (fun w' => ?_) ?_; rotate_left; (focus (go_simp; (try with_reducible rfl))); (try simp only [Act.put, List.setIfInBounds_toArray, List.set_cons_zero, List.set_cons_succ]))
        (refine o_pure (v := ?_) (by rfl) (fun w' => ?_) ?_; rotate_left; (focus (go_simp; (try with_reducible rfl))); (try simp only [Act.put, List.setIfInBounds_toArray, List.set_cons_zero, List.set_cons_succ]))
        (refine o_skip (by intro h; cases h) (by rfl) ?_; simp only [Act.put, List.setIfInBounds_toArray, List.set_cons_zero, List.set_cons_succ])
        (refine o_skip (by intro h; cases h) (by rfl) ?_; simp only [Act.put, List.setIfInBounds_toArray, List.set_cons_zero, List.set_cons_succ])
        (refine o_skip (by intro h; cases h) (by rfl) ?_; simp only [Act.put, List.setIfInBounds_toArray, List.set_cons_zero, List.set_cons_succ])
        (refine o_skip (by intro h; cases h) (by rfl) ?_; simp only [Act.put, List.setIfInBounds_toArray, List.set_cons_zero, List.set_cons_succ])
        (refine o_skip (by intro h; cases h) (by rfl) ?_; simp only [Act.put, List.setIfInBounds_toArray, List.set_cons_zero, List.set_cons_succ])
        (refine o_skip (by intro h; cases h) (by rfl) ?_; simp only [Act.put, List.setIfInBounds_toArray, List.set_cons_zero, List.set_cons_succ])
        (refine o_skip (by intro h; cases h) (by rfl) ?_; simp only [Act.put, List.setIfInBounds_toArray, List.set_cons_zero, List.set_cons_succ])
        (refine o_skip (by intro h; cases h) (by rfl) ?_; simp only [Act.put, List.setIfInBounds_toArray, List.set_cons_zero, List.set_cons_succ])
        (refine o_skip (by intro h; cases h) (by rfl) ?_; simp only [Act.put, List.setIfInBounds_toArray, List.set_cons_zero, List.set_cons_succ])
        (refine o_pure (v := ?_) (by rfl) (fun w' => ?_) ?_; rotate_left; (focus (go_simp; (try with_reducible rfl))); (try simp only [Act.put, List.setIfInBounds_toArray, List.set_cons_zero, List.set_cons_succ]))
        (refine o_pure (v := ?_) (by rfl) (fun w' => ?_) ?_; rotate_left; (focus (go_simp; (try with_reducible rfl))); (try simp only [Act.put, List.setIfInBounds_toArray, List.set_cons_zero, List.set_cons_succ]))
        (refine o_pure (v := ?_) (by rfl) (fun w' => ?_) ?_; rotate_left; (focus (go_simp; (try with_reducible rfl))); (try simp only [Act.put, List.setIfInBounds_toArray, List.set_cons_zero, List.set_cons_succ]))
        clear s6 t6
        refine o_sole (fun K hK => ?_)
        go_wp2_with fail
        refine (alive_any x6).mono ?_
        rintro e x7 ⟨rfl, hb⟩
        replace S := Lib.hid (S.out.into hb)
        replace K7 := Lib.hid (K7.out.below hb K7.out.lt)
        replace R7 := Lib.hid (R7.out.into hb)
        replace K9 := Lib.hid (K9.out.below hb K9.out.lt)
        replace R9 := Lib.hid (R9.out.into hb)
        replace K11 := Lib.hid (K11.out.below hb K11.out.lt)
        replace K12 := Lib.hid (K12.out.below hb K12.out.lt)
        replace D12 := Lib.hid (own_below D12.out hb (fun g hg => (own_lt D12.out g hg).2))
        replace K14 := Lib.hid (K14.out.below hb K14.out.lt)
        replace V14 := Lib.hid (V14.out.into hb)
        go_wp2_with fail
        refine hK _ _ (fun _ => Ext.of hb) ?_; clear hK K
        clear hb
        (refine o_pure (v := ?_) (by rfl) (fun w' => ?_) ?_; rotate_left; (focus (go_simp; (try with_reducible rfl))); (try simp only [Act.put, List.setIfInBounds_toArray, List.set_cons_zero, List.set_cons_succ]))
        (refine o_pure (v := ?_) (by rfl) (fun w' => ?_) ?_; rotate_left; (focus (go_simp; (try with_reducible rfl))); (try simp only [Act.put, List.setIfInBounds_toArray, List.set_cons_zero, List.set_cons_succ]))
        refine o_nil (hQ.out _ _ ?_); clear hQ QQ
        go_wp2
        go_ret
        exact ⟨rfl, S.out.bel⟩
      · go_wp2_with fail
        generalize w8.alloc (.cells #[.int .u16 (g.src : Int), .int .u16 (g.dst : Int), .int .u32 (g.seq : Int), .int .u32 (g.ack : Int), .int .u8 (g.flags : Int), .slice A8 n8 c8, .slice D8 m8 d8] 56) = W9 at *
        obtain ⟨T14, hT⟩ : ∃ T, T = w8.heap.size := ⟨_, rfl⟩
        rw [← hT] at K14 ⊢
        clear hT
        refine wp_ord [(0, .read), (2, .read), (1, .sole), (3, .sole), (4, .pure), (5, .pure), (6, .pure), (7, .pure), (8, .pure), (9, .pure), (10, .pure), (11, .read), (12, .read), (13, .sole), (14, .pure), (15, .pure), (16, .read), (17, .pure), (19, .read), (18, .sole), (20, .sole), (21, .pure), (22, .pure), (23, .read), (24, .read), (25, .sole), (26, .pure), (27, .pure), (28, .pure), (29, .read), (30, .pure), (31, .pure), (32, .pure), (33, .pure), (34, .read), (35, .pure), (36, .read), (37, .pure), (38, .read), (39, .pure), (40, .read), (41, .pure), (42, .pure), (43, .pure), (44, .pure), (45, .sole), (46, .pure), (47, .pure)] [] (by kernel_rfl) (by kernel_rfl) (fun QQ hQ wd hwd => ?_); simp only [List.map_cons, List.map_nil, List.getD_cons_zero, List.getD_cons_succ]
        have hb : Below W9.heap.size W9 wd := by rw [hwd.out]; exact (Below.refl _ _).drew
        replace S := Lib.hid (S.out.into hb)
        replace K7 := Lib.hid (K7.out.below hb K7.out.lt)
        replace R7 := Lib.hid (R7.out.into hb)
        replace K9 := Lib.hid (K9.out.below hb K9.out.lt)
        replace R9 := Lib.hid (R9.out.into hb)
        replace K11 := Lib.hid (K11.out.below hb K11.out.lt)
        replace K12 := Lib.hid (K12.out.below hb K12.out.lt)
        replace D12 := Lib.hid (own_below D12.out hb (fun g hg => (own_lt D12.out g hg).2))
        replace K14 := Lib.hid (K14.out.below hb K14.out.lt)
        replace V14 := Lib.hid (V14.out.into hb)
        clear hwd hb
        (refine o_loads _ [.int .u16 (g.src : Int), .int .u16 (g.dst : Int), .int .u32 (g.seq : Int), .int .u32 (g.ack : Int), .int .u8 (g.flags : Int), .slice A n c, .slice D k d] (by rfl) rfl rfl (cells7v S.out.blk) (Nat.succ_pos _) (by kernel_rfl) (by kernel_rfl) ?_; simp only [Act.put, List.setIfInBounds_toArray, List.set_cons_zero, List.set_cons_succ])
        (refine o_loads _ [.int .u16 (g.src : Int), .int .u16 (g.dst : Int), .int .u32 (g.seq : Int), .int .u32 (g.ack : Int), .int .u8 (g.flags : Int), .slice A n c, .slice D k d] (by rfl) rfl rfl (cells7v S.out.blk) (Nat.succ_pos _) (by kernel_rfl) (by kernel_rfl) ?_; simp only [Act.put, List.setIfInBounds_toArray, List.set_cons_zero, List.set_cons_succ])
        refine o_sole (fun K hK => ?_)
        go_wp2_with fail
        refine (take_any _ g wd (S.out.val HMD.out.1 HMD.out.2) HS.out HG.out.flags).mono ?_
        rintro e x1 ⟨rfl, hb⟩
        replace S := Lib.hid (S.out.into hb)
        replace K7 := Lib.hid (K7.out.below hb K7.out.lt)
        replace R7 := Lib.hid (R7.out.into hb)
        replace K9 := Lib.hid (K9.out.below hb K9.out.lt)
        replace R9 := Lib.hid (R9.out.into hb)
        replace K11 := Lib.hid (K11.out.below hb K11.out.lt)
        replace K12 := Lib.hid (K12.out.below hb K12.out.lt)
        replace D12 := Lib.hid (own_below D12.out hb (fun g hg => (own_lt D12.out g hg).2))
        replace K14 := Lib.hid (K14.out.below hb K14.out.lt)
        replace V14 := Lib.hid (V14.out.into hb)
        go_wp2_with fail
        refine hK _ _ (fun _ => Ext.of hb) ?_; clear hK K
        clear hb
        refine o_sole (fun K hK => ?_)
        go_wp2_with fail
        refine (rtake_any _ g x1 (S.out.val HMD.out.1 HMD.out.2) HS.out HG.out.flags).mono ?_
        rintro e x2 ⟨rfl, hb⟩
        replace S := Lib.hid (S.out.into hb)
        replace K7 := Lib.hid (K7.out.below hb K7.out.lt)
        replace R7 := Lib.hid (R7.out.into hb)
        replace K9 := Lib.hid (K9.out.below hb K9.out.lt)
        replace R9 := Lib.hid (R9.out.into hb)
        replace K11 := Lib.hid (K11.out.below hb K11.out.lt)
        replace K12 := Lib.hid (K12.out.below hb K12.out.lt)
        replace D12 := Lib.hid (own_below D12.out hb (fun g hg => (own_lt D12.out g hg).2))
        replace K14 := Lib.hid (K14.out.below hb K14.out.lt)
        replace V14 := Lib.hid (V14.out.into hb)
        go_wp2_with fail
        refine hK _ _ (fun _ => Ext.of hb) ?_; clear hK K
        clear hb
        (refine o_pure (v := ?_) (by rfl) (fun w' => ?_) ?_; rotate_left; (focus (go_simp; (try with_reducible rfl))); (try simp only [Act.put, List.setIfInBounds_toArray, List.set_cons_zero, List.set_cons_succ]))
        (refine o_pure (v := ?_) (by rfl) (fun w' => ?_) ?_; rotate_left; (focus (go_simp; (try with_reducible rfl))); (try simp only [Act.put, List.setIfInBounds_toArray, List.set_cons_zero, List.set_cons_succ]))
        (refine o_pure (v := ?_) (by rfl) (fun w' => ?_) ?_; rotate_left; (focus (go_simp; (try with_reducible rfl))); (try simp only [Act.put, List.setIfInBounds_toArray, List.set_cons_zero, List.set_cons_succ]))
        (refine o_pure (v := ?_) (by rfl) (fun w' => ?_) ?_; rotate_left; (focus (go_simp; (try with_reducible rfl))); (try simp only [Act.put, List.setIfInBounds_toArray, List.set_cons_zero, List.set_cons_succ]))
        (refine o_pure (v := ?_) (by rfl) (fun w' => ?_) ?_; rotate_left; (focus (go_simp; (try with_reducible rfl))); (try simp only [Act.put, List.setIfInBounds_toArray, List.set_cons_zero, List.set_cons_succ]))
        (refine o_pure (v := ?_) (by rfl) (fun w' => ?_) ?_; rotate_left; (focus (go_simp; (try with_reducible rfl))); (try simp only [Act.put, List.setIfInBounds_toArray, List.set_cons_zero, List.set_cons_succ]))
        (refine o_pure (v := ?_) (by rfl) (fun w' => ?_) ?_; rotate_left; (focus (go_simp; (try with_reducible rfl))); (try simp only [Act.put, List.setIfInBounds_toArray, List.set_cons_zero, List.set_cons_succ]))
        (refine o_loads _ [.int .u8 (kd7 : Int), .slice A7 n7 c7] (by rfl) rfl rfl (cells2k K7.out) (Nat.succ_pos _) (by kernel_rfl) (by kernel_rfl) ?_; simp only [Act.put, List.setIfInBounds_toArray, List.set_cons_zero, List.set_cons_succ])
        (refine o_loads _ [.int .u8 (kd7 : Int), .slice A9 n9 c9] (by rfl) rfl rfl (cells2k K9.out) (Nat.succ_pos _) (by kernel_rfl) (by kernel_rfl) ?_; simp only [Act.put, List.setIfInBounds_toArray, List.set_cons_zero, List.set_cons_succ])
        refine o_sole (fun K hK => ?_)
        go_wp2_with fail
        refine (sameo_any kd7 A7 A9 n7 c7 n9 c9 b7 x2 R7.out R9.out).mono ?_
        rintro e x3 ⟨rfl, hb⟩
        replace S := Lib.hid (S.out.into hb)
        replace K7 := Lib.hid (K7.out.below hb K7.out.lt)
        replace R7 := Lib.hid (R7.out.into hb)
        replace K9 := Lib.hid (K9.out.below hb K9.out.lt)
        replace R9 := Lib.hid (R9.out.into hb)
        replace K11 := Lib.hid (K11.out.below hb K11.out.lt)
        replace K12 := Lib.hid (K12.out.below hb K12.out.lt)
        replace D12 := Lib.hid (own_below D12.out hb (fun g hg => (own_lt D12.out g hg).2))
        replace K14 := Lib.hid (K14.out.below hb K14.out.lt)
        replace V14 := Lib.hid (V14.out.into hb)
        go_wp2_with fail
        refine hK _ _ (fun _ => Ext.of hb) ?_; clear hK K
        clear hb
        (refine o_pure (v := ?_) (by rfl) (fun w' => ?_) ?_; rotate_left; (focus (go_simp; (try with_reducible rfl))); (try simp only [Act.put, List.setIfInBounds_toArray, List.set_cons_zero, List.set_cons_succ]))
        (refine o_pure (v := ?_) (by rfl) (fun w' => ?_) ?_; rotate_left; (focus (go_simp; (try with_reducible rfl))); (try simp only [Act.put, List.setIfInBounds_toArray, List.set_cons_zero, List.set_cons_succ]))
        (refine o_loads _ [.int .u16 (g.src : Int), .int .u16 (g.dst : Int), .int .u32 (g.seq : Int), .int .u32 (g.ack : Int), .int .u8 (g.flags : Int), .slice A n c, .slice D k d] (by rfl) rfl rfl (cells7v S.out.blk) (Nat.succ_pos _) (by kernel_rfl) (by kernel_rfl) ?_; simp only [Act.put, List.setIfInBounds_toArray, List.set_cons_zero, List.set_cons_succ])
        (refine o_pure (v := ?_) (by rfl) (fun w' => ?_) ?_; rotate_left; (focus (go_simp; (try with_reducible rfl))); (try simp only [Act.put, List.setIfInBounds_toArray, List.set_cons_zero, List.set_cons_succ]))
        (refine o_loads _ [.int .u16 (g.src : Int), .int .u16 (g.dst : Int), .int .u32 (g.seq : Int), .int .u32 (g.ack : Int), .int .u8 (g.flags : Int), .slice A1 n1 c1, .slice D k d] (by rfl) rfl rfl (cells7v K11.out) (Nat.succ_pos _) (by kernel_rfl) (by kernel_rfl) ?_; simp only [Act.put, List.setIfInBounds_toArray, List.set_cons_zero, List.set_cons_succ])
        refine o_sole (fun K hK => ?_)
        go_wp2_with fail
        refine (of_any _ g A1 n1 c1 lo x3 (S.out.val HMD.out.1 HMD.out.2) (HO1.out.into S.out.bel) hn1).mono ?_
        rintro e x4 ⟨⟨v11, rfl, hv11⟩, hb⟩
        replace S := Lib.hid (S.out.into hb)
        replace K7 := Lib.hid (K7.out.below hb K7.out.lt)
        replace R7 := Lib.hid (R7.out.into hb)
        replace K9 := Lib.hid (K9.out.below hb K9.out.lt)
        replace R9 := Lib.hid (R9.out.into hb)
        replace K11 := Lib.hid (K11.out.below hb K11.out.lt)
        replace K12 := Lib.hid (K12.out.below hb K12.out.lt)
        replace D12 := Lib.hid (own_below D12.out hb (fun g hg => (own_lt D12.out g hg).2))
        replace K14 := Lib.hid (K14.out.below hb K14.out.lt)
        replace V14 := Lib.hid (V14.out.into hb)
        have V11 := Lib.hid hv11
        clear hv11
        go_wp2_with fail
        refine hK _ _ (fun _ => Ext.of hb) ?_; clear hK K
        clear hb
        refine o_sole (fun K hK => ?_)
        go_wp2_with fail
        refine (same_true v11 _ ({ g with opts := osay lo } : Sg) x4 V11.out (⟨A1, n1, c1, D, k, d, lo, rfl, HO1.out.into S.out.bel, rfl, S.out.dat, HMD.out.1, HMD.out.2⟩ : SegV x4 (.agg (segCs g A1 n1 c1 D k d)) ({ g with opts := osay lo } : Sg)) HS3.out).mono ?_
        rintro e x5 ⟨rfl, hb⟩
        replace S := Lib.hid (S.out.into hb)
        replace K7 := Lib.hid (K7.out.below hb K7.out.lt)
        replace R7 := Lib.hid (R7.out.into hb)
        replace K9 := Lib.hid (K9.out.below hb K9.out.lt)
        replace R9 := Lib.hid (R9.out.into hb)
        replace K11 := Lib.hid (K11.out.below hb K11.out.lt)
        replace K12 := Lib.hid (K12.out.below hb K12.out.lt)
        replace D12 := Lib.hid (own_below D12.out hb (fun g hg => (own_lt D12.out g hg).2))
        replace K14 := Lib.hid (K14.out.below hb K14.out.lt)
        replace V14 := Lib.hid (V14.out.into hb)
        clear V11
        go_wp2_with fail
        refine hK _ _ (fun _ => Ext.of hb) ?_; clear hK K
        clear hb
        (refine o_pure (v := ?_) (by rfl) (fun w' => ?_) ?_; rotate_left; (focus (go_simp; (try with_reducible rfl))); (try simp only [Act.put, List.setIfInBounds_toArray, List.set_cons_zero, List.set_cons_succ]))
        (refine o_pure (v := ?_) (by rfl) (fun w' => ?_) ?_; rotate_left; (focus (go_simp; (try with_reducible rfl))); (try simp only [Act.put, List.setIfInBounds_toArray, List.set_cons_zero, List.set_cons_succ]))
        (refine o_loads _ [.int .u16 (g.src : Int), .int .u16 (g.dst : Int), .int .u32 (g.seq : Int), .int .u32 (g.ack : Int), .int .u8 (g.flags : Int), .slice A8 n8 c8, .slice D8 m8 d8] (by rfl) rfl rfl (cells7v K14.out) (Nat.succ_pos _) (by kernel_rfl) (by kernel_rfl) ?_; simp only [Act.put, List.setIfInBounds_toArray, List.set_cons_zero, List.set_cons_succ])
        (refine o_loads _ [.int .u16 (g.src : Int), .int .u16 (g.dst : Int), .int .u32 (g.seq : Int), .int .u32 (g.ack : Int), .int .u8 (g.flags : Int), .slice A n c, .slice D k d] (by rfl) rfl rfl (cells7v S.out.blk) (Nat.succ_pos _) (by kernel_rfl) (by kernel_rfl) ?_; simp only [Act.put, List.setIfInBounds_toArray, List.set_cons_zero, List.set_cons_succ])
        refine o_sole (fun K hK => ?_)
        go_wp2_with fail
        refine (same_true _ _ g x5 V14.out (S.out.val HMD.out.1 HMD.out.2) HS.out).mono ?_
        rintro e x6 ⟨rfl, hb⟩
        replace S := Lib.hid (S.out.into hb)
        replace K7 := Lib.hid (K7.out.below hb K7.out.lt)
        replace R7 := Lib.hid (R7.out.into hb)
        replace K9 := Lib.hid (K9.out.below hb K9.out.lt)
        replace R9 := Lib.hid (R9.out.into hb)
        replace K11 := Lib.hid (K11.out.below hb K11.out.lt)
        replace K12 := Lib.hid (K12.out.below hb K12.out.lt)
        replace D12 := Lib.hid (own_below D12.out hb (fun g hg => (own_lt D12.out g hg).2))
        replace K14 := Lib.hid (K14.out.below hb K14.out.lt)
        replace V14 := Lib.hid (V14.out.into hb)
        go_wp2_with fail
        refine hK _ _ (fun _ => Ext.of hb) ?_; clear hK K
        clear hb
        obtain ⟨_, _, _, _, _, _, s6⟩ := seg_cells S.out.blk
        obtain ⟨_, _, _, _, _, _, t6⟩ := seg_cells K12.out
        obtain ⟨x0, hx0⟩ : ∃ x, g.data[0]? = some x := ⟨_, List.getElem?_eq_getElem (show 0 < g.data.length by rw [HDL.out]; omega)⟩
        obtain ⟨gD, rfl, _, _, q0, _, _⟩ := own1_at (x := x0 ^^^ 255) D12.out (by rw [← HDL.out]; exact xq_head hx0)
        obtain ⟨bD, oD, rfl, _, hcD⟩ := S.out.dat.2 (by omega)
        have q1 : x6.cell? ⟨bD, oD, none⟩ = some (.int .u8 (x0 : Int)) := by
          have h1 := hcD 0 (by omega)
          rw [Nat.add_zero] at h1
          rw [h1]
          unfold ns
          rw [List.getElem?_map, hx0]
          rfl
        obtain ⟨y0, hy0⟩ : ∃ y, y = x0 ^^^ 255 := ⟨_, rfl⟩
        rw [← hy0] at q0
        have hne : ¬ y0 = x0 := by rw [hy0]; exact xor_ne x0
        have hne1 : (y0 == x0) = false := beq_eq_false_iff_ne.2 hne
        have hne2 : ((y0 : Int) == (x0 : Int)) = false := beq_eq_false_iff_ne.2 (by omega)
        have hne3 : ((y0 : Int) != (x0 : Int)) = true := bne_iff_ne.2 (fun h => hne (by omega))
        have hk0 : (0 : Int) < (k : Int) := by omega
        have hk1 : ((k : Int) == 0) = false := beq_eq_false_iff_ne.2 (by omega)
        have hk2 : (k == 0) = false := beq_eq_false_iff_ne.2 h0
        have hk3 : 0 < k := by omega
        have hk4 : ¬ (k : Int) ≤ 0 := by omega
        have hk5 : ¬ (k ≤ 0) := by omega
        clear hy0 hcD hx0
        (refine o_pure (v := ?_) (by rfl) (fun w' => ?_) ?_; rotate_left; (focus (go_simp; (try with_reducible rfl))); (try simp only [Act.put, List.setIfInBounds_toArray, List.set_cons_zero, List.set_cons_succ]))
        (refine o_pure (v := ?_) (by rfl) (fun w' => ?_) ?_; rotate_left; (focus (go_simp; (try with_reducible rfl))); (try simp only [Act.put, List.setIfInBounds_toArray, List.set_cons_zero, List.set_cons_succ]))
        (refine o_pure (v := ?_) (by rfl) (fun w' => ?_) ?_; rotate_left; (focus (go_simp; (try with_reducible rfl))); (try simp only [Act.put, List.setIfInBounds_toArray, List.set_cons_zero, List.set_cons_succ]))
        (refine o_load _ (by rfl) rfl rfl (by assumption) (by kernel_rfl) ?_; simp only [Act.put, List.setIfInBounds_toArray, List.set_cons_zero, List.set_cons_succ])
        (refine o_pure (v := ?_) (by rfl) (fun w' => ?_) ?_; rotate_left; (focus (go_simp; (try with_reducible rfl))); (try simp only [Act.put, List.setIfInBounds_toArray, List.set_cons_zero, List.set_cons_succ]))
        (refine o_pure (v := ?_) (by rfl) (fun w' => ?_) ?_; rotate_left; (focus (go_simp; (try with_reducible rfl))); (try simp only [Act.put, List.setIfInBounds_toArray, List.set_cons_zero, List.set_cons_succ]))
        (refine o_pure (v := ?_) (by rfl) (fun w' => ?_) ?_; rotate_left; (focus (go_simp; (try with_reducible rfl))); (try simp only [Act.put, List.setIfInBounds_toArray, List.set_cons_zero, List.set_cons_succ]))
        (refine o_pure (v := ?_) (by rfl) (fun w' => ?_) ?_; rotate_left; (focus (go_simp; (try with_reducible rfl))); (try simp only [Act.put, List.setIfInBounds_toArray, List.set_cons_zero, List.set_cons_succ]))
        (refine o_load _ (by rfl) rfl rfl (by assumption) (by kernel_rfl) ?_; simp only [Act.put, List.setIfInBounds_toArray, List.set_cons_zero, List.set_cons_succ])
        (refine o_pure (v := ?_) (by rfl) (fun w' => ?_) ?_; rotate_left; (focus (go_simp; (try with_reducible rfl))); (try simp only [Act.put, List.setIfInBounds_toArray, List.set_cons_zero, List.set_cons_succ]))
        (refine o_load _ (by rfl) rfl rfl (by assumption) (by kernel_rfl) ?_; simp only [Act.put, List.setIfInBounds_toArray, List.set_cons_zero, List.set_cons_succ])
        (refine o_pure (v := ?_) (by rfl) (fun w' => ?_) ?_; rotate_left; (focus (go_simp; (try with_reducible rfl))); (try simp only [Act.put, List.setIfInBounds_toArray, List.set_cons_zero, List.set_cons_succ]))
        (refine o_load _ (by rfl) rfl rfl (by assumption) (by kernel_rfl) ?_; simp only [Act.put, List.setIfInBounds_toArray, List.set_cons_zero, List.set_cons_succ])
        (refine o_pure (v := ?_) (by rfl) (fun w' => ?_) ?_; rotate_left; (focus (go_simp; (try with_reducible rfl))); (try simp only [Act.put, List.setIfInBounds_toArray, List.set_cons_zero, List.set_cons_succ]))
        (refine o_load _ (by rfl) rfl rfl (by assumption) (by kernel_rfl) ?_; simp only [Act.put, List.setIfInBounds_toArray, List.set_cons_zero, List.set_cons_succ])
        (refine o_pure (v := ?_) (by rfl) (fun w' => ?_) ?_; rotate_left; (focus (go_simp; (try with_reducible rfl))); (try simp only [Act.put, List.setIfInBounds_toArray, List.set_cons_zero, List.set_cons_succ]))
        (refine o_pure (v := ?_) (by rfl) (fun w' => ?_) ?_; rotate_left; (focus (go_simp; (try with_reducible rfl))); (try simp only [Act.put, List.setIfInBounds_toArray, List.set_cons_zero, List.set_cons_succ]))
        (refine o_pure (v := ?_) (by rfl) (fun w' => ?_) ?_; rotate_left; (focus (go_simp; (try with_reducible rfl))); (try simp only [Act.put, List.setIfInBounds_toArray, List.set_cons_zero, List.set_cons_succ]))
        (refine o_pure (v := ?_) (by rfl) (fun w' => ?_) ?_; rotate_left; (focus (go_simp; (try with_reducible rfl))); (try simp only [Act.put, List.setIfInBounds_toArray, List.set_cons_zero, List.set_cons_succ]))
        clear s6 t6
        refine o_sole (fun K hK => ?_)
        go_wp2_with fail
        refine (alive_any x6).mono ?_
        rintro e x7 ⟨rfl, hb⟩
        replace S := Lib.hid (S.out.into hb)
        replace K7 := Lib.hid (K7.out.below hb K7.out.lt)
        replace R7 := Lib.hid (R7.out.into hb)
        replace K9 := Lib.hid (K9.out.below hb K9.out.lt)
        replace R9 := Lib.hid (R9.out.into hb)
        replace K11 := Lib.hid (K11.out.below hb K11.out.lt)
        replace K12 := Lib.hid (K12.out.below hb K12.out.lt)
        replace D12 := Lib.hid (own_below D12.out hb (fun g hg => (own_lt D12.out g hg).2))
        replace K14 := Lib.hid (K14.out.below hb K14.out.lt)
        replace V14 := Lib.hid (V14.out.into hb)
        go_wp2_with fail
        refine hK _ _ (fun _ => Ext.of hb) ?_; clear hK K
        clear hb
        (refine o_pure (v := ?_) (by rfl) (fun w' => ?_) ?_; rotate_left; (focus (go_simp; (try with_reducible rfl))); (try simp only [Act.put, List.setIfInBounds_toArray, List.set_cons_zero, List.set_cons_succ]))
        (refine o_pure (v := ?_) (by rfl) (fun w' => ?_) ?_; rotate_left; (focus (go_simp; (try with_reducible rfl))); (try simp only [Act.put, List.setIfInBounds_toArray, List.set_cons_zero, List.set_cons_succ]))
        refine o_nil (hQ.out _ _ ?_); clear hQ QQ
        go_wp2
        go_ret
        exact ⟨rfl, S.out.bel⟩
theorem segParts_any (q : Array Value × Sg) (kd : Int) (A1 : Option Addr) (n1 c1 : Nat) (lo : List Ob) (w : World) (hq : SegV w (.agg q.1) q.2 ∧ q.2.bd) (hk : (Lit.int .u8 kd).wf = true) (h1 : Rd w w.heap.size 2 A1 n1 (ocs lo)) (h2 : n1 ≤ c1) (h3 : c1 ≤ maxLen) (h4 : ∀ p ∈ lo, p.1 < 256 ∧ Body.ok w p.2) :
    Calls Try.prog 8 #[.agg q.1, .int .u8 kd, .slice A1 n1 c1] w fun e w' => e = .returned (.bool true) ∧ Below w.heap.size w w' := by
  have b1 := bounds_u8 hk
  obtain ⟨k, rfl⟩ : ∃ k : Nat, kd = (k : Int) := ⟨kd.toNat, by omega⟩
  exact segParts_walk _ q.2 k A1 n1 c1 lo w hq.1 hq.2 ⟨h1, fun p hp => ⟨(h4 p hp).2.1, (h4 p hp).2.2.1, (h4 p hp).2.2.2.1⟩, h2, h3⟩

end Go.Proofs.Ytiabafnfiedlcaa
