/- Layer 10: the chapter's example. -/
import Derived.Test.YtbiimgfocgbdaaaG15MacOpens
import Derived.Test.YtbiimgfocgbdaaaG31MacOpens
import Derived.Test.YtbiimgfocgbdaaaG40MacOpens
import Derived.Test.YtbiimgfocgbdaaaG43MacOpens
import Derived.Lib.SmallJoins

namespace Go.Proofs.Ytbiimgfocgbdaaa
open Go.RowKit
set_option linter.unusedVariables false
set_option linter.unusedSimpArgs false
theorem be_take (t : Nat) (l : List Nat) : (l ++ be t 8).take ((l ++ be t 8).length - 8) = l := by
  rw [List.length_append, be_len, Nat.add_sub_cancel, List.take_left]
/-- Bytes whose last eight are a sum. -/
theorem cover_tag (g g' : Sg) (kd t t' : Nat) (l : List Nat) (hh : hdrS g = hdrS g') (hd : g.data = g'.data) : coverL g kd (l ++ be t 8) = coverL g' kd (l ++ be t' 8) := by
  rw [coverL_eq, coverL_eq, be_take, be_take, hh, hd, List.length_append, List.length_append, be_len, be_len]
theorem tag_same (k0 k1 : Nat) (g g' : Sg) (kd t t' : Nat) (l : List Nat) (hh : hdrS g = hdrS g') (hd : g.data = g'.data) : tagN k0 k1 g kd (l ++ be t 8) = tagN k0 k1 g' kd (l ++ be t' 8) := by
  unfold tagN
  rw [cover_tag g g' kd t t' l hh hd]
def dataP (f p : Bool) (sq ak wn : Nat) : List Nat := (bitN f + 2 * bitN p) :: (be sq 8 ++ (be ak 8 ++ be wn 4))
theorem dataP_eq (f p : Bool) (sq ak wn t : Nat) : dataB f p sq ak wn t = dataP f p sq ak wn ++ be t 8 := by simp [dataB, dataP]
def wordP (nm id pa : Nat) (bk : Bool) : List Nat := be nm 4 ++ [id, pa, bitN bk]
theorem wordP_eq (nm id pa : Nat) (bk : Bool) (t : Nat) : wordB nm id pa bk t = wordP nm id pa bk ++ be t 8 := by simp [wordB, wordP]
def gA : Sg := ⟨5, 0, 0, 0, 0, [], [120]⟩
def gB (t : Nat) : Sg := { gA with opts := [(3, dataB false false 7 0 0 t)] }
theorem gA_bd : gA.bd := ⟨by decide, by decide, by decide, by decide, by decide, by decide, by decide, by decide⟩
theorem gB_bd (t : Nat) : (gB t).bd := by
  refine ⟨gA_bd.src, gA_bd.dst, gA_bd.seq, gA_bd.ack, gA_bd.flags, ?_, ?_, gA_bd.data⟩
  · intro p hp
    obtain rfl : p = (3, dataB false false 7 0 0 t) := by simpa [gB] using hp
    show 3 < 256
    decide
  · intro p hp
    obtain rfl : p = (3, dataB false false 7 0 0 t) := by simpa [gB] using hp
    exact dataB_byte _ _ _ _ _ _
theorem gB_small (t : Nat) : (gB t).small := by
  refine ⟨by show 1 ≤ 10000; omega, ?_, by show 1 ≤ 10000; omega⟩
  intro p hp
  obtain rfl : p = (3, dataB false false 7 0 0 t) := by simpa [gB] using hp
  exact dataB_len2 _ _ _ _ _ _
theorem tags_differ : sumB 1 2 (coverL gA 3 (dataB false false 7 0 0 0)) ≠ sumB 1 3 (coverL gA 3 (dataB false false 7 0 0 0)) := by
  have h : (sumB 1 2 (coverL gA 3 (dataB false false 7 0 0 0)) == sumB 1 3 (coverL gA 3 (dataB false false 7 0 0 0))) = false := by kernel_rfl
  simpa using h
theorem openB (t : Nat) (ht : t = tagN 1 2 gA 3 (dataB false false 7 0 0 0)) : OpenY 1 2 (gB t) false false 7 0 0 t := by
  refine ⟨dataB false false 7 0 0 t, rfl, ⟨rfl, rfl, by unfold q64; decide, by unfold q64; decide, by unfold q32; decide, by rw [ht]; exact tagN_lt 1 2 _ _ _ (by decide) (by decide)⟩, ?_⟩
  refine ht.trans ?_
  rw [dataP_eq, dataP_eq]
  exact tag_same 1 2 gA (gB t) 3 0 t _ rfl rfl
theorem openB3 (t : Nat) (ht : t = tagN 1 2 gA 3 (dataB false false 7 0 0 0)) : ∀ (f p : Bool) (sq ak wn x : Nat), ¬ OpenY 1 3 (gB t) f p sq ak wn x := by
  rintro f p sq ak wn x ⟨lb, e1, h2, h3⟩
  have e0 : oneS (gB t).opts 3 = (3, dataB false false 7 0 0 t, true) := rfl
  rw [e0] at e1
  injection e1 with _ e1
  injection e1 with e1 _
  subst e1
  have hd : DataIs 3 (dataB false false 7 0 0 t) false false 7 0 0 t := ⟨rfl, rfl, by unfold q64; decide, by unfold q64; decide, by unfold q32; decide, by rw [ht]; exact tagN_lt 1 2 _ _ _ (by decide) (by decide)⟩
  have hx := (h2.one hd).2.2.2.2.2
  rw [hx] at h3
  apply tags_differ
  show tagN 1 2 gA 3 (dataB false false 7 0 0 0) = tagN 1 3 gA 3 (dataB false false 7 0 0 0)
  rw [← ht, h3, dataP_eq, dataP_eq]
  exact tag_same 1 3 (gB t) gA 3 t 0 _ rfl rfl
set_option maxRecDepth 20000 in
set_option maxHeartbeats 4000000 in
theorem alive10_any (w : World) : Calls Try.prog 26 #[] w fun e w' => e = .returned (.bool true) ∧ Below w.heap.size w w' := by
  obtain ⟨TA, hTA⟩ : ∃ TA, TA = tagN 1 2 gA 3 (dataB false false 7 0 0 0) := ⟨_, rfl⟩
  have HD : Hid (∀ w' v, SegV w' v gA → Calls Try.prog 24 #[.agg #[.int .u64 1, .int .u64 2], v, .agg #[.bool false, .bool false, .int .u64 7, .int .u64 0, .int .u32 0, .int .u64 0]] w' fun e w'' => OptPost 3 (dataB false false 7 0 0 TA) w'.heap.size w'' e ∧ Below w'.heap.size w' w'') := Lib.hid (fun w' v h => by
    have := mData_any 1 2 v gA false false 7 0 0 0 w' (by decide) (by decide) h gA_bd (by decide) (by unfold q64; decide) (by unfold q64; decide) (by unfold q32; decide) (by unfold q64; decide)
    rw [← hTA] at this
    exact this)
  have HO2 : Hid (∀ w' v, SegV w' v (gB TA) → Calls Try.prog 27 #[.agg #[.int .u64 1, .int .u64 2], v] w' fun e w'' => e = .returned (.tuple #[.agg #[.bool false, .bool false, .int .u64 7, .int .u64 0, .int .u32 0, .int .u64 (TA : Nat)], .bool true]) ∧ Below w'.heap.size w' w'') := Lib.hid (fun w' v h => by
    refine (mopen_any 1 2 v (gB TA) w' (by decide) (by decide) h (gB_bd TA) (gB_small TA)).mono ?_
    rintro e w'' ⟨⟨f, p, sq, ak, wn, t, ok, rfl, hr⟩, hb⟩
    obtain ⟨rfl, rfl, rfl, rfl, rfl, rfl, rfl⟩ := hr.one (.inl ⟨rfl, openB TA hTA⟩)
    exact ⟨rfl, hb⟩)
  have HO3 : Hid (∀ w' v, SegV w' v (gB TA) → Calls Try.prog 27 #[.agg #[.int .u64 1, .int .u64 3], v] w' fun e w'' => e = .returned (.tuple #[.agg #[.bool false, .bool false, .int .u64 0, .int .u64 0, .int .u32 0, .int .u64 0], .bool false]) ∧ Below w'.heap.size w' w'') := Lib.hid (fun w' v h => by
    refine (mopen_any 1 3 v (gB TA) w' (by decide) (by decide) h (gB_bd TA) (gB_small TA)).mono ?_
    rintro e w'' ⟨⟨f, p, sq, ak, wn, t, ok, rfl, hr⟩, hb⟩
    obtain ⟨rfl, rfl, rfl, rfl, rfl, rfl, rfl⟩ := hr.one (OpenR.no (openB3 TA hTA))
    exact ⟨rfl, hb⟩)
  clear hTA
  go_enter Try.func26, Try.ntmps26
  have kc := fun (w : World) (C : Array Value) (n c g : Nat) (hg : g = w.heap.size) => Joins.run_convert_bytes_const_at (P := Try.prog) w 28 5 C n c g hg Try.underlying28 Try.underlying5
  go_upto_region 3 with fail
  have DAl : Rd ((w.alloc (.cells #[.int .u64 1, .int .u64 2] 24)).alloc (.cells #[.int .u8 120] 5 (1, 2))) (w.heap.size + 2) 1 (some ⟨w.heap.size + 1, 0, none⟩) 1 (ns .u8 [120]) := by
    have := Rd.litm (w := w.alloc (.cells #[.int .u64 1, .int .u64 2] 24)) (t := 5) (cs := #[.int .u8 120]) (fr := (1, 2)) (k := .u8) (n := 1) [120] rfl rfl
    simpa using this
  have KK := Lib.hid (((Blk.new w 24 #[.int .u64 1, .int .u64 2]).alloc (.cells #[.int .u8 120] 5 (1, 2))).alloc (.cells #[.int .u16 5, .int .u16 0, .int .u32 0, .int .u32 0, .int .u8 0, .slice none 0 0, .slice (some ⟨w.heap.size + 1, 0, none⟩) 1 1] 30))
  have KS : Hid (Blk (((w.alloc (.cells #[.int .u64 1, .int .u64 2] 24)).alloc (.cells #[.int .u8 120] 5 (1, 2))).alloc (.cells #[.int .u16 5, .int .u16 0, .int .u32 0, .int .u32 0, .int .u8 0, .slice none 0 0, .slice (some ⟨w.heap.size + 1, 0, none⟩) 1 1] 30)) (w.heap.size + 2) 30 #[.int .u16 5, .int .u16 0, .int .u32 0, .int .u32 0, .int .u8 0, .slice none 0 0, .slice (some ⟨w.heap.size + 1, 0, none⟩) 1 1]) := Lib.hid (by
    have := Blk.new ((w.alloc (.cells #[.int .u64 1, .int .u64 2] 24)).alloc (.cells #[.int .u8 120] 5 (1, 2))) 30 #[.int .u16 5, .int .u16 0, .int .u32 0, .int .u32 0, .int .u8 0, .slice none 0 0, .slice (some ⟨w.heap.size + 1, 0, none⟩) 1 1]
    simpa using this)
  have b1 := Lib.hid ((((Below.refl w.heap.size w).alloc (Nat.le_refl _) (.cells #[.int .u64 1, .int .u64 2] 24)).alloc (by simp) (.cells #[.int .u8 120] 5 (1, 2))).alloc (by simp <;> omega) (.cells #[.int .u16 5, .int .u16 0, .int .u32 0, .int .u32 0, .int .u8 0, .slice none 0 0, .slice (some ⟨w.heap.size + 1, 0, none⟩) 1 1] 30))
  have HS : Hid (SegV (((w.alloc (.cells #[.int .u64 1, .int .u64 2] 24)).alloc (.cells #[.int .u8 120] 5 (1, 2))).alloc (.cells #[.int .u16 5, .int .u16 0, .int .u32 0, .int .u32 0, .int .u8 0, .slice none 0 0, .slice (some ⟨w.heap.size + 1, 0, none⟩) 1 1] 30)) (.agg #[.int .u16 5, .int .u16 0, .int .u32 0, .int .u32 0, .int .u8 0, .slice none 0 0, .slice (some ⟨w.heap.size + 1, 0, none⟩) 1 1]) gA) := Lib.hid ⟨none, 0, 0, some ⟨w.heap.size + 1, 0, none⟩, 1, 1, [], rfl, Os.nil _, rfl, (DAl.alloc (by simp) _).mono (by simp), Nat.le_refl _, by unfold maxLen; omega⟩
  clear DAl kc
  obtain ⟨kb, hkb⟩ : ∃ kb, kb = w.heap.size := ⟨_, rfl⟩
  obtain ⟨sb, hsb⟩ : ∃ sb, sb = w.heap.size + 2 := ⟨_, rfl⟩
  rw [← hsb] at KS
  rw [show w.heap.size + 1 + 1 = sb from hsb.symm]
  rw [← hkb] at KK b1 KS HS ⊢
  generalize (((w.alloc (.cells #[.int .u64 1, .int .u64 2] 24)).alloc (.cells #[.int .u8 120] 5 (1, 2))).alloc (.cells #[.int .u16 5, .int .u16 0, .int .u32 0, .int .u32 0, .int .u8 0, .slice none 0 0, .slice (some ⟨kb + 1, 0, none⟩) 1 1] 30)) = w2 at *
  have HKB := Lib.hid hkb
  clear hkb hsb
  refine GH.wp_ghlz (M := false) 13 11 ((GH.SP.eq (.agg #[.int .u64 1, .int .u64 2])) :: (GH.SP.eq (.agg #[.int .u16 5, .int .u16 0, .int .u32 0, .int .u32 0, .int .u8 0, .slice none 0 0, .slice (some ⟨kb + 1, 0, none⟩) 1 1])) :: (GH.SP.eq (.agg #[.int .u64 1, .int .u64 2])) :: (GH.SP.eq (.agg #[.int .u16 5, .int .u16 0, .int .u32 0, .int .u32 0, .int .u8 0, .slice none 0 0, .slice (some ⟨kb + 1, 0, none⟩) 1 1])) :: (GH.SP.eq (.agg #[.bool false, .bool false, .int .u64 7, .int .u64 0, .int .u32 0, .int .u64 0])) :: (GH.SP.opt 3 (dataB false false 7 0 0 TA)) :: (GH.SP.os [(3, dataB false false 7 0 0 TA)]) :: (GH.SP.seg (gB TA)) :: (GH.SP.eq (.tuple #[.agg #[.bool false, .bool false, .int .u64 7, .int .u64 0, .int .u32 0, .int .u64 (TA : Nat)], .bool true])) :: (GH.SP.eq (.tuple #[.agg #[.bool false, .bool false, .int .u64 7, .int .u64 0, .int .u32 0, .int .u64 (TA : Nat)], .bool true])) :: (GH.SP.eq (.agg #[.bool false, .bool false, .int .u64 7, .int .u64 0, .int .u32 0, .int .u64 (TA : Nat)])) :: (GH.SP.eq (.bool true)) :: (GH.SP.blk (w2.heap.size) 38 #[.bool false, .bool false, .int .u64 0, .int .u64 0, .int .u32 0, .int .u64 0]) :: []) (none :: none :: none :: (some 12) :: none :: none :: none :: none :: none :: none :: none :: (some 9) :: (some 0) :: (some 1) :: (some 2) :: (some 3) :: (some 4) :: (some 5) :: (some 6) :: (some 7) :: (some 8) :: (some 10) :: (some 11) :: none :: none :: none :: none :: none :: none :: none :: none :: none :: none :: none :: none :: none :: none :: none :: none :: none :: none :: none :: none :: none :: none :: []) [12, 13, 14, 15, 16, 17, 18, 19, 20, 11, 21, 22, 3] (by rfl) (by kernel_rfl) (by kernel_rfl) ?_ ?_ ?_ ?_
  · intro S jx v hjx
    match jx, hjx with
    | 0, _ => rfl
    | 1, _ => rfl
    | 2, _ => rfl
    | 3, _ => rfl
    | 4, _ => rfl
    | 5, _ => rfl
    | 6, _ => rfl
    | 7, _ => rfl
    | 8, _ => rfl
    | 9, _ => rfl
    | 10, _ => rfl
    | 11, _ => rfl
    | 12, _ => rfl
    | nx + 13, hjx => omega
  · intro jx hjx S w' hb hd
    match jx, hjx, hd with
    | 0, _, hd =>
      simp only [GH.mkL, List.getD_cons_succ, List.getD_cons_zero]
      clear hd
      exact GH.st_loads _ [.int .u64 1, .int .u64 2] (by rfl) rfl rfl (((KK.out.below hb.below KK.out.lt)).loads 0 _ (by rfl)) (by kernel_rfl) (by kernel_rfl)
    | 1, _, hd =>
      simp only [GH.mkL, List.getD_cons_succ, List.getD_cons_zero]
      clear hd
      exact GH.st_loads _ [.int .u16 5, .int .u16 0, .int .u32 0, .int .u32 0, .int .u8 0, .slice none 0 0, .slice (some ⟨kb + 1, 0, none⟩) 1 1] (by rfl) rfl rfl (((KS.out.below hb.below KS.out.lt)).loads 0 _ (by rfl)) (by kernel_rfl) (by kernel_rfl)
    | 2, _, hd =>
      simp only [GH.mkL, List.getD_cons_succ, List.getD_cons_zero]
      clear hd
      exact GH.st_loads _ [.int .u64 1, .int .u64 2] (by rfl) rfl rfl (((KK.out.below hb.below KK.out.lt)).loads 0 _ (by rfl)) (by kernel_rfl) (by kernel_rfl)
    | 3, _, hd =>
      simp only [GH.mkL, List.getD_cons_succ, List.getD_cons_zero]
      clear hd
      exact GH.st_loads _ [.int .u16 5, .int .u16 0, .int .u32 0, .int .u32 0, .int .u8 0, .slice none 0 0, .slice (some ⟨kb + 1, 0, none⟩) 1 1] (by rfl) rfl rfl (((KS.out.below hb.below KS.out.lt)).loads 0 _ (by rfl)) (by kernel_rfl) (by kernel_rfl)
    | 4, _, hd =>
      simp only [GH.mkL, List.getD_cons_succ, List.getD_cons_zero]
      clear hd
      refine GH.st_eq (by rfl) ?_
      go_simp
      (try with_reducible rfl)
    | 5, _, hd =>
      simp only [GH.mkL, List.getD_cons_succ, List.getD_cons_zero]
      have d2 : S 2 = .agg #[.int .u64 1, .int .u64 2] := (hd 2 (by kernel_rfl)).2
      rw [d2]
      clear d2
      have d3 : S 3 = .agg #[.int .u16 5, .int .u16 0, .int .u32 0, .int .u32 0, .int .u8 0, .slice none 0 0, .slice (some ⟨kb + 1, 0, none⟩) 1 1] := (hd 3 (by kernel_rfl)).2
      rw [d3]
      clear d3
      have d4 : S 4 = .agg #[.bool false, .bool false, .int .u64 7, .int .u64 0, .int .u32 0, .int .u64 0] := (hd 4 (by kernel_rfl)).2
      rw [d4]
      clear d4
      clear hd
      refine GH.st_call (by rfl) hb.below.size (by go_simp) ((HD.out w' _ (HS.out.gr hb)).mono ?_)
      rintro e w9 ⟨⟨v, rfl, hN⟩, hb9⟩
      exact ⟨_, rfl, hb9, GH.opt_of hN⟩
    | 6, _, hd =>
      simp only [GH.mkL, List.getD_cons_succ, List.getD_cons_zero]
      obtain ⟨A5, n5, c5, d5, e5, m5, H5⟩ := (hd 5 (by kernel_rfl)).2
      rw [d5]
      clear d5
      replace H5 := Lib.hid H5
      clear hd
      refine ⟨fun K hK => ?_⟩
      go_wp2_with fail
      exact hK _ _ (GH.Gr.of ((Below.refl _ _).alloc (Nat.le_refl _) _) hb.below.size) (GH.os_lit H5.out e5 m5)
    | 7, _, hd =>
      simp only [GH.mkL, List.getD_cons_succ, List.getD_cons_zero]
      have d1 : S 1 = .agg #[.int .u16 5, .int .u16 0, .int .u32 0, .int .u32 0, .int .u8 0, .slice none 0 0, .slice (some ⟨kb + 1, 0, none⟩) 1 1] := (hd 1 (by kernel_rfl)).2
      rw [d1]
      clear d1
      obtain ⟨A5, n5, c5, d5, e5, m5, H5⟩ := (hd 5 (by kernel_rfl)).2
      rw [d5]
      clear d5
      replace H5 := Lib.hid H5
      obtain ⟨A6, n6, c6, o6, d6, H6, e6⟩ := (hd 6 (by kernel_rfl)).2
      rw [d6]
      clear d6
      replace H6 := Lib.hid H6
      replace e6 := Lib.hid e6
      clear hd
      refine GH.st_call (by rfl) hb.below.size (by go_simp) ((of_any _ gA A6 n6 c6 o6 w' (HS.out.gr hb) H6.out (by have q1 := H6.out.len; have q2 := congrArg List.length e6.out; simp [osay] at q2; omega)).mono ?_)
      rintro e w9 ⟨⟨v, rfl, h⟩, hb9⟩
      exact ⟨_, rfl, hb9, (by rw [e6.out] at h; exact h)⟩
    | 8, _, hd =>
      simp only [GH.mkL, List.getD_cons_succ, List.getD_cons_zero]
      have d0 : S 0 = .agg #[.int .u64 1, .int .u64 2] := (hd 0 (by kernel_rfl)).2
      rw [d0]
      clear d0
      have h7 := Lib.hid (show SegV _ (S 7) (gB TA) from (hd 7 (by kernel_rfl)).2)
      generalize S 7 = v7 at h7 ⊢
      clear hd
      refine GH.st_call (by rfl) hb.below.size (by go_simp) ((HO2.out w' v7 h7.out).mono ?_)
      rintro e w9 ⟨rfl, hb9⟩
      exact ⟨_, rfl, hb9, rfl⟩
    | 9, _, hd =>
      simp only [GH.mkL, List.getD_cons_succ, List.getD_cons_zero]
      have d8 : S 8 = .tuple #[.agg #[.bool false, .bool false, .int .u64 7, .int .u64 0, .int .u32 0, .int .u64 (TA : Nat)], .bool true] := (hd 8 (by kernel_rfl)).2
      rw [d8]
      clear d8
      clear hd
      refine GH.st_eq (by rfl) ?_
      go_simp
      (try with_reducible rfl)
    | 10, _, hd =>
      simp only [GH.mkL, List.getD_cons_succ, List.getD_cons_zero]
      have d9 : S 9 = .tuple #[.agg #[.bool false, .bool false, .int .u64 7, .int .u64 0, .int .u32 0, .int .u64 (TA : Nat)], .bool true] := (hd 9 (by kernel_rfl)).2
      rw [d9]
      clear d9
      clear hd
      refine GH.st_eq (by rfl) ?_
      go_simp
      (try with_reducible rfl)
    | 11, _, hd =>
      simp only [GH.mkL, List.getD_cons_succ, List.getD_cons_zero]
      have d9 : S 9 = .tuple #[.agg #[.bool false, .bool false, .int .u64 7, .int .u64 0, .int .u32 0, .int .u64 (TA : Nat)], .bool true] := (hd 9 (by kernel_rfl)).2
      rw [d9]
      clear d9
      clear hd
      refine GH.st_eq (by rfl) ?_
      go_simp
      (try with_reducible rfl)
    | 12, _, hd =>
      simp only [GH.mkL, List.getD_cons_succ, List.getD_cons_zero]
      clear hd
      refine ⟨fun K hK => ?_⟩
      go_wp2_with fail
      exact hK _ _ (GH.Gr.of ((Below.refl _ _).alloc (Nat.le_refl _) _) hb.below.size) ⟨_, rfl, hb.below.size, Blk.new _ _ _⟩
    | nx + 13, hjx, _ => omega
  · intro S w' hb hd
    simp only [GH.mkL, List.getD_cons_succ, List.getD_cons_zero]
    have d9 : S 9 = .tuple #[.agg #[.bool false, .bool false, .int .u64 7, .int .u64 0, .int .u32 0, .int .u64 (TA : Nat)], .bool true] := (hd 9 (by kernel_rfl)).2
    rw [d9]
    clear d9
    refine ⟨.bool true, rfl, fun w9 => ?_⟩
    go_simp
    (try with_reducible rfl)
  intro S w' hb hG
  obtain ⟨GZ, dZ, hBZ, KZ⟩ := hG 12 (by omega) (by decide)
  have dV : S 10 = .agg #[.bool false, .bool false, .int .u64 7, .int .u64 0, .int .u32 0, .int .u64 (TA : Nat)] := hG 10 (by omega) (by decide)
  refine ⟨w'.setCells GZ 0 #[.bool false, .bool false, .int .u64 7, .int .u64 0, .int .u32 0, .int .u64 (TA : Nat)].toList, fun v K Q9 hK => ?_, fun v gv => ?_⟩
  · refine wp_store_mid 38 _ _ rfl GZ 0 #[.bool false, .bool false, .int .u64 7, .int .u64 0, .int .u32 0, .int .u64 (TA : Nat)] (show S 12 = _ from dZ) (show S 10 = _ from dV) (KZ.there (by simp)) (by kernel_rfl) (by simp [Value.oneCell']) ?_
    exact hK
  have uZ : GH.upd S 11 v 11 = .bool true := gv
  have uP : GH.upd S 11 v 12 = .pointer (some ⟨GZ, 0, none⟩) := dZ
  have hs : Solo GZ w' (w'.setCells GZ 0 #[.bool false, .bool false, .int .u64 7, .int .u64 0, .int .u32 0, .int .u64 (TA : Nat)].toList) := Solo.refl.setCells _ _
  replace KZ : Blk (w'.setCells GZ 0 #[.bool false, .bool false, .int .u64 7, .int .u64 0, .int .u32 0, .int .u64 (TA : Nat)].toList) GZ 38 #[.bool false, .bool false, .int .u64 7, .int .u64 0, .int .u32 0, .int .u64 (TA : Nat)] := KZ.setCells _ _
  generalize w'.setCells GZ 0 #[.bool false, .bool false, .int .u64 7, .int .u64 0, .int .u32 0, .int .u64 (TA : Nat)].toList = w9 at hs KZ ⊢
  generalize GH.upd S 11 v = S9 at *
  simp only [GH.mkL, List.drop_succ_cons, List.drop_zero]
  rw [uZ, uP]
  clear uZ uP gv dZ dV hG
  have B9 := Lib.hid (hb.below.trans (hs.1.mono hBZ))
  have KD := Lib.hid KZ
  replace KK := Lib.hid (KK.out.below B9.out KK.out.lt)
  replace KS := Lib.hid (KS.out.below B9.out KS.out.lt)
  replace HS := Lib.hid (HS.out.into B9.out)
  replace b1 := Lib.hid (b1.out.trans (B9.out.mono (by have := b1.out.size; rw [HKB.out]; exact this)))
  clear B9 hb hs hBZ KZ
  generalize GZ = db at *
  generalize w9 = w3 at *
  go_upto_region 4 with fail
  refine GH.wp_ghlz (M := false) 13 11 ((GH.SP.eq (.agg #[.int .u64 1, .int .u64 3])) :: (GH.SP.eq (.agg #[.int .u16 5, .int .u16 0, .int .u32 0, .int .u32 0, .int .u8 0, .slice none 0 0, .slice (some ⟨kb + 1, 0, none⟩) 1 1])) :: (GH.SP.eq (.agg #[.int .u64 1, .int .u64 2])) :: (GH.SP.eq (.agg #[.int .u16 5, .int .u16 0, .int .u32 0, .int .u32 0, .int .u8 0, .slice none 0 0, .slice (some ⟨kb + 1, 0, none⟩) 1 1])) :: (GH.SP.eq (.agg #[.bool false, .bool false, .int .u64 7, .int .u64 0, .int .u32 0, .int .u64 0])) :: (GH.SP.opt 3 (dataB false false 7 0 0 TA)) :: (GH.SP.os [(3, dataB false false 7 0 0 TA)]) :: (GH.SP.seg (gB TA)) :: (GH.SP.eq (.tuple #[.agg #[.bool false, .bool false, .int .u64 0, .int .u64 0, .int .u32 0, .int .u64 0], .bool false])) :: (GH.SP.eq (.tuple #[.agg #[.bool false, .bool false, .int .u64 0, .int .u64 0, .int .u32 0, .int .u64 0], .bool false])) :: (GH.SP.eq (.agg #[.bool false, .bool false, .int .u64 0, .int .u64 0, .int .u32 0, .int .u64 0])) :: (GH.SP.eq (.bool false)) :: (GH.SP.blk (w3.heap.size) 38 #[.bool false, .bool false, .int .u64 0, .int .u64 0, .int .u32 0, .int .u64 0]) :: []) (none :: none :: none :: none :: none :: (some 12) :: none :: none :: none :: none :: none :: none :: none :: none :: none :: none :: none :: none :: none :: none :: none :: none :: none :: (some 9) :: (some 0) :: (some 1) :: (some 2) :: (some 3) :: (some 4) :: (some 5) :: (some 6) :: (some 7) :: (some 8) :: (some 10) :: (some 11) :: none :: none :: none :: none :: none :: none :: none :: none :: none :: none :: []) [24, 25, 26, 27, 28, 29, 30, 31, 32, 23, 33, 34, 5] (by rfl) (by kernel_rfl) (by kernel_rfl) ?_ ?_ ?_ ?_
  · intro S jx v hjx
    match jx, hjx with
    | 0, _ => rfl
    | 1, _ => rfl
    | 2, _ => rfl
    | 3, _ => rfl
    | 4, _ => rfl
    | 5, _ => rfl
    | 6, _ => rfl
    | 7, _ => rfl
    | 8, _ => rfl
    | 9, _ => rfl
    | 10, _ => rfl
    | 11, _ => rfl
    | 12, _ => rfl
    | nx + 13, hjx => omega
  · intro jx hjx S w' hb hd
    match jx, hjx, hd with
    | 0, _, hd =>
      simp only [GH.mkL, List.getD_cons_succ, List.getD_cons_zero]
      clear hd
      refine GH.st_eq (by rfl) ?_
      go_simp
      (try with_reducible rfl)
    | 1, _, hd =>
      simp only [GH.mkL, List.getD_cons_succ, List.getD_cons_zero]
      clear hd
      exact GH.st_loads _ [.int .u16 5, .int .u16 0, .int .u32 0, .int .u32 0, .int .u8 0, .slice none 0 0, .slice (some ⟨kb + 1, 0, none⟩) 1 1] (by rfl) rfl rfl (((KS.out.below hb.below KS.out.lt)).loads 0 _ (by rfl)) (by kernel_rfl) (by kernel_rfl)
    | 2, _, hd =>
      simp only [GH.mkL, List.getD_cons_succ, List.getD_cons_zero]
      clear hd
      exact GH.st_loads _ [.int .u64 1, .int .u64 2] (by rfl) rfl rfl (((KK.out.below hb.below KK.out.lt)).loads 0 _ (by rfl)) (by kernel_rfl) (by kernel_rfl)
    | 3, _, hd =>
      simp only [GH.mkL, List.getD_cons_succ, List.getD_cons_zero]
      clear hd
      exact GH.st_loads _ [.int .u16 5, .int .u16 0, .int .u32 0, .int .u32 0, .int .u8 0, .slice none 0 0, .slice (some ⟨kb + 1, 0, none⟩) 1 1] (by rfl) rfl rfl (((KS.out.below hb.below KS.out.lt)).loads 0 _ (by rfl)) (by kernel_rfl) (by kernel_rfl)
    | 4, _, hd =>
      simp only [GH.mkL, List.getD_cons_succ, List.getD_cons_zero]
      clear hd
      refine GH.st_eq (by rfl) ?_
      go_simp
      (try with_reducible rfl)
    | 5, _, hd =>
      simp only [GH.mkL, List.getD_cons_succ, List.getD_cons_zero]
      have d2 : S 2 = .agg #[.int .u64 1, .int .u64 2] := (hd 2 (by kernel_rfl)).2
      rw [d2]
      clear d2
      have d3 : S 3 = .agg #[.int .u16 5, .int .u16 0, .int .u32 0, .int .u32 0, .int .u8 0, .slice none 0 0, .slice (some ⟨kb + 1, 0, none⟩) 1 1] := (hd 3 (by kernel_rfl)).2
      rw [d3]
      clear d3
      have d4 : S 4 = .agg #[.bool false, .bool false, .int .u64 7, .int .u64 0, .int .u32 0, .int .u64 0] := (hd 4 (by kernel_rfl)).2
      rw [d4]
      clear d4
      clear hd
      refine GH.st_call (by rfl) hb.below.size (by go_simp) ((HD.out w' _ (HS.out.gr hb)).mono ?_)
      rintro e w9 ⟨⟨v, rfl, hN⟩, hb9⟩
      exact ⟨_, rfl, hb9, GH.opt_of hN⟩
    | 6, _, hd =>
      simp only [GH.mkL, List.getD_cons_succ, List.getD_cons_zero]
      obtain ⟨A5, n5, c5, d5, e5, m5, H5⟩ := (hd 5 (by kernel_rfl)).2
      rw [d5]
      clear d5
      replace H5 := Lib.hid H5
      clear hd
      refine ⟨fun K hK => ?_⟩
      go_wp2_with fail
      exact hK _ _ (GH.Gr.of ((Below.refl _ _).alloc (Nat.le_refl _) _) hb.below.size) (GH.os_lit H5.out e5 m5)
    | 7, _, hd =>
      simp only [GH.mkL, List.getD_cons_succ, List.getD_cons_zero]
      have d1 : S 1 = .agg #[.int .u16 5, .int .u16 0, .int .u32 0, .int .u32 0, .int .u8 0, .slice none 0 0, .slice (some ⟨kb + 1, 0, none⟩) 1 1] := (hd 1 (by kernel_rfl)).2
      rw [d1]
      clear d1
      obtain ⟨A5, n5, c5, d5, e5, m5, H5⟩ := (hd 5 (by kernel_rfl)).2
      rw [d5]
      clear d5
      replace H5 := Lib.hid H5
      obtain ⟨A6, n6, c6, o6, d6, H6, e6⟩ := (hd 6 (by kernel_rfl)).2
      rw [d6]
      clear d6
      replace H6 := Lib.hid H6
      replace e6 := Lib.hid e6
      clear hd
      refine GH.st_call (by rfl) hb.below.size (by go_simp) ((of_any _ gA A6 n6 c6 o6 w' (HS.out.gr hb) H6.out (by have q1 := H6.out.len; have q2 := congrArg List.length e6.out; simp [osay] at q2; omega)).mono ?_)
      rintro e w9 ⟨⟨v, rfl, h⟩, hb9⟩
      exact ⟨_, rfl, hb9, (by rw [e6.out] at h; exact h)⟩
    | 8, _, hd =>
      simp only [GH.mkL, List.getD_cons_succ, List.getD_cons_zero]
      have d0 : S 0 = .agg #[.int .u64 1, .int .u64 3] := (hd 0 (by kernel_rfl)).2
      rw [d0]
      clear d0
      have h7 := Lib.hid (show SegV _ (S 7) (gB TA) from (hd 7 (by kernel_rfl)).2)
      generalize S 7 = v7 at h7 ⊢
      clear hd
      refine GH.st_call (by rfl) hb.below.size (by go_simp) ((HO3.out w' v7 h7.out).mono ?_)
      rintro e w9 ⟨rfl, hb9⟩
      exact ⟨_, rfl, hb9, rfl⟩
    | 9, _, hd =>
      simp only [GH.mkL, List.getD_cons_succ, List.getD_cons_zero]
      have d8 : S 8 = .tuple #[.agg #[.bool false, .bool false, .int .u64 0, .int .u64 0, .int .u32 0, .int .u64 0], .bool false] := (hd 8 (by kernel_rfl)).2
      rw [d8]
      clear d8
      clear hd
      refine GH.st_eq (by rfl) ?_
      go_simp
      (try with_reducible rfl)
    | 10, _, hd =>
      simp only [GH.mkL, List.getD_cons_succ, List.getD_cons_zero]
      have d9 : S 9 = .tuple #[.agg #[.bool false, .bool false, .int .u64 0, .int .u64 0, .int .u32 0, .int .u64 0], .bool false] := (hd 9 (by kernel_rfl)).2
      rw [d9]
      clear d9
      clear hd
      refine GH.st_eq (by rfl) ?_
      go_simp
      (try with_reducible rfl)
    | 11, _, hd =>
      simp only [GH.mkL, List.getD_cons_succ, List.getD_cons_zero]
      have d9 : S 9 = .tuple #[.agg #[.bool false, .bool false, .int .u64 0, .int .u64 0, .int .u32 0, .int .u64 0], .bool false] := (hd 9 (by kernel_rfl)).2
      rw [d9]
      clear d9
      clear hd
      refine GH.st_eq (by rfl) ?_
      go_simp
      (try with_reducible rfl)
    | 12, _, hd =>
      simp only [GH.mkL, List.getD_cons_succ, List.getD_cons_zero]
      clear hd
      refine ⟨fun K hK => ?_⟩
      go_wp2_with fail
      exact hK _ _ (GH.Gr.of ((Below.refl _ _).alloc (Nat.le_refl _) _) hb.below.size) ⟨_, rfl, hb.below.size, Blk.new _ _ _⟩
    | nx + 13, hjx, _ => omega
  · intro S w' hb hd
    simp only [GH.mkL, List.getD_cons_succ, List.getD_cons_zero]
    have d9 : S 9 = .tuple #[.agg #[.bool false, .bool false, .int .u64 0, .int .u64 0, .int .u32 0, .int .u64 0], .bool false] := (hd 9 (by kernel_rfl)).2
    rw [d9]
    clear d9
    refine ⟨.bool false, rfl, fun w9 => ?_⟩
    go_simp
    (try with_reducible rfl)
  intro S w' hb hG
  obtain ⟨GZ, dZ, hBZ, KZ⟩ := hG 12 (by omega) (by decide)
  have dV : S 10 = .agg #[.bool false, .bool false, .int .u64 0, .int .u64 0, .int .u32 0, .int .u64 0] := hG 10 (by omega) (by decide)
  refine ⟨w'.setCells GZ 0 #[.bool false, .bool false, .int .u64 0, .int .u64 0, .int .u32 0, .int .u64 0].toList, fun v K Q9 hK => ?_, fun v gv => ?_⟩
  · refine wp_store_mid 38 _ _ rfl GZ 0 #[.bool false, .bool false, .int .u64 0, .int .u64 0, .int .u32 0, .int .u64 0] (show S 12 = _ from dZ) (show S 10 = _ from dV) (KZ.there (by simp)) (by kernel_rfl) (by simp [Value.oneCell']) ?_
    exact hK
  have uZ : GH.upd S 11 v 11 = .bool false := gv
  have uP : GH.upd S 11 v 12 = .pointer (some ⟨GZ, 0, none⟩) := dZ
  have hs : Solo GZ w' (w'.setCells GZ 0 #[.bool false, .bool false, .int .u64 0, .int .u64 0, .int .u32 0, .int .u64 0].toList) := Solo.refl.setCells _ _
  replace KZ : Blk (w'.setCells GZ 0 #[.bool false, .bool false, .int .u64 0, .int .u64 0, .int .u32 0, .int .u64 0].toList) GZ 38 #[.bool false, .bool false, .int .u64 0, .int .u64 0, .int .u32 0, .int .u64 0] := KZ.setCells _ _
  generalize w'.setCells GZ 0 #[.bool false, .bool false, .int .u64 0, .int .u64 0, .int .u32 0, .int .u64 0].toList = w9 at hs KZ ⊢
  generalize GH.upd S 11 v = S9 at *
  simp only [GH.mkL, List.drop_succ_cons, List.drop_zero]
  rw [uZ, uP]
  clear uZ uP gv dZ dV hG
  have B9 := Lib.hid (hb.below.trans (hs.1.mono hBZ))
  replace KD := Lib.hid (KD.out.below B9.out KD.out.lt)
  replace b1 := Lib.hid (b1.out.trans (B9.out.mono (by have := b1.out.size; rw [HKB.out]; exact this)))
  obtain ⟨x0, x1, x2, x3, x4, x5⟩ := ptc6 KD.out
  clear B9 hb hs hBZ KZ KK KS HS KD
  go_wp2_with fail
  go_ret
  rw [HKB.out] at b1
  exact ⟨rfl, b1.out⟩
end Go.Proofs.Ytbiimgfocgbdaaa
