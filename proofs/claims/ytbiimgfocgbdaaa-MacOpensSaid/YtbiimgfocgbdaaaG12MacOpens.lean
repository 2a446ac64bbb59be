/- A segment's header. -/
import Derived.Test.YtbiimgfocgbdaaaG10MacOpens
import Derived.Test.YtbiimgfocgbdaaaG6MacOpens
import Derived.Test.YtbiimgfocgbdaaaOrd

namespace Go.Proofs.Ytbiimgfocgbdaaa
open Go.RowKit
set_option linter.unusedVariables false
theorem be1 {x : Nat} (h : x < 256) : be x 1 = [x] := by show [] ++ [x % 256] = [x]; rw [Nat.mod_eq_of_lt h]; rfl
theorem fbs_hdr (g : Sg) (h : g.flags < 256) : [] ++ fbs [((2 : Int), g.src), (2, g.dst), (4, g.seq), (4, g.ack), (1, g.flags)] = hdrS g := by
  unfold hdrS fbs
  simp only [List.flatMap_cons, List.flatMap_nil]
  rw [if_pos (by decide), if_pos (by decide), if_pos (by decide), if_pos (by decide), if_pos (by decide)]
  show [] ++ (be g.src 2 ++ (be g.dst 2 ++ (be g.seq 4 ++ (be g.ack 4 ++ (be g.flags 1 ++ []))))) = _
  rw [be1 h]
  simp
set_option maxRecDepth 20000 in
set_option maxHeartbeats 2000000 in
theorem header_any (v : Value) (g : Sg) (w : World) (h : SegV w v g) (hg : g.bd) :
    Calls Try.prog 85 #[v] w fun e w' => ∃ v', e = .returned v' ∧ Nats w' 5 .u8 w.heap.size v' (hdrS g) ∧ Below w.heap.size w w' := by
  obtain ⟨A, n, c, D, m, d, l, rfl, hO, ho, hD, hmd, hdm⟩ := h
  have HSB := Lib.hid (SBox.mk' (d := d) hO ho hD)
  have HGB := Lib.hid hg
  clear hO hD ho hmd hdm hg
  unfold segCs at *
  go_enter Try.func85, Try.ntmps85
  go_wp2_with fail
  generalize w.alloc (.cells #[.int .u16 (g.src : Int), .int .u16 (g.dst : Int), .int .u32 (g.seq : Int), .int .u32 (g.ack : Int), .int .u8 (g.flags : Int), .slice A n c, .slice D m d] 30) = W at *
  obtain ⟨T, hT⟩ : ∃ T, T = w.heap.size := ⟨_, rfl⟩
  rw [← hT] at HSB ⊢
  refine wp_ord [(0, .pure), (1, .read), (3, .pure), (4, .read), (6, .pure), (7, .read), (9, .pure), (10, .read), (12, .pure), (13, .read), (2, .sole), (5, .sole), (8, .sole), (11, .sole), (14, .sole), (15, .sole), (16, .sole), (17, .pure)] [] (by kernel_rfl) (by kernel_rfl) (fun QQ hQ wd hwd => ?_); simp only [List.map_cons, List.map_nil, List.getD_cons_zero, List.getD_cons_succ]
  have hSD : SBox w wd T g A n c D m d l := HSB.out.into (by rw [hwd.out]; exact (Below.refl _ _).drew)
  obtain ⟨t0, t1, t2, t3, t4, _, _⟩ := seg_cells hSD.blk
  have B0 := Lib.hid hSD.bel
  have hTd : T ≤ wd.heap.size := Nat.le_of_lt hSD.blk.lt
  have HT := Lib.hid hT
  clear hSD hwd HSB hT
  (refine o_pure (v := ?_) (by rfl) (fun w' => ?_) ?_; rotate_left; (focus (go_simp; (try with_reducible rfl))); (try simp only [Act.put, List.setIfInBounds_toArray, List.set_cons_zero, List.set_cons_succ]))
  (refine o_load _ (by rfl) rfl rfl (by assumption) (by kernel_rfl) ?_; simp only [Act.put, List.setIfInBounds_toArray, List.set_cons_zero, List.set_cons_succ])
  (refine o_pure (v := ?_) (by rfl) (fun w' => ?_) ?_; rotate_left; (focus (go_simp; (try with_reducible rfl))); (try simp only [Act.put, List.setIfInBounds_toArray, List.set_cons_zero, List.set_cons_succ]))
  (refine o_load _ (by rfl) rfl rfl (by assumption) (by kernel_rfl) ?_; simp only [Act.put, List.setIfInBounds_toArray, List.set_cons_zero, List.set_cons_succ])
  (refine o_pure (v := ?_) (by rfl) (fun w' => ?_) ?_; rotate_left; (focus (go_simp; (try with_reducible rfl))); (try simp only [Act.put, List.setIfInBounds_toArray, List.set_cons_zero, List.set_cons_succ]))
  (refine o_load _ (by rfl) rfl rfl (by assumption) (by kernel_rfl) ?_; simp only [Act.put, List.setIfInBounds_toArray, List.set_cons_zero, List.set_cons_succ])
  (refine o_pure (v := ?_) (by rfl) (fun w' => ?_) ?_; rotate_left; (focus (go_simp; (try with_reducible rfl))); (try simp only [Act.put, List.setIfInBounds_toArray, List.set_cons_zero, List.set_cons_succ]))
  (refine o_load _ (by rfl) rfl rfl (by assumption) (by kernel_rfl) ?_; simp only [Act.put, List.setIfInBounds_toArray, List.set_cons_zero, List.set_cons_succ])
  (refine o_pure (v := ?_) (by rfl) (fun w' => ?_) ?_; rotate_left; (focus (go_simp; (try with_reducible rfl))); (try simp only [Act.put, List.setIfInBounds_toArray, List.set_cons_zero, List.set_cons_succ]))
  (refine o_load _ (by rfl) rfl rfl (by assumption) (by kernel_rfl) ?_; simp only [Act.put, List.setIfInBounds_toArray, List.set_cons_zero, List.set_cons_succ])
  clear t0 t1 t2 t3 t4
  refine o_sole (fun K hK => ?_)
  go_wp2_with fail
  refine (pH_any (g.src : Int) wd (by omega) (by have := HGB.out.src; omega)).mono ?_
  rintro e w1 ⟨rfl, hb⟩
  have B1 := Lib.hid (B0.out.trans (hb.mono (by rw [← HT.out]; exact hTd)))
  have s1 : T ≤ w1.heap.size := Nat.le_trans hTd hb.size
  go_wp2_with fail
  refine hK _ _ (fun _ => Ext.of hb) ?_; clear hK K
  clear hb
  refine o_sole (fun K hK => ?_)
  go_wp2_with fail
  refine (pH_any (g.dst : Int) w1 (by omega) (by have := HGB.out.dst; omega)).mono ?_
  rintro e w2 ⟨rfl, hb⟩
  have B2 := Lib.hid (B1.out.trans (hb.mono (by rw [← HT.out]; exact s1)))
  have s2 : T ≤ w2.heap.size := Nat.le_trans s1 hb.size
  go_wp2_with fail
  refine hK _ _ (fun _ => Ext.of hb) ?_; clear hK K
  clear hb
  refine o_sole (fun K hK => ?_)
  go_wp2_with fail
  refine (pW_any (g.seq : Int) w2 (by omega) (by have := HGB.out.seq; omega)).mono ?_
  rintro e w3 ⟨rfl, hb⟩
  have B3 := Lib.hid (B2.out.trans (hb.mono (by rw [← HT.out]; exact s2)))
  have s3 : T ≤ w3.heap.size := Nat.le_trans s2 hb.size
  go_wp2_with fail
  refine hK _ _ (fun _ => Ext.of hb) ?_; clear hK K
  clear hb
  refine o_sole (fun K hK => ?_)
  go_wp2_with fail
  refine (pW_any (g.ack : Int) w3 (by omega) (by have := HGB.out.ack; omega)).mono ?_
  rintro e w4 ⟨rfl, hb⟩
  have B4 := Lib.hid (B3.out.trans (hb.mono (by rw [← HT.out]; exact s3)))
  have s4 : T ≤ w4.heap.size := Nat.le_trans s3 hb.size
  go_wp2_with fail
  refine hK _ _ (fun _ => Ext.of hb) ?_; clear hK K
  clear hb
  refine o_sole (fun K hK => ?_)
  go_wp2_with fail
  refine (pB_any (g.flags : Int) w4 (by omega) (by have := HGB.out.flags; omega)).mono ?_
  rintro e w5 ⟨rfl, hb⟩
  have B5 := Lib.hid (B4.out.trans (hb.mono (by rw [← HT.out]; exact s4)))
  have s5 : T ≤ w5.heap.size := Nat.le_trans s4 hb.size
  go_wp2_with fail
  refine hK _ _ (fun _ => Ext.of hb) ?_; clear hK K
  clear hb
  refine o_sole (fun K hK => ?_)
  go_wp2_with fail
  refine hK _ _ (fun _ => Ext.of ((Below.refl _ _).alloc (Nat.le_refl _) _)) ?_; clear hK K
  have hrd : Rd (w5.alloc (.cells #[.int .i64 2, .int .u64 (g.src : Int), .int .i64 2, .int .u64 (g.dst : Int), .int .i64 4, .int .u64 (g.seq : Int), .int .i64 4, .int .u64 (g.ack : Int), .int .i64 1, .int .u64 (g.flags : Int)] 113)) (w5.heap.size + 1) 2 (some ⟨w5.heap.size, 0, none⟩) 5 (fs [((2 : Int), g.src), (2, g.dst), (4, g.seq), (4, g.ack), (1, g.flags)]) := Rd.made w5 113 #[.int .i64 2, .int .u64 (g.src : Int), .int .i64 2, .int .u64 (g.dst : Int), .int .i64 4, .int .u64 (g.seq : Int), .int .i64 4, .int .u64 (g.ack : Int), .int .i64 1, .int .u64 (g.flags : Int)] rfl
  have hb6 := (Below.refl w5.heap.size w5).alloc (Nat.le_refl _) (.cells #[.int .i64 2, .int .u64 (g.src : Int), .int .i64 2, .int .u64 (g.dst : Int), .int .i64 4, .int .u64 (g.seq : Int), .int .i64 4, .int .u64 (g.ack : Int), .int .i64 1, .int .u64 (g.flags : Int)] 113)
  have hz6 : (w5.alloc (.cells #[.int .i64 2, .int .u64 (g.src : Int), .int .i64 2, .int .u64 (g.dst : Int), .int .i64 4, .int .u64 (g.seq : Int), .int .i64 4, .int .u64 (g.ack : Int), .int .i64 1, .int .u64 (g.flags : Int)] 113)).heap.size = w5.heap.size + 1 := by simp
  have HRD := Lib.hid hrd
  have HB6 := Lib.hid (B5.out.trans (hb6.mono (by rw [← HT.out]; exact s5)))
  have HZ6 := Lib.hid hz6
  clear hrd hb6 hz6
  refine o_sole (fun K hK => ?_)
  go_wp2_with fail
  generalize w5.alloc (.cells #[.int .i64 2, .int .u64 (g.src : Int), .int .i64 2, .int .u64 (g.dst : Int), .int .i64 4, .int .u64 (g.seq : Int), .int .i64 4, .int .u64 (g.ack : Int), .int .i64 1, .int .u64 (g.flags : Int)] 113) = w6 at *
  refine (pput_any none _ 0 5 0 5 [] _ w6 (Rd.nil _ _ _ _) (by have := HRD.out; rw [← HZ6.out] at this; exact this) (by omega) ?_).mono ?_
  · intro p hp
    have := HGB.out.src
    have := HGB.out.dst
    have := HGB.out.seq
    have := HGB.out.ack
    have := HGB.out.flags
    simp at hp
    rcases hp with rfl | rfl | rfl | rfl | rfl <;> dsimp only <;> omega
  rintro e w7 ⟨v7, rfl, hN, hb7⟩
  rw [fbs_hdr g HGB.out.flags] at hN
  have hT6 : T ≤ w6.heap.size := by have := HZ6.out; omega
  have HN := Lib.hid (hN.mono hT6)
  have HB7 := Lib.hid (HB6.out.trans (hb7.mono (by rw [← HT.out]; exact hT6)))
  go_wp2_with fail
  refine hK _ _ (fun _ => Ext.of hb7) ?_; clear hK K
  clear hN hb7
  (refine o_pure (v := ?_) (by rfl) (fun w' => ?_) ?_; rotate_left; (focus (go_simp; (try with_reducible rfl))); (try simp only [Act.put, List.setIfInBounds_toArray, List.set_cons_zero, List.set_cons_succ]))
  refine o_nil (hQ.out _ _ ?_); clear hQ QQ
  go_wp2
  go_ret
  refine ⟨_, rfl, ?_, HB7.out⟩
  rw [← HT.out]
  exact HN.out
set_option maxRecDepth 20000 in
set_option maxHeartbeats 2000000 in
theorem rheader_any (v : Value) (g : Sg) (w : World) (h : SegV w v g) (hg : g.bd) :
    Calls Try.prog 56 #[v] w fun e w' => ∃ v', e = .returned v' ∧ Nats w' 5 .u8 w.heap.size v' (hdrS g) ∧ Below w.heap.size w w' := by
  obtain ⟨A, n, c, D, m, d, l, rfl, hO, ho, hD, hmd, hdm⟩ := h
  have HSB := Lib.hid (SBox.mk' (d := d) hO ho hD)
  have HGB := Lib.hid hg
  clear hO hD ho hmd hdm hg
  obtain ⟨t0, t1, t2, t3, t4, _, _⟩ := seg_cells HSB.out.blk
  have hput := fun (k : Nat) (v : Value) (l : List Nat) (x B : Nat) (w : World) (K : Int) (hK : K = (k : Int)) h1 h2 h3 h4 h5 => (show Calls Try.prog 57 #[v, .int .u64 x, .int .i64 K] w fun e w' => ∃ v', e = .returned v' ∧ Nats w' 5 .u8 B v' (l ++ be x k) ∧ Below B w w' from by rw [hK]; exact rput_any k v l x B w h1 h2 h3 h4 h5)
  have HPUT := Lib.hid hput
  clear hput
  have wr1 : IntKind.u64.wrap (g.src : Int) = (g.src : Int) := by rw [IntKind.wrap_u64]; have := HGB.out.src; omega
  have wr2 : IntKind.u64.wrap (g.dst : Int) = (g.dst : Int) := by rw [IntKind.wrap_u64]; have := HGB.out.dst; omega
  have wr3 : IntKind.u64.wrap (g.seq : Int) = (g.seq : Int) := by rw [IntKind.wrap_u64]; have := HGB.out.seq; omega
  have wr4 : IntKind.u64.wrap (g.ack : Int) = (g.ack : Int) := by rw [IntKind.wrap_u64]; have := HGB.out.ack; omega
  unfold segCs at *
  go_enter Try.func56, Try.ntmps56
  go_wp2_with fail
  generalize w.alloc (.cells #[.int .u16 (g.src : Int), .int .u16 (g.dst : Int), .int .u32 (g.seq : Int), .int .u32 (g.ack : Int), .int .u8 (g.flags : Int), .slice A n c, .slice D m d] 30) = W at *
  obtain ⟨T, hT⟩ : ∃ T, T = w.heap.size := ⟨_, rfl⟩
  rw [← hT] at HSB t0 t1 t2 t3 t4 ⊢
  have HT := Lib.hid hT
  clear hT
  have hTW := HSB.out.blk.lt
  refine (HPUT.out 2 _ [] g.src (T + 1) W _ rfl (by omega) (Nats.nil _ _ _ _) hTW (by simp) (by have := HGB.out.src; omega)).mono ?_
  rintro e w1 ⟨v1, rfl, h1, hb1⟩
  have b1 := Lib.hid hb1
  have z1 : T + 1 ≤ w1.heap.size := Nat.le_trans hTW hb1.size
  have p1 := (hb1.cell (p := ⟨T, 1, none⟩) (Nat.lt_succ_self T)).trans t1
  have p2 := (hb1.cell (p := ⟨T, 2, none⟩) (Nat.lt_succ_self T)).trans t2
  have p3 := (hb1.cell (p := ⟨T, 3, none⟩) (Nat.lt_succ_self T)).trans t3
  have p4 := (hb1.cell (p := ⟨T, 4, none⟩) (Nat.lt_succ_self T)).trans t4
  have H1 := Lib.hid h1
  clear h1 hb1 t0 t1 t2 t3 t4
  go_wp2_with fail
  refine (HPUT.out 2 _ _ g.dst (T + 1) w1 _ rfl (by omega) H1.out z1 (by simp [be_len]) (by have := HGB.out.dst; omega)).mono ?_
  rintro e w2 ⟨v2, rfl, h2, hb2⟩
  have b2 := Lib.hid (b1.out.trans hb2)
  have z2 : T + 1 ≤ w2.heap.size := Nat.le_trans z1 hb2.size
  have t2 := (hb2.cell (p := ⟨T, 2, none⟩) (Nat.lt_succ_self T)).trans p2
  have t3 := (hb2.cell (p := ⟨T, 3, none⟩) (Nat.lt_succ_self T)).trans p3
  have t4 := (hb2.cell (p := ⟨T, 4, none⟩) (Nat.lt_succ_self T)).trans p4
  have H2 := Lib.hid h2
  clear h2 hb2 p1 p2 p3 p4 H1
  go_wp2_with fail
  refine (HPUT.out 4 _ _ g.seq (T + 1) w2 _ rfl (by omega) H2.out z2 (by simp [be_len]) (by have := HGB.out.seq; omega)).mono ?_
  rintro e w3 ⟨v3, rfl, h3, hb3⟩
  have b3 := Lib.hid (b2.out.trans hb3)
  have z3 : T + 1 ≤ w3.heap.size := Nat.le_trans z2 hb3.size
  have p3 := (hb3.cell (p := ⟨T, 3, none⟩) (Nat.lt_succ_self T)).trans t3
  have p4 := (hb3.cell (p := ⟨T, 4, none⟩) (Nat.lt_succ_self T)).trans t4
  have H3 := Lib.hid h3
  clear h3 hb3 t2 t3 t4 H2
  go_wp2_with fail
  refine (HPUT.out 4 _ _ g.ack (T + 1) w3 _ rfl (by omega) H3.out z3 (by simp [be_len]) (by have := HGB.out.ack; omega)).mono ?_
  rintro e w4 ⟨v4, rfl, h4, hb4⟩
  have b4 := Lib.hid (b3.out.trans hb4)
  have z4 : T + 1 ≤ w4.heap.size := Nat.le_trans z3 hb4.size
  have t4 := (hb4.cell (p := ⟨T, 4, none⟩) (Nat.lt_succ_self T)).trans p4
  have H4 := Lib.hid h4
  clear h4 hb4 p3 p4 H3
  go_wp2_with (at_builtin; go_must (refine app1n pel8 g.flags rfl _ _ rfl rfl H4.out rfl rfl ?_ z4 ?_))
  · simp only [List.length_append, be_len, List.length_nil]; exact room_ge (by omega)
  intro v5 w5 h5 _ hb5
  have h5' : Nats w5 5 .u8 (T + 1) v5 (hdrS g) := by simpa [hdrS] using h5
  have H5 := Lib.hid (h5'.mono (Nat.le_succ T))
  clear h5'
  have B5 := Lib.hid (HSB.out.bel.trans (((b4.out.trans hb5).mono (by rw [← HT.out]; exact Nat.le_succ T))))
  clear h5 hb5
  go_wp2
  go_ret
  refine ⟨_, rfl, ?_, B5.out⟩
  rw [← HT.out]
  exact H5.out
/-- What is asked of the size. -/
def greatS (g : Sg) : Bool := decide (120 < g.opts.length) || decide (2000 < g.data.length) || g.opts.any fun p => decide (400 < p.2.length)
theorem greatS_small {g : Sg} (h : greatS g = false) : g.small ∧ g.opts.length ≤ 120 ∧ g.data.length ≤ 2000 ∧ ∀ p ∈ g.opts, p.2.length ≤ 400 := by
  unfold greatS at h
  simp only [Bool.or_eq_false_iff, decide_eq_false_iff_not, List.any_eq_false, decide_eq_true_eq] at h
  obtain ⟨⟨h1, h2⟩, h3⟩ := h
  exact ⟨⟨by omega, fun p hp => by have := h3 p hp; omega, by omega⟩, by omega, by omega, fun p hp => by have := h3 p hp; omega⟩
theorem greatS_false {g : Sg} (h1 : g.opts.length ≤ 120) (h2 : g.data.length ≤ 2000) (h3 : ∀ p ∈ g.opts, p.2.length ≤ 400) : greatS g = false := by
  unfold greatS
  simp only [Bool.or_eq_false_iff, decide_eq_false_iff_not, List.any_eq_false, decide_eq_true_eq]
  exact ⟨⟨by omega, by omega⟩, fun p hp => by have := h3 p hp; omega⟩
set_option maxRecDepth 20000 in
set_option maxHeartbeats 2000000 in
theorem great_any (v : Value) (g : Sg) (w : World) (h : SegV w v g) :
    Calls Try.prog 9 #[v] w fun e w' => e = .returned (.bool (greatS g)) ∧ Below w.heap.size w w' := by
  obtain ⟨A, n, c, D, m, d, l, rfl, hO, ho, hD, hmd, hdm⟩ := h
  have HSB := Lib.hid (SBox.mk' (d := d) hO ho hD)
  have HSAY := Lib.hid ho
  clear hO hD ho hmd hdm
  obtain ⟨_, _, _, _, _, t5, t6⟩ := seg_cells HSB.out.blk
  have hol := HSB.out.olen
  have hdl := HSB.out.dlen
  have HOL := Lib.hid hol
  have HDL := Lib.hid hdl
  clear hol hdl
  have htrue : (120 < n ∨ 2000 < m) → greatS g = true := by
    intro h
    unfold greatS
    rw [HOL.out, HDL.out]
    rcases h with h | h <;> simp [h]
  have HTR := Lib.hid htrue
  clear htrue
  obtain ⟨r, hr⟩ : ∃ r, r = greatS g := ⟨_, rfl⟩
  rw [← hr] at HTR ⊢
  have HRR := Lib.hid hr
  clear hr
  unfold segCs at *
  go_enter Try.func9, Try.ntmps9
  by_cases c1 : 120 < n
  · have c1' : (120 : Int) < (n : Int) := by omega
    have hr := HTR.out (.inl c1)
    subst hr
    clear HTR
    go_wp2_with fail
    go_ret
    exact ⟨rfl, HSB.out.bel⟩
  · have c1' : ¬ (120 : Int) < (n : Int) := by omega
    have c1d : decide (120 < n) = false := decide_eq_false c1
    by_cases c2 : 2000 < m
    · have c2' : (2000 : Int) < (m : Int) := by omega
      have hr := HTR.out (.inr c2)
      subst hr
      clear HTR
      go_wp2_with fail
      go_ret
      exact ⟨rfl, HSB.out.bel⟩
    · have c2' : ¬ (2000 : Int) < (m : Int) := by omega
      have c2d : decide (2000 < m) = false := decide_eq_false c2
      clear HTR
      go_wp2_with fail
      generalize w.alloc (.cells #[.int .u16 (g.src : Int), .int .u16 (g.dst : Int), .int .u32 (g.seq : Int), .int .u32 (g.ack : Int), .int .u8 (g.flags : Int), .slice A n c, .slice D m d] 30) = W at *
      go_loopw [3] (fun iv wr => ∃ k : Nat, k ≤ n ∧ iv = .int .i64 k ∧ Hid (∀ p ∈ (osay l).take k, p.2.length ≤ 400) ∧ wr = W) (fun iv _ => n - (intOf iv).toNat)
      case atStart => exact ⟨0, Nat.zero_le _, rfl, Lib.hid (by simp), rfl⟩
      case round =>
        obtain ⟨k, hk, rfl, hbo, rfl⟩ := hrel
        by_cases hlt : k < n
        · have hlt' : (k : Int) < (n : Int) := by omega
          obtain ⟨b, off, kd, q, rfl, hbb, p0, p1, hp, hq, hql⟩ := HSB.out.os.at_ hlt
          have hp2 := osay_at hp
          obtain ⟨qA, qn, qc, ql⟩ := q
          dsimp only at *
          have HP2 := Lib.hid hp2
          clear hp hp2 hq
          by_cases c3 : 400 < qn
          · have c3' : (400 : Int) < (qn : Int) := by omega
            have hr : r = true := by
              rw [HRR.out]
              unfold greatS
              have : (g.opts.any fun p => decide (400 < p.2.length)) = true := List.any_eq_true.2 ⟨_, HSAY.out ▸ List.mem_of_getElem? HP2.out, by dsimp only; rw [hql.out]; simpa using c3⟩
              rw [this, Bool.or_true]
            subst hr
            go_wp2_with fail
            go_ret
            exact ⟨rfl, HSB.out.bel⟩
          · have c3' : ¬ (400 : Int) < (qn : Int) := by omega
            have HBO : Hid (∀ p ∈ (osay l).take (k + 1), p.2.length ≤ 400) := Lib.hid (by
              rw [nth_take (Lib.hid HP2.out)]
              intro p hp
              rcases List.mem_append.1 hp with hp | hp
              · exact hbo.out p hp
              · simp at hp; subst hp; dsimp only; rw [hql.out]; omega)
            go_wp2_with fail
            go_roundw
            case rel => exact ⟨k + 1, by omega, by go_num, HBO, trivial⟩
            case measure => simp [intOf]; omega
        · have hge : ¬ (k : Int) < (n : Int) := by omega
          have hr : r = false := by
            rw [HRR.out]
            have h1 := hbo.out
            rw [List.take_of_length_le (by unfold osay; rw [List.length_map, HSB.out.os.len]; omega), ← HSAY.out] at h1
            exact greatS_false (by rw [HOL.out]; omega) (by rw [HDL.out]; omega) h1
          subst hr
          go_wp2_with fail
          go_ret
          exact ⟨rfl, HSB.out.bel⟩
end Go.Proofs.Ytbiimgfocgbdaaa
