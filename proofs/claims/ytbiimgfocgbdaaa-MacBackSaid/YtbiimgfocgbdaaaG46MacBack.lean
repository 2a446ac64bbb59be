/- Layer 10: the document's sum, and a body with its sum. -/
import Derived.Test.YtbiimgfocgbdaaaG24MacBack
import Derived.Test.YtbiimgfocgbdaaaOrdB
import Derived.Test.YtbiimgfocgbdaaaG4MacBack

namespace Go.Proofs.Ytbiimgfocgbdaaa
open Go.RowKit
set_option linter.unusedVariables false
set_option linter.unusedSimpArgs false
set_option maxRecDepth 20000 in
set_option maxHeartbeats 4000000 in
theorem rtag_any (k0 k1 : Nat) (v : Value) (g : Sg) (A : Option Addr) (n c kd : Nat) (l : List Nat) (w : World) (h0 : k0 < 18446744073709551616) (h1 : k1 < 18446744073709551616) (h : CovV w v g A n c kd l) :
    Calls Try.prog 14 #[.agg #[.int .u64 (k0 : Nat), .int .u64 (k1 : Nat)], v, .int .u8 (kd : Nat), .slice A n c] w fun e w' => e = .returned (.int .u64 (tagN k0 k1 g kd l : Nat)) ∧ Below w.heap.size w w' := by
  have HC := Lib.hid h
  obtain ⟨A1, n1, c1, D, m, d, lo, rfl, hO, ho, hD, hmd, hdm⟩ := h.seg
  have hnc := h.cap
  have hn := h.len
  clear hO ho hD hdm h
  unfold segCs at *
  go_enter Try.func14, Try.ntmps14
  go_upto_region 1 with fail
  have hk0 : Hid (Blk (w.alloc (.cells #[.int .u64 (k0 : Nat), .int .u64 (k1 : Nat)] 24)) (w.heap.size) 24 #[.int .u64 (k0 : Nat), .int .u64 (k1 : Nat)]) := Lib.hid ((Blk.new w 24 #[.int .u64 (k0 : Nat), .int .u64 (k1 : Nat)]))
  replace hk0 : Hid (Blk ((w.alloc (.cells #[.int .u64 (k0 : Nat), .int .u64 (k1 : Nat)] 24)).alloc (.cells #[.int .u16 (g.src : Int), .int .u16 (g.dst : Int), .int .u32 (g.seq : Int), .int .u32 (g.ack : Int), .int .u8 (g.flags : Int), .slice A1 n1 c1, .slice D m d] 30)) (w.heap.size) 24 #[.int .u64 (k0 : Nat), .int .u64 (k1 : Nat)]) := Lib.hid (hk0.out.alloc _)
  have hk1 : Hid (Blk ((w.alloc (.cells #[.int .u64 (k0 : Nat), .int .u64 (k1 : Nat)] 24)).alloc (.cells #[.int .u16 (g.src : Int), .int .u16 (g.dst : Int), .int .u32 (g.seq : Int), .int .u32 (g.ack : Int), .int .u8 (g.flags : Int), .slice A1 n1 c1, .slice D m d] 30)) (w.heap.size + 1) 30 #[.int .u16 (g.src : Int), .int .u16 (g.dst : Int), .int .u32 (g.seq : Int), .int .u32 (g.ack : Int), .int .u8 (g.flags : Int), .slice A1 n1 c1, .slice D m d]) := Lib.hid ((Blk.new (w.alloc (.cells #[.int .u64 (k0 : Nat), .int .u64 (k1 : Nat)] 24)) 30 #[.int .u16 (g.src : Int), .int .u16 (g.dst : Int), .int .u32 (g.seq : Int), .int .u32 (g.ack : Int), .int .u8 (g.flags : Int), .slice A1 n1 c1, .slice D m d]) |> fun h => by simpa using h)
  have b1 : Hid (Below w.heap.size w ((w.alloc (.cells #[.int .u64 (k0 : Nat), .int .u64 (k1 : Nat)] 24)).alloc (.cells #[.int .u16 (g.src : Int), .int .u16 (g.dst : Int), .int .u32 (g.seq : Int), .int .u32 (g.ack : Int), .int .u8 (g.flags : Int), .slice A1 n1 c1, .slice D m d] 30))) := Lib.hid (((Below.refl w.heap.size w).alloc (Nat.le_refl _) (.cells #[.int .u64 (k0 : Nat), .int .u64 (k1 : Nat)] 24)).alloc (by simp <;> omega) (.cells #[.int .u16 (g.src : Int), .int .u16 (g.dst : Int), .int .u32 (g.seq : Int), .int .u32 (g.ack : Int), .int .u8 (g.flags : Int), .slice A1 n1 c1, .slice D m d] 30))
  have hz : ((w.alloc (.cells #[.int .u64 (k0 : Nat), .int .u64 (k1 : Nat)] 24)).alloc (.cells #[.int .u16 (g.src : Int), .int .u16 (g.dst : Int), .int .u32 (g.seq : Int), .int .u32 (g.ack : Int), .int .u8 (g.flags : Int), .slice A1 n1 c1, .slice D m d] 30)).heap.size = w.heap.size + 2 := by simp
  generalize ((w.alloc (.cells #[.int .u64 (k0 : Nat), .int .u64 (k1 : Nat)] 24)).alloc (.cells #[.int .u16 (g.src : Int), .int .u16 (g.dst : Int), .int .u32 (g.seq : Int), .int .u32 (g.ack : Int), .int .u8 (g.flags : Int), .slice A1 n1 c1, .slice D m d] 30)) = w2 at hk0 hk1 b1 hz ⊢
  have HZ := Lib.hid hz
  clear hz
  replace HC := Lib.hid (HC.out.into b1.out)
  refine GH.wp_ghl (M := false) 7 ((GH.SP.eq (.agg #[.int .u64 (k0 : Nat), .int .u64 (k1 : Nat)])) :: (GH.SP.eq (.agg #[.int .u16 (g.src : Int), .int .u16 (g.dst : Int), .int .u32 (g.seq : Int), .int .u32 (g.ack : Int), .int .u8 (g.flags : Int), .slice A1 n1 c1, .slice D m d])) :: (GH.SP.eq (.int .u8 (kd : Nat))) :: (GH.SP.eq (.slice A n c)) :: (GH.SP.ns .u8 (coverL g kd l)) :: (GH.SP.eq (.int .u64 (tagN k0 k1 g kd l : Nat))) :: (GH.SP.eq (.int .u64 (tagN k0 k1 g kd l : Nat))) :: []) (none :: none :: none :: none :: none :: none :: none :: none :: (some 6) :: (some 0) :: (some 1) :: (some 2) :: (some 3) :: (some 4) :: (some 5) :: []) [9, 10, 11, 12, 13, 14, 8] (by rfl) (by kernel_rfl) (by kernel_rfl) ?_ ?_ ?_
  · intro S jx v hjx
    match jx, hjx with
    | 0, _ => rfl
    | 1, _ => rfl
    | 2, _ => rfl
    | 3, _ => rfl
    | 4, _ => rfl
    | 5, _ => rfl
    | 6, _ => rfl
    | nx + 7, hjx => omega
  · intro jx hjx S w' hb hd
    match jx, hjx, hd with
    | 0, _, hd =>
      simp only [GH.mkL, List.getD_cons_succ, List.getD_cons_zero]
      clear hd
      exact GH.st_loads _ [.int .u64 (k0 : Nat), .int .u64 (k1 : Nat)] (by rfl) rfl rfl (((hk0.out.below hb.below hk0.out.lt)).loads 0 _ (by rfl)) (by kernel_rfl) (by kernel_rfl)
    | 1, _, hd =>
      simp only [GH.mkL, List.getD_cons_succ, List.getD_cons_zero]
      clear hd
      exact GH.st_loads _ [.int .u16 (g.src : Int), .int .u16 (g.dst : Int), .int .u32 (g.seq : Int), .int .u32 (g.ack : Int), .int .u8 (g.flags : Int), .slice A1 n1 c1, .slice D m d] (by rfl) rfl rfl (((hk1.out.below hb.below hk1.out.lt)).loads 0 _ (by rfl)) (by kernel_rfl) (by kernel_rfl)
    | 2, _, hd =>
      simp only [GH.mkL, List.getD_cons_succ, List.getD_cons_zero]
      clear hd
      refine GH.st_eq (by rfl) ?_
      go_simp
      (try with_reducible rfl)
    | 3, _, hd =>
      simp only [GH.mkL, List.getD_cons_succ, List.getD_cons_zero]
      clear hd
      refine GH.st_eq (by rfl) ?_
      go_simp
      (try with_reducible rfl)
    | 4, _, hd =>
      simp only [GH.mkL, List.getD_cons_succ, List.getD_cons_zero]
      have d1 : S 1 = .agg #[.int .u16 (g.src : Int), .int .u16 (g.dst : Int), .int .u32 (g.seq : Int), .int .u32 (g.ack : Int), .int .u8 (g.flags : Int), .slice A1 n1 c1, .slice D m d] := (hd 1 (by kernel_rfl)).2
      rw [d1]
      clear d1
      have d2 : S 2 = .int .u8 (kd : Nat) := (hd 2 (by kernel_rfl)).2
      rw [d2]
      clear d2
      have d3 : S 3 = .slice A n c := (hd 3 (by kernel_rfl)).2
      rw [d3]
      clear d3
      clear hd
      refine GH.st_call (by rfl) hb.below.size (by go_simp) ((rcover_any _ g A n c kd l w' (HC.out.gr hb)).mono ?_)
      rintro e w9 ⟨v, rfl, hN, hb9⟩
      exact ⟨_, rfl, hb9, GH.ns_of_own hN⟩
    | 5, _, hd =>
      simp only [GH.mkL, List.getD_cons_succ, List.getD_cons_zero]
      have d0 : S 0 = .agg #[.int .u64 (k0 : Nat), .int .u64 (k1 : Nat)] := (hd 0 (by kernel_rfl)).2
      rw [d0]
      clear d0
      obtain ⟨A4, n4, c4, d4, e4, l4, H4⟩ := (hd 4 (by kernel_rfl)).2
      rw [d4]
      clear d4
      replace H4 := Lib.hid H4
      replace l4 := Lib.hid l4
      clear hd
      refine GH.st_call (by rfl) hb.below.size (by go_simp) ((rsum_any k0 k1 n4 c4 A4 _ w' h0 h1 H4.out e4 (by have := l4.out; rw [coverL_len] at this; have := HC.out.row.natLen; have := HC.out.data; omega) (coverL_byte HC.out.bd HC.out.kind HC.out.bytes)).mono ?_)
      rintro e w9 ⟨rfl, hb9⟩
      exact ⟨_, rfl, hb9, rfl⟩
    | 6, _, hd =>
      simp only [GH.mkL, List.getD_cons_succ, List.getD_cons_zero]
      have d0 : S 0 = .agg #[.int .u64 (k0 : Nat), .int .u64 (k1 : Nat)] := (hd 0 (by kernel_rfl)).2
      rw [d0]
      clear d0
      have d1 : S 1 = .agg #[.int .u16 (g.src : Int), .int .u16 (g.dst : Int), .int .u32 (g.seq : Int), .int .u32 (g.ack : Int), .int .u8 (g.flags : Int), .slice A1 n1 c1, .slice D m d] := (hd 1 (by kernel_rfl)).2
      rw [d1]
      clear d1
      have d2 : S 2 = .int .u8 (kd : Nat) := (hd 2 (by kernel_rfl)).2
      rw [d2]
      clear d2
      have d3 : S 3 = .slice A n c := (hd 3 (by kernel_rfl)).2
      rw [d3]
      clear d3
      obtain ⟨A4, n4, c4, d4, e4, l4, H4⟩ := (hd 4 (by kernel_rfl)).2
      rw [d4]
      clear d4
      replace H4 := Lib.hid H4
      replace l4 := Lib.hid l4
      have d5 : S 5 = .int .u64 (tagN k0 k1 g kd l : Nat) := (hd 5 (by kernel_rfl)).2
      rw [d5]
      clear d5
      clear hd
      refine GH.st_eq (by rfl) ?_
      go_simp
      (try with_reducible rfl)
    | nx + 7, hjx, _ => omega
  intro S w' hb hG
  simp only [GH.mkL, List.drop_succ_cons, List.drop_zero]
  have d6 : S 6 = .int .u64 (tagN k0 k1 g kd l : Nat) := hG 6 (by omega)
  rw [d6]
  clear d6
  clear hG
  have BF := Lib.hid (b1.out.trans (hb.below.mono b1.out.size))
  clear hb
  refine wpList_nil ?_
  go_wp2_with fail
  go_ret
  exact ⟨rfl, BF.out⟩
set_option maxRecDepth 20000 in
set_option maxHeartbeats 4000000 in
theorem rsealed_any (k0 k1 : Nat) (v : Value) (g : Sg) (A : Option Addr) (n c kd : Nat) (l : List Nat) (w : World) (h0 : k0 < 18446744073709551616) (h1 : k1 < 18446744073709551616) (h : CovV w v g A n c kd l) (h8 : 8 ≤ n) (ht : tagN k0 k1 g kd l < 18446744073709551616) :
    Calls Try.prog 16 #[.agg #[.int .u64 (k0 : Nat), .int .u64 (k1 : Nat)], v, .int .u8 (kd : Nat), .slice A n c] w fun e w' => ∃ v', e = .returned v' ∧ Nats w' 5 .u8 w.heap.size v' (l.take (n - 8) ++ be (tagN k0 k1 g kd l) 8) ∧ Below w.heap.size w w' := by
  have HC := Lib.hid h
  obtain ⟨A1, n1, c1, D, m, d, lo, rfl, hO, ho, hD, hmd, hdm⟩ := h.seg
  have hnc := h.cap
  have hn := h.len
  clear hO ho hD hdm h
  unfold segCs at *
  obtain ⟨k, hk⟩ : ∃ k, k = n - 8 := ⟨_, rfl⟩
  have hw8 : IntKind.i64.wrap ((n : Int) - 8) = (k : Nat) := by rw [IntKind.wrap_i64]; omega
  have hkc : k ≤ c := by omega
  have hkn : k ≤ n := by omega
  rw [← hk]
  have hlk := Lib.hid (show (l.take k).length = k from by rw [List.length_take, HC.out.row.natLen]; omega)
  obtain ⟨tg, htg⟩ : ∃ tg, tg = tagN k0 k1 g kd l := ⟨_, rfl⟩
  rw [← htg] at ht ⊢
  have HTG := Lib.hid htg
  have H64 := Lib.hid ht
  clear hk htg ht
  go_enter Try.func16, Try.ntmps16
  go_upto_region 1 with fail
  have hk0 : Hid (Blk (w.alloc (.cells #[.int .u64 (k0 : Nat), .int .u64 (k1 : Nat)] 24)) (w.heap.size) 24 #[.int .u64 (k0 : Nat), .int .u64 (k1 : Nat)]) := Lib.hid ((Blk.new w 24 #[.int .u64 (k0 : Nat), .int .u64 (k1 : Nat)]))
  replace hk0 : Hid (Blk ((w.alloc (.cells #[.int .u64 (k0 : Nat), .int .u64 (k1 : Nat)] 24)).alloc (.cells #[.int .u16 (g.src : Int), .int .u16 (g.dst : Int), .int .u32 (g.seq : Int), .int .u32 (g.ack : Int), .int .u8 (g.flags : Int), .slice A1 n1 c1, .slice D m d] 30)) (w.heap.size) 24 #[.int .u64 (k0 : Nat), .int .u64 (k1 : Nat)]) := Lib.hid (hk0.out.alloc _)
  have hk1 : Hid (Blk ((w.alloc (.cells #[.int .u64 (k0 : Nat), .int .u64 (k1 : Nat)] 24)).alloc (.cells #[.int .u16 (g.src : Int), .int .u16 (g.dst : Int), .int .u32 (g.seq : Int), .int .u32 (g.ack : Int), .int .u8 (g.flags : Int), .slice A1 n1 c1, .slice D m d] 30)) (w.heap.size + 1) 30 #[.int .u16 (g.src : Int), .int .u16 (g.dst : Int), .int .u32 (g.seq : Int), .int .u32 (g.ack : Int), .int .u8 (g.flags : Int), .slice A1 n1 c1, .slice D m d]) := Lib.hid ((Blk.new (w.alloc (.cells #[.int .u64 (k0 : Nat), .int .u64 (k1 : Nat)] 24)) 30 #[.int .u16 (g.src : Int), .int .u16 (g.dst : Int), .int .u32 (g.seq : Int), .int .u32 (g.ack : Int), .int .u8 (g.flags : Int), .slice A1 n1 c1, .slice D m d]) |> fun h => by simpa using h)
  have b1 : Hid (Below w.heap.size w ((w.alloc (.cells #[.int .u64 (k0 : Nat), .int .u64 (k1 : Nat)] 24)).alloc (.cells #[.int .u16 (g.src : Int), .int .u16 (g.dst : Int), .int .u32 (g.seq : Int), .int .u32 (g.ack : Int), .int .u8 (g.flags : Int), .slice A1 n1 c1, .slice D m d] 30))) := Lib.hid (((Below.refl w.heap.size w).alloc (Nat.le_refl _) (.cells #[.int .u64 (k0 : Nat), .int .u64 (k1 : Nat)] 24)).alloc (by simp <;> omega) (.cells #[.int .u16 (g.src : Int), .int .u16 (g.dst : Int), .int .u32 (g.seq : Int), .int .u32 (g.ack : Int), .int .u8 (g.flags : Int), .slice A1 n1 c1, .slice D m d] 30))
  have hz : ((w.alloc (.cells #[.int .u64 (k0 : Nat), .int .u64 (k1 : Nat)] 24)).alloc (.cells #[.int .u16 (g.src : Int), .int .u16 (g.dst : Int), .int .u32 (g.seq : Int), .int .u32 (g.ack : Int), .int .u8 (g.flags : Int), .slice A1 n1 c1, .slice D m d] 30)).heap.size = w.heap.size + 2 := by simp
  generalize ((w.alloc (.cells #[.int .u64 (k0 : Nat), .int .u64 (k1 : Nat)] 24)).alloc (.cells #[.int .u16 (g.src : Int), .int .u16 (g.dst : Int), .int .u32 (g.seq : Int), .int .u32 (g.ack : Int), .int .u8 (g.flags : Int), .slice A1 n1 c1, .slice D m d] 30)) = w2 at hk0 hk1 b1 hz ⊢
  have HZ := Lib.hid hz
  clear hz
  replace HC := Lib.hid (HC.out.into b1.out)
  have hcut : ∀ w', (Instr.slice 28 (.slice A n c) none (some (.int .i64 (k : Int))) none).run Try.prog w' = .ok (.slice A k c) w' := fun w' => run_cut_h cctEl A n c k hkc w'
  have hput := fun (v : Value) (l : List Nat) (x B : Nat) (w : World) h2 h3 h4 h5 => (show Calls Try.prog 57 #[v, .int .u64 x, .int .i64 8] w fun e w' => ∃ v', e = .returned v' ∧ Nats w' 5 .u8 B v' (l ++ be x 8) ∧ Below B w w' from rput_any 8 v l x B w (by omega) h2 h3 h4 h5)
  have HPUT := Lib.hid hput
  clear hput
  refine OB.wp_ord [(1, .pure), (2, .pure), (3, .pure), (4, .pure), (5, .pure), (7, .read), (8, .read), (9, .pure), (10, .pure), (0, .sole), (6, .sole), (11, .sole), (12, .sole), (13, .pure)] ⟨fun k => k < w.heap.size + 2, []⟩ (by kernel_rfl) (by kernel_rfl) (fun QQ hQ wd hwd => ?_); (try simp only [List.map_cons, List.map_nil, List.getD_cons_zero, List.getD_cons_succ])
  have K0 := Lib.hid (show Blk wd w.heap.size _ _ from by rw [hwd.out]; exact hk0.out.drew)
  have K1 := Lib.hid (show Blk wd (w.heap.size + 1) _ _ from by rw [hwd.out]; exact hk1.out.drew)
  have B1 := Lib.hid (show Below w.heap.size w wd from by rw [hwd.out]; exact b1.out.drew)
  have HZ2 := Lib.hid (show wd.heap.size = w.heap.size + 2 from by rw [hwd.out]; exact HZ.out)
  have HCD : Hid (CovV wd _ g A n c kd l) := Lib.hid (by rw [hwd.out]; exact HC.out.into ((Below.refl _ _).drew))
  clear hwd hk0 hk1 b1 HZ HC
  (refine OB.o_pure (v := ?_) (by rfl) (fun w' => ?_) ?_; rotate_left; (focus (go_simp; (try with_reducible rfl))); (try simp only [Act.put, List.setIfInBounds_toArray, List.set_cons_zero, List.set_cons_succ]))
  (refine OB.o_pure (v := ?_) (by rfl) (fun w' => ?_) ?_; rotate_left; (focus (go_simp; (try with_reducible rfl))); (try simp only [Act.put, List.setIfInBounds_toArray, List.set_cons_zero, List.set_cons_succ]))
  (refine OB.o_pure (v := ?_) (by rfl) (fun w' => ?_) ?_; rotate_left; (focus (go_simp; (try with_reducible rfl))); (try simp only [Act.put, List.setIfInBounds_toArray, List.set_cons_zero, List.set_cons_succ]))
  (refine OB.o_pure (v := ?_) (by rfl) (fun w' => ?_) ?_; rotate_left; (focus (go_simp; (try with_reducible rfl))); (try simp only [Act.put, List.setIfInBounds_toArray, List.set_cons_zero, List.set_cons_succ]))
  (refine OB.o_pure (v := ?_) (by rfl) (fun w' => ?_) ?_; rotate_left; (focus (go_simp; (try with_reducible rfl))); (try simp only [Act.put, List.setIfInBounds_toArray, List.set_cons_zero, List.set_cons_succ]))
  (refine OB.o_loads _ [.int .u64 (k0 : Nat), .int .u64 (k1 : Nat)] (by rfl) rfl rfl (by dsimp only; first | assumption | omega) (K0.out.loads 0 _ (by rfl)) (Nat.succ_pos _) (by kernel_rfl) (by kernel_rfl) ?_; simp only [Act.put, List.setIfInBounds_toArray, List.set_cons_zero, List.set_cons_succ])
  (refine OB.o_loads _ [.int .u16 (g.src : Int), .int .u16 (g.dst : Int), .int .u32 (g.seq : Int), .int .u32 (g.ack : Int), .int .u8 (g.flags : Int), .slice A1 n1 c1, .slice D m d] (by rfl) rfl rfl (by dsimp only; first | assumption | omega) (K1.out.loads 0 _ (by rfl)) (Nat.succ_pos _) (by kernel_rfl) (by kernel_rfl) ?_; simp only [Act.put, List.setIfInBounds_toArray, List.set_cons_zero, List.set_cons_succ])
  (refine OB.o_pure (v := ?_) (by rfl) (fun w' => ?_) ?_; rotate_left; (focus (go_simp; (try with_reducible rfl))); (try simp only [Act.put, List.setIfInBounds_toArray, List.set_cons_zero, List.set_cons_succ]))
  (refine OB.o_pure (v := ?_) (by rfl) (fun w' => ?_) ?_; rotate_left; (focus (go_simp; (try with_reducible rfl))); (try simp only [Act.put, List.setIfInBounds_toArray, List.set_cons_zero, List.set_cons_succ]))
  clear hcut hw8
  refine OB.o_sole (fun K hK => ?_)
  go_wp2_with fail
  have bA := (Below.refl wd.heap.size wd).alloc (Nat.le_refl _) (.cells #[] 5)
  have NA := Lib.hid (Nats.lit0 (B := wd.heap.size) wd 5 .u8 (Nat.le_refl _))
  have KA := Lib.hid (HCD.out.into bA)
  have BA := Lib.hid bA
  refine hK _ _ (fun _ => OB.ExtB.of (bA.mono (by have := HZ2.out; omega))) ?_; clear hK K
  clear bA
  generalize wd.alloc (.cells #[] 5) = wa at *
  have RK := Lib.hid (KA.out.row.takeN hkn)
  refine OB.o_sole (fun K hK => ?_)
  refine appn cctEl rfl _ _ rfl rfl NA.out rfl RK.out (by rw [hlk.out]; exact room_ge (by simp; omega)) BA.out.size ?_
  intro v3 w3 hN3 _ hb3
  rw [List.nil_append] at hN3
  have HN3 := Lib.hid hN3
  have HB3 := Lib.hid (BA.out.trans hb3)
  have KC := Lib.hid (HCD.out.into HB3.out)
  have HK0 := Lib.hid (K0.out.below HB3.out K0.out.lt)
  go_wp2_with fail
  refine hK _ _ (fun _ => OB.ExtB.of (hb3.mono (by have := HZ2.out; omega))) ?_; clear hK K
  clear hN3 hb3 NA KA BA RK HCD
  refine OB.o_sole (fun K hK => ?_)
  go_wp2_with fail
  refine (rtag_any k0 k1 _ g A n c kd l w3 h0 h1 KC.out).mono ?_
  rw [← HTG.out]
  rintro e w4 ⟨rfl, hb4⟩
  have HN4 := Lib.hid (HN3.out.below hb4)
  have HB4 := Lib.hid (HB3.out.trans (hb4.mono HB3.out.size))
  go_wp2_with fail
  refine hK _ _ (fun _ => OB.ExtB.of (hb4.mono (by have := HZ2.out; have := HB3.out.size; omega))) ?_; clear hK K
  clear hb4 HN3 KC HK0
  refine OB.o_sole (fun K hK => ?_)
  go_wp2_with fail
  refine (HPUT.out v3 (l.take k) tg wd.heap.size w4 HN4.out HB4.out.size (by rw [hlk.out]; omega) H64.out).mono ?_
  rintro e w5 ⟨v5, rfl, hN5, hb5⟩
  have HN5 := Lib.hid hN5
  have HB5 := Lib.hid (HB4.out.trans hb5)
  go_wp2_with fail
  refine hK _ _ (fun _ => OB.ExtB.of (hb5.mono (by have := HZ2.out; omega))) ?_; clear hK K
  clear hN5 hb5
  (refine OB.o_pure (v := ?_) (by rfl) (fun w' => ?_) ?_; rotate_left; (focus (go_simp; (try with_reducible rfl))); (try simp only [Act.put, List.setIfInBounds_toArray, List.set_cons_zero, List.set_cons_succ]))
  refine OB.o_nil (hQ.out _ _ ?_); clear hQ QQ
  go_wp2_with fail
  go_ret
  exact ⟨_, rfl, HN5.out.mono (by have := HZ2.out; omega), B1.out.trans (HB5.out.mono (by have := HZ2.out; omega))⟩
end Go.Proofs.Ytbiimgfocgbdaaa
