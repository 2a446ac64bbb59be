/- The document of layer 20: Gone, Paths; rows compared. -/
import Derived.Test.YtdcpmfodkggpeaaAdr1
namespace Go.Proofs.Ytdcpmfodkggpeaa
open Go.RowKit
set_option linter.unusedVariables false
set_option linter.unusedSimpArgs false
set_option maxRecDepth 20000 in
set_option maxHeartbeats 4000000 in
theorem r20_goneA (most paths left : Nat) (A : Option Addr) (n c : Nat) (l : List (Int × Int)) (id : Int) (w : World) (h : RX w A n c l) (hl : n ≤ 8) (hpl : plI l id = -1) :
    Calls Try.prog 8 #[.agg #[.int .i64 (most : Nat), .int .i64 (paths : Nat), .slice A n c, .int .i64 64, .int .i64 1, .int .i64 (left : Nat)], .int .i64 id] w fun e w' => ∃ A' n' c', e = .returned (.tuple #[.agg #[.int .i64 (most : Nat), .int .i64 (paths : Nat), .slice A' n' c', .int .i64 64, .int .i64 1, .int .i64 (left : Nat)], .bool false]) ∧ RX w' A' n' c' (l) ∧ Below w.heap.size w w' := by
  have z1 : (w.alloc (.cells #[.int .i64 (most : Nat), .int .i64 (paths : Nat), .slice A n c, .int .i64 64, .int .i64 1, .int .i64 (left : Nat)] 33)).heap.size = w.heap.size + 1 := by simp
  have K2 := Lib.hid ((Blk.new w 33 #[.int .i64 (most : Nat), .int .i64 (paths : Nat), .slice A n c, .int .i64 64, .int .i64 1, .int .i64 (left : Nat)]).alloc (.cells #[.int .i64 0, .int .i64 0, .slice none 0 0, .int .i64 0, .int .i64 0, .int .i64 0] 33))
  have K4 := Lib.hid (Blk.new (w.alloc (.cells #[.int .i64 (most : Nat), .int .i64 (paths : Nat), .slice A n c, .int .i64 64, .int .i64 1, .int .i64 (left : Nat)] 33)) 33 #[.int .i64 0, .int .i64 0, .slice none 0 0, .int .i64 0, .int .i64 0, .int .i64 0])
  have B1 := Lib.hid (((Below.refl w.heap.size w).alloc (Nat.le_refl _) (.cells #[.int .i64 (most : Nat), .int .i64 (paths : Nat), .slice A n c, .int .i64 64, .int .i64 1, .int .i64 (left : Nat)] 33)).alloc (by simp) (.cells #[.int .i64 0, .int .i64 0, .slice none 0 0, .int .i64 0, .int .i64 0, .int .i64 0] 33))
  rw [z1] at K4
  have H1 := Lib.hid (h.into B1.out)
  have HN := Sh.mk h.len
  clear h
  go_enter Try.func8, Try.ntmps8
  go_upto_region 1 with fail
  generalize ((w.alloc (.cells #[.int .i64 (most : Nat), .int .i64 (paths : Nat), .slice A n c, .int .i64 64, .int .i64 1, .int .i64 (left : Nat)] 33)).alloc (.cells #[.int .i64 0, .int .i64 0, .slice none 0 0, .int .i64 0, .int .i64 0, .int .i64 0] 33)) = w1 at K2 K4 B1 H1 ⊢
  obtain ⟨X, hX⟩ : ∃ X, X = w.heap.size := ⟨_, rfl⟩
  have HX := Sh.mk hX
  rw [← hX] at K2 K4 ⊢
  clear hX z1
  have AT := Lib.hid (r20_at most paths left A n c l id w1 H1.out (by omega))
  rw [hpl] at AT
  obtain ⟨c0, c1, c2, c3, c4, c5⟩ : w1.cell? ⟨X, 0, none⟩ = some (.int .i64 (most : Nat)) ∧ w1.cell? ⟨X, 1, none⟩ = some (.int .i64 (paths : Nat)) ∧ w1.cell? ⟨X, 2, none⟩ = some (.slice A n c) ∧ w1.cell? ⟨X, 3, none⟩ = some (.int .i64 64) ∧ w1.cell? ⟨X, 4, none⟩ = some (.int .i64 1) ∧ w1.cell? ⟨X, 5, none⟩ = some (.int .i64 (left : Nat)) := ⟨(K2.out.cell 0).trans rfl, (K2.out.cell 1).trans rfl, (K2.out.cell 2).trans rfl, (K2.out.cell 3).trans rfl, (K2.out.cell 4).trans rfl, (K2.out.cell 5).trans rfl⟩
  go_wp2_with fail
  refine AT.out.mono ?_
  rintro e w2 ⟨rfl, hb⟩
  replace K2 := Lib.hid (K2.out.below hb K2.out.lt)
  replace K4 := Lib.hid (K4.out.below hb K4.out.lt)
  replace H1 := Lib.hid (H1.out.into hb)
  replace B1 := Lib.hid (B1.out.trans (hb.mono B1.out.size))
  clear hb AT c0 c1 c2 c3 c4 c5
  obtain ⟨c0, c1, c2, c3, c4, c5⟩ : w2.cell? ⟨X, 0, none⟩ = some (.int .i64 (most : Nat)) ∧ w2.cell? ⟨X, 1, none⟩ = some (.int .i64 (paths : Nat)) ∧ w2.cell? ⟨X, 2, none⟩ = some (.slice A n c) ∧ w2.cell? ⟨X, 3, none⟩ = some (.int .i64 64) ∧ w2.cell? ⟨X, 4, none⟩ = some (.int .i64 1) ∧ w2.cell? ⟨X, 5, none⟩ = some (.int .i64 (left : Nat)) := ⟨(K2.out.cell 0).trans rfl, (K2.out.cell 1).trans rfl, (K2.out.cell 2).trans rfl, (K2.out.cell 3).trans rfl, (K2.out.cell 4).trans rfl, (K2.out.cell 5).trans rfl⟩
  go_wp2_with (refine stm_store (cs' := #[.int .i64 (most : Nat), .int .i64 (paths : Nat), .slice A n c, .int .i64 64, .int .i64 1, .int .i64 (left : Nat)]) K4.out rfl _ _ rfl rfl rfl (by simp) (by kernel_rfl) (by simp [Value.oneCell']) (by simp [setL]) fun w9 hk hs => ?_)
  obtain ⟨q0, q1, q2, q3, q4, q5⟩ : w9.cell? ⟨X + 1, 0, none⟩ = some (.int .i64 (most : Nat)) ∧ w9.cell? ⟨X + 1, 1, none⟩ = some (.int .i64 (paths : Nat)) ∧ w9.cell? ⟨X + 1, 2, none⟩ = some (.slice A n c) ∧ w9.cell? ⟨X + 1, 3, none⟩ = some (.int .i64 64) ∧ w9.cell? ⟨X + 1, 4, none⟩ = some (.int .i64 1) ∧ w9.cell? ⟨X + 1, 5, none⟩ = some (.int .i64 (left : Nat)) := ⟨(hk.cell 0).trans rfl, (hk.cell 1).trans rfl, (hk.cell 2).trans rfl, (hk.cell 3).trans rfl, (hk.cell 4).trans rfl, (hk.cell 5).trans rfl⟩
  refine bodyPost_ret (v := .tuple #[.agg #[.int .i64 (most : Nat), .int .i64 (paths : Nat), .slice A n c, .int .i64 64, .int .i64 1, .int .i64 (left : Nat)], .bool false]) (by simp [results, Try.results8, go_sem, q0, q1, q2, q3, q4, q5]) rfl ?_
  exact ⟨_, _, _, rfl, H1.out.solo K4.out (by decide) hs, B1.out.trans (hs.1.mono (by have := HX.out; omega))⟩
set_option maxRecDepth 20000 in
set_option maxHeartbeats 4000000 in
theorem r20_goneB (most paths left : Nat) (A : Option Addr) (n c : Nat) (l : List (Int × Int)) (id : Int) (w : World) (h : RX w A n c l) (hl : n ≤ 8) (k : Nat) (hpl : plI l id = (k : Int)) (hk : k < n) :
    Calls Try.prog 8 #[.agg #[.int .i64 (most : Nat), .int .i64 (paths : Nat), .slice A n c, .int .i64 64, .int .i64 1, .int .i64 (left : Nat)], .int .i64 id] w fun e w' => ∃ A' n' c', e = .returned (.tuple #[.agg #[.int .i64 (most : Nat), .int .i64 (paths : Nat), .slice A' n' c', .int .i64 64, .int .i64 1, .int .i64 (left : Nat)], .bool true]) ∧ RX w' A' n' c' (l.eraseIdx k) ∧ Below w.heap.size w w' := by
  have z1 : (w.alloc (.cells #[.int .i64 (most : Nat), .int .i64 (paths : Nat), .slice A n c, .int .i64 64, .int .i64 1, .int .i64 (left : Nat)] 33)).heap.size = w.heap.size + 1 := by simp
  have K2 := Lib.hid ((Blk.new w 33 #[.int .i64 (most : Nat), .int .i64 (paths : Nat), .slice A n c, .int .i64 64, .int .i64 1, .int .i64 (left : Nat)]).alloc (.cells #[.int .i64 0, .int .i64 0, .slice none 0 0, .int .i64 0, .int .i64 0, .int .i64 0] 33))
  have K4 := Lib.hid (Blk.new (w.alloc (.cells #[.int .i64 (most : Nat), .int .i64 (paths : Nat), .slice A n c, .int .i64 64, .int .i64 1, .int .i64 (left : Nat)] 33)) 33 #[.int .i64 0, .int .i64 0, .slice none 0 0, .int .i64 0, .int .i64 0, .int .i64 0])
  have B1 := Lib.hid (((Below.refl w.heap.size w).alloc (Nat.le_refl _) (.cells #[.int .i64 (most : Nat), .int .i64 (paths : Nat), .slice A n c, .int .i64 64, .int .i64 1, .int .i64 (left : Nat)] 33)).alloc (by simp) (.cells #[.int .i64 0, .int .i64 0, .slice none 0 0, .int .i64 0, .int .i64 0, .int .i64 0] 33))
  rw [z1] at K4
  have H1 := Lib.hid (h.into B1.out)
  have HN := Sh.mk h.len
  clear h
  go_enter Try.func8, Try.ntmps8
  go_upto_region 1 with fail
  generalize ((w.alloc (.cells #[.int .i64 (most : Nat), .int .i64 (paths : Nat), .slice A n c, .int .i64 64, .int .i64 1, .int .i64 (left : Nat)] 33)).alloc (.cells #[.int .i64 0, .int .i64 0, .slice none 0 0, .int .i64 0, .int .i64 0, .int .i64 0] 33)) = w1 at K2 K4 B1 H1 ⊢
  obtain ⟨X, hX⟩ : ∃ X, X = w.heap.size := ⟨_, rfl⟩
  have HX := Sh.mk hX
  rw [← hX] at K2 K4 ⊢
  clear hX z1
  have AT := Lib.hid (r20_at most paths left A n c l id w1 H1.out (by omega))
  rw [hpl] at AT
  obtain ⟨c0, c1, c2, c3, c4, c5⟩ : w1.cell? ⟨X, 0, none⟩ = some (.int .i64 (most : Nat)) ∧ w1.cell? ⟨X, 1, none⟩ = some (.int .i64 (paths : Nat)) ∧ w1.cell? ⟨X, 2, none⟩ = some (.slice A n c) ∧ w1.cell? ⟨X, 3, none⟩ = some (.int .i64 64) ∧ w1.cell? ⟨X, 4, none⟩ = some (.int .i64 1) ∧ w1.cell? ⟨X, 5, none⟩ = some (.int .i64 (left : Nat)) := ⟨(K2.out.cell 0).trans rfl, (K2.out.cell 1).trans rfl, (K2.out.cell 2).trans rfl, (K2.out.cell 3).trans rfl, (K2.out.cell 4).trans rfl, (K2.out.cell 5).trans rfl⟩
  go_wp2_with fail
  refine AT.out.mono ?_
  rintro e w2 ⟨rfl, hb⟩
  replace K2 := Lib.hid (K2.out.below hb K2.out.lt)
  replace K4 := Lib.hid (K4.out.below hb K4.out.lt)
  replace H1 := Lib.hid (H1.out.into hb)
  replace B1 := Lib.hid (B1.out.trans (hb.mono B1.out.size))
  clear hb AT c0 c1 c2 c3 c4 c5
  have hk0 : ¬ (k : Int) < 0 := by omega
  obtain ⟨k1, hk1⟩ : ∃ k1, k1 = k + 1 := ⟨_, rfl⟩
  have ek : (k : Int) + 1 = (k1 : Int) := by omega
  have HK1 := Sh.mk hk1
  have hk1n : k1 ≤ n := by omega
  clear hk1
  have ew : IntKind.i64.wrap (k1 : Int) = (k1 : Int) := by rw [IntKind.wrap_i64]; omega
  have hs1 : ∀ w, (Instr.slice 29 (.slice A n c) none (some (.int .i64 (k : Int))) none).run Try.prog w = .ok (.slice A k c) w := fun w => run_cut_h raEl A n c k (by have := H1.out.nc; omega) w
  have hs2 : ∀ w, (Instr.slice 29 (.slice A n c) (some (.int .i64 (k1 : Int))) none none).run Try.prog w = .ok (.slice (cutA A c k1 2) (n - k1) (c - k1)) w := fun w => run_cut_l raEl A n c k1 (by omega) w
  go_upto_region 4 with fail
  refine wp_ord [(1, .pure), (2, .read), (3, .pure), (4, .pure), (6, .pure), (7, .read), (8, .pure), (9, .pure), (10, .pure), (0, .sole), (5, .sole), (11, .sole), (12, .pure), (13, .sole)] [11, 13] (by kernel_rfl) (by kernel_rfl) (fun QQ hQ wd hwd => ?_); simp only [List.map_cons, List.map_nil, List.getD_cons_zero, List.getD_cons_succ]
  have hD : Below w2.heap.size w2 wd := by rw [hwd.out]; exact (Below.refl _ _).drew
  replace K2 := Lib.hid (K2.out.below hD K2.out.lt)
  replace K4 := Lib.hid (K4.out.below hD K4.out.lt)
  replace H1 := Lib.hid (H1.out.into hD)
  replace B1 := Lib.hid (B1.out.trans (hD.mono B1.out.size))
  have c2 : wd.cell? ⟨X, 2, none⟩ = some (.slice A n c) := by rw [K2.out.cell]; rfl
  clear hD hwd
  (refine o_pure (v := ?_) (by rfl) (fun w' => ?_) ?_; rotate_left; (focus (go_simp; (try with_reducible rfl); (try (rw [if_pos (by omega)]; (try with_reducible rfl))))); (try simp only [Act.put, List.setIfInBounds_toArray, List.set_cons_zero, List.set_cons_succ]))
  (refine o_load _ (by rfl) rfl rfl (by assumption) (by kernel_rfl) ?_; simp only [Act.put, List.setIfInBounds_toArray, List.set_cons_zero, List.set_cons_succ])
  (refine o_pure (v := ?_) (by rfl) (fun w' => ?_) ?_; rotate_left; (focus (go_simp; (try with_reducible rfl); (try (rw [if_pos (by omega)]; (try with_reducible rfl))))); (try simp only [Act.put, List.setIfInBounds_toArray, List.set_cons_zero, List.set_cons_succ]))
  (refine o_pure (v := ?_) (by rfl) (fun w' => ?_) ?_; rotate_left; (focus (go_simp; (try with_reducible rfl); (try (rw [if_pos (by omega)]; (try with_reducible rfl))))); (try simp only [Act.put, List.setIfInBounds_toArray, List.set_cons_zero, List.set_cons_succ]))
  (refine o_pure (v := ?_) (by rfl) (fun w' => ?_) ?_; rotate_left; (focus (go_simp; (try with_reducible rfl); (try (rw [if_pos (by omega)]; (try with_reducible rfl))))); (try simp only [Act.put, List.setIfInBounds_toArray, List.set_cons_zero, List.set_cons_succ]))
  (refine o_load _ (by rfl) rfl rfl (by assumption) (by kernel_rfl) ?_; simp only [Act.put, List.setIfInBounds_toArray, List.set_cons_zero, List.set_cons_succ])
  (refine o_pure (v := ?_) (by rfl) (fun w' => ?_) ?_; rotate_left; (focus (go_simp; (try with_reducible rfl); (try (rw [if_pos (by omega)]; (try with_reducible rfl))))); (try simp only [Act.put, List.setIfInBounds_toArray, List.set_cons_zero, List.set_cons_succ]))
  (refine o_pure (v := ?_) (by rfl) (fun w' => ?_) ?_; rotate_left; (focus (go_simp; (try with_reducible rfl); (try (rw [if_pos (by omega)]; (try with_reducible rfl))))); (try simp only [Act.put, List.setIfInBounds_toArray, List.set_cons_zero, List.set_cons_succ]))
  (refine o_pure (v := ?_) (by rfl) (fun w' => ?_) ?_; rotate_left; (focus (go_simp; (try with_reducible rfl); (try (rw [if_pos (by omega)]; (try with_reducible rfl))))); (try simp only [Act.put, List.setIfInBounds_toArray, List.set_cons_zero, List.set_cons_succ]))
  have R1 := Lib.hid (show Rd wd wd.heap.size 2 A k (pz (l.take k)) by
    have := H1.out.rd.take (show k ≤ n by omega)
    rwa [show (pz l).take (k * 2) = pz (l.take k) from fm_take pzel_len l k] at this)
  have R2 := Lib.hid (show Rd wd wd.heap.size 2 (cutA A c k1 2) (n - k1) (pz (l.drop k1)) by
    have : Rd wd wd.heap.size 2 (cutA A c k1 2) (n - k1) ((pz l).drop (k1 * 2)) := H1.out.rd.drop (by omega) H1.out.nc
    rwa [show (pz l).drop (k1 * 2) = pz (l.drop k1) from fm_drop pzel_len l k1] at this)
  have T2 := Lib.hid (show ∀ a, cutA A c k1 2 = some a → 0 < n - k1 → ∃ cs, Blk wd a.block 45 cs from fun a ha hn => by
    unfold cutA at ha
    split at ha
    · exact H1.out.ty a ha (by omega)
    · rcases A with _ | a0
      · cases ha
      · injection ha with ha
        have := H1.out.ty a0 rfl (by omega)
        rw [← ha]
        unfold Addr.add
        split <;> exact this)
  generalize cutA A c k1 2 = A2 at *
  obtain ⟨n2, hn2⟩ : ∃ n2, n2 = n - k1 := ⟨_, rfl⟩
  obtain ⟨c9, hc9⟩ : ∃ c9, c9 = c - k1 := ⟨_, rfl⟩
  rw [← hn2] at R2 T2 ⊢
  rw [← hc9]
  have HNN := Sh.mk (show n2 = n - k1 ∧ k1 = k + 1 from ⟨hn2, HK1.out⟩)
  have n2b : n2 ≤ 8 := by omega
  have kb : k ≤ 8 := by omega
  clear hn2 hc9 hs1 hs2 c2 ek ew
  refine o_sole (fun K hK => ?_)
  go_wp2_with fail
  refine hK _ _ (fun _ => Ext.of ((Below.refl _ _).alloc (Nat.le_refl _) _)) ?_; clear hK K
  have BS := Lib.hid B1.out.size
  have hown : (wd.alloc (.cells #[] 45)).ownsRow w.heap.size 45 2 (.slice (some ⟨wd.heap.size, 0, none⟩) 0 0) 0 [] := World.ownsRow_made wd #[] 0 BS.out (Nat.zero_le _) (by simp)
  have hb := (Below.refl wd.heap.size wd).alloc (Nat.le_refl _) (.cells #[] 45)
  have HO := Lib.hid hown
  have R1' := Lib.hid ((R1.out.below hb).mono hb.size)
  have R2' := Lib.hid ((R2.out.below hb).mono hb.size)
  replace K2 := Lib.hid (K2.out.below hb K2.out.lt)
  replace K4 := Lib.hid (K4.out.below hb K4.out.lt)
  replace B1 := Lib.hid (B1.out.trans (hb.mono B1.out.size))
  clear hown hb BS H1 R1 R2 T2
  generalize hgz : wd.heap.size = gz at *
  clear hgz
  generalize wd.alloc (.cells #[] 45) = w3 at *
  have hroom : k * 16 ≤ room := room_ge (by omega)
  have hbw : w.heap.size ≤ w3.heap.size := B1.out.size
  refine o_sole (fun K hK => ?_)
  refine app0 raEl rfl _ _ rfl rfl HO.out rfl R1'.out (pz_one _) hroom hbw ?_
  intro v5 w5 ho5 hb5
  obtain ⟨A5, cc5, rfl, _, _, _⟩ := own_form ho5
  replace K2 := Lib.hid (K2.out.below hb5 K2.out.lt)
  replace K4 := Lib.hid (K4.out.below hb5 K4.out.lt)
  have R2'' := Lib.hid (R2'.out.below hb5)
  replace B1 := Lib.hid (B1.out.trans (hb5.mono B1.out.size))
  have HO5 := Lib.hid ho5
  have hbw5 : w.heap.size ≤ w5.heap.size := B1.out.size
  refine wpList_nil ?_
  refine hK _ _ (fun _ => Ext.of hb5) ?_; clear hK K
  clear ho5 hb5 R1' R2' HO hroom hbw
  have hroom : (k + n2) * 16 ≤ room := room_ge (by omega)
  refine o_sole (fun K hK => ?_)
  refine app raEl rfl _ _ rfl rfl HO5.out rfl R2''.out (pz_one _) hroom hbw5 ?_
  intro v7 w7 ho7 hg7 hb7
  obtain ⟨A7, cc7, rfl, _, _, _⟩ := own_form ho7
  replace K2 := Lib.hid (show Blk _ _ _ _ from (hg7.block _ K2.out.lt fun e => own_nt HO5.out K2.out (by decide) e.symm).trans K2.out)
  replace K4 := Lib.hid (show Blk _ _ _ _ from (hg7.block _ K4.out.lt fun e => own_nt HO5.out K4.out (by decide) e.symm).trans K4.out)
  replace B1 := Lib.hid (B1.out.trans hb7)
  have PO7 := Lib.hid (show Pzs w7 45 w.heap.size (.slice A7 (k + n2) cc7) (l.eraseIdx k) by
    unfold Pzs
    rw [show (l.eraseIdx k).length = k + n2 by rw [List.length_eraseIdx, if_pos (by rw [HN.out]; exact hk), HN.out]; have := HNN.out; omega, List.eraseIdx_eq_take_drop_succ, pz_append, ← HNN.out.2]
    exact ho7)
  clear ho7 hg7 hb7 HO5 hroom R2'' hbw5
  obtain ⟨n7, hn7⟩ : ∃ n7, n7 = k + n2 := ⟨_, rfl⟩
  rw [← hn7] at PO7 ⊢
  clear hn7
  refine wpList_nil ?_
  refine hK _ _ (fun h => by cases h) ?_; clear hK K
  (refine o_pure (v := ?_) (by rfl) (fun w' => ?_) ?_; rotate_left; (focus (go_simp; (try with_reducible rfl); (try (rw [if_pos (by omega)]; (try with_reducible rfl))))); (try simp only [Act.put, List.setIfInBounds_toArray, List.set_cons_zero, List.set_cons_succ]))
  have cz := K2.out.cell 2
  simp only [List.getElem?_toArray, List.getElem?_cons_zero, List.getElem?_cons_succ] at cz
  have fz := K2.out.frozen 2
  refine o_sole (fun K hK => ?_)
  go_wp2_with fail
  refine hK _ _ (fun h => by cases h) ?_; clear hK K
  have hs : Solo X w7 (w7.setCell ⟨X, 2, none⟩ (.slice A7 n7 cc7)) := Solo.refl.setCell 2 _
  replace PO7 := Lib.hid (show Pzs _ _ _ _ _ from own_kept PO7.out fun q hq => hs.2.2 q fun e => own_nt PO7.out K2.out (by decide) (by rw [hq, e]))
  replace K2 := Lib.hid (show Blk _ _ _ #[.int .i64 (most : Nat), .int .i64 (paths : Nat), .slice A7 n7 cc7, .int .i64 64, .int .i64 1, .int .i64 (left : Nat)] from K2.out.set 2 (.slice A7 n7 cc7))
  replace K4 := Lib.hid (hs.blk K4.out (by omega))
  replace B1 := Lib.hid (B1.out.trans (hs.1.mono (by have := HX.out; omega)))
  clear hs cz fz
  generalize w7.setCell ⟨X, 2, none⟩ (.slice A7 n7 cc7) = w8 at *
  have RX8 := Lib.hid (RX.own PO7.out)
  refine o_nil (hQ.out _ _ ?_); clear hQ QQ
  obtain ⟨c0, c1, c2, c3, c4, c5⟩ : w8.cell? ⟨X, 0, none⟩ = some (.int .i64 (most : Nat)) ∧ w8.cell? ⟨X, 1, none⟩ = some (.int .i64 (paths : Nat)) ∧ w8.cell? ⟨X, 2, none⟩ = some (.slice A7 n7 cc7) ∧ w8.cell? ⟨X, 3, none⟩ = some (.int .i64 64) ∧ w8.cell? ⟨X, 4, none⟩ = some (.int .i64 1) ∧ w8.cell? ⟨X, 5, none⟩ = some (.int .i64 (left : Nat)) := ⟨(K2.out.cell 0).trans rfl, (K2.out.cell 1).trans rfl, (K2.out.cell 2).trans rfl, (K2.out.cell 3).trans rfl, (K2.out.cell 4).trans rfl, (K2.out.cell 5).trans rfl⟩
  go_wp2_with (refine stm_store (cs' := #[.int .i64 (most : Nat), .int .i64 (paths : Nat), .slice A7 n7 cc7, .int .i64 64, .int .i64 1, .int .i64 (left : Nat)]) K4.out rfl _ _ rfl rfl rfl (by simp) (by kernel_rfl) (by simp [Value.oneCell']) (by simp [setL]) fun w9 hk hs => ?_)
  obtain ⟨q0, q1, q2, q3, q4, q5⟩ : w9.cell? ⟨X + 1, 0, none⟩ = some (.int .i64 (most : Nat)) ∧ w9.cell? ⟨X + 1, 1, none⟩ = some (.int .i64 (paths : Nat)) ∧ w9.cell? ⟨X + 1, 2, none⟩ = some (.slice A7 n7 cc7) ∧ w9.cell? ⟨X + 1, 3, none⟩ = some (.int .i64 64) ∧ w9.cell? ⟨X + 1, 4, none⟩ = some (.int .i64 1) ∧ w9.cell? ⟨X + 1, 5, none⟩ = some (.int .i64 (left : Nat)) := ⟨(hk.cell 0).trans rfl, (hk.cell 1).trans rfl, (hk.cell 2).trans rfl, (hk.cell 3).trans rfl, (hk.cell 4).trans rfl, (hk.cell 5).trans rfl⟩
  refine bodyPost_ret (v := .tuple #[.agg #[.int .i64 (most : Nat), .int .i64 (paths : Nat), .slice A7 n7 cc7, .int .i64 64, .int .i64 1, .int .i64 (left : Nat)], .bool true]) (by simp [results, Try.results8, go_sem, q0, q1, q2, q3, q4, q5]) rfl ?_
  exact ⟨_, _, _, rfl, RX8.out.solo K4.out (by decide) hs, B1.out.trans (hs.1.mono (by have := HX.out; omega))⟩
theorem r20_gone (most paths left : Nat) (A : Option Addr) (n c : Nat) (l : List (Int × Int)) (id : Int) (w : World) (h : RX w A n c l) (hl : n ≤ 8) :
    Calls Try.prog 8 #[.agg #[.int .i64 (most : Nat), .int .i64 (paths : Nat), .slice A n c, .int .i64 64, .int .i64 1, .int .i64 (left : Nat)], .int .i64 id] w fun e w' => ∃ A' n' c', e = .returned (.tuple #[.agg #[.int .i64 (most : Nat), .int .i64 (paths : Nat), .slice A' n' c', .int .i64 64, .int .i64 1, .int .i64 (left : Nat)], .bool (adGone l id).2]) ∧ RX w' A' n' c' ((adGone l id).1) ∧ Below w.heap.size w w' := by
  have hlen := h.len
  unfold adGone
  by_cases hk : atI l id < l.length
  · rw [if_pos hk]
    exact r20_goneB most paths left A n c l id w h hl (atI l id) (by unfold plI; rw [if_pos hk]) (by omega)
  · rw [if_neg hk]
    exact r20_goneA most paths left A n c l id w h hl (by unfold plI; rw [if_neg hk])
/-- The paths below p. -/
def pthT (l : List (Int × Int)) (p : Nat) : List Int := (([0, 1, 2, 3] : List Int).take p).filter fun q => l.any fun a => decide (a.2 = q)
theorem pthT_all (l : List (Int × Int)) : pthT l 4 = pthR l := rfl
theorem pthT_step (l : List (Int × Int)) {p : Nat} (hp : p < 4) (b : Bool) (hb : l.any (fun a => decide (a.2 = (p : Int))) = b) : pthT l (p + 1) = if b then pthT l p ++ [(p : Int)] else pthT l p := by
  have h4 : p = 0 ∨ p = 1 ∨ p = 2 ∨ p = 3 := by omega
  subst hb
  unfold pthT
  rcases h4 with rfl | rfl | rfl | rfl <;> simp only [List.take_succ_cons, List.take_zero, List.filter_cons, List.filter_nil] <;> (repeat' split) <;> simp_all
theorem pthT_len (l : List (Int × Int)) (p : Nat) : (pthT l p).length ≤ 4 := by
  unfold pthT
  refine Nat.le_trans (List.length_filter_le _ _) ?_
  rw [List.length_take]
  exact Nat.min_le_right _ _
set_option maxRecDepth 20000 in
set_option maxHeartbeats 4000000 in
theorem r20_paths (most paths left : Nat) (A : Option Addr) (n c : Nat) (l : List (Int × Int)) (w : World) (h : RX w A n c l) (hn : n ≤ 1000) : Calls Try.prog 19 #[.agg #[.int .i64 (most : Nat), .int .i64 (paths : Nat), .slice A n c, .int .i64 64, .int .i64 1, .int .i64 (left : Nat)]] w fun e w' => ∃ v, e = .returned v ∧ Zats w' 3 .i64 w.heap.size v (pthR l) ∧ Below w.heap.size w w' := by
  have K0 := Lib.hid (Blk.new w 33 #[.int .i64 (most : Nat), .int .i64 (paths : Nat), .slice A n c, .int .i64 64, .int .i64 1, .int .i64 (left : Nat)])
  have B0 := Lib.hid ((Below.refl w.heap.size w).alloc (Nat.le_refl _) (.cells #[.int .i64 (most : Nat), .int .i64 (paths : Nat), .slice A n c, .int .i64 64, .int .i64 1, .int .i64 (left : Nat)] 33))
  have HR := Lib.hid (h.rd.below B0.out)
  have HN := Sh.mk h.len
  clear h
  go_enter Try.func19, Try.ntmps19
  go_upto_region 1 with fail
  generalize w.alloc (.cells #[.int .i64 (most : Nat), .int .i64 (paths : Nat), .slice A n c, .int .i64 64, .int .i64 1, .int .i64 (left : Nat)] 33) = w1 at K0 B0 HR ⊢
  obtain ⟨X, hX⟩ : ∃ X, X = w.heap.size := ⟨_, rfl⟩
  have HX := Sh.mk hX
  rw [← hX] at K0 HR ⊢
  clear hX
  have BW1 := Lib.hid (show w.heap.size ≤ w1.heap.size from B0.out.size)
  have HO0 : Hid (Zats w1 3 .i64 w.heap.size (.slice none 0 0) (pthT l 0)) := Lib.hid (Zats.nil _ _ _ _)
  go_wp2_with fail
  go_loopw [3, 4] (fun ov pv wr => ∃ (p : Nat), p ≤ 4 ∧ pv = .int .i64 (p : Nat) ∧ Hid (Zats wr 3 .i64 w.heap.size ov (pthT l p)) ∧ Hid (Blk wr X 33 #[.int .i64 (most : Nat), .int .i64 (paths : Nat), .slice A n c, .int .i64 64, .int .i64 1, .int .i64 (left : Nat)]) ∧ Hid (Below w.heap.size w wr)) (fun _ pv _ => 4 - (intOf pv).toNat)
  case atStart => exact ⟨0, Nat.zero_le _, rfl, HO0, K0, B0⟩
  case round =>
    clear HO0 K0
    obtain ⟨p, hp, rfl, HO, K1, BB⟩ := hrel
    by_cases hp4 : p < 4
    · have hp4' : (p : Int) < 4 := by omega
      have ep : IntKind.i64.wrap ((p : Int) + 1) = (p : Int) + 1 := by rw [IntKind.wrap_i64]; omega
      generalize wr = wp at *
      go_wp2_with fail
      go_loopw [5, 6] (fun av iv wr => ∃ (i : Nat) (b : Bool), i ≤ n ∧ iv = .int .i64 (i : Nat) ∧ av = .bool b ∧ Sh (b = (l.take i).any (fun a => decide (a.2 = (p : Int)))) ∧ Hid (Below wp.heap.size wp wr)) (fun _ iv _ => n - (intOf iv).toNat)
      case atStart => exact ⟨0, false, Nat.zero_le _, rfl, rfl, ⟨by simp⟩, Lib.hid (Below.refl _ _)⟩
      case round =>
        obtain ⟨i, b, hi, rfl, rfl, HB, B2⟩ := hrel
        have K2 := Lib.hid (K1.out.below B2.out K1.out.lt)
        have c2 : wr.cell? ⟨X, 2, none⟩ = some (.slice A n c) := by rw [K2.out.cell]; rfl
        by_cases hin : i < n
        · have hin' : (i : Int) < (n : Int) := by omega
          have hi0 : (0 : Int) ≤ (i : Int) := by omega
          have ei : IntKind.i64.wrap ((i : Int) + 1) = (i : Int) + 1 := by rw [IntKind.wrap_i64]; omega
          obtain ⟨rb, off, x, y, rfl, hrb, hx, hy, HXX⟩ := HR.out.pz hin
          have BW := Lib.hid (BB.out.trans (B2.out.mono BB.out.size))
          have a1 := ((BW.out.cell (p := ⟨rb, off + i * 2 + 1, none⟩) (by rw [← HX.out]; exact hrb)).trans (B0.out.cell (p := ⟨rb, off + i * 2 + 1, none⟩) (by rw [← HX.out]; exact hrb)).symm).trans hy
          have AN := Lib.hid (show ∀ q, decide (y = (p : Int)) = q → (b || q) = (l.take (i + 1)).any (fun a => decide (a.2 = (p : Int))) from fun q hq => by rw [List.take_add_one, HXX.out, ← hq, HB.out]; simp)
          clear hx hy HB HXX BW K2
          cases b
          · by_cases hy2 : y = (p : Int)
            · have hy3 : (y == (p : Int)) = true := by simpa using hy2
              have HN2 := Sh.mk (show true = (l.take (i + 1)).any (fun a => decide (a.2 = (p : Int))) from AN.out true (decide_eq_true hy2))
              clear AN
              go_wp2_with fail
              go_roundw
              case rel => exact ⟨i + 1, true, by omega, by go_num, rfl, HN2, B2⟩
              case measure => simp [intOf]; omega
            · have hy3 : (y == (p : Int)) = false := by simpa using hy2
              have HN2 := Sh.mk (show false = (l.take (i + 1)).any (fun a => decide (a.2 = (p : Int))) from AN.out false (decide_eq_false hy2))
              clear AN
              go_wp2_with fail
              go_roundw
              case rel => exact ⟨i + 1, false, by omega, by go_num, rfl, HN2, B2⟩
              case measure => simp [intOf]; omega
          · have HN2 := Sh.mk (show true = (l.take (i + 1)).any (fun a => decide (a.2 = (p : Int))) from by have := AN.out _ rfl; simpa using this)
            clear AN
            go_wp2_with fail
            go_roundw
            case rel => exact ⟨i + 1, true, by omega, by go_num, rfl, HN2, B2⟩
            case measure => simp [intOf]; omega
        · have hin' : ¬ (i : Int) < (n : Int) := by omega
          have HA := Sh.mk (show l.any (fun a => decide (a.2 = (p : Int))) = b by
            have := HB.out
            rw [List.take_of_length_le (by rw [HN.out]; omega)] at this
            exact this.symm)
          have HS := Sh.mk (pthT_step l hp4 b HA.out)
          have O2 := Lib.hid (HO.out.below B2.out)
          have BW := Lib.hid (BB.out.trans (B2.out.mono BB.out.size))
          clear HB hin
          cases b
          · go_wp2_with fail
            go_roundw
            case rel => exact ⟨p + 1, by omega, by go_num, Lib.hid (by rw [HS.out]; exact O2.out), K2, BW⟩
            case measure => simp [intOf]; omega
          · have hroom : ((pthT l p).length + 1) * 8 ≤ room := room_ge (by have := pthT_len l p; omega)
            have hbw : w.heap.size ≤ wr.heap.size := BW.out.size
            go_wp2_with (at_builtin; go_must (refine app1z ad_intEl (p : Int) rfl _ _ rfl rfl O2.out rfl rfl hroom hbw ?_))
            intro v5 w5 ho5 hg5 hb5
            have O5 := Lib.hid (show Zats w5 3 .i64 w.heap.size v5 (pthT l (p + 1)) by rw [HS.out]; exact ho5)
            have K5 := Lib.hid (show Blk _ _ _ _ from (hg5.block _ K2.out.lt fun e => own_nt O2.out K2.out (by decide) e.symm).trans K2.out)
            have B5 := Lib.hid (BW.out.trans hb5)
            clear ho5 hg5 hb5 hroom hbw O2 K2 BW
            go_wp2_with fail
            go_roundw
            case rel => exact ⟨p + 1, by omega, by go_num, O5, K5, B5⟩
            case measure => simp [intOf]; omega
    · have hp4' : ¬ (p : Int) < 4 := by omega
      have hp5 : p = 4 := by omega
      have O2 := Lib.hid (show Zats wr 3 .i64 w.heap.size u3 (pthR l) by have := HO.out; rw [hp5, pthT_all] at this; exact this)
      clear hp5 HO hp4
      go_wp2_with fail
      refine bodyPost_ret (v := u3) (by kernel_rfl) rfl ?_
      exact ⟨_, rfl, O2.out, BB.out⟩
set_option maxRecDepth 20000 in
set_option maxHeartbeats 4000000 in
theorem row19_true (A C : Option Addr) (n c d : Nat) (l : List Int) (w : World) (h1 : Rd w w.heap.size 1 A n (zs .i64 l)) (h2 : Rd w w.heap.size 1 C n (zs .i64 l)) (hn : n ≤ 100000) :
    Calls Try.prog 17 #[.slice A n c, .slice C n d] w fun e w' => e = .returned (.bool true) ∧ Below w.heap.size w w' := by
  have H1 := Lib.hid h1
  have H2 := Lib.hid h2
  have hnn : ((n : Int) != (n : Int)) = false := by simp
  clear h1 h2
  go_enter Try.func17, Try.ntmps17
  go_wp2_with fail
  go_loopw [5] (fun iv wr => ∃ (k : Nat), k ≤ n ∧ iv = .int .i64 (k : Nat) ∧ Hid (Below w.heap.size w wr)) (fun iv _ => n - (intOf iv).toNat)
  case atStart => exact ⟨0, Nat.zero_le _, rfl, Lib.hid (Below.refl _ _)⟩
  case round =>
    obtain ⟨k, hk, rfl, BB⟩ := hrel
    by_cases hlt : k < n
    · have hlt' : (k : Int) < (n : Int) := by omega
      have hk0 : (0 : Int) ≤ (k : Int) := by omega
      have ek : IntKind.i64.wrap ((k : Int) + 1) = (k : Int) + 1 := by rw [IntKind.wrap_i64]; omega
      obtain ⟨b1, o1, x, rfl, hb1, hx, HX⟩ := H1.out.nthz hlt
      obtain ⟨b2, o2, y, rfl, hb2, hy, HY⟩ := H2.out.nthz hlt
      have e := HX.out.symm.trans HY.out
      injection e with e
      subst e
      have a1 := (BB.out.cell (p := ⟨b1, o1 + k, none⟩) hb1).trans hx
      have a2 := (BB.out.cell (p := ⟨b2, o2 + k, none⟩) hb2).trans hy
      have hxx : (x != x) = false := by simp
      clear hx hy HX HY
      go_wp2_with fail
      refine wp_ext (by kernel_rfl) (by kernel_rfl) (fun QQ hQ => ?_)
      iterate 9 (first | (refine x_load _ (by rfl) rfl rfl (by assumption) (by kernel_rfl) ?_; simp only [Act.put, List.setIfInBounds_toArray, List.set_cons_zero, List.set_cons_succ]) | (refine x_val (v := ?_) (by rfl) (fun w' hx => ?_) ?_; rotate_left; (focus (go_simp; (try with_reducible rfl))); (try simp only [Act.put, List.setIfInBounds_toArray, List.set_cons_zero, List.set_cons_succ])))
      refine x_nil (hQ.out _ ?_); clear hQ QQ
      intro w5 hb
      have B5 := Lib.hid (BB.out.trans (hb.mono BB.out.size))
      clear hb
      go_wp2_with fail
      go_roundw
      case rel => exact ⟨k + 1, by omega, by go_num, B5⟩
      case measure => simp [intOf]; omega
    · have hlt' : ¬ (k : Int) < (n : Int) := by omega
      go_wp2_with fail
      go_ret
      exact ⟨rfl, BB.out⟩
set_option maxRecDepth 20000 in
set_option maxHeartbeats 4000000 in
theorem same20_true (A C : Option Addr) (n c d : Nat) (l : List (Int × Int)) (w : World) (h1 : Rd w w.heap.size 2 A n (pz l)) (h2 : Rd w w.heap.size 2 C n (pz l)) (hn : n ≤ 100000) :
    Calls Try.prog 14 #[.slice A n c, .slice C n d] w fun e w' => e = .returned (.bool true) ∧ Below w.heap.size w w' := by
  have H1 := Lib.hid h1
  have H2 := Lib.hid h2
  have hnn : ((n : Int) != (n : Int)) = false := by simp
  clear h1 h2
  go_enter Try.func14, Try.ntmps14
  go_wp2_with fail
  go_loopw [5] (fun iv wr => ∃ (k : Nat), k ≤ n ∧ iv = .int .i64 (k : Nat) ∧ Hid (Below w.heap.size w wr)) (fun iv _ => n - (intOf iv).toNat)
  case atStart => exact ⟨0, Nat.zero_le _, rfl, Lib.hid (Below.refl _ _)⟩
  case round =>
    obtain ⟨k, hk, rfl, BB⟩ := hrel
    by_cases hlt : k < n
    · have hlt' : (k : Int) < (n : Int) := by omega
      have hk0 : (0 : Int) ≤ (k : Int) := by omega
      have ek : IntKind.i64.wrap ((k : Int) + 1) = (k : Int) + 1 := by rw [IntKind.wrap_i64]; omega
      obtain ⟨b1, o1, x, y, rfl, hb1, hx, hy, HX⟩ := H1.out.pz hlt
      obtain ⟨b2, o2, x2, y2, rfl, hb2, hx2, hy2, HY⟩ := H2.out.pz hlt
      have e := HX.out.symm.trans HY.out
      injection e with e
      injection e with e1 e2
      subst e1 e2
      have a1 := (BB.out.cell (p := ⟨b1, o1 + k * 2, none⟩) hb1).trans hx
      have a2 := (BB.out.cell (p := ⟨b1, o1 + k * 2 + 1, none⟩) hb1).trans hy
      have a3 := (BB.out.cell (p := ⟨b2, o2 + k * 2, none⟩) hb2).trans hx2
      have a4 := (BB.out.cell (p := ⟨b2, o2 + k * 2 + 1, none⟩) hb2).trans hy2
      have hxx : (x != x) = false := by simp
      have hyy : (y != y) = false := by simp
      clear hx hy hx2 hy2 HX HY
      go_wp2_with fail
      refine wp_ext (by kernel_rfl) (by kernel_rfl) (fun QQ hQ => ?_)
      iterate 24 (first | (refine x_skip (by rfl) ?_; simp only [Act.put, List.setIfInBounds_toArray, List.set_cons_zero, List.set_cons_succ]) | (first | (refine x_load _ (by rfl) rfl rfl (by assumption) (by kernel_rfl) ?_; simp only [Act.put, List.setIfInBounds_toArray, List.set_cons_zero, List.set_cons_succ]) | (refine x_val (v := ?_) (by rfl) (fun w' hx => ?_) ?_; rotate_left; (focus (go_simp; (try with_reducible rfl))); (try simp only [Act.put, List.setIfInBounds_toArray, List.set_cons_zero, List.set_cons_succ]))))
      refine x_nil (hQ.out _ ?_); clear hQ QQ
      intro w5 hb
      have B5 := Lib.hid (BB.out.trans (hb.mono BB.out.size))
      clear hb
      go_wp2_with fail
      go_roundw
      case rel => exact ⟨k + 1, by omega, by go_num, B5⟩
      case measure => simp [intOf]; omega
    · have hlt' : ¬ (k : Int) < (n : Int) := by omega
      go_wp2_with fail
      go_ret
      exact ⟨rfl, BB.out⟩
end Go.Proofs.Ytdcpmfodkggpeaa
