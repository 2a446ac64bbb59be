/- Layer 18: the document's inlet: New. -/
import Derived.Test.YtnngjbieoakanaaG41InletTwice
import Derived.Test.YtnngjbieoakanaaG42InletTwice
import Derived.Test.YtnngjbieoakanaaOrdF

namespace Go.Proofs.Ytnngjbieoakanaa
open Go.RowKit
set_option linter.unusedVariables false
set_option linter.unusedSimpArgs false
theorem blEl : El Try.prog 36 4 (.bool false) 1 1 := ⟨Try.underlying36, by kernel_rfl, rfl, by omega, by omega⟩
theorem byEl : El Try.prog 24 5 (.int .u8 0) 1 1 := ⟨Try.underlying24, by kernel_rfl, rfl, by omega, by omega⟩
theorem bls_rep (n : Nat) : List.replicate n (Value.bool false) = bls (List.replicate n false) := by simp [bls]
theorem ns_rep (n : Nat) : List.replicate n (Value.int .u8 0) = ns .u8 (List.replicate n 0) := by simp [ns]
/-- What New gives of the document. -/
def XN (w : World) (n most : Nat) (e : Ending) (w' : World) : Prop := ∃ v, e = .returned v ∧ XO w' w.heap.size n most 0 v ∧ Below w.heap.size w w'
set_option maxRecDepth 20000 in
set_option maxHeartbeats 4000000 in
theorem r18_new (n : Nat) (w : World) (hn : n ≤ 200) :
    Calls Try.prog 6 #[.int .i64 (n : Int), .int .i64 4] w (XN w n 4) := by
  go_enter Try.func6, Try.ntmps6
  go_upto_region 5 with fail
  have KR : Hid (Blk (w.alloc (.cells #[.int .u64 0, .slice none 0 0, .slice none 0 0, .int .i64 0, .int .u64 0, .bool false] 38)) (w.heap.size) 38 #[.int .u64 0, .slice none 0 0, .slice none 0 0, .int .i64 0, .int .u64 0, .bool false]) := Lib.hid ((Blk.new w 38 #[.int .u64 0, .slice none 0 0, .slice none 0 0, .int .i64 0, .int .u64 0, .bool false]))
  have b1 : Hid (Below w.heap.size w (w.alloc (.cells #[.int .u64 0, .slice none 0 0, .slice none 0 0, .int .i64 0, .int .u64 0, .bool false] 38))) := Lib.hid ((Below.refl w.heap.size w).alloc (Nat.le_refl _) (.cells #[.int .u64 0, .slice none 0 0, .slice none 0 0, .int .i64 0, .int .u64 0, .bool false] 38))
  have hz : (w.alloc (.cells #[.int .u64 0, .slice none 0 0, .slice none 0 0, .int .i64 0, .int .u64 0, .bool false] 38)).heap.size = w.heap.size + 1 := by simp
  generalize (w.alloc (.cells #[.int .u64 0, .slice none 0 0, .slice none 0 0, .int .i64 0, .int .u64 0, .bool false] 38)) = w2 at KR b1 hz ⊢
  have HZ := Lib.hid hz
  clear hz
  refine OB.wp_f ⟨fun _ => False, []⟩ (by kernel_rfl) (fun QQ hQ wd hwd => ?_)
  have hD : Below w2.heap.size w2 wd := by rw [hwd.out]; exact (Below.refl _ _).drew
  replace KR := Sh.mk (KR.out.below hD KR.out.lt)
  have BB := Sh.mk (b1.out.trans (hD.mono (by have := HZ.out; omega)))
  clear hD hwd b1
  refine OB.f_walk [(0, .pure), (2, .pure), (4, .pure)] 4 (by rfl) (by kernel_rfl) ?_; (try simp only [List.map_cons, List.map_nil, List.getD_cons_zero, List.getD_cons_succ])
  (refine OB.o_pure (v := ?_) (by rfl) (fun w' => ?_) ?_; rotate_left; (focus (go_simp; (try with_reducible rfl))); (try simp only [Act.put, List.setIfInBounds_toArray, List.set_cons_zero, List.set_cons_succ]))
  (refine OB.o_pure (v := ?_) (by rfl) (fun w' => ?_) ?_; rotate_left; (focus (go_simp; (try with_reducible rfl))); (try simp only [Act.put, List.setIfInBounds_toArray, List.set_cons_zero, List.set_cons_succ]))
  (refine OB.o_pure (v := ?_) (by rfl) (fun w' => ?_) ?_; rotate_left; (focus (go_simp; (try with_reducible rfl))); (try simp only [Act.put, List.setIfInBounds_toArray, List.set_cons_zero, List.set_cons_succ]))
  refine OB.o_nil ?_
  refine OB.f_fork 1 3 (by kernel_rfl) (by kernel_rfl) ?_ ?_
  · (try simp only [List.map_cons, List.map_nil, List.getD_cons_zero, List.getD_cons_succ])
    refine OB.o_sole (fun K hK => ?_)
    refine mkF blEl rfl rfl _ _ rfl n rfl rfl (by omega) (by omega) fun w3 ho hb => ?_
    refine wpList_nil ?_
    refine hK _ _ (fun _ => OB.ExtB.at_ hb (fun k hk => hk.elim)) ?_; clear hK K
    have O1 := Sh.mk ho
    obtain ⟨g1, hg1⟩ : ∃ x, x = wd.heap.size := ⟨_, rfl⟩
    replace KR := Sh.mk (KR.out.below hb KR.out.lt)
    have BB3 := Sh.mk (BB.out.trans (hb.mono BB.out.size))
    rw [← hg1] at O1 ⊢
    have G1 := Sh.mk (show w.heap.size ≤ g1 by rw [hg1]; exact BB.out.size)
    clear ho hb hg1 BB
    refine OB.o_nil ?_
    refine OB.f_walk [(3, .sole), (5, .pure), (6, .sole)] 0 (by rfl) (by kernel_rfl) ?_; (try simp only [List.map_cons, List.map_nil, List.getD_cons_zero, List.getD_cons_succ])
    refine OB.o_sole (fun K hK => ?_)
    refine mkF byEl rfl rfl _ _ rfl n rfl rfl (by omega) (by omega) fun w4 ho hb => ?_
    refine wpList_nil ?_
    refine hK _ _ (fun _ => OB.ExtB.at_ hb (fun k hk => hk.elim)) ?_; clear hK K
    have O2 := Sh.mk ho
    obtain ⟨g2, hg2⟩ : ∃ x, x = w3.heap.size := ⟨_, rfl⟩
    replace KR := Sh.mk (KR.out.below hb KR.out.lt)
    replace O1 := Sh.mk (own_below O1.out hb fun g hg => (O1.out.lt g hg).2)
    have BB4 := Sh.mk (BB3.out.trans (hb.mono BB3.out.size))
    rw [← hg2] at O2 ⊢
    have G2 := Sh.mk (show w.heap.size ≤ g2 by rw [hg2]; exact BB3.out.size)
    clear ho hb hg2 BB3
    (refine OB.o_pure (v := ?_) (by rfl) (fun w' => ?_) ?_; rotate_left; (focus (go_simp; (try with_reducible rfl))); (try simp only [Act.put, List.setIfInBounds_toArray, List.set_cons_zero, List.set_cons_succ]))
    refine OB.o_sole (fun K hK => ?_)
    refine stm_store (cs' := #[.int .u64 0, .slice (some ⟨g1, 0, none⟩) n n, .slice (some ⟨g2, 0, none⟩) n n, .int .i64 4, .int .u64 0, .bool false]) KR.out rfl _ _ rfl rfl rfl (by simp) (by kernel_rfl) (by simp [Value.oneCell']) (by simp [setL]) fun w5 hk hs => ?_
    refine wpList_nil ?_
    refine hK _ _ (fun _ => OB.ExtB.at_ hs.1 (fun k hk => hk.elim)) ?_; clear hK K
    refine OB.o_nil ?_
    refine OB.f_end (by kernel_rfl) (hQ.out _ _ ?_); clear hQ QQ
    have OBB := Sh.mk (own_kept O1.out fun k ho => hs.2.2 k (by rintro rfl; exact own_nt O1.out KR.out (by decide) ho))
    have OYY := Sh.mk (own_kept O2.out fun k ho => hs.2.2 k (by rintro rfl; exact own_nt O2.out KR.out (by decide) ho))
    have BE := Sh.mk (BB4.out.trans hs.1)
    clear hs
    go_wp2_with fail
    refine bodyPost_ret (results_agg Try.results6 hk (by rfl) (by kernel_rfl) (by kernel_rfl)) rfl ?_
    refine ⟨_, rfl, ⟨0, 0, false, some ⟨g1, 0, none⟩, some ⟨g2, 0, none⟩, n, n, rfl, Nat.le_refl _, List.replicate n false, List.replicate n 0, ?_, ?_, by simp⟩, BE.out⟩
    · have := own_mono OBB.out G1.out
      rwa [bls_rep] at this
    · have := own_mono OYY.out G2.out
      rw [ns_rep] at this
      unfold Nats
      rw [List.length_replicate]
      exact this

  · (try simp only [List.map_cons, List.map_nil, List.getD_cons_zero, List.getD_cons_succ])
    refine OB.o_sole (fun K hK => ?_)
    refine mkF byEl rfl rfl _ _ rfl n rfl rfl (by omega) (by omega) fun w3 ho hb => ?_
    refine wpList_nil ?_
    refine hK _ _ (fun _ => OB.ExtB.at_ hb (fun k hk => hk.elim)) ?_; clear hK K
    have O1 := Sh.mk ho
    obtain ⟨g1, hg1⟩ : ∃ x, x = wd.heap.size := ⟨_, rfl⟩
    replace KR := Sh.mk (KR.out.below hb KR.out.lt)
    have BB3 := Sh.mk (BB.out.trans (hb.mono BB.out.size))
    rw [← hg1] at O1 ⊢
    have G1 := Sh.mk (show w.heap.size ≤ g1 by rw [hg1]; exact BB.out.size)
    clear ho hb hg1 BB
    refine OB.o_nil ?_
    refine OB.f_walk [(1, .sole), (5, .pure), (6, .sole)] 0 (by rfl) (by kernel_rfl) ?_; (try simp only [List.map_cons, List.map_nil, List.getD_cons_zero, List.getD_cons_succ])
    refine OB.o_sole (fun K hK => ?_)
    refine mkF blEl rfl rfl _ _ rfl n rfl rfl (by omega) (by omega) fun w4 ho hb => ?_
    refine wpList_nil ?_
    refine hK _ _ (fun _ => OB.ExtB.at_ hb (fun k hk => hk.elim)) ?_; clear hK K
    have O2 := Sh.mk ho
    obtain ⟨g2, hg2⟩ : ∃ x, x = w3.heap.size := ⟨_, rfl⟩
    replace KR := Sh.mk (KR.out.below hb KR.out.lt)
    replace O1 := Sh.mk (own_below O1.out hb fun g hg => (O1.out.lt g hg).2)
    have BB4 := Sh.mk (BB3.out.trans (hb.mono BB3.out.size))
    rw [← hg2] at O2 ⊢
    have G2 := Sh.mk (show w.heap.size ≤ g2 by rw [hg2]; exact BB3.out.size)
    clear ho hb hg2 BB3
    (refine OB.o_pure (v := ?_) (by rfl) (fun w' => ?_) ?_; rotate_left; (focus (go_simp; (try with_reducible rfl))); (try simp only [Act.put, List.setIfInBounds_toArray, List.set_cons_zero, List.set_cons_succ]))
    refine OB.o_sole (fun K hK => ?_)
    refine stm_store (cs' := #[.int .u64 0, .slice (some ⟨g2, 0, none⟩) n n, .slice (some ⟨g1, 0, none⟩) n n, .int .i64 4, .int .u64 0, .bool false]) KR.out rfl _ _ rfl rfl rfl (by simp) (by kernel_rfl) (by simp [Value.oneCell']) (by simp [setL]) fun w5 hk hs => ?_
    refine wpList_nil ?_
    refine hK _ _ (fun _ => OB.ExtB.at_ hs.1 (fun k hk => hk.elim)) ?_; clear hK K
    refine OB.o_nil ?_
    refine OB.f_end (by kernel_rfl) (hQ.out _ _ ?_); clear hQ QQ
    have OBB := Sh.mk (own_kept O2.out fun k ho => hs.2.2 k (by rintro rfl; exact own_nt O2.out KR.out (by decide) ho))
    have OYY := Sh.mk (own_kept O1.out fun k ho => hs.2.2 k (by rintro rfl; exact own_nt O1.out KR.out (by decide) ho))
    have BE := Sh.mk (BB4.out.trans hs.1)
    clear hs
    go_wp2_with fail
    refine bodyPost_ret (results_agg Try.results6 hk (by rfl) (by kernel_rfl) (by kernel_rfl)) rfl ?_
    refine ⟨_, rfl, ⟨0, 0, false, some ⟨g2, 0, none⟩, some ⟨g1, 0, none⟩, n, n, rfl, Nat.le_refl _, List.replicate n false, List.replicate n 0, ?_, ?_, by simp⟩, BE.out⟩
    · have := own_mono OBB.out G2.out
      rwa [bls_rep] at this
    · have := own_mono OYY.out G1.out
      rw [ns_rep] at this
      unfold Nats
      rw [List.length_replicate]
      exact this

end Go.Proofs.Ytnngjbieoakanaa
