/- Package flight: Word, Late, Gone, First, Again. -/
import Derived.Test.YtbipcnboammpeaaFl4
import Derived.Shelf.Abstract
namespace Go.Proofs.Ytbipcnboammpeaa
open Go.RowKit
set_option linter.unusedVariables false
set_option linter.unusedSimpArgs false
set_option maxRecDepth 20000 in
set_option maxHeartbeats 4000000 in
theorem fl_gone (B g most : Nat) (l : List Chk) (flow : Int) (w : World) (h : FL w B g most l) (hl : l.length ≤ 64) :
    Calls Try.prog 22 #[.pointer (some ⟨g, 0, none⟩), .int .i64 flow] w fun e w' => ∃ v, e = .returned v ∧ FL w' B g most (mkA (fGone flow) wasLost l) ∧ w'.ownsRow w.heap.size 30 9 v (mkO (fGone flow) wasLost l).length (chs (mkO (fGone flow) wasLost l)) ∧ Kp B g w w' := by
  have TU := Lib.hid (fl_turn B g most l flow 35 36 #[] (fun _ => true) 8 wasLost w (by omega) (fun c => rfl) (fun c => ⟨_, rfl⟩) (enters_of Try.func35 (by kernel_rfl) rfl) (enters_of Try.func36 (by kernel_rfl) rfl) (fun w' c _ _ => p_gone c w') (fun rb o b w' => flset8 rb o b w') h hl)
  clear h hl
  go_enter Try.func22, Try.ntmps22
  go_wp2_with fail
  refine TU.out.mono ?_
  rintro e w9 ⟨v, rfl, hf, ho, hk⟩
  go_wp2_with fail
  go_ret
  exact ⟨v, rfl, hf, ho, hk⟩
set_option maxRecDepth 20000 in
set_option maxHeartbeats 4000000 in
theorem fl_word (B g most : Nat) (l : List Chk) (flow ack : Int) (w : World) (h : FL w B g most l) (hl : l.length ≤ 64) :
    Calls Try.prog 26 #[.pointer (some ⟨g, 0, none⟩), .int .i64 flow, .int .u32 ack] w fun e w' => ∃ v, e = .returned v ∧ FL w' B g most (mkA (fWord flow ack) wasCame l) ∧ w'.ownsRow w.heap.size 30 9 v (mkO (fWord flow ack) wasCame l).length (chs (mkO (fWord flow ack) wasCame l)) ∧ Kp B g w w' := by
  have hmf : ∀ (fn : Fn) (first cap : Array Value) (w : World), (Instr.makeFunc fn first cap).run Try.prog w = .ok (.func fn first cap) w := fun _ _ _ _ => rfl
  have K1 := Blk.new w 28 #[.int .u32 ack]
  have hb1 := (Below.refl w.heap.size w).alloc (Nat.le_refl _) (.cells #[.int .u32 ack] 28)
  have TU := Lib.hid (fl_turn B g most l flow 38 40 #[.pointer (some ⟨w.heap.size, 0, none⟩)] (fun c => decide (0 < c.len) && !c.came && decide (0 ≤ sd ack c.en)) 7 wasCame (w.alloc (.cells #[.int .u32 ack] 28)) (by omega) (fun c => rfl) (fun c => ⟨_, rfl⟩) (enters_of Try.func38 (by kernel_rfl) rfl) (enters_of Try.func40 (by kernel_rfl) rfl) (fun w' c hk _ => p_word c ack w.heap.size w' (hk.blk K1 (Nat.ne_of_gt h.lt) (by decide))) (fun rb o b w' => flset7 rb o b w') (h.into hb1) hl)
  have HB1 := Lib.hid hb1
  clear h hl K1 hb1
  go_enter Try.func26, Try.ntmps26
  go_wp2_with fail
  refine TU.out.mono ?_
  rintro e w9 ⟨v, rfl, hf, ho, hk⟩
  go_wp2_with fail
  go_ret
  exact ⟨v, rfl, hf, own_mono ho HB1.out.size, (Kp.of (B := B) (g := g) HB1.out).trans hk⟩
set_option maxRecDepth 20000 in
set_option maxHeartbeats 4000000 in
theorem fl_late (B g most : Nat) (l : List Chk) (flow now wait : Int) (w : World) (h : FL w B g most l) (hl : l.length ≤ 64) (hok : ∀ c ∈ l, c.ok) (hnow : 0 ≤ now ∧ now < 2147483648) :
    Calls Try.prog 27 #[.pointer (some ⟨g, 0, none⟩), .int .i64 flow, .int .i64 now, .int .i64 wait] w fun e w' => ∃ v, e = .returned v ∧ FL w' B g most (mkA (fLate flow now wait) wasLost l) ∧ w'.ownsRow w.heap.size 30 9 v (mkO (fLate flow now wait) wasLost l).length (chs (mkO (fLate flow now wait) wasLost l)) ∧ Kp B g w w' := by
  have hmf : ∀ (fn : Fn) (first cap : Array Value) (w : World), (Instr.makeFunc fn first cap).run Try.prog w = .ok (.func fn first cap) w := fun _ _ _ _ => rfl
  have K1 := (Blk.new w 3 #[.int .i64 now]).alloc (.cells #[.int .i64 wait] 3)
  have K2 := Blk.new (w.alloc (.cells #[.int .i64 now] 3)) 3 #[.int .i64 wait]
  have hb1 := ((Below.refl w.heap.size w).alloc (Nat.le_refl _) (.cells #[.int .i64 now] 3)).alloc (by simp) (.cells #[.int .i64 wait] 3)
  have hz : (w.alloc (.cells #[.int .i64 now] 3)).heap.size = w.heap.size + 1 := by simp
  rw [hz] at K2
  have TU := Lib.hid (fl_turn B g most l flow 41 36 #[.pointer (some ⟨w.heap.size, 0, none⟩), .pointer (some ⟨w.heap.size + 1, 0, none⟩)] (fun c => !c.came && decide (wait ≤ now - c.sent)) 8 wasLost _ (by omega) (fun c => rfl) (fun c => ⟨_, rfl⟩) (enters_of Try.func41 (by kernel_rfl) rfl) (enters_of Try.func36 (by kernel_rfl) rfl) (fun w' c hk hc => p_late c now wait w.heap.size (w.heap.size + 1) (hok c hc).sent hnow w' (hk.blk K1 (Nat.ne_of_gt h.lt) (by decide)) (hk.blk K2 (by have := h.lt; omega) (by decide))) (fun rb o b w' => flset8 rb o b w') (h.into hb1) hl)
  have HB1 := Lib.hid hb1
  clear h hl K1 K2 hb1 hz hok hnow
  go_enter Try.func27, Try.ntmps27
  go_wp2_with fail
  refine TU.out.mono ?_
  rintro e w9 ⟨v, rfl, hf, ho, hk⟩
  go_wp2_with fail
  go_ret
  exact ⟨v, rfl, hf, own_mono ho HB1.out.size, (Kp.of (B := B) (g := g) HB1.out).trans hk⟩
set_option maxRecDepth 20000 in
set_option maxHeartbeats 4000000 in
theorem fl_again (B g most : Nat) (l : List Chk) (w : World) (h : FL w B g most l) (hl : l.length ≤ 64) :
    Calls Try.prog 9 #[.pointer (some ⟨g, 0, none⟩)] w fun e w' => e = .returned (fndV (fndC (fun c => c.lost) l)) ∧ Below w.heap.size w w' := by
  have KR := Lib.hid (Blk.new w 30 #[.int .u64 0, .int .i64 0, .bool false, .int .i64 0, .int .u32 0, .int .i64 0, .int .i64 0, .bool false, .bool false])
  have hb1 := (Below.refl w.heap.size w).alloc (Nat.le_refl _) (.cells #[.int .u64 0, .int .i64 0, .bool false, .int .i64 0, .int .u32 0, .int .i64 0, .int .i64 0, .bool false, .bool false] 30)
  have FI := Lib.hid (fl_find B g most l 31 #[] (fun c => c.lost) _ (enters_of Try.func31 (by kernel_rfl) rfl) (fun w' c _ _ => p_again c w') (h.into hb1) hl)
  obtain ⟨o, ho⟩ : ∃ o, o = fndC (fun c => c.lost) l := ⟨_, rfl⟩
  rw [← ho] at FI ⊢
  unfold fndV at FI ⊢
  obtain ⟨c, hc⟩ : ∃ c, c = o.getD nilC := ⟨_, rfl⟩
  obtain ⟨b, hbo⟩ : ∃ b, b = o.isSome := ⟨_, rfl⟩
  rw [← hc, ← hbo, chk_agg] at FI ⊢
  have HB1 := Lib.hid hb1
  clear h hl hb1 ho hc hbo
  go_enter Try.func9, Try.ntmps9
  go_wp2_with fail
  refine FI.out.mono ?_
  rintro e w2 ⟨rfl, hb2⟩
  have HB2 := Lib.hid (HB1.out.trans (hb2.mono HB1.out.size))
  have KR2 := Lib.hid (KR.out.below hb2 KR.out.lt)
  clear hb2
  go_wp2_with (refine stm_store (cs' := c.cells) KR2.out rfl _ _ rfl rfl rfl (by simp) (by kernel_rfl) (by simp [Value.oneCell']) (by simp [setL, Chk.cells]) fun w9 hk hs => ?_)
  obtain ⟨q0, q1, q2, q3, q4, q5, q6, q7, q8⟩ := ckb (c := c) hk
  refine bodyPost_ret (v := .tuple #[.agg #[.int .u64 (c.fr : Nat), .int .i64 c.len, .bool c.fin, .int .i64 c.flow, .int .u32 c.en, .int .i64 c.sent, .int .i64 c.tries, .bool c.came, .bool c.lost], .bool b]) (by simp [results, Try.results9, go_sem, q0, q1, q2, q3, q4, q5, q6, q7, q8]) rfl ?_
  exact ⟨rfl, HB2.out.trans (hs.1.mono (Nat.le_refl _))⟩
set_option maxRecDepth 20000 in
set_option maxHeartbeats 4000000 in
theorem fl_first (B g most : Nat) (l : List Chk) (w : World) (h : FL w B g most l) (hl : l.length ≤ 64) :
    Calls Try.prog 17 #[.pointer (some ⟨g, 0, none⟩)] w fun e w' => e = .returned (fndV (fndC (fun _ => true) l)) ∧ Below w.heap.size w w' := by
  have KR := Lib.hid (Blk.new w 30 #[.int .u64 0, .int .i64 0, .bool false, .int .i64 0, .int .u32 0, .int .i64 0, .int .i64 0, .bool false, .bool false])
  have hb1 := (Below.refl w.heap.size w).alloc (Nat.le_refl _) (.cells #[.int .u64 0, .int .i64 0, .bool false, .int .i64 0, .int .u32 0, .int .i64 0, .int .i64 0, .bool false, .bool false] 30)
  have FI := Lib.hid (fl_find B g most l 33 #[] (fun _ => true) _ (enters_of Try.func33 (by kernel_rfl) rfl) (fun w' c _ _ => p_first c w') (h.into hb1) hl)
  obtain ⟨o, ho⟩ : ∃ o, o = fndC (fun _ => true) l := ⟨_, rfl⟩
  rw [← ho] at FI ⊢
  unfold fndV at FI ⊢
  obtain ⟨c, hc⟩ : ∃ c, c = o.getD nilC := ⟨_, rfl⟩
  obtain ⟨b, hbo⟩ : ∃ b, b = o.isSome := ⟨_, rfl⟩
  rw [← hc, ← hbo, chk_agg] at FI ⊢
  have HB1 := Lib.hid hb1
  clear h hl hb1 ho hc hbo
  go_enter Try.func17, Try.ntmps17
  go_wp2_with fail
  refine FI.out.mono ?_
  rintro e w2 ⟨rfl, hb2⟩
  have HB2 := Lib.hid (HB1.out.trans (hb2.mono HB1.out.size))
  have KR2 := Lib.hid (KR.out.below hb2 KR.out.lt)
  clear hb2
  go_wp2_with (refine stm_store (cs' := c.cells) KR2.out rfl _ _ rfl rfl rfl (by simp) (by kernel_rfl) (by simp [Value.oneCell']) (by simp [setL, Chk.cells]) fun w9 hk hs => ?_)
  obtain ⟨q0, q1, q2, q3, q4, q5, q6, q7, q8⟩ := ckb (c := c) hk
  refine bodyPost_ret (v := .tuple #[.agg #[.int .u64 (c.fr : Nat), .int .i64 c.len, .bool c.fin, .int .i64 c.flow, .int .u32 c.en, .int .i64 c.sent, .int .i64 c.tries, .bool c.came, .bool c.lost], .bool b]) (by simp [results, Try.results17, go_sem, q0, q1, q2, q3, q4, q5, q6, q7, q8]) rfl ?_
  exact ⟨rfl, HB2.out.trans (hs.1.mono (Nat.le_refl _))⟩
end Go.Proofs.Ytbipcnboammpeaa
