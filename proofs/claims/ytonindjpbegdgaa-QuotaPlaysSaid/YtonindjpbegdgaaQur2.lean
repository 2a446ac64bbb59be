/- The document of layer 39: Take, Give, Move. -/
import Derived.Test.YtonindjpbegdgaaQur1
import Derived.Test.YtonindjpbegdgaaQu2
import Derived.Test.YtonindjpbegdgaaGhoZ
namespace Go.Proofs.Ytonindjpbegdgaa
open Go.RowKit
set_option linter.unusedVariables false
set_option linter.unusedSimpArgs false
/-- A pool by the document, as a value of a region. -/
def SPrq (all each : Nat) (L : Ql) (B : Nat) : GH.SP false := ⟨fun v w => ∃ A n c, v = RPv all each A n c ∧ RQ w A n c L ∧ Fr B A, fun B' v w w' h hb => by
  obtain ⟨A, n, c, h1, h2, h3⟩ := h
  exact ⟨A, n, c, h1, ⟨hb.rd h2.1, h2.2.1, h2.2.2.1, fun a ha hn => by obtain ⟨cs, hk⟩ := h2.2.2.2 a ha hn; exact ⟨cs, (hb.block rfl _ hk.lt).trans hk⟩⟩, h3⟩⟩
set_option maxRecDepth 20000 in
set_option maxHeartbeats 4000000 in
theorem rq_take (all each : Nat) (A : Option Addr) (n c : Nat) (L : Ql) (id k : Int) (w : World) (h : RQ w A n c L) (hL : L.length ≤ 8000) (hq : QB all each L) (hk : I64 k) :
    Calls Try.prog 13 #[RPv all each A n c, .int .i64 id, .int .i64 k] w fun e w' => ∃ A2 n2 c2, e = .returned (.tuple #[RPv all each A2 n2 c2, .bool (tkOK all each L id k)]) ∧ RQ w' A2 n2 c2 (tkL all each L id k) ∧ Below w.heap.size w w' := by
  have HR := Lib.hid h
  have CO := Lib.hid (fun w' (hb : Below w.heap.size w w') => rq_of all each A n c L id w' (h.into hb) hL)
  have CU := Lib.hid (fun w' (hb : Below w.heap.size w w') => rq_used all each A n c L w' (h.into hb) hL (by have := hq.used; have := hq.ma; omega))
  have CS := Lib.hid (fun t w' (hb : Below w.heap.size w w') => rq_set all each A n c L id t w' (h.into hb) hL)
  have hv1 := hq.own id
  have hme := hq.me
  have hma := hq.ma
  have hus := hq.used
  unfold RPv at CO CU CS ⊢
  obtain ⟨v, hv⟩ : ∃ v, v = ofQ L id := ⟨_, rfl⟩
  obtain ⟨u, hu⟩ : ∃ u, u = usedQ L := ⟨_, rfl⟩
  have HV := Lib.hid hv
  have HU := Lib.hid hu
  rw [← hv] at CO hv1
  rw [← hu] at CU hus
  obtain ⟨d, hd⟩ : ∃ d, d = each - v := ⟨_, rfl⟩
  have hdi : (each : Int) - (v : Int) = (d : Nat) := by omega
  have hwd : IntKind.i64.wrap (d : Int) = (d : Nat) := by rw [IntKind.wrap_i64]; omega
  obtain ⟨r, hr⟩ : ∃ r, r = all - u := ⟨_, rfl⟩
  have hri : (all : Int) - (u : Int) = (r : Nat) := by omega
  have hwr : IntKind.i64.wrap (r : Int) = (r : Nat) := by rw [IntKind.wrap_i64]; omega
  have HD := Lib.hid hd
  have HRR := Lib.hid hr
  have hv1' := Lib.hid hv1
  have hus' := Lib.hid hus
  have hdb : d ≤ 1073741824 := by omega
  have hrb : r ≤ 1073741824 := by omega
  have hvb : v ≤ 1073741824 := by omega
  clear h hq hv hu hd hr hv1 hus hme hma hk hL
  by_cases h0 : k < 0
  · have HOK := Lib.hid (show tkOK all each L id k = false from decide_eq_false (by rw [← HV.out, ← HU.out]; have := HD.out; have := HRR.out; omega))
    have HTL := Lib.hid (show tkL all each L id k = L by unfold tkL; rw [HOK.out]; rfl)
    go_enter Try.func13, Try.ntmps13
    go_wp2_with fail
    have hb0 := (Below.refl w.heap.size w).alloc (Nat.le_refl _) (.cells #[.int .i64 (all : Nat), .int .i64 (each : Nat), .slice A n c] 27)
    have hk0 := Blk.new w 27 #[.int .i64 (all : Nat), .int .i64 (each : Nat), .slice A n c]
    have hz1 : (w.alloc (.cells #[.int .i64 (all : Nat), .int .i64 (each : Nat), .slice A n c] 27)).heap.size = w.heap.size + 1 := by simp
    have hk1 := Blk.new (w.alloc (.cells #[.int .i64 (all : Nat), .int .i64 (each : Nat), .slice A n c] 27)) 27 #[.int .i64 0, .int .i64 0, .slice none 0 0]
    rw [hz1] at hk1
    have hk0 := hk0.alloc (.cells #[.int .i64 0, .int .i64 0, .slice none 0 0] 27)
    have hb0 := hb0.alloc (show w.heap.size ≤ (w.alloc (.cells #[.int .i64 (all : Nat), .int .i64 (each : Nat), .slice A n c] 27)).heap.size by omega) (.cells #[.int .i64 0, .int .i64 0, .slice none 0 0] 27)
    have hz2 : ((w.alloc (.cells #[.int .i64 (all : Nat), .int .i64 (each : Nat), .slice A n c] 27)).alloc (.cells #[.int .i64 0, .int .i64 0, .slice none 0 0] 27)).heap.size = w.heap.size + 2 := by simp
    have K0 := Lib.hid hk0
    have K1 := Lib.hid hk1
    have B0 := Lib.hid hb0
    have HZ := Lib.hid hz2
    clear hk0 hb0 hk1 hz1 hz2
    generalize (w.alloc (.cells #[.int .i64 (all : Nat), .int .i64 (each : Nat), .slice A n c] 27)).alloc (.cells #[.int .i64 0, .int .i64 0, .slice none 0 0] 27) = w1 at K0 K1 B0 HZ ⊢
    go_upto_region 1 with fail
    obtain ⟨kA, kE, kL⟩ := ptc3 K0.out
    refine wp_ext (by kernel_rfl) (by kernel_rfl) (fun QQ hQ => ?_)
    iterate 21 (first | (refine x_skip (by rfl) ?_; simp only [Act.put, List.setIfInBounds_toArray, List.set_cons_zero, List.set_cons_succ]) | (first | (refine x_load _ (by rfl) rfl rfl (by assumption) (by kernel_rfl) ?_; simp only [Act.put, List.setIfInBounds_toArray, List.set_cons_zero, List.set_cons_succ]) | (refine x_val (v := ?_) (by rfl) (fun w' hx => ?_) ?_; rotate_left; (focus (go_simp; (try with_reducible rfl))); (try simp only [Act.put, List.setIfInBounds_toArray, List.set_cons_zero, List.set_cons_succ]))))
    clear kA kE kL
    refine x_nil (hQ.out _ ?_); clear hQ QQ
    intro w9 hb9
    have B9 := Lib.hid hb9
    have K5 := Lib.hid (Blk.below K0.out hb9 K0.out.lt)
    have K6 := Lib.hid (Blk.below K1.out hb9 K1.out.lt)
    obtain ⟨kA, kE, kL⟩ := ptc3 K5.out
    obtain ⟨z0, z1, z2⟩ := ptc3 K6.out
    have f0 := K6.out.frozen 0
    have f1 := K6.out.frozen 1
    have f2 := K6.out.frozen 2
    clear hb9
    go_wp2_with fail
    have K7 := pt3 (.int .i64 (all : Nat)) (.int .i64 (each : Nat)) (.slice A n c) K6.out
    have S7 := pts3 (.int .i64 (all : Nat)) (.int .i64 (each : Nat)) (.slice A n c) (w := w9) (T := w.heap.size + 1)
    unfold ptw3 at K7 S7
    obtain ⟨q0, q1, q2⟩ := ptc3 K7
    refine bodyPost_ret (v := .tuple #[.agg #[.int .i64 (all : Nat), .int .i64 (each : Nat), .slice A n c], .bool false]) (by simp [results, Try.results13, go_sem, q0, q1, q2]) rfl ?_
    rw [HOK.out, HTL.out]
    have BW := B0.out.trans (B9.out.mono B0.out.size)
    exact ⟨A, n, c, rfl, (HR.out.into BW).solo S7 (HR.out.old (w' := w) (by omega)), BW.trans (S7.1.mono (by omega))⟩
  obtain ⟨m, rfl⟩ : ∃ m : Nat, k = (m : Int) := ⟨k.toNat, by omega⟩
  by_cases h1 : d < m
  · have h1' : (d : Int) < (m : Int) := by omega
    have HOK := Lib.hid (show tkOK all each L id (m : Int) = false from decide_eq_false (by rw [← HV.out, ← HU.out]; have := HD.out; have := HRR.out; omega))
    have HTL := Lib.hid (show tkL all each L id (m : Int) = L by unfold tkL; rw [HOK.out]; rfl)
    go_enter Try.func13, Try.ntmps13
    go_wp2_with fail
    have hb0 := (Below.refl w.heap.size w).alloc (Nat.le_refl _) (.cells #[.int .i64 (all : Nat), .int .i64 (each : Nat), .slice A n c] 27)
    have hk0 := Blk.new w 27 #[.int .i64 (all : Nat), .int .i64 (each : Nat), .slice A n c]
    have hz1 : (w.alloc (.cells #[.int .i64 (all : Nat), .int .i64 (each : Nat), .slice A n c] 27)).heap.size = w.heap.size + 1 := by simp
    have hk1 := Blk.new (w.alloc (.cells #[.int .i64 (all : Nat), .int .i64 (each : Nat), .slice A n c] 27)) 27 #[.int .i64 0, .int .i64 0, .slice none 0 0]
    rw [hz1] at hk1
    have hk0 := hk0.alloc (.cells #[.int .i64 0, .int .i64 0, .slice none 0 0] 27)
    have hb0 := hb0.alloc (show w.heap.size ≤ (w.alloc (.cells #[.int .i64 (all : Nat), .int .i64 (each : Nat), .slice A n c] 27)).heap.size by omega) (.cells #[.int .i64 0, .int .i64 0, .slice none 0 0] 27)
    have hz2 : ((w.alloc (.cells #[.int .i64 (all : Nat), .int .i64 (each : Nat), .slice A n c] 27)).alloc (.cells #[.int .i64 0, .int .i64 0, .slice none 0 0] 27)).heap.size = w.heap.size + 2 := by simp
    have K0 := Lib.hid hk0
    have K1 := Lib.hid hk1
    have B0 := Lib.hid hb0
    have HZ := Lib.hid hz2
    clear hk0 hb0 hk1 hz1 hz2
    generalize (w.alloc (.cells #[.int .i64 (all : Nat), .int .i64 (each : Nat), .slice A n c] 27)).alloc (.cells #[.int .i64 0, .int .i64 0, .slice none 0 0] 27) = w1 at K0 K1 B0 HZ ⊢
    have CO := Lib.hid (fun w' (hb : Below w1.heap.size w1 w') => CO.out w' (B0.out.trans (hb.mono B0.out.size)))
    have CU := Lib.hid (fun w' (hb : Below w1.heap.size w1 w') => CU.out w' (B0.out.trans (hb.mono B0.out.size)))
    have CS := Lib.hid (fun t w' (hb : Below w1.heap.size w1 w') => CS.out t w' (B0.out.trans (hb.mono B0.out.size)))
    go_upto_region 1 with fail
    obtain ⟨kA, kE, kL⟩ := ptc3 K0.out
    refine wp_ext (by kernel_rfl) (by kernel_rfl) (fun QQ hQ => ?_)
    iterate 6 (first | (refine x_skip (by rfl) ?_; simp only [Act.put, List.setIfInBounds_toArray, List.set_cons_zero, List.set_cons_succ]) | (first | (refine x_load _ (by rfl) rfl rfl (by assumption) (by kernel_rfl) ?_; simp only [Act.put, List.setIfInBounds_toArray, List.set_cons_zero, List.set_cons_succ]) | (refine x_val (v := ?_) (by rfl) (fun w' hx => ?_) ?_; rotate_left; (focus (go_simp; (try with_reducible rfl))); (try simp only [Act.put, List.setIfInBounds_toArray, List.set_cons_zero, List.set_cons_succ]))))
    refine x_loads _ [.int .i64 (all : Nat), .int .i64 (each : Nat), .slice A n c] (by rfl) rfl rfl (K0.out.loads 0 _ (by rfl)) (Nat.succ_pos _) (by kernel_rfl) (by kernel_rfl) ?_; simp only [Act.put, List.setIfInBounds_toArray, List.set_cons_zero, List.set_cons_succ]
    iterate 1 (first | (refine x_skip (by rfl) ?_; simp only [Act.put, List.setIfInBounds_toArray, List.set_cons_zero, List.set_cons_succ]) | (first | (refine x_load _ (by rfl) rfl rfl (by assumption) (by kernel_rfl) ?_; simp only [Act.put, List.setIfInBounds_toArray, List.set_cons_zero, List.set_cons_succ]) | (refine x_val (v := ?_) (by rfl) (fun w' hx => ?_) ?_; rotate_left; (focus (go_simp; (try with_reducible rfl))); (try simp only [Act.put, List.setIfInBounds_toArray, List.set_cons_zero, List.set_cons_succ]))))
    refine x_call (by rfl) (fun w' hx => by go_simp) (fun w' hx => CO.out w' hx) ?_; simp only [Act.put, List.setIfInBounds_toArray, List.set_cons_zero, List.set_cons_succ]
    refine x_val (v := .int .i64 (d : Nat)) (by rfl) (fun w' hx => by go_simp; (try simp only [hdi, hwd]); (try with_reducible rfl)) ?_
    (try simp only [Act.put, List.setIfInBounds_toArray, List.set_cons_zero, List.set_cons_succ])
    iterate 11 (first | (refine x_skip (by rfl) ?_; simp only [Act.put, List.setIfInBounds_toArray, List.set_cons_zero, List.set_cons_succ]) | (first | (refine x_load _ (by rfl) rfl rfl (by assumption) (by kernel_rfl) ?_; simp only [Act.put, List.setIfInBounds_toArray, List.set_cons_zero, List.set_cons_succ]) | (refine x_val (v := ?_) (by rfl) (fun w' hx => ?_) ?_; rotate_left; (focus (go_simp; (try with_reducible rfl))); (try simp only [Act.put, List.setIfInBounds_toArray, List.set_cons_zero, List.set_cons_succ]))))
    clear kA kE kL
    refine x_nil (hQ.out _ ?_); clear hQ QQ
    intro w9 hb9
    have B9 := Lib.hid hb9
    have K5 := Lib.hid (Blk.below K0.out hb9 K0.out.lt)
    have K6 := Lib.hid (Blk.below K1.out hb9 K1.out.lt)
    obtain ⟨kA, kE, kL⟩ := ptc3 K5.out
    obtain ⟨z0, z1, z2⟩ := ptc3 K6.out
    have f0 := K6.out.frozen 0
    have f1 := K6.out.frozen 1
    have f2 := K6.out.frozen 2
    clear hb9
    go_wp2_with fail
    have K7 := pt3 (.int .i64 (all : Nat)) (.int .i64 (each : Nat)) (.slice A n c) K6.out
    have S7 := pts3 (.int .i64 (all : Nat)) (.int .i64 (each : Nat)) (.slice A n c) (w := w9) (T := w.heap.size + 1)
    unfold ptw3 at K7 S7
    obtain ⟨q0, q1, q2⟩ := ptc3 K7
    refine bodyPost_ret (v := .tuple #[.agg #[.int .i64 (all : Nat), .int .i64 (each : Nat), .slice A n c], .bool false]) (by simp [results, Try.results13, go_sem, q0, q1, q2]) rfl ?_
    rw [HOK.out, HTL.out]
    have BW := B0.out.trans (B9.out.mono B0.out.size)
    exact ⟨A, n, c, rfl, (HR.out.into BW).solo S7 (HR.out.old (w' := w) (by omega)), BW.trans (S7.1.mono (by omega))⟩
  have h1' : ¬ (d : Int) < (m : Int) := by omega
  by_cases h2 : r < m
  · have h2' : (r : Int) < (m : Int) := by omega
    have HOK := Lib.hid (show tkOK all each L id (m : Int) = false from decide_eq_false (by rw [← HV.out, ← HU.out]; have := HD.out; have := HRR.out; omega))
    have HTL := Lib.hid (show tkL all each L id (m : Int) = L by unfold tkL; rw [HOK.out]; rfl)
    go_enter Try.func13, Try.ntmps13
    go_wp2_with fail
    have hb0 := (Below.refl w.heap.size w).alloc (Nat.le_refl _) (.cells #[.int .i64 (all : Nat), .int .i64 (each : Nat), .slice A n c] 27)
    have hk0 := Blk.new w 27 #[.int .i64 (all : Nat), .int .i64 (each : Nat), .slice A n c]
    have hz1 : (w.alloc (.cells #[.int .i64 (all : Nat), .int .i64 (each : Nat), .slice A n c] 27)).heap.size = w.heap.size + 1 := by simp
    have hk1 := Blk.new (w.alloc (.cells #[.int .i64 (all : Nat), .int .i64 (each : Nat), .slice A n c] 27)) 27 #[.int .i64 0, .int .i64 0, .slice none 0 0]
    rw [hz1] at hk1
    have hk0 := hk0.alloc (.cells #[.int .i64 0, .int .i64 0, .slice none 0 0] 27)
    have hb0 := hb0.alloc (show w.heap.size ≤ (w.alloc (.cells #[.int .i64 (all : Nat), .int .i64 (each : Nat), .slice A n c] 27)).heap.size by omega) (.cells #[.int .i64 0, .int .i64 0, .slice none 0 0] 27)
    have hz2 : ((w.alloc (.cells #[.int .i64 (all : Nat), .int .i64 (each : Nat), .slice A n c] 27)).alloc (.cells #[.int .i64 0, .int .i64 0, .slice none 0 0] 27)).heap.size = w.heap.size + 2 := by simp
    have K0 := Lib.hid hk0
    have K1 := Lib.hid hk1
    have B0 := Lib.hid hb0
    have HZ := Lib.hid hz2
    clear hk0 hb0 hk1 hz1 hz2
    generalize (w.alloc (.cells #[.int .i64 (all : Nat), .int .i64 (each : Nat), .slice A n c] 27)).alloc (.cells #[.int .i64 0, .int .i64 0, .slice none 0 0] 27) = w1 at K0 K1 B0 HZ ⊢
    have CO := Lib.hid (fun w' (hb : Below w1.heap.size w1 w') => CO.out w' (B0.out.trans (hb.mono B0.out.size)))
    have CU := Lib.hid (fun w' (hb : Below w1.heap.size w1 w') => CU.out w' (B0.out.trans (hb.mono B0.out.size)))
    have CS := Lib.hid (fun t w' (hb : Below w1.heap.size w1 w') => CS.out t w' (B0.out.trans (hb.mono B0.out.size)))
    go_upto_region 1 with fail
    obtain ⟨kA, kE, kL⟩ := ptc3 K0.out
    refine wp_ext (by kernel_rfl) (by kernel_rfl) (fun QQ hQ => ?_)
    iterate 6 (first | (refine x_skip (by rfl) ?_; simp only [Act.put, List.setIfInBounds_toArray, List.set_cons_zero, List.set_cons_succ]) | (first | (refine x_load _ (by rfl) rfl rfl (by assumption) (by kernel_rfl) ?_; simp only [Act.put, List.setIfInBounds_toArray, List.set_cons_zero, List.set_cons_succ]) | (refine x_val (v := ?_) (by rfl) (fun w' hx => ?_) ?_; rotate_left; (focus (go_simp; (try with_reducible rfl))); (try simp only [Act.put, List.setIfInBounds_toArray, List.set_cons_zero, List.set_cons_succ]))))
    refine x_loads _ [.int .i64 (all : Nat), .int .i64 (each : Nat), .slice A n c] (by rfl) rfl rfl (K0.out.loads 0 _ (by rfl)) (Nat.succ_pos _) (by kernel_rfl) (by kernel_rfl) ?_; simp only [Act.put, List.setIfInBounds_toArray, List.set_cons_zero, List.set_cons_succ]
    iterate 1 (first | (refine x_skip (by rfl) ?_; simp only [Act.put, List.setIfInBounds_toArray, List.set_cons_zero, List.set_cons_succ]) | (first | (refine x_load _ (by rfl) rfl rfl (by assumption) (by kernel_rfl) ?_; simp only [Act.put, List.setIfInBounds_toArray, List.set_cons_zero, List.set_cons_succ]) | (refine x_val (v := ?_) (by rfl) (fun w' hx => ?_) ?_; rotate_left; (focus (go_simp; (try with_reducible rfl))); (try simp only [Act.put, List.setIfInBounds_toArray, List.set_cons_zero, List.set_cons_succ]))))
    refine x_call (by rfl) (fun w' hx => by go_simp) (fun w' hx => CO.out w' hx) ?_; simp only [Act.put, List.setIfInBounds_toArray, List.set_cons_zero, List.set_cons_succ]
    refine x_val (v := .int .i64 (d : Nat)) (by rfl) (fun w' hx => by go_simp; (try simp only [hdi, hwd]); (try with_reducible rfl)) ?_
    (try simp only [Act.put, List.setIfInBounds_toArray, List.set_cons_zero, List.set_cons_succ])
    iterate 6 (first | (refine x_skip (by rfl) ?_; simp only [Act.put, List.setIfInBounds_toArray, List.set_cons_zero, List.set_cons_succ]) | (first | (refine x_load _ (by rfl) rfl rfl (by assumption) (by kernel_rfl) ?_; simp only [Act.put, List.setIfInBounds_toArray, List.set_cons_zero, List.set_cons_succ]) | (refine x_val (v := ?_) (by rfl) (fun w' hx => ?_) ?_; rotate_left; (focus (go_simp; (try with_reducible rfl))); (try simp only [Act.put, List.setIfInBounds_toArray, List.set_cons_zero, List.set_cons_succ]))))
    refine x_loads _ [.int .i64 (all : Nat), .int .i64 (each : Nat), .slice A n c] (by rfl) rfl rfl (K0.out.loads 0 _ (by rfl)) (Nat.succ_pos _) (by kernel_rfl) (by kernel_rfl) ?_; simp only [Act.put, List.setIfInBounds_toArray, List.set_cons_zero, List.set_cons_succ]
    refine x_call (by rfl) (fun w' hx => by go_simp) (fun w' hx => CU.out w' hx) ?_; simp only [Act.put, List.setIfInBounds_toArray, List.set_cons_zero, List.set_cons_succ]
    refine x_val (v := .int .i64 (r : Nat)) (by rfl) (fun w' hx => by go_simp; (try simp only [hri, hwr]); (try with_reducible rfl)) ?_
    (try simp only [Act.put, List.setIfInBounds_toArray, List.set_cons_zero, List.set_cons_succ])
    iterate 2 (first | (refine x_skip (by rfl) ?_; simp only [Act.put, List.setIfInBounds_toArray, List.set_cons_zero, List.set_cons_succ]) | (first | (refine x_load _ (by rfl) rfl rfl (by assumption) (by kernel_rfl) ?_; simp only [Act.put, List.setIfInBounds_toArray, List.set_cons_zero, List.set_cons_succ]) | (refine x_val (v := ?_) (by rfl) (fun w' hx => ?_) ?_; rotate_left; (focus (go_simp; (try with_reducible rfl))); (try simp only [Act.put, List.setIfInBounds_toArray, List.set_cons_zero, List.set_cons_succ]))))
    clear kA kE kL
    refine x_nil (hQ.out _ ?_); clear hQ QQ
    intro w9 hb9
    have B9 := Lib.hid hb9
    have K5 := Lib.hid (Blk.below K0.out hb9 K0.out.lt)
    have K6 := Lib.hid (Blk.below K1.out hb9 K1.out.lt)
    obtain ⟨kA, kE, kL⟩ := ptc3 K5.out
    obtain ⟨z0, z1, z2⟩ := ptc3 K6.out
    have f0 := K6.out.frozen 0
    have f1 := K6.out.frozen 1
    have f2 := K6.out.frozen 2
    clear hb9
    go_wp2_with fail
    have K7 := pt3 (.int .i64 (all : Nat)) (.int .i64 (each : Nat)) (.slice A n c) K6.out
    have S7 := pts3 (.int .i64 (all : Nat)) (.int .i64 (each : Nat)) (.slice A n c) (w := w9) (T := w.heap.size + 1)
    unfold ptw3 at K7 S7
    obtain ⟨q0, q1, q2⟩ := ptc3 K7
    refine bodyPost_ret (v := .tuple #[.agg #[.int .i64 (all : Nat), .int .i64 (each : Nat), .slice A n c], .bool false]) (by simp [results, Try.results13, go_sem, q0, q1, q2]) rfl ?_
    rw [HOK.out, HTL.out]
    have BW := B0.out.trans (B9.out.mono B0.out.size)
    exact ⟨A, n, c, rfl, (HR.out.into BW).solo S7 (HR.out.old (w' := w) (by omega)), BW.trans (S7.1.mono (by omega))⟩
  · have h2' : ¬ (r : Int) < (m : Int) := by omega
    have HOK := Lib.hid (show tkOK all each L id (m : Int) = true from decide_eq_true (by rw [← HV.out, ← HU.out]; have := HD.out; have := HRR.out; have := hv1'.out; have := hus'.out; omega))
    obtain ⟨t, ht⟩ : ∃ t, t = v + m := ⟨_, rfl⟩
    have hti : (v : Int) + (m : Int) = (t : Nat) := by omega
    have hwt : IntKind.i64.wrap (t : Int) = (t : Nat) := by rw [IntKind.wrap_i64]; omega
    have HTL := Lib.hid (show tkL all each L id (m : Int) = setQ L id t by unfold tkL; rw [HOK.out, if_pos rfl, ht, HV.out]; rfl)
    clear ht
    go_enter Try.func13, Try.ntmps13
    go_wp2_with fail
    have hb0 := (Below.refl w.heap.size w).alloc (Nat.le_refl _) (.cells #[.int .i64 (all : Nat), .int .i64 (each : Nat), .slice A n c] 27)
    have hk0 := Blk.new w 27 #[.int .i64 (all : Nat), .int .i64 (each : Nat), .slice A n c]
    have hz1 : (w.alloc (.cells #[.int .i64 (all : Nat), .int .i64 (each : Nat), .slice A n c] 27)).heap.size = w.heap.size + 1 := by simp
    have hk1 := Blk.new (w.alloc (.cells #[.int .i64 (all : Nat), .int .i64 (each : Nat), .slice A n c] 27)) 27 #[.int .i64 0, .int .i64 0, .slice none 0 0]
    rw [hz1] at hk1
    have hk0 := hk0.alloc (.cells #[.int .i64 0, .int .i64 0, .slice none 0 0] 27)
    have hb0 := hb0.alloc (show w.heap.size ≤ (w.alloc (.cells #[.int .i64 (all : Nat), .int .i64 (each : Nat), .slice A n c] 27)).heap.size by omega) (.cells #[.int .i64 0, .int .i64 0, .slice none 0 0] 27)
    have hz2 : ((w.alloc (.cells #[.int .i64 (all : Nat), .int .i64 (each : Nat), .slice A n c] 27)).alloc (.cells #[.int .i64 0, .int .i64 0, .slice none 0 0] 27)).heap.size = w.heap.size + 2 := by simp
    have K0 := Lib.hid hk0
    have K1 := Lib.hid hk1
    have B0 := Lib.hid hb0
    have HZ := Lib.hid hz2
    clear hk0 hb0 hk1 hz1 hz2
    generalize (w.alloc (.cells #[.int .i64 (all : Nat), .int .i64 (each : Nat), .slice A n c] 27)).alloc (.cells #[.int .i64 0, .int .i64 0, .slice none 0 0] 27) = w1 at K0 K1 B0 HZ ⊢
    have CO := Lib.hid (fun w' (hb : Below w1.heap.size w1 w') => CO.out w' (B0.out.trans (hb.mono B0.out.size)))
    have CU := Lib.hid (fun w' (hb : Below w1.heap.size w1 w') => CU.out w' (B0.out.trans (hb.mono B0.out.size)))
    have CS := Lib.hid (fun t w' (hb : Below w1.heap.size w1 w') => CS.out t w' (B0.out.trans (hb.mono B0.out.size)))
    go_upto_region 1 with fail
    obtain ⟨kA, kE, kL⟩ := ptc3 K0.out
    refine wp_ext (by kernel_rfl) (by kernel_rfl) (fun QQ hQ => ?_)
    iterate 6 (first | (refine x_skip (by rfl) ?_; simp only [Act.put, List.setIfInBounds_toArray, List.set_cons_zero, List.set_cons_succ]) | (first | (refine x_load _ (by rfl) rfl rfl (by assumption) (by kernel_rfl) ?_; simp only [Act.put, List.setIfInBounds_toArray, List.set_cons_zero, List.set_cons_succ]) | (refine x_val (v := ?_) (by rfl) (fun w' hx => ?_) ?_; rotate_left; (focus (go_simp; (try with_reducible rfl))); (try simp only [Act.put, List.setIfInBounds_toArray, List.set_cons_zero, List.set_cons_succ]))))
    refine x_loads _ [.int .i64 (all : Nat), .int .i64 (each : Nat), .slice A n c] (by rfl) rfl rfl (K0.out.loads 0 _ (by rfl)) (Nat.succ_pos _) (by kernel_rfl) (by kernel_rfl) ?_; simp only [Act.put, List.setIfInBounds_toArray, List.set_cons_zero, List.set_cons_succ]
    iterate 1 (first | (refine x_skip (by rfl) ?_; simp only [Act.put, List.setIfInBounds_toArray, List.set_cons_zero, List.set_cons_succ]) | (first | (refine x_load _ (by rfl) rfl rfl (by assumption) (by kernel_rfl) ?_; simp only [Act.put, List.setIfInBounds_toArray, List.set_cons_zero, List.set_cons_succ]) | (refine x_val (v := ?_) (by rfl) (fun w' hx => ?_) ?_; rotate_left; (focus (go_simp; (try with_reducible rfl))); (try simp only [Act.put, List.setIfInBounds_toArray, List.set_cons_zero, List.set_cons_succ]))))
    refine x_call (by rfl) (fun w' hx => by go_simp) (fun w' hx => CO.out w' hx) ?_; simp only [Act.put, List.setIfInBounds_toArray, List.set_cons_zero, List.set_cons_succ]
    refine x_val (v := .int .i64 (d : Nat)) (by rfl) (fun w' hx => by go_simp; (try simp only [hdi, hwd]); (try with_reducible rfl)) ?_
    (try simp only [Act.put, List.setIfInBounds_toArray, List.set_cons_zero, List.set_cons_succ])
    iterate 6 (first | (refine x_skip (by rfl) ?_; simp only [Act.put, List.setIfInBounds_toArray, List.set_cons_zero, List.set_cons_succ]) | (first | (refine x_load _ (by rfl) rfl rfl (by assumption) (by kernel_rfl) ?_; simp only [Act.put, List.setIfInBounds_toArray, List.set_cons_zero, List.set_cons_succ]) | (refine x_val (v := ?_) (by rfl) (fun w' hx => ?_) ?_; rotate_left; (focus (go_simp; (try with_reducible rfl))); (try simp only [Act.put, List.setIfInBounds_toArray, List.set_cons_zero, List.set_cons_succ]))))
    refine x_loads _ [.int .i64 (all : Nat), .int .i64 (each : Nat), .slice A n c] (by rfl) rfl rfl (K0.out.loads 0 _ (by rfl)) (Nat.succ_pos _) (by kernel_rfl) (by kernel_rfl) ?_; simp only [Act.put, List.setIfInBounds_toArray, List.set_cons_zero, List.set_cons_succ]
    refine x_call (by rfl) (fun w' hx => by go_simp) (fun w' hx => CU.out w' hx) ?_; simp only [Act.put, List.setIfInBounds_toArray, List.set_cons_zero, List.set_cons_succ]
    refine x_val (v := .int .i64 (r : Nat)) (by rfl) (fun w' hx => by go_simp; (try simp only [hri, hwr]); (try with_reducible rfl)) ?_
    (try simp only [Act.put, List.setIfInBounds_toArray, List.set_cons_zero, List.set_cons_succ])
    iterate 2 (first | (refine x_skip (by rfl) ?_; simp only [Act.put, List.setIfInBounds_toArray, List.set_cons_zero, List.set_cons_succ]) | (first | (refine x_load _ (by rfl) rfl rfl (by assumption) (by kernel_rfl) ?_; simp only [Act.put, List.setIfInBounds_toArray, List.set_cons_zero, List.set_cons_succ]) | (refine x_val (v := ?_) (by rfl) (fun w' hx => ?_) ?_; rotate_left; (focus (go_simp; (try with_reducible rfl))); (try simp only [Act.put, List.setIfInBounds_toArray, List.set_cons_zero, List.set_cons_succ]))))
    clear kA kE kL
    refine x_nil (hQ.out _ ?_); clear hQ QQ
    intro w2 hb9
    have B2 := Lib.hid hb9
    have K5 := Lib.hid (Blk.below K0.out hb9 K0.out.lt)
    have K6 := Lib.hid (Blk.below K1.out hb9 K1.out.lt)
    have CO2 := Lib.hid (fun w' (hb : Below w2.heap.size w2 w') => CO.out w' (B2.out.trans (hb.mono B2.out.size)))
    clear hb9
    go_upto_region 3 with fail
    refine GH.wp_ghl2 (M := false) 7 ((GH.SP.eq (.agg #[.int .i64 (all : Nat), .int .i64 (each : Nat), .slice A n c])) :: (GH.SP.eq (.int .i64 id)) :: (GH.SP.eq (.agg #[.int .i64 (all : Nat), .int .i64 (each : Nat), .slice A n c])) :: (GH.SP.eq (.int .i64 id)) :: (GH.SP.eq (.int .i64 (v : Nat))) :: (GH.SP.eq (.int .i64 (m : Nat))) :: (GH.SP.eq (.int .i64 (t : Nat))) :: []) (none :: none :: none :: none :: none :: none :: none :: none :: none :: none :: none :: none :: none :: none :: none :: none :: none :: none :: none :: none :: none :: none :: none :: none :: none :: none :: none :: none :: none :: none :: (some 0) :: (some 1) :: (some 2) :: (some 3) :: (some 4) :: (some 5) :: (some 6) :: none :: []) [30, 31, 32, 33, 34, 35, 36] (by rfl) (by kernel_rfl) (by kernel_rfl) ?_ ?_ ?_
    · intro S jx v hjx
      match jx, hjx with
      | 0, _ => rfl
      | 1, _ => rfl
      | 2, _ => rfl
      | 3, _ => rfl
      | 4, _ => rfl
      | 5, _ => rfl
      | 6, _ => rfl
      | nx + 7, hjx => omega
    · intro jx hjx S w' hb hd
      match jx, hjx, hd with
      | 0, _, hd =>
        simp only [GH.mkL, List.getD_cons_succ, List.getD_cons_zero]
        clear hd
        exact GH.st_loads _ [.int .i64 (all : Nat), .int .i64 (each : Nat), .slice A n c] (by rfl) rfl rfl (((K5.out.below hb.below K5.out.lt)).loads 0 _ (by rfl)) (by kernel_rfl) (by kernel_rfl)
      | 1, _, hd =>
        simp only [GH.mkL, List.getD_cons_succ, List.getD_cons_zero]
        clear hd
        refine GH.st_eq (by rfl) ?_
        go_simp
        (try with_reducible rfl)
      | 2, _, hd =>
        simp only [GH.mkL, List.getD_cons_succ, List.getD_cons_zero]
        clear hd
        exact GH.st_loads _ [.int .i64 (all : Nat), .int .i64 (each : Nat), .slice A n c] (by rfl) rfl rfl (((K5.out.below hb.below K5.out.lt)).loads 0 _ (by rfl)) (by kernel_rfl) (by kernel_rfl)
      | 3, _, hd =>
        simp only [GH.mkL, List.getD_cons_succ, List.getD_cons_zero]
        clear hd
        refine GH.st_eq (by rfl) ?_
        go_simp
        (try with_reducible rfl)
      | 4, _, hd =>
        simp only [GH.mkL, List.getD_cons_succ, List.getD_cons_zero]
        have d2 : S 2 = .agg #[.int .i64 (all : Nat), .int .i64 (each : Nat), .slice A n c] := (hd 2 (by kernel_rfl)).2
        rw [d2]
        clear d2
        have d3 : S 3 = .int .i64 id := (hd 3 (by kernel_rfl)).2
        rw [d3]
        clear d3
        clear hd
        refine GH.st_call (by rfl) hb.below.size (by go_simp) ((CO2.out w' hb.below).mono ?_)
        rintro e w9 ⟨rfl, hb9⟩
        exact ⟨_, rfl, hb9, rfl⟩
      | 5, _, hd =>
        simp only [GH.mkL, List.getD_cons_succ, List.getD_cons_zero]
        clear hd
        refine GH.st_eq (by rfl) ?_
        go_simp
        (try with_reducible rfl)
      | 6, _, hd =>
        simp only [GH.mkL, List.getD_cons_succ, List.getD_cons_zero]
        have d4 : S 4 = .int .i64 (v : Nat) := (hd 4 (by kernel_rfl)).2
        rw [d4]
        clear d4
        have d5 : S 5 = .int .i64 (m : Nat) := (hd 5 (by kernel_rfl)).2
        rw [d5]
        clear d5
        clear hd
        refine GH.st_eq (by rfl) ?_
        go_simp
        (try simp only [hti, hwt])
        (try with_reducible rfl)
      | nx + 7, hjx, _ => omega
    intro S w' hb hG
    simp only [GH.mkL, List.drop_succ_cons, List.drop_zero]
    have d0 : S 0 = .agg #[.int .i64 (all : Nat), .int .i64 (each : Nat), .slice A n c] := hG 0 (by omega)
    rw [d0]
    clear d0
    have d1 : S 1 = .int .i64 id := hG 1 (by omega)
    rw [d1]
    clear d1
    have d6 : S 6 = .int .i64 (t : Nat) := hG 6 (by omega)
    rw [d6]
    clear d6
    clear hG
    have B3 := Lib.hid hb.below
    clear hb
    go_wp2_with fail
    refine (CS.out t _ (B2.out.trans (B3.out.mono B2.out.size))).mono ?_
    rintro e w5 ⟨A2, n2, c2, rfl, hR2, hF2, hb5⟩
    have R5 := Lib.hid hR2
    have F5 := Lib.hid hF2
    have B5 := Lib.hid hb5
    have K7 := Lib.hid ((K6.out.below B3.out K6.out.lt).below hb5 (by have := K6.out.lt; have := B3.out.size; omega))
    obtain ⟨z0, z1, z2⟩ := ptc3 K7.out
    have f0 := K7.out.frozen 0
    have f1 := K7.out.frozen 1
    have f2 := K7.out.frozen 2
    clear hR2 hF2 hb5
    go_wp2_with fail
    have K8 := pt3 (.int .i64 (all : Nat)) (.int .i64 (each : Nat)) (.slice A2 n2 c2) K7.out
    have S8 := pts3 (.int .i64 (all : Nat)) (.int .i64 (each : Nat)) (.slice A2 n2 c2) (w := w5) (T := w.heap.size + 1)
    unfold ptw3 at K8 S8
    obtain ⟨q0, q1, q2⟩ := ptc3 K8
    refine bodyPost_ret (v := .tuple #[.agg #[.int .i64 (all : Nat), .int .i64 (each : Nat), .slice A2 n2 c2], .bool true]) (by simp [results, Try.results13, go_sem, q0, q1, q2]) rfl ?_
    rw [HOK.out, HTL.out]
    have BW := (((B0.out.trans (B2.out.mono B0.out.size)).trans (B3.out.mono (by have := B0.out.size; have := B2.out.size; omega))).trans (B5.out.mono (by have := B0.out.size; have := B2.out.size; have := B3.out.size; omega)))
    exact ⟨A2, n2, c2, rfl, R5.out.solo S8 (fun a ha _ e => by have := F5.out a ha; have := HZ.out; have := B2.out.size; have := B3.out.size; omega), BW.trans (S8.1.mono (by omega))⟩
end Go.Proofs.Ytonindjpbegdgaa
