/- The document of layer 39: Move. -/
import Derived.Test.YtonindjpbegdgaaQur3
import Derived.Test.YtonindjpbegdgaaQu3
namespace Go.Proofs.Ytonindjpbegdgaa
open Go.RowKit
set_option linter.unusedVariables false
set_option linter.unusedSimpArgs false
set_option maxRecDepth 20000 in
set_option maxHeartbeats 4000000 in
theorem rq_move (all each : Nat) (A : Option Addr) (n c : Nat) (L : Ql) (a b k : Int) (w : World) (h : RQ w A n c L) (hL : L.length < 8000) (hq : QB all each L) (hd : QD L) (hk : I64 k) :
    Calls Try.prog 11 #[RPv all each A n c, .int .i64 a, .int .i64 b, .int .i64 k] w fun e w' => ∃ A2 n2 c2, e = .returned (.tuple #[RPv all each A2 n2 c2, .bool (mvOK each L a b k)]) ∧ RQ w' A2 n2 c2 (mvL each L a b k) ∧ Below w.heap.size w w' := by
  have HR := Lib.hid h
  have CA := Lib.hid (fun w' (hb : Below w.heap.size w w') => rq_of all each A n c L a w' (h.into hb) (by omega))
  have CX := Lib.hid (fun w' (hb : Below w.heap.size w w') => rq_of all each A n c L b w' (h.into hb) (by omega))
  have CS := Lib.hid (fun t w' (hb : Below w.heap.size w w') => rq_set all each A n c L a t w' (h.into hb) (by omega))
  have hv1 := hq.own a
  have hx1 := hq.own b
  have hme := hq.me
  have HL1 := Lib.hid (show ∀ t, (setQ L a t).length ≤ 8000 from fun t => by have := len_set_le hd a t; omega)
  unfold RPv at CA CX CS ⊢
  obtain ⟨v, hv⟩ : ∃ v, v = ofQ L a := ⟨_, rfl⟩
  obtain ⟨x, hx⟩ : ∃ x, x = ofQ L b := ⟨_, rfl⟩
  have HV := Lib.hid hv
  have HX := Lib.hid hx
  rw [← hv] at CA hv1
  rw [← hx] at CX hx1
  obtain ⟨d, hdd⟩ : ∃ d, d = each - x := ⟨_, rfl⟩
  have hdi : (each : Int) - (x : Int) = (d : Nat) := by omega
  have hwd : IntKind.i64.wrap (d : Int) = (d : Nat) := by rw [IntKind.wrap_i64]; omega
  have HD := Lib.hid hdd
  have hx1' := Lib.hid hx1
  have hdb : d ≤ 1073741824 := by omega
  have hvb : v ≤ 1073741824 := by omega
  have hxb : x ≤ 1073741824 := by omega
  clear h hq hv hx hdd hv1 hx1 hme hk hL hd
  by_cases h0 : k < 0
  · have HOK := Lib.hid (show mvOK each L a b k = false from decide_eq_false (by rw [← HV.out, ← HX.out]; omega))
    have HTL := Lib.hid (show mvL each L a b k = L by unfold mvL; rw [HOK.out]; rfl)
    go_enter Try.func11, Try.ntmps11
    go_upto_region 1 with fail
    have hb0 := (Below.refl w.heap.size w).alloc (Nat.le_refl _) (.cells #[.int .i64 (all : Nat), .int .i64 (each : Nat), .slice A n c] 27)
    have hk0 := Blk.new w 27 #[.int .i64 (all : Nat), .int .i64 (each : Nat), .slice A n c]
    have hz1 : (w.alloc (.cells #[.int .i64 (all : Nat), .int .i64 (each : Nat), .slice A n c] 27)).heap.size = w.heap.size + 1 := by simp
    have hk1 := Blk.new (w.alloc (.cells #[.int .i64 (all : Nat), .int .i64 (each : Nat), .slice A n c] 27)) 27 #[.int .i64 0, .int .i64 0, .slice none 0 0]
    rw [hz1] at hk1
    have hk0 := hk0.alloc (.cells #[.int .i64 0, .int .i64 0, .slice none 0 0] 27)
    have hb0 := hb0.alloc (show w.heap.size ≤ (w.alloc (.cells #[.int .i64 (all : Nat), .int .i64 (each : Nat), .slice A n c] 27)).heap.size by omega) (.cells #[.int .i64 0, .int .i64 0, .slice none 0 0] 27)
    have hz2 : ((w.alloc (.cells #[.int .i64 (all : Nat), .int .i64 (each : Nat), .slice A n c] 27)).alloc (.cells #[.int .i64 0, .int .i64 0, .slice none 0 0] 27)).heap.size = w.heap.size + 2 := by simp
    have K0 := Lib.hid hk0
    have K1 := Lib.hid hk1
    have B0 := Lib.hid hb0
    have HZ := Lib.hid hz2
    clear hk0 hb0 hk1 hz1 hz2
    generalize (w.alloc (.cells #[.int .i64 (all : Nat), .int .i64 (each : Nat), .slice A n c] 27)).alloc (.cells #[.int .i64 0, .int .i64 0, .slice none 0 0] 27) = w1 at K0 K1 B0 HZ ⊢
    obtain ⟨kA, kE, kL⟩ := ptc3 K0.out
    obtain ⟨z0, z1, z2⟩ := ptc3 K1.out
    have f0 := K1.out.frozen 0
    have f1 := K1.out.frozen 1
    have f2 := K1.out.frozen 2
    go_wp2_with fail
    have K8 := pt3 (.int .i64 (all : Nat)) (.int .i64 (each : Nat)) (.slice A n c) K1.out
    have S8 := pts3 (.int .i64 (all : Nat)) (.int .i64 (each : Nat)) (.slice A n c) (w := w1) (T := w.heap.size + 1)
    unfold ptw3 at K8 S8
    obtain ⟨q0, q1, q2⟩ := ptc3 K8
    refine bodyPost_ret (v := .tuple #[.agg #[.int .i64 (all : Nat), .int .i64 (each : Nat), .slice A n c], .bool false]) (by simp [results, Try.results11, go_sem, q0, q1, q2]) rfl ?_
    rw [HOK.out, HTL.out]
    exact ⟨A, n, c, rfl, (HR.out.into B0.out).solo S8 (HR.out.old (w' := w) (g := w.heap.size + 1) (by omega)), B0.out.trans (S8.1.mono (show w.heap.size ≤ w.heap.size + 1 by omega))⟩
  obtain ⟨m, rfl⟩ : ∃ m : Nat, k = (m : Int) := ⟨k.toNat, by omega⟩
  by_cases h1 : v < m
  · have h1' : (v : Int) < (m : Int) := by omega
    have HOK := Lib.hid (show mvOK each L a b (m : Int) = false from decide_eq_false (by rw [← HV.out, ← HX.out]; omega))
    have HTL := Lib.hid (show mvL each L a b (m : Int) = L by unfold mvL; rw [HOK.out]; rfl)
    go_enter Try.func11, Try.ntmps11
    go_upto_region 1 with fail
    have hb0 := (Below.refl w.heap.size w).alloc (Nat.le_refl _) (.cells #[.int .i64 (all : Nat), .int .i64 (each : Nat), .slice A n c] 27)
    have hk0 := Blk.new w 27 #[.int .i64 (all : Nat), .int .i64 (each : Nat), .slice A n c]
    have hz1 : (w.alloc (.cells #[.int .i64 (all : Nat), .int .i64 (each : Nat), .slice A n c] 27)).heap.size = w.heap.size + 1 := by simp
    have hk1 := Blk.new (w.alloc (.cells #[.int .i64 (all : Nat), .int .i64 (each : Nat), .slice A n c] 27)) 27 #[.int .i64 0, .int .i64 0, .slice none 0 0]
    rw [hz1] at hk1
    have hk0 := hk0.alloc (.cells #[.int .i64 0, .int .i64 0, .slice none 0 0] 27)
    have hb0 := hb0.alloc (show w.heap.size ≤ (w.alloc (.cells #[.int .i64 (all : Nat), .int .i64 (each : Nat), .slice A n c] 27)).heap.size by omega) (.cells #[.int .i64 0, .int .i64 0, .slice none 0 0] 27)
    have hz2 : ((w.alloc (.cells #[.int .i64 (all : Nat), .int .i64 (each : Nat), .slice A n c] 27)).alloc (.cells #[.int .i64 0, .int .i64 0, .slice none 0 0] 27)).heap.size = w.heap.size + 2 := by simp
    have K0 := Lib.hid hk0
    have K1 := Lib.hid hk1
    have B0 := Lib.hid hb0
    have HZ := Lib.hid hz2
    clear hk0 hb0 hk1 hz1 hz2
    generalize (w.alloc (.cells #[.int .i64 (all : Nat), .int .i64 (each : Nat), .slice A n c] 27)).alloc (.cells #[.int .i64 0, .int .i64 0, .slice none 0 0] 27) = w1 at K0 K1 B0 HZ ⊢
    obtain ⟨kA, kE, kL⟩ := ptc3 K0.out
    go_wp2_with fail
    refine (CA.out _ B0.out).mono ?_
    rintro e w2 ⟨rfl, hb3⟩
    have B2 := Lib.hid (B0.out.trans (hb3.mono B0.out.size))
    have K5 := Lib.hid (K0.out.below hb3 K0.out.lt)
    have K6 := Lib.hid (K1.out.below hb3 K1.out.lt)
    have H2Z := Lib.hid (show w.heap.size + 2 ≤ w2.heap.size by have := HZ.out; have := hb3.size; omega)
    clear hb3 kA kE kL
    obtain ⟨kA, kE, kL⟩ := ptc3 K5.out
    obtain ⟨z0, z1, z2⟩ := ptc3 K6.out
    have f0 := K6.out.frozen 0
    have f1 := K6.out.frozen 1
    have f2 := K6.out.frozen 2
    go_wp2_with fail
    have K8 := pt3 (.int .i64 (all : Nat)) (.int .i64 (each : Nat)) (.slice A n c) K6.out
    have S8 := pts3 (.int .i64 (all : Nat)) (.int .i64 (each : Nat)) (.slice A n c) (w := w2) (T := w.heap.size + 1)
    unfold ptw3 at K8 S8
    obtain ⟨q0, q1, q2⟩ := ptc3 K8
    refine bodyPost_ret (v := .tuple #[.agg #[.int .i64 (all : Nat), .int .i64 (each : Nat), .slice A n c], .bool false]) (by simp [results, Try.results11, go_sem, q0, q1, q2]) rfl ?_
    rw [HOK.out, HTL.out]
    exact ⟨A, n, c, rfl, (HR.out.into B2.out).solo S8 (HR.out.old (w' := w) (g := w.heap.size + 1) (by omega)), B2.out.trans (S8.1.mono (show w.heap.size ≤ w.heap.size + 1 by omega))⟩
  have h1' : ¬ (v : Int) < (m : Int) := by omega
  by_cases hab : a = b
  · subst hab
    have HOK := Lib.hid (show mvOK each L a a (m : Int) = true from decide_eq_true (by rw [← HV.out]; omega))
    have HTL := Lib.hid (show mvL each L a a (m : Int) = L by unfold mvL; rw [HOK.out, if_pos rfl, if_pos rfl])
    go_enter Try.func11, Try.ntmps11
    go_upto_region 1 with fail
    have hb0 := (Below.refl w.heap.size w).alloc (Nat.le_refl _) (.cells #[.int .i64 (all : Nat), .int .i64 (each : Nat), .slice A n c] 27)
    have hk0 := Blk.new w 27 #[.int .i64 (all : Nat), .int .i64 (each : Nat), .slice A n c]
    have hz1 : (w.alloc (.cells #[.int .i64 (all : Nat), .int .i64 (each : Nat), .slice A n c] 27)).heap.size = w.heap.size + 1 := by simp
    have hk1 := Blk.new (w.alloc (.cells #[.int .i64 (all : Nat), .int .i64 (each : Nat), .slice A n c] 27)) 27 #[.int .i64 0, .int .i64 0, .slice none 0 0]
    rw [hz1] at hk1
    have hk0 := hk0.alloc (.cells #[.int .i64 0, .int .i64 0, .slice none 0 0] 27)
    have hb0 := hb0.alloc (show w.heap.size ≤ (w.alloc (.cells #[.int .i64 (all : Nat), .int .i64 (each : Nat), .slice A n c] 27)).heap.size by omega) (.cells #[.int .i64 0, .int .i64 0, .slice none 0 0] 27)
    have hz2 : ((w.alloc (.cells #[.int .i64 (all : Nat), .int .i64 (each : Nat), .slice A n c] 27)).alloc (.cells #[.int .i64 0, .int .i64 0, .slice none 0 0] 27)).heap.size = w.heap.size + 2 := by simp
    have K0 := Lib.hid hk0
    have K1 := Lib.hid hk1
    have B0 := Lib.hid hb0
    have HZ := Lib.hid hz2
    clear hk0 hb0 hk1 hz1 hz2
    generalize (w.alloc (.cells #[.int .i64 (all : Nat), .int .i64 (each : Nat), .slice A n c] 27)).alloc (.cells #[.int .i64 0, .int .i64 0, .slice none 0 0] 27) = w1 at K0 K1 B0 HZ ⊢
    obtain ⟨kA, kE, kL⟩ := ptc3 K0.out
    go_wp2_with fail
    refine (CA.out _ B0.out).mono ?_
    rintro e w2 ⟨rfl, hb3⟩
    have B2 := Lib.hid (B0.out.trans (hb3.mono B0.out.size))
    have K5 := Lib.hid (K0.out.below hb3 K0.out.lt)
    have K6 := Lib.hid (K1.out.below hb3 K1.out.lt)
    have H2Z := Lib.hid (show w.heap.size + 2 ≤ w2.heap.size by have := HZ.out; have := hb3.size; omega)
    clear hb3 kA kE kL
    obtain ⟨kA, kE, kL⟩ := ptc3 K5.out
    obtain ⟨z0, z1, z2⟩ := ptc3 K6.out
    have f0 := K6.out.frozen 0
    have f1 := K6.out.frozen 1
    have f2 := K6.out.frozen 2
    go_wp2_with fail
    have K8 := pt3 (.int .i64 (all : Nat)) (.int .i64 (each : Nat)) (.slice A n c) K6.out
    have S8 := pts3 (.int .i64 (all : Nat)) (.int .i64 (each : Nat)) (.slice A n c) (w := w2) (T := w.heap.size + 1)
    unfold ptw3 at K8 S8
    obtain ⟨q0, q1, q2⟩ := ptc3 K8
    refine bodyPost_ret (v := .tuple #[.agg #[.int .i64 (all : Nat), .int .i64 (each : Nat), .slice A n c], .bool true]) (by simp [results, Try.results11, go_sem, q0, q1, q2]) rfl ?_
    rw [HOK.out, HTL.out]
    exact ⟨A, n, c, rfl, (HR.out.into B2.out).solo S8 (HR.out.old (w' := w) (g := w.heap.size + 1) (by omega)), B2.out.trans (S8.1.mono (show w.heap.size ≤ w.heap.size + 1 by omega))⟩
  by_cases h2 : d < m
  · have h2' : (d : Int) < (m : Int) := by omega
    have HOK := Lib.hid (show mvOK each L a b (m : Int) = false from decide_eq_false (by rw [← HV.out, ← HX.out]; have := HD.out; have := hx1'.out; rintro ⟨q1, q2, q3⟩; rcases q3 with q3 | q3; exact hab q3; omega))
    have HTL := Lib.hid (show mvL each L a b (m : Int) = L by unfold mvL; rw [HOK.out]; rfl)
    go_enter Try.func11, Try.ntmps11
    go_upto_region 1 with fail
    have hb0 := (Below.refl w.heap.size w).alloc (Nat.le_refl _) (.cells #[.int .i64 (all : Nat), .int .i64 (each : Nat), .slice A n c] 27)
    have hk0 := Blk.new w 27 #[.int .i64 (all : Nat), .int .i64 (each : Nat), .slice A n c]
    have hz1 : (w.alloc (.cells #[.int .i64 (all : Nat), .int .i64 (each : Nat), .slice A n c] 27)).heap.size = w.heap.size + 1 := by simp
    have hk1 := Blk.new (w.alloc (.cells #[.int .i64 (all : Nat), .int .i64 (each : Nat), .slice A n c] 27)) 27 #[.int .i64 0, .int .i64 0, .slice none 0 0]
    rw [hz1] at hk1
    have hk0 := hk0.alloc (.cells #[.int .i64 0, .int .i64 0, .slice none 0 0] 27)
    have hb0 := hb0.alloc (show w.heap.size ≤ (w.alloc (.cells #[.int .i64 (all : Nat), .int .i64 (each : Nat), .slice A n c] 27)).heap.size by omega) (.cells #[.int .i64 0, .int .i64 0, .slice none 0 0] 27)
    have hz2 : ((w.alloc (.cells #[.int .i64 (all : Nat), .int .i64 (each : Nat), .slice A n c] 27)).alloc (.cells #[.int .i64 0, .int .i64 0, .slice none 0 0] 27)).heap.size = w.heap.size + 2 := by simp
    have K0 := Lib.hid hk0
    have K1 := Lib.hid hk1
    have B0 := Lib.hid hb0
    have HZ := Lib.hid hz2
    clear hk0 hb0 hk1 hz1 hz2
    generalize (w.alloc (.cells #[.int .i64 (all : Nat), .int .i64 (each : Nat), .slice A n c] 27)).alloc (.cells #[.int .i64 0, .int .i64 0, .slice none 0 0] 27) = w1 at K0 K1 B0 HZ ⊢
    obtain ⟨kA, kE, kL⟩ := ptc3 K0.out
    go_wp2_with fail
    refine (CA.out _ B0.out).mono ?_
    rintro e w2 ⟨rfl, hb3⟩
    have B2 := Lib.hid (B0.out.trans (hb3.mono B0.out.size))
    have K5 := Lib.hid (K0.out.below hb3 K0.out.lt)
    have K6 := Lib.hid (K1.out.below hb3 K1.out.lt)
    have H2Z := Lib.hid (show w.heap.size + 2 ≤ w2.heap.size by have := HZ.out; have := hb3.size; omega)
    clear hb3 kA kE kL
    obtain ⟨kA, kE, kL⟩ := ptc3 K5.out
    have CX2 := Lib.hid (fun w' (hb : Below w2.heap.size w2 w') => CX.out w' (B2.out.trans (hb.mono B2.out.size)))
    go_upto_region 5 with fail
    refine wp_ext (by kernel_rfl) (by kernel_rfl) (fun QQ hQ => ?_)
    iterate 3 (first | (refine x_skip (by rfl) ?_; simp only [Act.put, List.setIfInBounds_toArray, List.set_cons_zero, List.set_cons_succ]) | (first | (refine x_load _ (by rfl) rfl rfl (by assumption) (by kernel_rfl) ?_; simp only [Act.put, List.setIfInBounds_toArray, List.set_cons_zero, List.set_cons_succ]) | (refine x_val (v := ?_) (by rfl) (fun w' hx => ?_) ?_; rotate_left; (focus (go_simp; (try with_reducible rfl))); (try simp only [Act.put, List.setIfInBounds_toArray, List.set_cons_zero, List.set_cons_succ]))))
    refine x_loads _ [.int .i64 (all : Nat), .int .i64 (each : Nat), .slice A n c] (by rfl) rfl rfl (K5.out.loads 0 _ (by rfl)) (Nat.succ_pos _) (by kernel_rfl) (by kernel_rfl) ?_; simp only [Act.put, List.setIfInBounds_toArray, List.set_cons_zero, List.set_cons_succ]
    iterate 1 (first | (refine x_skip (by rfl) ?_; simp only [Act.put, List.setIfInBounds_toArray, List.set_cons_zero, List.set_cons_succ]) | (first | (refine x_load _ (by rfl) rfl rfl (by assumption) (by kernel_rfl) ?_; simp only [Act.put, List.setIfInBounds_toArray, List.set_cons_zero, List.set_cons_succ]) | (refine x_val (v := ?_) (by rfl) (fun w' hx => ?_) ?_; rotate_left; (focus (go_simp; (try with_reducible rfl))); (try simp only [Act.put, List.setIfInBounds_toArray, List.set_cons_zero, List.set_cons_succ]))))
    refine x_call (by rfl) (fun w' hx => by go_simp) (fun w' hx => CX2.out w' hx) ?_; simp only [Act.put, List.setIfInBounds_toArray, List.set_cons_zero, List.set_cons_succ]
    refine x_val (v := .int .i64 (d : Nat)) (by rfl) (fun w' hx => by go_simp; (try simp only [hdi, hwd]); (try with_reducible rfl)) ?_
    (try simp only [Act.put, List.setIfInBounds_toArray, List.set_cons_zero, List.set_cons_succ])
    iterate 1 (first | (refine x_skip (by rfl) ?_; simp only [Act.put, List.setIfInBounds_toArray, List.set_cons_zero, List.set_cons_succ]) | (first | (refine x_load _ (by rfl) rfl rfl (by assumption) (by kernel_rfl) ?_; simp only [Act.put, List.setIfInBounds_toArray, List.set_cons_zero, List.set_cons_succ]) | (refine x_val (v := ?_) (by rfl) (fun w' hx => ?_) ?_; rotate_left; (focus (go_simp; (try with_reducible rfl))); (try simp only [Act.put, List.setIfInBounds_toArray, List.set_cons_zero, List.set_cons_succ]))))
    refine x_nil (hQ.out _ ?_); clear hQ QQ
    intro w3 hb9
    have B3 := Lib.hid (B2.out.trans (hb9.mono B2.out.size))
    have K7 := Lib.hid (K5.out.below hb9 K5.out.lt)
    have K8 := Lib.hid (K6.out.below hb9 K6.out.lt)
    have H3Z := Lib.hid (show w.heap.size + 2 ≤ w3.heap.size by have := H2Z.out; have := hb9.size; omega)
    clear hb9 kA kE kL K5 K6
    have K5 := K7
    have K6 := K8
    clear K7 K8
    obtain ⟨kA, kE, kL⟩ := ptc3 K5.out
    obtain ⟨z0, z1, z2⟩ := ptc3 K6.out
    have f0 := K6.out.frozen 0
    have f1 := K6.out.frozen 1
    have f2 := K6.out.frozen 2
    go_wp2_with fail
    have K8 := pt3 (.int .i64 (all : Nat)) (.int .i64 (each : Nat)) (.slice A n c) K6.out
    have S8 := pts3 (.int .i64 (all : Nat)) (.int .i64 (each : Nat)) (.slice A n c) (w := w3) (T := w.heap.size + 1)
    unfold ptw3 at K8 S8
    obtain ⟨q0, q1, q2⟩ := ptc3 K8
    refine bodyPost_ret (v := .tuple #[.agg #[.int .i64 (all : Nat), .int .i64 (each : Nat), .slice A n c], .bool false]) (by simp [results, Try.results11, go_sem, q0, q1, q2]) rfl ?_
    rw [HOK.out, HTL.out]
    exact ⟨A, n, c, rfl, (HR.out.into B3.out).solo S8 (HR.out.old (w' := w) (g := w.heap.size + 1) (by omega)), B3.out.trans (S8.1.mono (show w.heap.size ≤ w.heap.size + 1 by omega))⟩
  · have h2' : ¬ (d : Int) < (m : Int) := by omega
    have HOK := Lib.hid (show mvOK each L a b (m : Int) = true from decide_eq_true (by rw [← HV.out, ← HX.out]; have := HD.out; have := hx1'.out; omega))
    obtain ⟨t, ht⟩ : ∃ t, t = v - m := ⟨_, rfl⟩
    obtain ⟨y, hy⟩ : ∃ y, y = x + m := ⟨_, rfl⟩
    have HTL := Lib.hid (show mvL each L a b (m : Int) = setQ (setQ L a t) b y by unfold mvL; rw [HOK.out, if_pos rfl, if_neg hab, ht, hy, HV.out, HX.out]; rfl)
    have hti : (v : Int) - (m : Int) = (t : Nat) := by omega
    have hwt : IntKind.i64.wrap (t : Int) = (t : Nat) := by rw [IntKind.wrap_i64]; omega
    have hyi : (x : Int) + (m : Int) = (y : Nat) := by omega
    have hwy : IntKind.i64.wrap (y : Int) = (y : Nat) := by rw [IntKind.wrap_i64]; omega
    clear ht hy
    go_enter Try.func11, Try.ntmps11
    go_upto_region 1 with fail
    have hb0 := (Below.refl w.heap.size w).alloc (Nat.le_refl _) (.cells #[.int .i64 (all : Nat), .int .i64 (each : Nat), .slice A n c] 27)
    have hk0 := Blk.new w 27 #[.int .i64 (all : Nat), .int .i64 (each : Nat), .slice A n c]
    have hz1 : (w.alloc (.cells #[.int .i64 (all : Nat), .int .i64 (each : Nat), .slice A n c] 27)).heap.size = w.heap.size + 1 := by simp
    have hk1 := Blk.new (w.alloc (.cells #[.int .i64 (all : Nat), .int .i64 (each : Nat), .slice A n c] 27)) 27 #[.int .i64 0, .int .i64 0, .slice none 0 0]
    rw [hz1] at hk1
    have hk0 := hk0.alloc (.cells #[.int .i64 0, .int .i64 0, .slice none 0 0] 27)
    have hb0 := hb0.alloc (show w.heap.size ≤ (w.alloc (.cells #[.int .i64 (all : Nat), .int .i64 (each : Nat), .slice A n c] 27)).heap.size by omega) (.cells #[.int .i64 0, .int .i64 0, .slice none 0 0] 27)
    have hz2 : ((w.alloc (.cells #[.int .i64 (all : Nat), .int .i64 (each : Nat), .slice A n c] 27)).alloc (.cells #[.int .i64 0, .int .i64 0, .slice none 0 0] 27)).heap.size = w.heap.size + 2 := by simp
    have K0 := Lib.hid hk0
    have K1 := Lib.hid hk1
    have B0 := Lib.hid hb0
    have HZ := Lib.hid hz2
    clear hk0 hb0 hk1 hz1 hz2
    generalize (w.alloc (.cells #[.int .i64 (all : Nat), .int .i64 (each : Nat), .slice A n c] 27)).alloc (.cells #[.int .i64 0, .int .i64 0, .slice none 0 0] 27) = w1 at K0 K1 B0 HZ ⊢
    obtain ⟨kA, kE, kL⟩ := ptc3 K0.out
    go_wp2_with fail
    refine (CA.out _ B0.out).mono ?_
    rintro e w2 ⟨rfl, hb3⟩
    have B2 := Lib.hid (B0.out.trans (hb3.mono B0.out.size))
    have K5 := Lib.hid (K0.out.below hb3 K0.out.lt)
    have K6 := Lib.hid (K1.out.below hb3 K1.out.lt)
    have H2Z := Lib.hid (show w.heap.size + 2 ≤ w2.heap.size by have := HZ.out; have := hb3.size; omega)
    clear hb3 kA kE kL
    obtain ⟨kA, kE, kL⟩ := ptc3 K5.out
    have CX2 := Lib.hid (fun w' (hb : Below w2.heap.size w2 w') => CX.out w' (B2.out.trans (hb.mono B2.out.size)))
    go_upto_region 5 with fail
    refine wp_ext (by kernel_rfl) (by kernel_rfl) (fun QQ hQ => ?_)
    iterate 3 (first | (refine x_skip (by rfl) ?_; simp only [Act.put, List.setIfInBounds_toArray, List.set_cons_zero, List.set_cons_succ]) | (first | (refine x_load _ (by rfl) rfl rfl (by assumption) (by kernel_rfl) ?_; simp only [Act.put, List.setIfInBounds_toArray, List.set_cons_zero, List.set_cons_succ]) | (refine x_val (v := ?_) (by rfl) (fun w' hx => ?_) ?_; rotate_left; (focus (go_simp; (try with_reducible rfl))); (try simp only [Act.put, List.setIfInBounds_toArray, List.set_cons_zero, List.set_cons_succ]))))
    refine x_loads _ [.int .i64 (all : Nat), .int .i64 (each : Nat), .slice A n c] (by rfl) rfl rfl (K5.out.loads 0 _ (by rfl)) (Nat.succ_pos _) (by kernel_rfl) (by kernel_rfl) ?_; simp only [Act.put, List.setIfInBounds_toArray, List.set_cons_zero, List.set_cons_succ]
    iterate 1 (first | (refine x_skip (by rfl) ?_; simp only [Act.put, List.setIfInBounds_toArray, List.set_cons_zero, List.set_cons_succ]) | (first | (refine x_load _ (by rfl) rfl rfl (by assumption) (by kernel_rfl) ?_; simp only [Act.put, List.setIfInBounds_toArray, List.set_cons_zero, List.set_cons_succ]) | (refine x_val (v := ?_) (by rfl) (fun w' hx => ?_) ?_; rotate_left; (focus (go_simp; (try with_reducible rfl))); (try simp only [Act.put, List.setIfInBounds_toArray, List.set_cons_zero, List.set_cons_succ]))))
    refine x_call (by rfl) (fun w' hx => by go_simp) (fun w' hx => CX2.out w' hx) ?_; simp only [Act.put, List.setIfInBounds_toArray, List.set_cons_zero, List.set_cons_succ]
    refine x_val (v := .int .i64 (d : Nat)) (by rfl) (fun w' hx => by go_simp; (try simp only [hdi, hwd]); (try with_reducible rfl)) ?_
    (try simp only [Act.put, List.setIfInBounds_toArray, List.set_cons_zero, List.set_cons_succ])
    iterate 1 (first | (refine x_skip (by rfl) ?_; simp only [Act.put, List.setIfInBounds_toArray, List.set_cons_zero, List.set_cons_succ]) | (first | (refine x_load _ (by rfl) rfl rfl (by assumption) (by kernel_rfl) ?_; simp only [Act.put, List.setIfInBounds_toArray, List.set_cons_zero, List.set_cons_succ]) | (refine x_val (v := ?_) (by rfl) (fun w' hx => ?_) ?_; rotate_left; (focus (go_simp; (try with_reducible rfl))); (try simp only [Act.put, List.setIfInBounds_toArray, List.set_cons_zero, List.set_cons_succ]))))
    refine x_nil (hQ.out _ ?_); clear hQ QQ
    intro w3 hb9
    have B3 := Lib.hid (B2.out.trans (hb9.mono B2.out.size))
    have K7 := Lib.hid (K5.out.below hb9 K5.out.lt)
    have K8 := Lib.hid (K6.out.below hb9 K6.out.lt)
    have H3Z := Lib.hid (show w.heap.size + 2 ≤ w3.heap.size by have := H2Z.out; have := hb9.size; omega)
    clear hb9 kA kE kL K5 K6
    have K5 := K7
    have K6 := K8
    clear K7 K8
    obtain ⟨kA, kE, kL⟩ := ptc3 K5.out
    have CA3 := Lib.hid (fun w' (hb : Below w3.heap.size w3 w') => CA.out w' (B3.out.trans (hb.mono B3.out.size)))
    go_upto_region 7 with fail
    clear kA kE kL
    refine GH.wp_ghl2 (M := false) 7 ((GH.SP.eq (.agg #[.int .i64 (all : Nat), .int .i64 (each : Nat), .slice A n c])) :: (GH.SP.eq (.int .i64 a)) :: (GH.SP.eq (.agg #[.int .i64 (all : Nat), .int .i64 (each : Nat), .slice A n c])) :: (GH.SP.eq (.int .i64 a)) :: (GH.SP.eq (.int .i64 (v : Nat))) :: (GH.SP.eq (.int .i64 (m : Nat))) :: (GH.SP.eq (.int .i64 (t : Nat))) :: []) (none :: none :: none :: none :: none :: none :: none :: none :: none :: none :: none :: none :: none :: none :: none :: none :: none :: none :: none :: none :: none :: none :: none :: none :: none :: none :: none :: none :: none :: none :: none :: none :: none :: (some 0) :: (some 1) :: (some 2) :: (some 3) :: (some 4) :: (some 5) :: (some 6) :: none :: none :: none :: none :: none :: none :: none :: none :: none :: []) [33, 34, 35, 36, 37, 38, 39] (by rfl) (by kernel_rfl) (by kernel_rfl) ?_ ?_ ?_
    · intro S jx v hjx
      match jx, hjx with
      | 0, _ => rfl
      | 1, _ => rfl
      | 2, _ => rfl
      | 3, _ => rfl
      | 4, _ => rfl
      | 5, _ => rfl
      | 6, _ => rfl
      | nx + 7, hjx => omega
    · intro jx hjx S w' hb hd
      match jx, hjx, hd with
      | 0, _, hd =>
        simp only [GH.mkL, List.getD_cons_succ, List.getD_cons_zero]
        clear hd
        exact GH.st_loads _ [.int .i64 (all : Nat), .int .i64 (each : Nat), .slice A n c] (by rfl) rfl rfl (((K5.out.below hb.below K5.out.lt)).loads 0 _ (by rfl)) (by kernel_rfl) (by kernel_rfl)
      | 1, _, hd =>
        simp only [GH.mkL, List.getD_cons_succ, List.getD_cons_zero]
        clear hd
        refine GH.st_eq (by rfl) ?_
        go_simp
        (try with_reducible rfl)
      | 2, _, hd =>
        simp only [GH.mkL, List.getD_cons_succ, List.getD_cons_zero]
        clear hd
        exact GH.st_loads _ [.int .i64 (all : Nat), .int .i64 (each : Nat), .slice A n c] (by rfl) rfl rfl (((K5.out.below hb.below K5.out.lt)).loads 0 _ (by rfl)) (by kernel_rfl) (by kernel_rfl)
      | 3, _, hd =>
        simp only [GH.mkL, List.getD_cons_succ, List.getD_cons_zero]
        clear hd
        refine GH.st_eq (by rfl) ?_
        go_simp
        (try with_reducible rfl)
      | 4, _, hd =>
        simp only [GH.mkL, List.getD_cons_succ, List.getD_cons_zero]
        have d2 : S 2 = .agg #[.int .i64 (all : Nat), .int .i64 (each : Nat), .slice A n c] := (hd 2 (by kernel_rfl)).2
        rw [d2]
        clear d2
        have d3 : S 3 = .int .i64 a := (hd 3 (by kernel_rfl)).2
        rw [d3]
        clear d3
        clear hd
        refine GH.st_call (by rfl) hb.below.size (by go_simp) ((CA3.out w' hb.below).mono ?_)
        rintro e w9 ⟨rfl, hb9⟩
        exact ⟨_, rfl, hb9, rfl⟩
      | 5, _, hd =>
        simp only [GH.mkL, List.getD_cons_succ, List.getD_cons_zero]
        clear hd
        refine GH.st_eq (by rfl) ?_
        go_simp
        (try with_reducible rfl)
      | 6, _, hd =>
        simp only [GH.mkL, List.getD_cons_succ, List.getD_cons_zero]
        have d4 : S 4 = .int .i64 (v : Nat) := (hd 4 (by kernel_rfl)).2
        rw [d4]
        clear d4
        have d5 : S 5 = .int .i64 (m : Nat) := (hd 5 (by kernel_rfl)).2
        rw [d5]
        clear d5
        clear hd
        refine GH.st_eq (by rfl) ?_
        go_simp
        (try simp only [hti, hwt])
        (try with_reducible rfl)
      | nx + 7, hjx, _ => omega
    intro S w' hb hG
    simp only [GH.mkL, List.drop_succ_cons, List.drop_zero]
    have d0 : S 0 = .agg #[.int .i64 (all : Nat), .int .i64 (each : Nat), .slice A n c] := hG 0 (by omega)
    rw [d0]
    clear d0
    have d1 : S 1 = .int .i64 a := hG 1 (by omega)
    rw [d1]
    clear d1
    have d6 : S 6 = .int .i64 (t : Nat) := hG 6 (by omega)
    rw [d6]
    clear d6
    clear hG
    have B4 := Lib.hid (B3.out.trans (hb.below.mono B3.out.size))
    have K7 := Lib.hid (K5.out.below hb.below K5.out.lt)
    have K8 := Lib.hid (K6.out.below hb.below K6.out.lt)
    have H4Z := Lib.hid (show w.heap.size + 2 ≤ w'.heap.size by have := H3Z.out; have := hb.below.size; omega)
    clear hb K5 K6
    have K5 := K7
    have K6 := K8
    clear K7 K8
    go_wp2_with fail
    refine (CS.out t _ B4.out).mono ?_
    rintro e w5 ⟨A2, n2, c2, rfl, hR2, hF2, hb5⟩
    have F5 := Lib.hid hF2
    have B5 := Lib.hid (B4.out.trans (hb5.mono B4.out.size))
    have K7 := Lib.hid (K5.out.below hb5 K5.out.lt)
    have K8 := Lib.hid (K6.out.below hb5 K6.out.lt)
    have H5Z := Lib.hid (show w.heap.size + 2 ≤ w5.heap.size by have := H4Z.out; have := hb5.size; omega)
    have R5 := Lib.hid hR2
    clear hR2 hF2 hb5 K5 K6
    have K5 := K7
    have K6 := K8
    clear K7 K8
    obtain ⟨z0, z1, z2⟩ := ptc3 K5.out
    have f0 := K5.out.frozen 0
    have f1 := K5.out.frozen 1
    have f2 := K5.out.frozen 2
    go_upto_region 8 with fail
    clear z0 z1 z2 f0 f1 f2
    have K9 := Lib.hid (pt3 (.int .i64 (all : Nat)) (.int .i64 (each : Nat)) (.slice A2 n2 c2) K5.out)
    have S9 := Lib.hid (pts3 (.int .i64 (all : Nat)) (.int .i64 (each : Nat)) (.slice A2 n2 c2) (w := w5) (T := w.heap.size))
    have e9 : ptw3 w5 w.heap.size (.int .i64 (all : Nat)) (.int .i64 (each : Nat)) (.slice A2 n2 c2) = ((w5.setCell ⟨w.heap.size, 0, none⟩ (.int .i64 (all : Nat))).setCell ⟨w.heap.size, 1, none⟩ (.int .i64 (each : Nat))).setCell ⟨w.heap.size, 2, none⟩ (.slice A2 n2 c2) := rfl
    rw [e9] at K9 S9
    clear e9
    generalize ((w5.setCell ⟨w.heap.size, 0, none⟩ (.int .i64 (all : Nat))).setCell ⟨w.heap.size, 1, none⟩ (.int .i64 (each : Nat))).setCell ⟨w.heap.size, 2, none⟩ (.slice A2 n2 c2) = w6 at K9 S9 ⊢
    have R6 := Lib.hid (R5.out.solo S9.out (fun a ha _ e => by have := F5.out a ha; have := H4Z.out; omega))
    have K7 := Lib.hid (S9.out.blk K6.out (by omega))
    have B6 := Lib.hid (B5.out.trans S9.out.1)
    have H6Z := Lib.hid (show w.heap.size + 2 ≤ w6.heap.size by have := H5Z.out; have := S9.out.2.1; omega)
    clear K5 K6 R5
    have K5 := K9
    have K6 := K7
    clear K7 K9
    have CX5 := Lib.hid (fun w' (hb : Below w6.heap.size w6 w') => rq_of all each A2 n2 c2 (setQ L a t) b w' (R6.out.into hb) (HL1.out t))
    have hxe : ofQ (setQ L a t) b = x := by rw [ofQ_setQ, if_neg (fun e => hab e.symm), HX.out]
    rw [hxe] at CX5
    have CS5 := Lib.hid (fun w' (hb : Below w6.heap.size w6 w') => rq_set all each A2 n2 c2 (setQ L a t) b y w' (R6.out.into hb) (HL1.out t))
    unfold RPv at CX5 CS5
    clear hxe
    refine GH.wp_ghl2 (M := false) 7 ((GH.SP.eq (.agg #[.int .i64 (all : Nat), .int .i64 (each : Nat), .slice A2 n2 c2])) :: (GH.SP.eq (.int .i64 b)) :: (GH.SP.eq (.agg #[.int .i64 (all : Nat), .int .i64 (each : Nat), .slice A2 n2 c2])) :: (GH.SP.eq (.int .i64 b)) :: (GH.SP.eq (.int .i64 (x : Nat))) :: (GH.SP.eq (.int .i64 (m : Nat))) :: (GH.SP.eq (.int .i64 (y : Nat))) :: []) (none :: none :: none :: none :: none :: none :: none :: none :: none :: none :: none :: none :: none :: none :: none :: none :: none :: none :: none :: none :: none :: none :: none :: none :: none :: none :: none :: none :: none :: none :: none :: none :: none :: none :: none :: none :: none :: none :: none :: none :: none :: (some 0) :: (some 1) :: (some 2) :: (some 3) :: (some 4) :: (some 5) :: (some 6) :: none :: []) [41, 42, 43, 44, 45, 46, 47] (by rfl) (by kernel_rfl) (by kernel_rfl) ?_ ?_ ?_
    · intro S jx v hjx
      match jx, hjx with
      | 0, _ => rfl
      | 1, _ => rfl
      | 2, _ => rfl
      | 3, _ => rfl
      | 4, _ => rfl
      | 5, _ => rfl
      | 6, _ => rfl
      | nx + 7, hjx => omega
    · intro jx hjx S w' hb hd
      match jx, hjx, hd with
      | 0, _, hd =>
        simp only [GH.mkL, List.getD_cons_succ, List.getD_cons_zero]
        clear hd
        exact GH.st_loads _ [.int .i64 (all : Nat), .int .i64 (each : Nat), .slice A2 n2 c2] (by rfl) rfl rfl (((K5.out.below hb.below K5.out.lt)).loads 0 _ (by rfl)) (by kernel_rfl) (by kernel_rfl)
      | 1, _, hd =>
        simp only [GH.mkL, List.getD_cons_succ, List.getD_cons_zero]
        clear hd
        refine GH.st_eq (by rfl) ?_
        go_simp
        (try with_reducible rfl)
      | 2, _, hd =>
        simp only [GH.mkL, List.getD_cons_succ, List.getD_cons_zero]
        clear hd
        exact GH.st_loads _ [.int .i64 (all : Nat), .int .i64 (each : Nat), .slice A2 n2 c2] (by rfl) rfl rfl (((K5.out.below hb.below K5.out.lt)).loads 0 _ (by rfl)) (by kernel_rfl) (by kernel_rfl)
      | 3, _, hd =>
        simp only [GH.mkL, List.getD_cons_succ, List.getD_cons_zero]
        clear hd
        refine GH.st_eq (by rfl) ?_
        go_simp
        (try with_reducible rfl)
      | 4, _, hd =>
        simp only [GH.mkL, List.getD_cons_succ, List.getD_cons_zero]
        have d2 : S 2 = .agg #[.int .i64 (all : Nat), .int .i64 (each : Nat), .slice A2 n2 c2] := (hd 2 (by kernel_rfl)).2
        rw [d2]
        clear d2
        have d3 : S 3 = .int .i64 b := (hd 3 (by kernel_rfl)).2
        rw [d3]
        clear d3
        clear hd
        refine GH.st_call (by rfl) hb.below.size (by go_simp) ((CX5.out w' hb.below).mono ?_)
        rintro e w9 ⟨rfl, hb9⟩
        exact ⟨_, rfl, hb9, rfl⟩
      | 5, _, hd =>
        simp only [GH.mkL, List.getD_cons_succ, List.getD_cons_zero]
        clear hd
        refine GH.st_eq (by rfl) ?_
        go_simp
        (try with_reducible rfl)
      | 6, _, hd =>
        simp only [GH.mkL, List.getD_cons_succ, List.getD_cons_zero]
        have d4 : S 4 = .int .i64 (x : Nat) := (hd 4 (by kernel_rfl)).2
        rw [d4]
        clear d4
        have d5 : S 5 = .int .i64 (m : Nat) := (hd 5 (by kernel_rfl)).2
        rw [d5]
        clear d5
        clear hd
        refine GH.st_eq (by rfl) ?_
        go_simp
        (try simp only [hyi, hwy])
        (try with_reducible rfl)
      | nx + 7, hjx, _ => omega
    intro S w' hb hG
    simp only [GH.mkL, List.drop_succ_cons, List.drop_zero]
    have d0 : S 0 = .agg #[.int .i64 (all : Nat), .int .i64 (each : Nat), .slice A2 n2 c2] := hG 0 (by omega)
    rw [d0]
    clear d0
    have d1 : S 1 = .int .i64 b := hG 1 (by omega)
    rw [d1]
    clear d1
    have d6 : S 6 = .int .i64 (y : Nat) := hG 6 (by omega)
    rw [d6]
    clear d6
    clear hG
    have B7 := Lib.hid (B6.out.trans (hb.below.mono B6.out.size))
    have HB7 := Lib.hid hb.below
    have K8 := Lib.hid (K6.out.below hb.below K6.out.lt)
    clear hb K6
    have K6 := K8
    clear K8
    go_wp2_with fail
    refine (CS5.out _ HB7.out).mono ?_
    rintro e w8 ⟨A3, n3, c3, rfl, hR3, hF3, hb8⟩
    have R8 := Lib.hid hR3
    have F8 := Lib.hid hF3
    have B8 := Lib.hid (B7.out.trans (hb8.mono B7.out.size))
    have K8 := Lib.hid (K6.out.below hb8 K6.out.lt)
    clear hR3 hF3 hb8 K6
    have K6 := K8
    clear K8
    obtain ⟨z0, z1, z2⟩ := ptc3 K6.out
    have f0 := K6.out.frozen 0
    have f1 := K6.out.frozen 1
    have f2 := K6.out.frozen 2
    go_wp2_with fail
    have K8 := pt3 (.int .i64 (all : Nat)) (.int .i64 (each : Nat)) (.slice A3 n3 c3) K6.out
    have S8 := pts3 (.int .i64 (all : Nat)) (.int .i64 (each : Nat)) (.slice A3 n3 c3) (w := w8) (T := w.heap.size + 1)
    unfold ptw3 at K8 S8
    obtain ⟨q0, q1, q2⟩ := ptc3 K8
    refine bodyPost_ret (v := .tuple #[.agg #[.int .i64 (all : Nat), .int .i64 (each : Nat), .slice A3 n3 c3], .bool true]) (by simp [results, Try.results11, go_sem, q0, q1, q2]) rfl ?_
    rw [HOK.out, HTL.out]
    exact ⟨A3, n3, c3, rfl, R8.out.solo S8 (fun a ha _ e => by have := F8.out a ha; have := H6Z.out; have := HB7.out.size; omega), B8.out.trans (S8.1.mono (by omega))⟩
end Go.Proofs.Ytonindjpbegdgaa
