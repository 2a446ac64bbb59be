/- A row of paths: two parts change their places; a row is turned round. -/
import Derived.Test.YtbimjacceocglaaPl0
namespace Go.Proofs.Ytbimjacceocglaa
open Go.RowKit Go.Sort
set_option linter.unusedVariables false
set_option linter.unusedSimpArgs false
set_option maxRecDepth 20000 in
set_option maxHeartbeats 4000000 in
theorem pl_swap (rb c a b k n cp : Nat) (d : Array Plp) (fv : Value) (w : World) (h : PW w rb c d) (hn : n = d.size) (hab : a + k ≤ b) (hb : b + k ≤ n) (hb2 : n < 4611686018427387904) :
    Calls Try.prog 30 #[.slice (some ⟨rb, 0, none⟩) n cp, .int .i64 (a : Nat), .int .i64 (b : Nat), .int .i64 (k : Nat), fv] w fun e w' => e = .returned (.tuple #[]) ∧ ∃ d', PW w' rb c d' ∧ Tou rb w w' ∧ d'.size = d.size ∧ Xch d d' a b k ∧ PermIn a (b + k) d d' := by
  have S0 := Lib.hid h
  have HN := Lib.hid hn
  have HB2 := Lib.hid hb2
  clear h hn hb2
  go_enter Try.func30, Try.ntmps30
  go_wp2_with fail
  go_loopw [10] (fun iv wr => ∃ (i : Nat) (dk : Array Plp), i ≤ k ∧ iv = .int .i64 (i : Nat) ∧ Hid (PW wr rb c dk) ∧ Hid (Tou rb w wr) ∧ Hid (dk.size = d.size) ∧ Hid (Xch d dk a b i) ∧ Hid (PermIn a (b + k) d dk)) (fun iv wr => k - (intOf iv).toNat)
  case atStart => exact ⟨0, d, Nat.zero_le _, rfl, S0, Lib.hid (Tou.refl _ _), Lib.hid rfl, Lib.hid (Xch.start d a b), Lib.hid (permIn_refl _ _ _)⟩
  case round =>
    clear S0
    obtain ⟨i, dk, hk, rfl, S1, T1, HS, HX, HP⟩ := hrel
    by_cases hlt : i < k
    · have hlt' : (i : Int) < (k : Int) := by omega
      obtain ⟨p, hp⟩ : ∃ p, p = a + i := ⟨_, rfl⟩
      obtain ⟨q, hq⟩ : ∃ q, q = b + i := ⟨_, rfl⟩
      have hpn : p < n := by omega
      have hqn : q < n := by omega
      have IL := Lib.hid (show p < dk.size by rw [HS.out, ← HN.out]; exact hpn)
      have JL := Lib.hid (show q < dk.size by rw [HS.out, ← HN.out]; exact hqn)
      obtain ⟨xi, hxi⟩ : ∃ x, x = dk[p]! := ⟨_, rfl⟩
      obtain ⟨xj, hxj⟩ : ∃ x, x = dk[q]! := ⟨_, rfl⟩
      have JL2 := Lib.hid (show q < (dk.setIfInBounds p xj).size by rw [Array.size_setIfInBounds]; exact JL.out)
      have S2 : Hid (PW wr rb c dk) := S1
      have e1 : IntKind.i64.wrap ((a : Int) + (i : Int)) = (p : Int) := by rw [IntKind.wrap_i64]; have := HB2.out; omega
      have e2 : IntKind.i64.wrap ((b : Int) + (i : Int)) = (q : Int) := by rw [IntKind.wrap_i64]; have := HB2.out; omega
      have p0 : (0 : Int) ≤ (p : Int) := by omega
      have q0 : (0 : Int) ≤ (q : Int) := by omega
      have p1 : (p : Int) < (n : Int) := by omega
      have q1 : (q : Int) < (n : Int) := by omega
      have HPQ := Lib.hid (show p = a + i ∧ q = b + i ∧ i < k from ⟨hp, hq, hlt⟩)
      have HXX := Lib.hid (show xi = dk[p]! ∧ xj = dk[q]! from ⟨hxi, hxj⟩)
      have LI := Lib.hid (show ∀ w2, PW w2 rb c dk → ∀ r v, xi.el[r]? = some v → w2.cell? ⟨rb, p * 7 + r, none⟩ = some v from fun w2 h2 => by rw [hxi]; exact h2.nth IL.out)
      have LJ := Lib.hid (show ∀ w2, PW w2 rb c dk → ∀ r v, xj.el[r]? = some v → w2.cell? ⟨rb, q * 7 + r, none⟩ = some v from fun w2 h2 => by rw [hxj]; exact h2.nth JL.out)
      clear hp hq hpn hqn hxi hxj S1 hlt hk
      go_upto_region 3 with fail
      refine wp_ord [(0, .pure), (1, .pure), (2, .pure), (3, .pure), (4, .pure), (5, .pure), (6, .pure), (7, .pure), (8, .pure), (9, .pure), (10, .pure), (11, .pure), (12, .pure), (13, .read), (14, .pure), (15, .pure), (16, .pure), (17, .pure), (18, .pure), (19, .read), (20, .pure), (21, .sole), (22, .pure), (23, .sole)] [21, 23] (by kernel_rfl) (by kernel_rfl) (fun QQ hQ wd hwd => ?_); simp only [List.map_cons, List.map_nil, List.getD_cons_zero, List.getD_cons_succ]
      have hD : Below wr.heap.size wr wd := by rw [hwd.out]; exact (Below.refl _ _).drew
      have SD := Lib.hid (S2.out.into hD)
      have TD := Lib.hid (T1.out.grow hD (Nat.le_of_lt S2.out.rl))
      clear hD hwd
      (refine o_pure (v := ?_) (by rfl) (fun w' => ?_) ?_; rotate_left; (focus (go_simp; (try with_reducible rfl); (try (rw [if_pos (by omega)]; (try with_reducible rfl))))); (try simp only [Act.put, List.setIfInBounds_toArray, List.set_cons_zero, List.set_cons_succ]))
      (refine o_pure (v := ?_) (by rfl) (fun w' => ?_) ?_; rotate_left; (focus (go_simp; (try with_reducible rfl); (try (rw [if_pos (by omega)]; (try with_reducible rfl))))); (try simp only [Act.put, List.setIfInBounds_toArray, List.set_cons_zero, List.set_cons_succ]))
      (refine o_pure (v := ?_) (by rfl) (fun w' => ?_) ?_; rotate_left; (focus (go_simp; (try with_reducible rfl); (try (rw [if_pos (by omega)]; (try with_reducible rfl))))); (try simp only [Act.put, List.setIfInBounds_toArray, List.set_cons_zero, List.set_cons_succ]))
      (refine o_pure (v := ?_) (by rfl) (fun w' => ?_) ?_; rotate_left; (focus (go_simp; (try with_reducible rfl); (try (rw [if_pos (by omega)]; (try with_reducible rfl))))); (try simp only [Act.put, List.setIfInBounds_toArray, List.set_cons_zero, List.set_cons_succ]))
      (refine o_pure (v := ?_) (by rfl) (fun w' => ?_) ?_; rotate_left; (focus (go_simp; (try with_reducible rfl); (try (rw [if_pos (by omega)]; (try with_reducible rfl))))); (try simp only [Act.put, List.setIfInBounds_toArray, List.set_cons_zero, List.set_cons_succ]))
      (refine o_pure (v := ?_) (by rfl) (fun w' => ?_) ?_; rotate_left; (focus (go_simp; (try with_reducible rfl); (try (rw [if_pos (by omega)]; (try with_reducible rfl))))); (try simp only [Act.put, List.setIfInBounds_toArray, List.set_cons_zero, List.set_cons_succ]))
      (refine o_pure (v := ?_) (by rfl) (fun w' => ?_) ?_; rotate_left; (focus (go_simp; (try with_reducible rfl); (try (rw [if_pos (by omega)]; (try with_reducible rfl))))); (try simp only [Act.put, List.setIfInBounds_toArray, List.set_cons_zero, List.set_cons_succ]))
      (refine o_pure (v := ?_) (by rfl) (fun w' => ?_) ?_; rotate_left; (focus (go_simp; (try with_reducible rfl); (try (rw [if_pos (by omega)]; (try with_reducible rfl))))); (try simp only [Act.put, List.setIfInBounds_toArray, List.set_cons_zero, List.set_cons_succ]))
      (refine o_pure (v := ?_) (by rfl) (fun w' => ?_) ?_; rotate_left; (focus (go_simp; (try with_reducible rfl); (try (rw [if_pos (by omega)]; (try with_reducible rfl))))); (try simp only [Act.put, List.setIfInBounds_toArray, List.set_cons_zero, List.set_cons_succ]))
      (refine o_pure (v := ?_) (by rfl) (fun w' => ?_) ?_; rotate_left; (focus (go_simp; (try with_reducible rfl); (try (rw [if_pos (by omega)]; (try with_reducible rfl))))); (try simp only [Act.put, List.setIfInBounds_toArray, List.set_cons_zero, List.set_cons_succ]))
      (refine o_pure (v := ?_) (by rfl) (fun w' => ?_) ?_; rotate_left; (focus (go_simp; (try with_reducible rfl); (try (rw [if_pos (by omega)]; (try with_reducible rfl))))); (try simp only [Act.put, List.setIfInBounds_toArray, List.set_cons_zero, List.set_cons_succ]))
      (refine o_pure (v := ?_) (by rfl) (fun w' => ?_) ?_; rotate_left; (focus (go_simp; (try with_reducible rfl); (try (rw [if_pos (by omega)]; (try with_reducible rfl))))); (try simp only [Act.put, List.setIfInBounds_toArray, List.set_cons_zero, List.set_cons_succ]))
      (refine o_pure (v := ?_) (by rfl) (fun w' => ?_) ?_; rotate_left; (focus (go_simp; (try with_reducible rfl); (try (rw [if_pos (by omega)]; (try with_reducible rfl))))); (try simp only [Act.put, List.setIfInBounds_toArray, List.set_cons_zero, List.set_cons_succ]))
      (refine o_loads _ [.int .i64 xj.id, .bool xj.may, .bool xj.us, .bool xj.bk, .bool xj.bd, .int .i64 xj.mean, .int .i64 xj.tries] (by rfl) rfl rfl (LJ.out _ SD.out) (Nat.succ_pos _) (by kernel_rfl) (by kernel_rfl) ?_; simp only [Act.put, List.setIfInBounds_toArray, List.set_cons_zero, List.set_cons_succ])
      (refine o_pure (v := ?_) (by rfl) (fun w' => ?_) ?_; rotate_left; (focus (go_simp; (try with_reducible rfl); (try (rw [if_pos (by omega)]; (try with_reducible rfl))))); (try simp only [Act.put, List.setIfInBounds_toArray, List.set_cons_zero, List.set_cons_succ]))
      (refine o_pure (v := ?_) (by rfl) (fun w' => ?_) ?_; rotate_left; (focus (go_simp; (try with_reducible rfl); (try (rw [if_pos (by omega)]; (try with_reducible rfl))))); (try simp only [Act.put, List.setIfInBounds_toArray, List.set_cons_zero, List.set_cons_succ]))
      (refine o_pure (v := ?_) (by rfl) (fun w' => ?_) ?_; rotate_left; (focus (go_simp; (try with_reducible rfl); (try (rw [if_pos (by omega)]; (try with_reducible rfl))))); (try simp only [Act.put, List.setIfInBounds_toArray, List.set_cons_zero, List.set_cons_succ]))
      (refine o_pure (v := ?_) (by rfl) (fun w' => ?_) ?_; rotate_left; (focus (go_simp; (try with_reducible rfl); (try (rw [if_pos (by omega)]; (try with_reducible rfl))))); (try simp only [Act.put, List.setIfInBounds_toArray, List.set_cons_zero, List.set_cons_succ]))
      (refine o_pure (v := ?_) (by rfl) (fun w' => ?_) ?_; rotate_left; (focus (go_simp; (try with_reducible rfl); (try (rw [if_pos (by omega)]; (try with_reducible rfl))))); (try simp only [Act.put, List.setIfInBounds_toArray, List.set_cons_zero, List.set_cons_succ]))
      (refine o_loads _ [.int .i64 xi.id, .bool xi.may, .bool xi.us, .bool xi.bk, .bool xi.bd, .int .i64 xi.mean, .int .i64 xi.tries] (by rfl) rfl rfl (LI.out _ SD.out) (Nat.succ_pos _) (by kernel_rfl) (by kernel_rfl) ?_; simp only [Act.put, List.setIfInBounds_toArray, List.set_cons_zero, List.set_cons_succ])
      (refine o_pure (v := ?_) (by rfl) (fun w' => ?_) ?_; rotate_left; (focus (go_simp; (try with_reducible rfl); (try (rw [if_pos (by omega)]; (try with_reducible rfl))))); (try simp only [Act.put, List.setIfInBounds_toArray, List.set_cons_zero, List.set_cons_succ]))
      refine o_sole (fun K hK => ?_)
      refine pl_store SD.out IL.out xj rfl _ _ rfl rfl rfl (by kernel_rfl) fun w3 h3 s3 => ?_
      refine wpList_nil ?_
      refine hK _ _ (fun h => by cases h) ?_; clear hK K
      have S3 := Lib.hid h3
      have T3 := Lib.hid (TD.out.solo s3)
      clear h3 s3 SD TD
      (refine o_pure (v := ?_) (by rfl) (fun w' => ?_) ?_; rotate_left; (focus (go_simp; (try with_reducible rfl); (try (rw [if_pos (by omega)]; (try with_reducible rfl))))); (try simp only [Act.put, List.setIfInBounds_toArray, List.set_cons_zero, List.set_cons_succ]))
      refine o_sole (fun K hK => ?_)
      refine pl_store S3.out JL2.out xi rfl _ _ rfl rfl rfl (by kernel_rfl) fun w4 h4 s4 => ?_
      refine wpList_nil ?_
      refine hK _ _ (fun h => by cases h) ?_; clear hK K
      have S4 := Lib.hid h4
      have T4 := Lib.hid (T3.out.solo s4)
      clear h4 s4 S3 T3
      refine o_nil (hQ.out _ _ ?_); clear hQ QQ
      have X4 := Lib.hid (show Xch d ((dk.setIfInBounds p xj).setIfInBounds q xi) a b (i + 1) by rw [HXX.out.1, HXX.out.2, HPQ.out.1, HPQ.out.2.1]; exact HX.out.step (by have := HPQ.out.2.2; omega) (by have := JL.out; rw [HPQ.out.2.1] at this; exact this))
      have P4 := Lib.hid (show PermIn a (b + k) d ((dk.setIfInBounds p xj).setIfInBounds q xi) by rw [HXX.out.1, HXX.out.2]; exact permIn_trans _ _ _ _ _ HP.out (swp_permIn dk a (b + k) p q (by have := HPQ.out; omega) (by have := HPQ.out; omega) (by have := HPQ.out; omega) (by have := HPQ.out; omega) (by rw [HS.out, ← HN.out]; exact hb)))
      have Z4 := Lib.hid (show ((dk.setIfInBounds p xj).setIfInBounds q xi).size = d.size by rw [Array.size_setIfInBounds, Array.size_setIfInBounds]; exact HS.out)
      have hik : i + 1 ≤ k := HPQ.out.2.2
      generalize (dk.setIfInBounds p xj).setIfInBounds q xi = d4 at *
      clear e1 e2 p0 q0 p1 q1 LI LJ JL2 JL IL HX HP HS HXX HPQ S2 T1
      have e3 : IntKind.i64.wrap ((i : Int) + 1) = (i : Int) + 1 := by rw [IntKind.wrap_i64]; have := HB2.out; omega
      go_wp2_with fail
      go_roundw
      case rel => exact ⟨i + 1, d4, hik, rfl, S4, T4, Z4, X4, P4⟩
      case measure => simp [intOf]; omega
    · have hlt' : ¬ (i : Int) < (k : Int) := by omega
      have hik : i = k := by omega
      subst hik
      go_wp2_with fail
      go_end0
      exact ⟨rfl, dk, S1.out, T1.out, HS.out, HX.out, HP.out⟩
end Go.Proofs.Ytbimjacceocglaa
