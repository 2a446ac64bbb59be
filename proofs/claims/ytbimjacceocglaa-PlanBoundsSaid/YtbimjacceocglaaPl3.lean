/- A part of a row of paths is sorted by insertion. -/
import Derived.Test.YtbimjacceocglaaPl2
import Derived.Test.YtbimjacceocglaaQx
import Derived.Shelf.SlSortCmp.Insertion
namespace Go.Proofs.Ytbimjacceocglaa
open Go.RowKit Go.Sort
set_option linter.unusedVariables false
set_option linter.unusedSimpArgs false
set_option maxRecDepth 20000 in
set_option maxHeartbeats 4000000 in
theorem pl_ins (rb c a b n cp : Nat) (cf : Plp → Plp → Int) (F : Nat) (hcl : PCL cf F) (hso : SWO (ltOf cf)) (d : Array Plp) (w : World) (h : PW w rb c d) (hn : n = d.size) (hb : b ≤ n) (hb2 : n ≤ 65536) (ha2 : a ≤ n) :
    Calls Try.prog 27 #[.slice (some ⟨rb, 0, none⟩) n cp, .int .i64 (a : Nat), .int .i64 (b : Nat), .func (.func F) #[] #[]] w fun e w' => e = .returned (.tuple #[]) ∧ ∃ d', PW w' rb c d' ∧ Tou rb w w' ∧ d'.size = d.size ∧ PermIn a b d d' ∧ SortedIn (ltOf cf) a b d' := by
  have S0 := Lib.hid h
  have HN := Lib.hid hn
  have HCL := Lib.hid hcl
  have ef := hcl.1
  have HSO := Lib.hid hso
  have HI0 := Lib.hid (show SortedIn (ltOf cf) a (a + 1) d from sorted_none (Nat.le_refl _))
  clear h hn hcl hso
  go_enter Try.func27, Try.ntmps27
  go_wp2_with fail
  go_loopw [8] (fun iv wr => ∃ (i : Nat) (dk : Array Plp), iv = .int .i64 (i : Nat) ∧ (a < i ∧ i ≤ n + 1) ∧ Hid (PW wr rb c dk) ∧ Hid (Tou rb w wr) ∧ Hid (dk.size = d.size) ∧ Hid (SortedIn (ltOf cf) a i dk) ∧ Hid (PermIn a b d dk)) (fun iv _ => n + 1 - (intOf iv).toNat)
  case atStart => exact ⟨a + 1, d, by go_num, ⟨by omega, by omega⟩, S0, Lib.hid (Tou.refl _ _), Lib.hid rfl, HI0, Lib.hid (permIn_refl _ _ _)⟩
  case round =>
    clear S0 HI0
    obtain ⟨i, dk0, rfl, hi, S1, T1, HS, HI, HP⟩ := hrel
    by_cases hlt : i < b
    · have hlt' : (i : Int) < (b : Int) := by omega
      have HJ0 := Lib.hid (InsS.start HI.out)
      clear HI
      go_wp2_with fail
      go_loopw [9] (fun jv wr => ∃ (j : Nat) (dk : Array Plp), jv = .int .i64 (j : Nat) ∧ (a ≤ j ∧ j ≤ i) ∧ Hid (PW wr rb c dk) ∧ Hid (Tou rb w wr) ∧ Hid (dk.size = d.size) ∧ Hid (InsS (ltOf cf) a i j dk) ∧ Hid (PermIn a b d dk)) (fun jv _ => (intOf jv).toNat)
      case atStart => exact ⟨i, dk0, rfl, ⟨by omega, Nat.le_refl _⟩, S1, T1, HS, HJ0, HP⟩
      case round =>
        clear S1 T1 HS HJ0 HP
        obtain ⟨j, dk, rfl, hj, S1, T1, HS, HJ, HP⟩ := hrel
        by_cases hja : a < j
        · obtain ⟨k, rfl⟩ : ∃ k, j = k + 1 := ⟨j - 1, by omega⟩
          obtain ⟨K, hK⟩ : ∃ K, K = k + 1 := ⟨_, rfl⟩
          have hpn : K < n := by omega
          have hqn : k < n := by omega
          rw [← hK] at HJ hj hja ⊢
          have IL := Lib.hid (show K < dk.size by rw [HS.out, ← HN.out]; exact hpn)
          have JL := Lib.hid (show k < dk.size by rw [HS.out, ← HN.out]; exact hqn)
          obtain ⟨xi, hxi⟩ : ∃ x, x = dk[K]! := ⟨_, rfl⟩
          obtain ⟨xj, hxj⟩ : ∃ x, x = dk[k]! := ⟨_, rfl⟩
          have HXX := Lib.hid (show xi = dk[K]! ∧ xj = dk[k]! from ⟨hxi, hxj⟩)
          have LI := Lib.hid (show ∀ w2, PW w2 rb c dk → ∀ r v, xi.el[r]? = some v → w2.cell? ⟨rb, K * 7 + r, none⟩ = some v from fun w2 h2 => by rw [hxi]; exact h2.nth IL.out)
          have LJ := Lib.hid (show ∀ w2, PW w2 rb c dk → ∀ r v, xj.el[r]? = some v → w2.cell? ⟨rb, k * 7 + r, none⟩ = some v from fun w2 h2 => by rw [hxj]; exact h2.nth JL.out)
          clear hxi hxj
          have e1 : (K : Int) - 1 = (k : Int) := by omega
          have e2 : IntKind.i64.wrap (k : Int) = (k : Int) := by rw [IntKind.wrap_i64]; omega
          have hja' : (a : Int) < (K : Int) := by omega
          have g0 : (0 : Int) ≤ (K : Int) := by omega
          have g1 : (0 : Int) ≤ (k : Int) := by omega
          have g2 : (K : Int) < (n : Int) := by omega
          have g3 : (k : Int) < (n : Int) := by omega
          have HKE := Lib.hid hK
          clear hK
          obtain ⟨z, hz⟩ : ∃ z, z = cf xi xj := ⟨_, rfl⟩
          have HC := Lib.hid (show ∀ w2, Below wr.heap.size wr w2 → Calls Try.prog F #[.agg #[.int .i64 xi.id, .bool xi.may, .bool xi.us, .bool xi.bk, .bool xi.bd, .int .i64 xi.mean, .int .i64 xi.tries], .agg #[.int .i64 xj.id, .bool xj.may, .bool xj.us, .bool xj.bk, .bool xj.bd, .int .i64 xj.mean, .int .i64 xj.tries]] w2 fun e w' => e = .returned (.int .i64 z) ∧ Below w2.heap.size w2 w' from fun w2 hb => by rw [hz]; exact HCL.out.2 w2 xi xj)
          have HZ := Lib.hid hz
          clear hz
          by_cases hzl : z < 0
          · have hzd : decide (z < 0) = true := decide_eq_true hzl
            have HLT : Hid (ltOf cf dk[K]! dk[k]! = true) := Lib.hid (by rw [← HXX.out.1, ← HXX.out.2]; unfold ltOf; rw [← HZ.out]; exact hzd)
            go_wp2_with fail
            refine wp_ext (by kernel_rfl) (by kernel_rfl) (fun QQ hQ => ?_)
            (first | (refine x_load _ (by rfl) rfl rfl (by assumption) (by kernel_rfl) ?_; simp only [Act.put, List.setIfInBounds_toArray, List.set_cons_zero, List.set_cons_succ]) | (refine x_val (v := ?_) (by rfl) (fun w' hx => ?_) ?_; rotate_left; (focus (go_simp; (try with_reducible rfl))); (try simp only [Act.put, List.setIfInBounds_toArray, List.set_cons_zero, List.set_cons_succ])))
            (first | (refine x_load _ (by rfl) rfl rfl (by assumption) (by kernel_rfl) ?_; simp only [Act.put, List.setIfInBounds_toArray, List.set_cons_zero, List.set_cons_succ]) | (refine x_val (v := ?_) (by rfl) (fun w' hx => ?_) ?_; rotate_left; (focus (go_simp; (try with_reducible rfl))); (try simp only [Act.put, List.setIfInBounds_toArray, List.set_cons_zero, List.set_cons_succ])))
            (first | (refine x_load _ (by rfl) rfl rfl (by assumption) (by kernel_rfl) ?_; simp only [Act.put, List.setIfInBounds_toArray, List.set_cons_zero, List.set_cons_succ]) | (refine x_val (v := ?_) (by rfl) (fun w' hx => ?_) ?_; rotate_left; (focus (go_simp; (try with_reducible rfl))); (try simp only [Act.put, List.setIfInBounds_toArray, List.set_cons_zero, List.set_cons_succ])))
            (first | (refine x_load _ (by rfl) rfl rfl (by assumption) (by kernel_rfl) ?_; simp only [Act.put, List.setIfInBounds_toArray, List.set_cons_zero, List.set_cons_succ]) | (refine x_val (v := ?_) (by rfl) (fun w' hx => ?_) ?_; rotate_left; (focus (go_simp; (try with_reducible rfl))); (try simp only [Act.put, List.setIfInBounds_toArray, List.set_cons_zero, List.set_cons_succ])))
            (first | (refine x_load _ (by rfl) rfl rfl (by assumption) (by kernel_rfl) ?_; simp only [Act.put, List.setIfInBounds_toArray, List.set_cons_zero, List.set_cons_succ]) | (refine x_val (v := ?_) (by rfl) (fun w' hx => ?_) ?_; rotate_left; (focus (go_simp; (try with_reducible rfl))); (try simp only [Act.put, List.setIfInBounds_toArray, List.set_cons_zero, List.set_cons_succ])))
            (first | (refine x_load _ (by rfl) rfl rfl (by assumption) (by kernel_rfl) ?_; simp only [Act.put, List.setIfInBounds_toArray, List.set_cons_zero, List.set_cons_succ]) | (refine x_val (v := ?_) (by rfl) (fun w' hx => ?_) ?_; rotate_left; (focus (go_simp; (try with_reducible rfl))); (try simp only [Act.put, List.setIfInBounds_toArray, List.set_cons_zero, List.set_cons_succ])))
            (first | (refine x_load _ (by rfl) rfl rfl (by assumption) (by kernel_rfl) ?_; simp only [Act.put, List.setIfInBounds_toArray, List.set_cons_zero, List.set_cons_succ]) | (refine x_val (v := ?_) (by rfl) (fun w' hx => ?_) ?_; rotate_left; (focus (go_simp; (try with_reducible rfl))); (try simp only [Act.put, List.setIfInBounds_toArray, List.set_cons_zero, List.set_cons_succ])))
            (first | (refine x_load _ (by rfl) rfl rfl (by assumption) (by kernel_rfl) ?_; simp only [Act.put, List.setIfInBounds_toArray, List.set_cons_zero, List.set_cons_succ]) | (refine x_val (v := ?_) (by rfl) (fun w' hx => ?_) ?_; rotate_left; (focus (go_simp; (try with_reducible rfl))); (try simp only [Act.put, List.setIfInBounds_toArray, List.set_cons_zero, List.set_cons_succ])))
            refine x_loads _ [.int .i64 xi.id, .bool xi.may, .bool xi.us, .bool xi.bk, .bool xi.bd, .int .i64 xi.mean, .int .i64 xi.tries] (by rfl) rfl rfl (LI.out _ S1.out) (Nat.succ_pos _) (by kernel_rfl) (by kernel_rfl) ?_; simp only [Act.put, List.setIfInBounds_toArray, List.set_cons_zero, List.set_cons_succ]
            (first | (refine x_load _ (by rfl) rfl rfl (by assumption) (by kernel_rfl) ?_; simp only [Act.put, List.setIfInBounds_toArray, List.set_cons_zero, List.set_cons_succ]) | (refine x_val (v := ?_) (by rfl) (fun w' hx => ?_) ?_; rotate_left; (focus (go_simp; (try with_reducible rfl))); (try simp only [Act.put, List.setIfInBounds_toArray, List.set_cons_zero, List.set_cons_succ])))
            (first | (refine x_load _ (by rfl) rfl rfl (by assumption) (by kernel_rfl) ?_; simp only [Act.put, List.setIfInBounds_toArray, List.set_cons_zero, List.set_cons_succ]) | (refine x_val (v := ?_) (by rfl) (fun w' hx => ?_) ?_; rotate_left; (focus (go_simp; (try with_reducible rfl))); (try simp only [Act.put, List.setIfInBounds_toArray, List.set_cons_zero, List.set_cons_succ])))
            (first | (refine x_load _ (by rfl) rfl rfl (by assumption) (by kernel_rfl) ?_; simp only [Act.put, List.setIfInBounds_toArray, List.set_cons_zero, List.set_cons_succ]) | (refine x_val (v := ?_) (by rfl) (fun w' hx => ?_) ?_; rotate_left; (focus (go_simp; (try with_reducible rfl))); (try simp only [Act.put, List.setIfInBounds_toArray, List.set_cons_zero, List.set_cons_succ])))
            (first | (refine x_load _ (by rfl) rfl rfl (by assumption) (by kernel_rfl) ?_; simp only [Act.put, List.setIfInBounds_toArray, List.set_cons_zero, List.set_cons_succ]) | (refine x_val (v := ?_) (by rfl) (fun w' hx => ?_) ?_; rotate_left; (focus (go_simp; (try with_reducible rfl))); (try simp only [Act.put, List.setIfInBounds_toArray, List.set_cons_zero, List.set_cons_succ])))
            refine x_loads _ [.int .i64 xj.id, .bool xj.may, .bool xj.us, .bool xj.bk, .bool xj.bd, .int .i64 xj.mean, .int .i64 xj.tries] (by rfl) rfl rfl (LJ.out _ S1.out) (Nat.succ_pos _) (by kernel_rfl) (by kernel_rfl) ?_; simp only [Act.put, List.setIfInBounds_toArray, List.set_cons_zero, List.set_cons_succ]
            refine x_call (by rfl) (fun w' hx => by go_simp) (fun w' hx => HC.out w' hx) ?_; simp only [Act.put, List.setIfInBounds_toArray, List.set_cons_zero, List.set_cons_succ]
            (first | (refine x_load _ (by rfl) rfl rfl (by assumption) (by kernel_rfl) ?_; simp only [Act.put, List.setIfInBounds_toArray, List.set_cons_zero, List.set_cons_succ]) | (refine x_val (v := ?_) (by rfl) (fun w' hx => ?_) ?_; rotate_left; (focus (go_simp; (try with_reducible rfl))); (try simp only [Act.put, List.setIfInBounds_toArray, List.set_cons_zero, List.set_cons_succ])))
            (first | (refine x_load _ (by rfl) rfl rfl (by assumption) (by kernel_rfl) ?_; simp only [Act.put, List.setIfInBounds_toArray, List.set_cons_zero, List.set_cons_succ]) | (refine x_val (v := ?_) (by rfl) (fun w' hx => ?_) ?_; rotate_left; (focus (go_simp; (try with_reducible rfl))); (try simp only [Act.put, List.setIfInBounds_toArray, List.set_cons_zero, List.set_cons_succ])))
            refine x_nil (hQ.out _ ?_); clear hQ QQ
            intro w1 hbw
            have S2 := Lib.hid (S1.out.into hbw)
            have T2 := Lib.hid (T1.out.grow hbw (Nat.le_of_lt S1.out.rl))
            clear hbw HC S1 T1
            have JL2 := Lib.hid (show k < (dk.setIfInBounds K xj).size by rw [Array.size_setIfInBounds]; exact JL.out)
            go_upto_region 6 with fail
            refine wp_ord [(0, .pure), (1, .pure), (2, .pure), (3, .pure), (4, .pure), (5, .pure), (6, .pure), (7, .pure), (8, .pure), (9, .read), (10, .pure), (11, .pure), (12, .pure), (13, .read), (14, .pure), (15, .sole), (16, .pure), (17, .sole)] [15, 17] (by kernel_rfl) (by kernel_rfl) (fun QQ hQ wd hwd => ?_); simp only [List.map_cons, List.map_nil, List.getD_cons_zero, List.getD_cons_succ]
            have hD : Below w1.heap.size w1 wd := by rw [hwd.out]; exact (Below.refl _ _).drew
            have SD := Lib.hid (S2.out.into hD)
            have TD := Lib.hid (T2.out.grow hD (Nat.le_of_lt S2.out.rl))
            clear hD hwd
            (refine o_pure (v := ?_) (by rfl) (fun w' => ?_) ?_; rotate_left; (focus (go_simp; (try with_reducible rfl); (try (rw [if_pos (by omega)]; (try with_reducible rfl))))); (try simp only [Act.put, List.setIfInBounds_toArray, List.set_cons_zero, List.set_cons_succ]))
            (refine o_pure (v := ?_) (by rfl) (fun w' => ?_) ?_; rotate_left; (focus (go_simp; (try with_reducible rfl); (try (rw [if_pos (by omega)]; (try with_reducible rfl))))); (try simp only [Act.put, List.setIfInBounds_toArray, List.set_cons_zero, List.set_cons_succ]))
            (refine o_pure (v := ?_) (by rfl) (fun w' => ?_) ?_; rotate_left; (focus (go_simp; (try with_reducible rfl); (try (rw [if_pos (by omega)]; (try with_reducible rfl))))); (try simp only [Act.put, List.setIfInBounds_toArray, List.set_cons_zero, List.set_cons_succ]))
            (refine o_pure (v := ?_) (by rfl) (fun w' => ?_) ?_; rotate_left; (focus (go_simp; (try with_reducible rfl); (try (rw [if_pos (by omega)]; (try with_reducible rfl))))); (try simp only [Act.put, List.setIfInBounds_toArray, List.set_cons_zero, List.set_cons_succ]))
            (refine o_pure (v := ?_) (by rfl) (fun w' => ?_) ?_; rotate_left; (focus (go_simp; (try with_reducible rfl); (try (rw [if_pos (by omega)]; (try with_reducible rfl))))); (try simp only [Act.put, List.setIfInBounds_toArray, List.set_cons_zero, List.set_cons_succ]))
            (refine o_pure (v := ?_) (by rfl) (fun w' => ?_) ?_; rotate_left; (focus (go_simp; (try with_reducible rfl); (try (rw [if_pos (by omega)]; (try with_reducible rfl))))); (try simp only [Act.put, List.setIfInBounds_toArray, List.set_cons_zero, List.set_cons_succ]))
            (refine o_pure (v := ?_) (by rfl) (fun w' => ?_) ?_; rotate_left; (focus (go_simp; (try with_reducible rfl); (try (rw [if_pos (by omega)]; (try with_reducible rfl))))); (try simp only [Act.put, List.setIfInBounds_toArray, List.set_cons_zero, List.set_cons_succ]))
            (refine o_pure (v := ?_) (by rfl) (fun w' => ?_) ?_; rotate_left; (focus (go_simp; (try with_reducible rfl); (try (rw [if_pos (by omega)]; (try with_reducible rfl))))); (try simp only [Act.put, List.setIfInBounds_toArray, List.set_cons_zero, List.set_cons_succ]))
            (refine o_pure (v := ?_) (by rfl) (fun w' => ?_) ?_; rotate_left; (focus (go_simp; (try with_reducible rfl); (try (rw [if_pos (by omega)]; (try with_reducible rfl))))); (try simp only [Act.put, List.setIfInBounds_toArray, List.set_cons_zero, List.set_cons_succ]))
            (refine o_loads _ [.int .i64 xj.id, .bool xj.may, .bool xj.us, .bool xj.bk, .bool xj.bd, .int .i64 xj.mean, .int .i64 xj.tries] (by rfl) rfl rfl (LJ.out _ SD.out) (Nat.succ_pos _) (by kernel_rfl) (by kernel_rfl) ?_; simp only [Act.put, List.setIfInBounds_toArray, List.set_cons_zero, List.set_cons_succ])
            (refine o_pure (v := ?_) (by rfl) (fun w' => ?_) ?_; rotate_left; (focus (go_simp; (try with_reducible rfl); (try (rw [if_pos (by omega)]; (try with_reducible rfl))))); (try simp only [Act.put, List.setIfInBounds_toArray, List.set_cons_zero, List.set_cons_succ]))
            (refine o_pure (v := ?_) (by rfl) (fun w' => ?_) ?_; rotate_left; (focus (go_simp; (try with_reducible rfl); (try (rw [if_pos (by omega)]; (try with_reducible rfl))))); (try simp only [Act.put, List.setIfInBounds_toArray, List.set_cons_zero, List.set_cons_succ]))
            (refine o_pure (v := ?_) (by rfl) (fun w' => ?_) ?_; rotate_left; (focus (go_simp; (try with_reducible rfl); (try (rw [if_pos (by omega)]; (try with_reducible rfl))))); (try simp only [Act.put, List.setIfInBounds_toArray, List.set_cons_zero, List.set_cons_succ]))
            (refine o_loads _ [.int .i64 xi.id, .bool xi.may, .bool xi.us, .bool xi.bk, .bool xi.bd, .int .i64 xi.mean, .int .i64 xi.tries] (by rfl) rfl rfl (LI.out _ SD.out) (Nat.succ_pos _) (by kernel_rfl) (by kernel_rfl) ?_; simp only [Act.put, List.setIfInBounds_toArray, List.set_cons_zero, List.set_cons_succ])
            (refine o_pure (v := ?_) (by rfl) (fun w' => ?_) ?_; rotate_left; (focus (go_simp; (try with_reducible rfl); (try (rw [if_pos (by omega)]; (try with_reducible rfl))))); (try simp only [Act.put, List.setIfInBounds_toArray, List.set_cons_zero, List.set_cons_succ]))
            refine o_sole (fun K hK => ?_)
            refine pl_store SD.out IL.out xj rfl _ _ rfl rfl rfl (by kernel_rfl) fun w3 h3 s3 => ?_
            refine wpList_nil ?_
            refine hK _ _ (fun h => by cases h) ?_; clear hK K
            have S3 := Lib.hid h3
            have T3 := Lib.hid (TD.out.solo s3)
            clear h3 s3 SD TD
            (refine o_pure (v := ?_) (by rfl) (fun w' => ?_) ?_; rotate_left; (focus (go_simp; (try with_reducible rfl); (try (rw [if_pos (by omega)]; (try with_reducible rfl))))); (try simp only [Act.put, List.setIfInBounds_toArray, List.set_cons_zero, List.set_cons_succ]))
            refine o_sole (fun K hK => ?_)
            refine pl_store S3.out JL2.out xi rfl _ _ rfl rfl rfl (by kernel_rfl) fun w4 h4 s4 => ?_
            refine wpList_nil ?_
            refine hK _ _ (fun h => by cases h) ?_; clear hK K
            have S4 := Lib.hid h4
            have T4 := Lib.hid (T3.out.solo s4)
            clear h4 s4 S3 T3
            refine o_nil (hQ.out _ _ ?_); clear hQ QQ
            have ESW : (dk.setIfInBounds K xj).setIfInBounds k xi = swp dk K k := by rw [HXX.out.1, HXX.out.2]; rfl
            have X4 := Lib.hid (show InsS (ltOf cf) a i k ((dk.setIfInBounds K xj).setIfInBounds k xi) by
              rw [ESW]
              have h1 := HJ.out
              have h2 := HLT.out
              rw [HKE.out] at h1 h2 ⊢
              exact InsS.step HSO.out h1 (by have := HKE.out; omega) (by have := HKE.out; omega) (by rw [HS.out, ← HN.out]; omega) h2)
            have P4 := Lib.hid (show PermIn a b d ((dk.setIfInBounds K xj).setIfInBounds k xi) by
              rw [ESW]
              exact permIn_trans _ _ _ _ _ HP.out (swp_permIn dk a b K k (by omega) (by omega) (by omega) (by omega) (by rw [HS.out, ← HN.out]; exact hb)))
            have Z4 := Lib.hid (show ((dk.setIfInBounds K xj).setIfInBounds k xi).size = d.size by rw [Array.size_setIfInBounds, Array.size_setIfInBounds]; exact HS.out)
            have hj4 : a ≤ k ∧ k ≤ i := by have := HKE.out; omega
            clear ESW
            generalize (dk.setIfInBounds K xj).setIfInBounds k xi = d4 at *
            have hkK : k < K := by have := HKE.out; omega
            clear LI LJ JL2 JL IL HJ HP HS HXX HKE HZ HLT S2 T2 hzl hzd g0 g1 g2 g3
            go_wp2_with fail
            go_roundw
            case rel => exact ⟨k, d4, rfl, hj4, S4, T4, Z4, X4, P4⟩
            case measure => simp [intOf]; omega
          · have hzd : decide (z < 0) = false := decide_eq_false hzl
            have hzl2 : ¬ z < 0 := hzl
            have hzl3 : (0 : Int) ≤ z := by omega
            have HLT : Hid (ltOf cf dk[K]! dk[k]! = false) := Lib.hid (by rw [← HXX.out.1, ← HXX.out.2]; unfold ltOf; rw [← HZ.out]; exact hzd)
            go_wp2_with fail
            refine wp_ext (by kernel_rfl) (by kernel_rfl) (fun QQ hQ => ?_)
            (first | (refine x_load _ (by rfl) rfl rfl (by assumption) (by kernel_rfl) ?_; simp only [Act.put, List.setIfInBounds_toArray, List.set_cons_zero, List.set_cons_succ]) | (refine x_val (v := ?_) (by rfl) (fun w' hx => ?_) ?_; rotate_left; (focus (go_simp; (try with_reducible rfl))); (try simp only [Act.put, List.setIfInBounds_toArray, List.set_cons_zero, List.set_cons_succ])))
            (first | (refine x_load _ (by rfl) rfl rfl (by assumption) (by kernel_rfl) ?_; simp only [Act.put, List.setIfInBounds_toArray, List.set_cons_zero, List.set_cons_succ]) | (refine x_val (v := ?_) (by rfl) (fun w' hx => ?_) ?_; rotate_left; (focus (go_simp; (try with_reducible rfl))); (try simp only [Act.put, List.setIfInBounds_toArray, List.set_cons_zero, List.set_cons_succ])))
            (first | (refine x_load _ (by rfl) rfl rfl (by assumption) (by kernel_rfl) ?_; simp only [Act.put, List.setIfInBounds_toArray, List.set_cons_zero, List.set_cons_succ]) | (refine x_val (v := ?_) (by rfl) (fun w' hx => ?_) ?_; rotate_left; (focus (go_simp; (try with_reducible rfl))); (try simp only [Act.put, List.setIfInBounds_toArray, List.set_cons_zero, List.set_cons_succ])))
            (first | (refine x_load _ (by rfl) rfl rfl (by assumption) (by kernel_rfl) ?_; simp only [Act.put, List.setIfInBounds_toArray, List.set_cons_zero, List.set_cons_succ]) | (refine x_val (v := ?_) (by rfl) (fun w' hx => ?_) ?_; rotate_left; (focus (go_simp; (try with_reducible rfl))); (try simp only [Act.put, List.setIfInBounds_toArray, List.set_cons_zero, List.set_cons_succ])))
            (first | (refine x_load _ (by rfl) rfl rfl (by assumption) (by kernel_rfl) ?_; simp only [Act.put, List.setIfInBounds_toArray, List.set_cons_zero, List.set_cons_succ]) | (refine x_val (v := ?_) (by rfl) (fun w' hx => ?_) ?_; rotate_left; (focus (go_simp; (try with_reducible rfl))); (try simp only [Act.put, List.setIfInBounds_toArray, List.set_cons_zero, List.set_cons_succ])))
            (first | (refine x_load _ (by rfl) rfl rfl (by assumption) (by kernel_rfl) ?_; simp only [Act.put, List.setIfInBounds_toArray, List.set_cons_zero, List.set_cons_succ]) | (refine x_val (v := ?_) (by rfl) (fun w' hx => ?_) ?_; rotate_left; (focus (go_simp; (try with_reducible rfl))); (try simp only [Act.put, List.setIfInBounds_toArray, List.set_cons_zero, List.set_cons_succ])))
            (first | (refine x_load _ (by rfl) rfl rfl (by assumption) (by kernel_rfl) ?_; simp only [Act.put, List.setIfInBounds_toArray, List.set_cons_zero, List.set_cons_succ]) | (refine x_val (v := ?_) (by rfl) (fun w' hx => ?_) ?_; rotate_left; (focus (go_simp; (try with_reducible rfl))); (try simp only [Act.put, List.setIfInBounds_toArray, List.set_cons_zero, List.set_cons_succ])))
            (first | (refine x_load _ (by rfl) rfl rfl (by assumption) (by kernel_rfl) ?_; simp only [Act.put, List.setIfInBounds_toArray, List.set_cons_zero, List.set_cons_succ]) | (refine x_val (v := ?_) (by rfl) (fun w' hx => ?_) ?_; rotate_left; (focus (go_simp; (try with_reducible rfl))); (try simp only [Act.put, List.setIfInBounds_toArray, List.set_cons_zero, List.set_cons_succ])))
            refine x_loads _ [.int .i64 xi.id, .bool xi.may, .bool xi.us, .bool xi.bk, .bool xi.bd, .int .i64 xi.mean, .int .i64 xi.tries] (by rfl) rfl rfl (LI.out _ S1.out) (Nat.succ_pos _) (by kernel_rfl) (by kernel_rfl) ?_; simp only [Act.put, List.setIfInBounds_toArray, List.set_cons_zero, List.set_cons_succ]
            (first | (refine x_load _ (by rfl) rfl rfl (by assumption) (by kernel_rfl) ?_; simp only [Act.put, List.setIfInBounds_toArray, List.set_cons_zero, List.set_cons_succ]) | (refine x_val (v := ?_) (by rfl) (fun w' hx => ?_) ?_; rotate_left; (focus (go_simp; (try with_reducible rfl))); (try simp only [Act.put, List.setIfInBounds_toArray, List.set_cons_zero, List.set_cons_succ])))
            (first | (refine x_load _ (by rfl) rfl rfl (by assumption) (by kernel_rfl) ?_; simp only [Act.put, List.setIfInBounds_toArray, List.set_cons_zero, List.set_cons_succ]) | (refine x_val (v := ?_) (by rfl) (fun w' hx => ?_) ?_; rotate_left; (focus (go_simp; (try with_reducible rfl))); (try simp only [Act.put, List.setIfInBounds_toArray, List.set_cons_zero, List.set_cons_succ])))
            (first | (refine x_load _ (by rfl) rfl rfl (by assumption) (by kernel_rfl) ?_; simp only [Act.put, List.setIfInBounds_toArray, List.set_cons_zero, List.set_cons_succ]) | (refine x_val (v := ?_) (by rfl) (fun w' hx => ?_) ?_; rotate_left; (focus (go_simp; (try with_reducible rfl))); (try simp only [Act.put, List.setIfInBounds_toArray, List.set_cons_zero, List.set_cons_succ])))
            (first | (refine x_load _ (by rfl) rfl rfl (by assumption) (by kernel_rfl) ?_; simp only [Act.put, List.setIfInBounds_toArray, List.set_cons_zero, List.set_cons_succ]) | (refine x_val (v := ?_) (by rfl) (fun w' hx => ?_) ?_; rotate_left; (focus (go_simp; (try with_reducible rfl))); (try simp only [Act.put, List.setIfInBounds_toArray, List.set_cons_zero, List.set_cons_succ])))
            refine x_loads _ [.int .i64 xj.id, .bool xj.may, .bool xj.us, .bool xj.bk, .bool xj.bd, .int .i64 xj.mean, .int .i64 xj.tries] (by rfl) rfl rfl (LJ.out _ S1.out) (Nat.succ_pos _) (by kernel_rfl) (by kernel_rfl) ?_; simp only [Act.put, List.setIfInBounds_toArray, List.set_cons_zero, List.set_cons_succ]
            refine x_call (by rfl) (fun w' hx => by go_simp) (fun w' hx => HC.out w' hx) ?_; simp only [Act.put, List.setIfInBounds_toArray, List.set_cons_zero, List.set_cons_succ]
            (first | (refine x_load _ (by rfl) rfl rfl (by assumption) (by kernel_rfl) ?_; simp only [Act.put, List.setIfInBounds_toArray, List.set_cons_zero, List.set_cons_succ]) | (refine x_val (v := ?_) (by rfl) (fun w' hx => ?_) ?_; rotate_left; (focus (go_simp; (try with_reducible rfl))); (try simp only [Act.put, List.setIfInBounds_toArray, List.set_cons_zero, List.set_cons_succ])))
            (first | (refine x_load _ (by rfl) rfl rfl (by assumption) (by kernel_rfl) ?_; simp only [Act.put, List.setIfInBounds_toArray, List.set_cons_zero, List.set_cons_succ]) | (refine x_val (v := ?_) (by rfl) (fun w' hx => ?_) ?_; rotate_left; (focus (go_simp; (try with_reducible rfl))); (try simp only [Act.put, List.setIfInBounds_toArray, List.set_cons_zero, List.set_cons_succ])))
            refine x_nil (hQ.out _ ?_); clear hQ QQ
            intro w1 hbw
            have S2 := Lib.hid (S1.out.into hbw)
            have T2 := Lib.hid (T1.out.grow hbw (Nat.le_of_lt S1.out.rl))
            have X4 := Lib.hid (show SortedIn (ltOf cf) a (i + 1) dk by
              have h1 := HJ.out
              have h2 := HLT.out
              rw [HKE.out] at h1 h2
              exact InsS.stop HSO.out h1 (by have := HKE.out; omega) (by have := HKE.out; omega) h2)
            clear hbw HC S1 T1 LI LJ JL IL HJ HXX HKE HZ HLT hzl hzd hzl2 hzl3 g0 g1 g2 g3 e1 e2
            go_wp2_with fail
            go_roundw
            case rel => exact ⟨i + 1, dk, by go_num, ⟨by omega, by omega⟩, S2, T2, HS, X4, HP⟩
            case measure => simp [intOf]; omega
        · have hja' : ¬ (a : Int) < (j : Int) := by omega
          have hjd : decide ((a : Int) < (j : Int)) = false := decide_eq_false hja'
          have hjd2 : decide (a < j) = false := decide_eq_false hja
          have hje : j = a := by omega
          have X4 := Lib.hid (show SortedIn (ltOf cf) a (i + 1) dk from by have h1 := HJ.out; rw [hje] at h1; exact InsS.low h1)
          clear HJ hje
          go_wp2_with fail
          refine wp_ext (by kernel_rfl) (by kernel_rfl) (fun QQ hQ => ?_)
          (first | (refine x_load _ (by rfl) rfl rfl (by assumption) (by kernel_rfl) ?_; simp only [Act.put, List.setIfInBounds_toArray, List.set_cons_zero, List.set_cons_succ]) | (refine x_val (v := ?_) (by rfl) (fun w' hx => ?_) ?_; rotate_left; (focus (go_simp; (try with_reducible rfl))); (try simp only [Act.put, List.setIfInBounds_toArray, List.set_cons_zero, List.set_cons_succ])))
          (first | (refine x_load _ (by rfl) rfl rfl (by assumption) (by kernel_rfl) ?_; simp only [Act.put, List.setIfInBounds_toArray, List.set_cons_zero, List.set_cons_succ]) | (refine x_val (v := ?_) (by rfl) (fun w' hx => ?_) ?_; rotate_left; (focus (go_simp; (try with_reducible rfl))); (try simp only [Act.put, List.setIfInBounds_toArray, List.set_cons_zero, List.set_cons_succ])))
          (first | (refine x_load _ (by rfl) rfl rfl (by assumption) (by kernel_rfl) ?_; simp only [Act.put, List.setIfInBounds_toArray, List.set_cons_zero, List.set_cons_succ]) | (refine x_val (v := ?_) (by rfl) (fun w' hx => ?_) ?_; rotate_left; (focus (go_simp; (try with_reducible rfl))); (try simp only [Act.put, List.setIfInBounds_toArray, List.set_cons_zero, List.set_cons_succ])))
          (first | (refine x_load _ (by rfl) rfl rfl (by assumption) (by kernel_rfl) ?_; simp only [Act.put, List.setIfInBounds_toArray, List.set_cons_zero, List.set_cons_succ]) | (refine x_val (v := ?_) (by rfl) (fun w' hx => ?_) ?_; rotate_left; (focus (go_simp; (try with_reducible rfl))); (try simp only [Act.put, List.setIfInBounds_toArray, List.set_cons_zero, List.set_cons_succ])))
          (refine x_skip (by rfl) ?_; simp only [Act.put, List.setIfInBounds_toArray, List.set_cons_zero, List.set_cons_succ])
          (refine x_skip (by rfl) ?_; simp only [Act.put, List.setIfInBounds_toArray, List.set_cons_zero, List.set_cons_succ])
          (refine x_skip (by rfl) ?_; simp only [Act.put, List.setIfInBounds_toArray, List.set_cons_zero, List.set_cons_succ])
          (refine x_skip (by rfl) ?_; simp only [Act.put, List.setIfInBounds_toArray, List.set_cons_zero, List.set_cons_succ])
          (refine x_skip (by rfl) ?_; simp only [Act.put, List.setIfInBounds_toArray, List.set_cons_zero, List.set_cons_succ])
          (refine x_skip (by rfl) ?_; simp only [Act.put, List.setIfInBounds_toArray, List.set_cons_zero, List.set_cons_succ])
          (refine x_skip (by rfl) ?_; simp only [Act.put, List.setIfInBounds_toArray, List.set_cons_zero, List.set_cons_succ])
          (refine x_skip (by rfl) ?_; simp only [Act.put, List.setIfInBounds_toArray, List.set_cons_zero, List.set_cons_succ])
          (refine x_skip (by rfl) ?_; simp only [Act.put, List.setIfInBounds_toArray, List.set_cons_zero, List.set_cons_succ])
          (refine x_skip (by rfl) ?_; simp only [Act.put, List.setIfInBounds_toArray, List.set_cons_zero, List.set_cons_succ])
          (refine x_skip (by rfl) ?_; simp only [Act.put, List.setIfInBounds_toArray, List.set_cons_zero, List.set_cons_succ])
          (refine x_skip (by rfl) ?_; simp only [Act.put, List.setIfInBounds_toArray, List.set_cons_zero, List.set_cons_succ])
          (first | (refine x_load _ (by rfl) rfl rfl (by assumption) (by kernel_rfl) ?_; simp only [Act.put, List.setIfInBounds_toArray, List.set_cons_zero, List.set_cons_succ]) | (refine x_val (v := ?_) (by rfl) (fun w' hx => ?_) ?_; rotate_left; (focus (go_simp; (try with_reducible rfl))); (try simp only [Act.put, List.setIfInBounds_toArray, List.set_cons_zero, List.set_cons_succ])))
          refine x_nil (hQ.out _ ?_); clear hQ QQ
          intro w1 hbw
          have S2 := Lib.hid (S1.out.into hbw)
          have T2 := Lib.hid (T1.out.grow hbw (Nat.le_of_lt S1.out.rl))
          clear hbw S1 T1
          go_wp2_with fail
          go_roundw
          case rel => exact ⟨i + 1, dk, by go_num, ⟨by omega, by omega⟩, S2, T2, HS, X4, HP⟩
          case measure => simp [intOf]; omega
    · have hlt' : ¬ (i : Int) < (b : Int) := by omega
      have X4 := Lib.hid (sorted_part HI.out (Nat.le_refl _) (show b ≤ i by omega))
      go_wp2_with fail
      go_end0
      exact ⟨rfl, dk0, S1.out, T1.out, HS.out, HP.out, X4.out⟩
end Go.Proofs.Ytbimjacceocglaa
