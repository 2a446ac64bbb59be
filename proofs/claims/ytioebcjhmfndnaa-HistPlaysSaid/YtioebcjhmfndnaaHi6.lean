/- The document of layer 44: Many, Count, Below. -/
import Derived.Test.YtioebcjhmfndnaaHi2
import Derived.Test.YtioebcjhmfndnaaQx
import Derived.Test.YtioebcjhmfndnaaUnd
import Derived.LoopTactic
namespace Go.Proofs.Ytioebcjhmfndnaa
open Go.RowKit
set_option linter.unusedVariables false
set_option linter.unusedSimpArgs false
set_option maxRecDepth 20000 in
set_option maxHeartbeats 4000000 in
theorem rmany_any (A : Option Addr) (n c : Nat) (l : List (Int × Int)) (w : World) (h : Rd w w.heap.size 2 A n (pz l)) (hnc : n ≤ c) (hc : c ≤ maxLen) (hl : ∀ p ∈ l, (Lit.int .i64 p.1).wf = true ∧ (Lit.int .i64 p.2).wf = true) (hn : n ≤ 100) :
    Calls Try.prog 19 #[.slice A n c] w fun e w' => e = .returned (.tuple #[.int .i64 (manyL l : Nat), .int .i64 (sumLI l : Nat)]) ∧ Below w.heap.size w w' := by
  have HR := Lib.hid h
  have HL := Lib.hid hl
  unfold maxLen at hc
  clear h hl
  go_enter Try.func19, Try.ntmps19
  go_wp2_with fail
  go_loopw [4, 5, 6] (fun sv zv iv wr => ∃ (i s z : Nat), i ≤ n ∧ iv = .int .i64 (i : Nat) ∧ sv = .int .i64 (s : Nat) ∧ zv = .int .i64 (z : Nat) ∧ Hid (s = sumK (fun p : Int × Int => ofN p.2) l i) ∧ Hid (z = sumK (fun p : Int × Int => ofN p.2 * inN p.1) l i) ∧ s ≤ i * 1048576 ∧ z ≤ i * 2251799813685248 ∧ Hid (Below w.heap.size w wr)) (fun _ _ iv _ => n - (intOf iv).toNat)
  case atStart => exact ⟨0, 0, 0, Nat.zero_le _, rfl, rfl, rfl, Lib.hid rfl, Lib.hid rfl, by omega, by omega, Lib.hid (Below.refl _ _)⟩
  case round =>
    obtain ⟨i, s, z, hi, rfl, rfl, rfl, hs, hz, hsb, hzb, BB⟩ := hrel
    by_cases hlt : i < n
    · have hlt' : (i : Int) < (n : Int) := by omega
      obtain ⟨ab, ao, x, y, hA, hab, p0, p1, hp⟩ := HR.out.pz hlt
      subst hA
      have p0 := (BB.out.cell (p := ⟨ab, ao + i * 2, none⟩) hab).trans p0
      have p1 := (BB.out.cell (p := ⟨ab, ao + i * 2 + 1, none⟩) hab).trans p1
      have hx := Lib.hid (HL.out _ (List.mem_of_getElem? hp.out)).1
      have hy := Lib.hid (HL.out _ (List.mem_of_getElem? hp.out)).2
      clear hab
      have CO := Lib.hid (fun w' => roften_any y w' hy.out)
      obtain ⟨o, hoo⟩ : ∃ o, o = ofN y := ⟨_, rfl⟩
      have hob : o ≤ 1048576 := by rw [hoo]; exact ofN_le _
      rw [← hoo] at CO
      have CI : Hid (∀ w', Calls Try.prog 15 #[.int .i64 x] w' fun e w'' => e = .returned (.int .i64 (inN x : Nat)) ∧ Below w'.heap.size w' w'') := Lib.hid fun w' => (rwithin_any x w' hx.out).mono (by rintro e w'' ⟨rfl, rfl⟩; exact ⟨rfl, Below.refl _ _⟩)
      have CO2 : Hid (∀ w', Calls Try.prog 26 #[.int .i64 y] w' fun e w'' => e = .returned (.int .i64 (o : Nat)) ∧ Below w'.heap.size w' w'') := Lib.hid fun w' => (CO.out w').mono (by rintro e w'' ⟨rfl, rfl⟩; exact ⟨rfl, Below.refl _ _⟩)
      obtain ⟨v, hv⟩ : ∃ v, v = inN x := ⟨_, rfl⟩
      have hvb : v < 2147483648 := by rw [hv]; exact inN_lt _
      rw [← hv] at CI
      obtain ⟨q, hq⟩ : ∃ q, q = o * v := ⟨_, rfl⟩
      have hqb : q ≤ 2251799813685248 := by
        have : q ≤ 1048576 * 2147483648 := by rw [hq]; exact Nat.mul_le_mul hob (Nat.le_of_lt hvb)
        exact this
      have hqi : (o : Int) * (v : Int) = (q : Nat) := by rw [hq]; push_cast; rfl
      obtain ⟨s2, hs2⟩ : ∃ s2, s2 = s + o := ⟨_, rfl⟩
      obtain ⟨z2, hz2⟩ : ∃ z2, z2 = z + q := ⟨_, rfl⟩
      have S2 := Lib.hid (show s2 = sumK (fun p : Int × Int => ofN p.2) l (i + 1) by rw [sumK_succ hp.out, ← hs.out, hs2, hoo])
      have Z2 := Lib.hid (show z2 = sumK (fun p : Int × Int => ofN p.2 * inN p.1) l (i + 1) by rw [sumK_succ hp.out, ← hz.out, hz2, hq, hoo, hv])
      have hsi : (s : Int) + (o : Int) = (s2 : Nat) := by omega
      have hzi : (z : Int) + (q : Int) = (z2 : Nat) := by omega
      have hwq : IntKind.i64.wrap (q : Int) = (q : Nat) := by rw [IntKind.wrap_i64]; omega
      have hwz : IntKind.i64.wrap (z2 : Int) = (z2 : Nat) := by rw [IntKind.wrap_i64]; omega
      have hs2b : s2 ≤ (i + 1) * 1048576 := by omega
      have hz2b : z2 ≤ (i + 1) * 2251799813685248 := by omega
      have hi0 : ¬ (i : Int) < 0 := by omega
      clear hoo hv hq hs2 hz2 hs hz hp hx hy
      go_wp2_with fail
      refine (CO.out _).mono ?_
      rintro e w1 ⟨rfl, rfl⟩
      go_upto_region 6 with fail
      have hz1 : ¬ (o : Int) < 0 := by omega
      refine wp_ext (by kernel_rfl) (by kernel_rfl) (fun QQ hQ => ?_)
      (first | (refine x_load _ (by rfl) rfl rfl (by assumption) (by kernel_rfl) ?_; simp only [Act.put, List.setIfInBounds_toArray, List.set_cons_zero, List.set_cons_succ]) | (refine x_val (v := ?_) (by rfl) (fun w' hx => ?_) ?_; rotate_left; (focus (go_simp; (try with_reducible rfl))); (try simp only [Act.put, List.setIfInBounds_toArray, List.set_cons_zero, List.set_cons_succ])))
      (first | (refine x_load _ (by rfl) rfl rfl (by assumption) (by kernel_rfl) ?_; simp only [Act.put, List.setIfInBounds_toArray, List.set_cons_zero, List.set_cons_succ]) | (refine x_val (v := ?_) (by rfl) (fun w' hx => ?_) ?_; rotate_left; (focus (go_simp; (try with_reducible rfl))); (try simp only [Act.put, List.setIfInBounds_toArray, List.set_cons_zero, List.set_cons_succ])))
      (first | (refine x_load _ (by rfl) rfl rfl (by assumption) (by kernel_rfl) ?_; simp only [Act.put, List.setIfInBounds_toArray, List.set_cons_zero, List.set_cons_succ]) | (refine x_val (v := ?_) (by rfl) (fun w' hx => ?_) ?_; rotate_left; (focus (go_simp; (try with_reducible rfl))); (try simp only [Act.put, List.setIfInBounds_toArray, List.set_cons_zero, List.set_cons_succ])))
      (first | (refine x_load _ (by rfl) rfl rfl (by assumption) (by kernel_rfl) ?_; simp only [Act.put, List.setIfInBounds_toArray, List.set_cons_zero, List.set_cons_succ]) | (refine x_val (v := ?_) (by rfl) (fun w' hx => ?_) ?_; rotate_left; (focus (go_simp; (try with_reducible rfl))); (try simp only [Act.put, List.setIfInBounds_toArray, List.set_cons_zero, List.set_cons_succ])))
      (first | (refine x_load _ (by rfl) rfl rfl (by assumption) (by kernel_rfl) ?_; simp only [Act.put, List.setIfInBounds_toArray, List.set_cons_zero, List.set_cons_succ]) | (refine x_val (v := ?_) (by rfl) (fun w' hx => ?_) ?_; rotate_left; (focus (go_simp; (try with_reducible rfl))); (try simp only [Act.put, List.setIfInBounds_toArray, List.set_cons_zero, List.set_cons_succ])))
      (first | (refine x_load _ (by rfl) rfl rfl (by assumption) (by kernel_rfl) ?_; simp only [Act.put, List.setIfInBounds_toArray, List.set_cons_zero, List.set_cons_succ]) | (refine x_val (v := ?_) (by rfl) (fun w' hx => ?_) ?_; rotate_left; (focus (go_simp; (try with_reducible rfl))); (try simp only [Act.put, List.setIfInBounds_toArray, List.set_cons_zero, List.set_cons_succ])))
      refine x_call (by rfl) (fun w' hx => by go_simp) (fun w' hx => CO2.out w') ?_; simp only [Act.put, List.setIfInBounds_toArray, List.set_cons_zero, List.set_cons_succ]
      (first | (refine x_load _ (by rfl) rfl rfl (by assumption) (by kernel_rfl) ?_; simp only [Act.put, List.setIfInBounds_toArray, List.set_cons_zero, List.set_cons_succ]) | (refine x_val (v := ?_) (by rfl) (fun w' hx => ?_) ?_; rotate_left; (focus (go_simp; (try with_reducible rfl))); (try simp only [Act.put, List.setIfInBounds_toArray, List.set_cons_zero, List.set_cons_succ])))
      (first | (refine x_load _ (by rfl) rfl rfl (by assumption) (by kernel_rfl) ?_; simp only [Act.put, List.setIfInBounds_toArray, List.set_cons_zero, List.set_cons_succ]) | (refine x_val (v := ?_) (by rfl) (fun w' hx => ?_) ?_; rotate_left; (focus (go_simp; (try with_reducible rfl))); (try simp only [Act.put, List.setIfInBounds_toArray, List.set_cons_zero, List.set_cons_succ])))
      (first | (refine x_load _ (by rfl) rfl rfl (by assumption) (by kernel_rfl) ?_; simp only [Act.put, List.setIfInBounds_toArray, List.set_cons_zero, List.set_cons_succ]) | (refine x_val (v := ?_) (by rfl) (fun w' hx => ?_) ?_; rotate_left; (focus (go_simp; (try with_reducible rfl))); (try simp only [Act.put, List.setIfInBounds_toArray, List.set_cons_zero, List.set_cons_succ])))
      (first | (refine x_load _ (by rfl) rfl rfl (by assumption) (by kernel_rfl) ?_; simp only [Act.put, List.setIfInBounds_toArray, List.set_cons_zero, List.set_cons_succ]) | (refine x_val (v := ?_) (by rfl) (fun w' hx => ?_) ?_; rotate_left; (focus (go_simp; (try with_reducible rfl))); (try simp only [Act.put, List.setIfInBounds_toArray, List.set_cons_zero, List.set_cons_succ])))
      (first | (refine x_load _ (by rfl) rfl rfl (by assumption) (by kernel_rfl) ?_; simp only [Act.put, List.setIfInBounds_toArray, List.set_cons_zero, List.set_cons_succ]) | (refine x_val (v := ?_) (by rfl) (fun w' hx => ?_) ?_; rotate_left; (focus (go_simp; (try with_reducible rfl))); (try simp only [Act.put, List.setIfInBounds_toArray, List.set_cons_zero, List.set_cons_succ])))
      refine x_call (by rfl) (fun w' hx => by go_simp) (fun w' hx => CI.out w') ?_; simp only [Act.put, List.setIfInBounds_toArray, List.set_cons_zero, List.set_cons_succ]
      refine x_val (v := .int .i64 (q : Nat)) (by rfl) (fun w' hx => by go_simp; (try simp only [hqi, hwq]); (try with_reducible rfl)) ?_
      (try simp only [Act.put, List.setIfInBounds_toArray, List.set_cons_zero, List.set_cons_succ])
      refine x_val (v := .int .i64 (z2 : Nat)) (by rfl) (fun w' hx => by go_simp; (try simp only [hzi, hwz]); (try with_reducible rfl)) ?_
      (try simp only [Act.put, List.setIfInBounds_toArray, List.set_cons_zero, List.set_cons_succ])
      (first | (refine x_load _ (by rfl) rfl rfl (by assumption) (by kernel_rfl) ?_; simp only [Act.put, List.setIfInBounds_toArray, List.set_cons_zero, List.set_cons_succ]) | (refine x_val (v := ?_) (by rfl) (fun w' hx => ?_) ?_; rotate_left; (focus (go_simp; (try with_reducible rfl))); (try simp only [Act.put, List.setIfInBounds_toArray, List.set_cons_zero, List.set_cons_succ])))
      refine x_nil (hQ.out _ ?_); clear hQ QQ
      intro w9 hb9
      have B9 := Lib.hid (BB.out.trans (hb9.mono BB.out.size))
      clear hb9 p0 p1 BB
      go_wp2_with fail
      go_roundw
      case rel => exact ⟨i + 1, s2, z2, by omega, by go_num, by go_num, rfl, S2, Z2, hs2b, hz2b, B9⟩
      case measure => simp [intOf]; omega
    · obtain rfl : i = n := by omega
      have hll := HR.out.pzLen
      have e1 := Lib.hid (show s = manyL l by rw [hs.out]; unfold sumK manyL; rw [List.take_of_length_le (by omega)])
      have e2 := Lib.hid (show z = sumLI l by rw [hz.out]; unfold sumK sumLI; rw [List.take_of_length_le (by omega)])
      clear hs hz hll
      go_wp2_with fail
      go_ret2
      exact ⟨by rw [← e1.out, ← e2.out]; rfl, BB.out⟩
set_option maxRecDepth 20000 in
set_option maxHeartbeats 4000000 in
theorem rcount_any (A : Option Addr) (n c : Nat) (l : List (Int × Int)) (r : Nat) (w : World) (h : Rd w w.heap.size 2 A n (pz l)) (hnc : n ≤ c) (hc : c ≤ maxLen) (hl : ∀ p ∈ l, (Lit.int .i64 p.1).wf = true ∧ (Lit.int .i64 p.2).wf = true) (hn : n ≤ 100) :
    Calls Try.prog 21 #[.slice A n c, .int .i64 (r : Nat)] w fun e w' => e = .returned (.int .i64 (cntL l r : Nat)) ∧ w' = w := by
  have HR := Lib.hid h
  have HL := Lib.hid hl
  unfold maxLen at hc
  clear h hl
  go_enter Try.func21, Try.ntmps21
  go_wp2_with fail
  go_loopw [5, 6] (fun sv iv wr => ∃ (i s : Nat), i ≤ n ∧ iv = .int .i64 (i : Nat) ∧ sv = .int .i64 (s : Nat) ∧ Hid (s = sumK (cntF r) l i) ∧ s ≤ i * 1048576 ∧ wr = w) (fun _ iv _ => n - (intOf iv).toNat)
  case atStart => exact ⟨0, 0, Nat.zero_le _, rfl, rfl, Lib.hid rfl, by omega, rfl⟩
  case round =>
    obtain ⟨i, s, hi, rfl, rfl, hs, hsb, rfl⟩ := hrel
    have BB := Lib.hid (Below.refl wr.heap.size wr)
    by_cases hlt : i < n
    · have hlt' : (i : Int) < (n : Int) := by omega
      obtain ⟨ab, ao, x, y, hA, hab, p0, p1, hp⟩ := HR.out.pz hlt
      subst hA
      have p0 := (BB.out.cell (p := ⟨ab, ao + i * 2, none⟩) hab).trans p0
      have p1 := (BB.out.cell (p := ⟨ab, ao + i * 2 + 1, none⟩) hab).trans p1
      have hx := Lib.hid (HL.out _ (List.mem_of_getElem? hp.out)).1
      have hy := Lib.hid (HL.out _ (List.mem_of_getElem? hp.out)).2
      clear hab
      have CO := Lib.hid (fun w' => roften_any y w' hy.out)
      obtain ⟨o, hoo⟩ : ∃ o, o = ofN y := ⟨_, rfl⟩
      have hob : o ≤ 1048576 := by rw [hoo]; exact ofN_le _
      rw [← hoo] at CO
      have CR := Lib.hid (fun w' => rrow_any x w' hx.out)
      obtain ⟨q, hq⟩ : ∃ q, q = rowN (inN x) := ⟨_, rfl⟩
      rw [← hq] at CR
      obtain ⟨s2, hs2⟩ : ∃ s2, s2 = s + cntF r (x, y) := ⟨_, rfl⟩
      have S2 := Lib.hid (show s2 = sumK (cntF r) l (i + 1) by rw [sumK_succ hp.out, ← hs.out, hs2])
      have hs2c : s2 = if q = r then s + o else s := by rw [hs2]; unfold cntF; dsimp only; rw [← hq, ← hoo]; split <;> rfl
      have hi0 : ¬ (i : Int) < 0 := by omega
      clear hoo hq hs2 hs hp hx hy
      by_cases hqr : q = r
      · rw [if_pos hqr] at hs2c
        have hqr' : (q : Int) = (r : Int) := by omega
        have hsi : (s : Int) + (o : Int) = (s2 : Nat) := by omega
        have hs2b : s2 ≤ (i + 1) * 1048576 := by omega
        clear hs2c hqr
        go_wp2_with fail
        refine (CR.out _).mono ?_
        rintro e w1 ⟨rfl, rfl⟩
        go_wp2_with fail
        refine (CO.out _).mono ?_
        rintro e w1 ⟨rfl, rfl⟩
        go_wp2_with fail
        go_roundw
        case rel => exact ⟨i + 1, s2, by omega, by go_num, by go_num, S2, hs2b, trivial⟩
        case measure => simp [intOf]; omega
      · rw [if_neg hqr] at hs2c
        have hqr' : ¬ (q : Int) = (r : Int) := by omega
        have S3 := Lib.hid (show s = sumK (cntF r) l (i + 1) by rw [← hs2c]; exact S2.out)
        have hs3b : s ≤ (i + 1) * 1048576 := Nat.le_trans hsb (Nat.mul_le_mul_right _ (Nat.le_succ i))
        clear hs2c hqr S2
        go_wp2_with fail
        refine (CR.out _).mono ?_
        rintro e w1 ⟨rfl, rfl⟩
        go_wp2_with fail
        go_roundw
        case rel => exact ⟨i + 1, s, by omega, by go_num, rfl, S3, hs3b, trivial⟩
        case measure => simp [intOf]; omega
    · obtain rfl : i = n := by omega
      have hll := HR.out.pzLen
      have e1 := Lib.hid (show s = cntL l r by rw [hs.out]; unfold sumK cntL; rw [List.take_of_length_le (by omega)])
      clear hs hll
      go_wp2_with fail
      go_ret
      exact ⟨by rw [← e1.out]; rfl, rfl⟩
def rowsL (l : List (Int × Int)) : List Nat := l.map fun p => rowN (inN p.1)
theorem rowsL_len (l : List (Int × Int)) : (rowsL l).length = l.length := by simp [rowsL]
theorem rowsL_get {l : List (Int × Int)} {i : Nat} {x y : Int} (h : l[i]? = some (x, y)) : (rowsL l)[i]? = some (rowN (inN x)) := by simp [rowsL, h]
theorem iEl : El Try.prog 47 3 (.int .i64 0) 1 8 := ⟨Try.underlying47, by kernel_rfl, rfl, by decide, by decide⟩
set_option maxRecDepth 20000 in
set_option maxHeartbeats 4000000 in
theorem rbelow_any (A : Option Addr) (n c : Nat) (l : List (Int × Int)) (part : Int) (w : World) (h : Rd w w.heap.size 2 A n (pz l)) (hnc : n ≤ c) (hc : c ≤ maxLen) (hl : ∀ p ∈ l, (Lit.int .i64 p.1).wf = true ∧ (Lit.int .i64 p.2).wf = true) (hn : n ≤ 100) (hpw : (Lit.int .i64 part).wf = true) :
    Calls Try.prog 23 #[.slice A n c, .int .i64 part] w fun e w' => e = .returned (.int .i64 (belN (cntL l) (manyL l) (clN 0 1000 part) : Nat)) ∧ Below w.heap.size w w' := by
  have CM := Lib.hid (rmany_any A n c l w h hnc hc hl hn)
  have HMB := Lib.hid (show manyL l ≤ 104857600 from by have := manyL_le l; have := h.pzLen; omega)
  have HUP := Lib.hid (show ∀ k, k ≤ 120 → upTo (cntL l) k ≤ manyL l from fun k hk => upTo_le (Nat.le_of_eq (upTo_many l)) hk)
  have HR := Lib.hid h
  have HL := Lib.hid hl
  unfold maxLen at hc
  clear h hl
  obtain ⟨f, hf⟩ : ∃ f, f = cntL l := ⟨_, rfl⟩
  obtain ⟨M, hM⟩ : ∃ M, M = manyL l := ⟨_, rfl⟩
  have HF := Lib.hid hf
  have hMb : M ≤ 104857600 := by rw [hM]; exact HMB.out
  rw [← hM] at CM HUP ⊢
  rw [← hf] at HUP ⊢
  obtain ⟨p, hp⟩ : ∃ p, p = clN 0 1000 part := ⟨_, rfl⟩
  have hpb : p ≤ 1000 := by rw [hp]; exact clN_le (by omega) _
  rw [← hp]
  have HP := Lib.hid hp
  obtain ⟨mp, hmp⟩ : ∃ mp, mp = M * p := ⟨_, rfl⟩
  have hmpb : mp ≤ 104857600 * 1000 := by rw [hmp]; exact Nat.mul_le_mul hMb hpb
  have hmpb2 : mp ≤ 104857600000 := hmpb
  have hmpi : (M : Int) * (p : Int) = (mp : Nat) := by rw [hmp]; push_cast; rfl
  have HMP := Lib.hid hmp
  clear hf hM hp hmp hmpb HMB
  by_cases h0 : part < 0
  · have hp0 : p = 0 := by rw [HP.out]; exact clN_lo (by simpa using h0)
    have hm0 : mp = 0 := by rw [HMP.out, hp0]; rfl
    subst hm0
    subst hp0
    clear hmpi
    go_enter Try.func23, Try.ntmps23
    go_wp2_with fail
    refine CM.out.mono ?_
    rintro e w1 ⟨rfl, hb1⟩
    have B1 := Lib.hid hb1
    clear hb1 CM
    go_wp2_with fail
    go_loopw [7, 8] (fun rv iv wr => ∃ (i : Nat), i ≤ n ∧ iv = .int .i64 (i : Nat) ∧ Hid (Nats wr 3 .i64 w.heap.size rv ((rowsL l).take i)) ∧ Hid (Below w.heap.size w wr)) (fun _ iv _ => n - (intOf iv).toNat)
    case atStart => exact ⟨0, Nat.zero_le _, rfl, Lib.hid (Nats.nil _ _ _ _), B1⟩
    case round =>
      clear B1
      obtain ⟨i, hi, rfl, HN, BB⟩ := hrel
      obtain ⟨A7, n7, c7, rfl, hc7, hl7, hr7⟩ := HN.out.out
      by_cases hlt : i < n
      · have hlt' : (i : Int) < (n : Int) := by omega
        obtain ⟨ab, ao, x, y, hA, hab, p0, p1, hp⟩ := HR.out.pz hlt
        subst hA
        have p0 := (BB.out.cell (p := ⟨ab, ao + i * 2, none⟩) hab).trans p0
        have p1 := (BB.out.cell (p := ⟨ab, ao + i * 2 + 1, none⟩) hab).trans p1
        have hx := Lib.hid (HL.out _ (List.mem_of_getElem? hp.out)).1
        have hy := Lib.hid (HL.out _ (List.mem_of_getElem? hp.out)).2
        clear hab
        have CR := Lib.hid (fun w' => rrow_any x w' hx.out)
        obtain ⟨q, hq⟩ : ∃ q, q = rowN (inN x) := ⟨_, rfl⟩
        rw [← hq] at CR
        have HQ := Lib.hid (show (rowsL l).take (i + 1) = (rowsL l).take i ++ [q] by rw [hq]; exact tkSnoc (rowsL_get hp.out))
        have hlen : ((rowsL l).take i).length = i := by rw [List.length_take, rowsL_len, HR.out.pzLen]; omega
        have hroom : (((rowsL l).take i).length + 1) * 8 ≤ room := room_ge (by rw [hlen]; omega)
        have hz := BB.out.size
        have hi0 : ¬ (i : Int) < 0 := by omega
        clear hq hp hx hy hr7 hl7
        go_wp2_with fail
        refine (CR.out _).mono ?_
        rintro e w2 ⟨rfl, rfl⟩
        go_wp2_with (at_builtin; go_must (refine app1n iEl q rfl _ _ rfl rfl HN.out rfl rfl hroom hz ?_))
        intro v7 w7 hn7 hg7 hb7
        rw [← HQ.out] at hn7
        have N7 := Lib.hid hn7
        have B7 := Lib.hid (BB.out.trans (hb7.mono (Nat.le_refl _)))
        clear hn7 hg7 hb7 HN BB p0 p1 hz hlen hroom
        obtain ⟨A9, n9, c9, rfl, hc9, hl9, hr9⟩ := N7.out.out
        go_wp2_with fail
        go_roundw
        case rel => exact ⟨i + 1, by omega, by go_num, N7, B7⟩
        case measure => simp [intOf]; omega
      · obtain rfl : i = n := by omega
        have hll := HR.out.pzLen
        have HLN := Lib.hid (show (rowsL l).take i = rowsL l from List.take_of_length_le (by rw [rowsL_len]; omega))
        have h7 : n7 = i := by have := hl7.out; rw [HLN.out, rowsL_len, hll] at this; omega
        have HRD := Lib.hid (show Rd wr wr.heap.size 1 A7 i (ns .i64 (rowsL l)) from by have := hr7.out.re h7; rwa [HLN.out] at this)
        have HLL := Lib.hid hll
        subst h7
        clear hr7 hl7 HN HLN hll
        go_wp2_with fail
        go_loopw [9, 10] (fun uv kv wk => ∃ (k u : Nat), k ≤ 120 ∧ kv = .int .i64 (k : Nat) ∧ uv = .int .i64 (u : Nat) ∧ Hid (u = upTo f k) ∧ u ≤ M ∧ Hid (belN f M 0 = bel f M 0 (120 - k) k) ∧ wk = wr) (fun _ kv _ => 120 - (intOf kv).toNat)
        case atStart => exact ⟨0, 0, by omega, rfl, rfl, Lib.hid rfl, Nat.zero_le _, Lib.hid rfl, rfl⟩
        case round =>
          obtain ⟨k, u, hk, rfl, rfl, hu, huM, hB, hwk⟩ := hrel
          subst hwk
          by_cases hkt : k < 120
          · have hkt' : (k : Int) < 120 := by omega
            go_wp2_with fail
            go_loopw [11, 12] (fun sv iv wj => ∃ (i s : Nat), i ≤ n7 ∧ iv = .int .i64 (i : Nat) ∧ sv = .int .i64 (s : Nat) ∧ Hid (s = sumK (cntF k) l i) ∧ s ≤ i * 1048576 ∧ wj = wr) (fun _ iv _ => n7 - (intOf iv).toNat)
            case atStart => exact ⟨0, 0, Nat.zero_le _, rfl, rfl, Lib.hid rfl, by omega, rfl⟩
            case round =>
              obtain ⟨i, s, hi, rfl, rfl, hs, hsb, hwj⟩ := hrel
              subst hwj
              by_cases hli : i < n7
              · skip
                obtain ⟨ab, ao, x, y, hA, hab, p0, p1, hp⟩ := HR.out.pz hli
                subst hA
                have p0 := (BB.out.cell (p := ⟨ab, ao + i * 2, none⟩) hab).trans p0
                have p1 := (BB.out.cell (p := ⟨ab, ao + i * 2 + 1, none⟩) hab).trans p1
                have hx := Lib.hid (HL.out _ (List.mem_of_getElem? hp.out)).1
                have hy := Lib.hid (HL.out _ (List.mem_of_getElem? hp.out)).2
                clear hab
                have hli' : (i : Int) < (n7 : Int) := by omega
                obtain ⟨rb, ro, q, rfl, hrb, q0, hq⟩ := HRD.out.nth hli
                have hqe : q = rowN (inN x) := by
                  have h1 := hq.out
                  rw [rowsL_get hp.out] at h1
                  exact (Option.some.inj h1).symm
                have CO := Lib.hid (fun w' => roften_any y w' hy.out)
                obtain ⟨o, hoo⟩ : ∃ o, o = ofN y := ⟨_, rfl⟩
                have hob : o ≤ 1048576 := by rw [hoo]; exact ofN_le _
                rw [← hoo] at CO
                obtain ⟨s2, hs2⟩ : ∃ s2, s2 = s + cntF k (x, y) := ⟨_, rfl⟩
                have S2 := Lib.hid (show s2 = sumK (cntF k) l (i + 1) by rw [sumK_succ hp.out, ← hs.out, hs2])
                have hs2c : s2 = if q = k then s + o else s := by rw [hs2]; unfold cntF; dsimp only; rw [← hqe, ← hoo]; split <;> rfl
                have hi0 : ¬ (i : Int) < 0 := by omega
                clear hoo hqe hs2 hs hp hx hy hq hrb
                by_cases hqr : q = k
                · rw [if_pos hqr] at hs2c
                  have hqr' : (q : Int) = (k : Int) := by omega
                  have hsi : (s : Int) + (o : Int) = (s2 : Nat) := by omega
                  have hs2b : s2 ≤ (i + 1) * 1048576 := by omega
                  clear hs2c
                  subst hqr
                  go_wp2_with fail
                  refine (CO.out _).mono ?_
                  rintro e w2 ⟨rfl, rfl⟩
                  go_wp2_with fail
                  go_roundw
                  case rel => exact ⟨i + 1, s2, by omega, by go_num, by go_num, S2, hs2b, trivial⟩
                  case measure => simp [intOf]; omega
                · rw [if_neg hqr] at hs2c
                  have hqr' : ¬ (q : Int) = (k : Int) := by omega
                  have S3 := Lib.hid (show s = sumK (cntF k) l (i + 1) by rw [← hs2c]; exact S2.out)
                  have hs3b : s ≤ (i + 1) * 1048576 := Nat.le_trans hsb (Nat.mul_le_mul_right _ (Nat.le_succ i))
                  clear hs2c hqr S2
                  go_wp2_with fail
                  go_roundw
                  case rel => exact ⟨i + 1, s, by omega, by go_num, rfl, S3, hs3b, trivial⟩
                  case measure => simp [intOf]; omega
              · obtain rfl : i = n7 := by omega
                have hv : s = f k := by rw [hs.out, HF.out]; unfold sumK cntL; rw [List.take_of_length_le (by have := HLL.out; omega)]
                obtain ⟨u2, hu2⟩ : ∃ u2, u2 = u + s := ⟨_, rfl⟩
                have U2 := Lib.hid (show u2 = upTo f (k + 1) by rw [hu2, upTo_succ, hu.out, hv])
                have hu2M : u2 ≤ M := by rw [U2.out]; exact HUP.out _ hkt
                have hui : (u : Int) + (s : Int) = (u2 : Nat) := by omega
                obtain ⟨z, hz⟩ : ∃ z, z = u2 * 1000 := ⟨_, rfl⟩
                have hzi : (u2 : Int) * 1000 = (z : Nat) := by omega
                have hzb : z ≤ 104857600000 := by omega
                have HZ := Lib.hid hz
                have HV := Lib.hid hv
                clear hv hu2 hz hu hs
                by_cases hv0 : 0 < s
                · have hv0' : (0 : Int) < (s : Int) := by omega
                  by_cases hge : 0 ≤ z
                  · have hge' : ((0 : Nat) : Int) ≤ (z : Int) := by omega
                    have e := Lib.hid (hB.out.trans (bel_hit hkt ⟨by rw [← HV.out]; exact hv0, by rw [← U2.out, ← HZ.out, ← HMP.out]; exact hge⟩))
                    have CL := Lib.hid (rleast_any (k : Int) wr (WalkArith.wf_i64 ⟨by omega, by omega⟩))
                    rw [clN_of (Nat.zero_le _) (by omega)] at CL
                    clear hB hge
                    go_wp2_with fail
                    refine CL.out.mono ?_
                    rintro e9 w9 ⟨rfl, rfl⟩
                    go_wp2_with fail
                    go_ret
                    exact ⟨by rw [e.out]; rfl, BB.out⟩
                  · exfalso; omega
                · obtain rfl : s = 0 := by omega
                  have B2 := Lib.hid (hB.out.trans (bel_miss hkt fun h => by have := h.1; rw [← HV.out] at this; omega))
                  clear hB
                  go_wp2_with fail
                  go_roundw
                  case rel => exact ⟨k + 1, u2, by omega, by go_num, by go_num, U2, hu2M, B2, trivial⟩
                  case measure => simp [intOf]; omega
          · obtain rfl : k = 120 := by omega
            have e := Lib.hid hB.out
            clear hu hB
            go_wp2_with fail
            go_ret
            exact ⟨by rw [e.out]; rfl, BB.out⟩
  by_cases h1 : 1000 < part
  · have hp0 : p = 1000 := by rw [HP.out]; exact clN_hi (by simpa using h0) h1
    subst hp0
    have hmpi2 : (M : Int) * 1000 = (mp : Nat) := hmpi
    clear hmpi
    go_enter Try.func23, Try.ntmps23
    go_wp2_with fail
    refine CM.out.mono ?_
    rintro e w1 ⟨rfl, hb1⟩
    have B1 := Lib.hid hb1
    clear hb1 CM
    go_wp2_with fail
    go_loopw [7, 8] (fun rv iv wr => ∃ (i : Nat), i ≤ n ∧ iv = .int .i64 (i : Nat) ∧ Hid (Nats wr 3 .i64 w.heap.size rv ((rowsL l).take i)) ∧ Hid (Below w.heap.size w wr)) (fun _ iv _ => n - (intOf iv).toNat)
    case atStart => exact ⟨0, Nat.zero_le _, rfl, Lib.hid (Nats.nil _ _ _ _), B1⟩
    case round =>
      clear B1
      obtain ⟨i, hi, rfl, HN, BB⟩ := hrel
      obtain ⟨A7, n7, c7, rfl, hc7, hl7, hr7⟩ := HN.out.out
      by_cases hlt : i < n
      · have hlt' : (i : Int) < (n : Int) := by omega
        obtain ⟨ab, ao, x, y, hA, hab, p0, p1, hp⟩ := HR.out.pz hlt
        subst hA
        have p0 := (BB.out.cell (p := ⟨ab, ao + i * 2, none⟩) hab).trans p0
        have p1 := (BB.out.cell (p := ⟨ab, ao + i * 2 + 1, none⟩) hab).trans p1
        have hx := Lib.hid (HL.out _ (List.mem_of_getElem? hp.out)).1
        have hy := Lib.hid (HL.out _ (List.mem_of_getElem? hp.out)).2
        clear hab
        have CR := Lib.hid (fun w' => rrow_any x w' hx.out)
        obtain ⟨q, hq⟩ : ∃ q, q = rowN (inN x) := ⟨_, rfl⟩
        rw [← hq] at CR
        have HQ := Lib.hid (show (rowsL l).take (i + 1) = (rowsL l).take i ++ [q] by rw [hq]; exact tkSnoc (rowsL_get hp.out))
        have hlen : ((rowsL l).take i).length = i := by rw [List.length_take, rowsL_len, HR.out.pzLen]; omega
        have hroom : (((rowsL l).take i).length + 1) * 8 ≤ room := room_ge (by rw [hlen]; omega)
        have hz := BB.out.size
        have hi0 : ¬ (i : Int) < 0 := by omega
        clear hq hp hx hy hr7 hl7
        go_wp2_with fail
        refine (CR.out _).mono ?_
        rintro e w2 ⟨rfl, rfl⟩
        go_wp2_with (at_builtin; go_must (refine app1n iEl q rfl _ _ rfl rfl HN.out rfl rfl hroom hz ?_))
        intro v7 w7 hn7 hg7 hb7
        rw [← HQ.out] at hn7
        have N7 := Lib.hid hn7
        have B7 := Lib.hid (BB.out.trans (hb7.mono (Nat.le_refl _)))
        clear hn7 hg7 hb7 HN BB p0 p1 hz hlen hroom
        obtain ⟨A9, n9, c9, rfl, hc9, hl9, hr9⟩ := N7.out.out
        go_wp2_with fail
        go_roundw
        case rel => exact ⟨i + 1, by omega, by go_num, N7, B7⟩
        case measure => simp [intOf]; omega
      · obtain rfl : i = n := by omega
        have hll := HR.out.pzLen
        have HLN := Lib.hid (show (rowsL l).take i = rowsL l from List.take_of_length_le (by rw [rowsL_len]; omega))
        have h7 : n7 = i := by have := hl7.out; rw [HLN.out, rowsL_len, hll] at this; omega
        have HRD := Lib.hid (show Rd wr wr.heap.size 1 A7 i (ns .i64 (rowsL l)) from by have := hr7.out.re h7; rwa [HLN.out] at this)
        have HLL := Lib.hid hll
        subst h7
        clear hr7 hl7 HN HLN hll
        go_wp2_with fail
        go_loopw [9, 10] (fun uv kv wk => ∃ (k u : Nat), k ≤ 120 ∧ kv = .int .i64 (k : Nat) ∧ uv = .int .i64 (u : Nat) ∧ Hid (u = upTo f k) ∧ u ≤ M ∧ Hid (belN f M 1000 = bel f M 1000 (120 - k) k) ∧ wk = wr) (fun _ kv _ => 120 - (intOf kv).toNat)
        case atStart => exact ⟨0, 0, by omega, rfl, rfl, Lib.hid rfl, Nat.zero_le _, Lib.hid rfl, rfl⟩
        case round =>
          obtain ⟨k, u, hk, rfl, rfl, hu, huM, hB, hwk⟩ := hrel
          subst hwk
          by_cases hkt : k < 120
          · have hkt' : (k : Int) < 120 := by omega
            go_wp2_with fail
            go_loopw [11, 12] (fun sv iv wj => ∃ (i s : Nat), i ≤ n7 ∧ iv = .int .i64 (i : Nat) ∧ sv = .int .i64 (s : Nat) ∧ Hid (s = sumK (cntF k) l i) ∧ s ≤ i * 1048576 ∧ wj = wr) (fun _ iv _ => n7 - (intOf iv).toNat)
            case atStart => exact ⟨0, 0, Nat.zero_le _, rfl, rfl, Lib.hid rfl, by omega, rfl⟩
            case round =>
              obtain ⟨i, s, hi, rfl, rfl, hs, hsb, hwj⟩ := hrel
              subst hwj
              by_cases hli : i < n7
              · skip
                obtain ⟨ab, ao, x, y, hA, hab, p0, p1, hp⟩ := HR.out.pz hli
                subst hA
                have p0 := (BB.out.cell (p := ⟨ab, ao + i * 2, none⟩) hab).trans p0
                have p1 := (BB.out.cell (p := ⟨ab, ao + i * 2 + 1, none⟩) hab).trans p1
                have hx := Lib.hid (HL.out _ (List.mem_of_getElem? hp.out)).1
                have hy := Lib.hid (HL.out _ (List.mem_of_getElem? hp.out)).2
                clear hab
                have hli' : (i : Int) < (n7 : Int) := by omega
                obtain ⟨rb, ro, q, rfl, hrb, q0, hq⟩ := HRD.out.nth hli
                have hqe : q = rowN (inN x) := by
                  have h1 := hq.out
                  rw [rowsL_get hp.out] at h1
                  exact (Option.some.inj h1).symm
                have CO := Lib.hid (fun w' => roften_any y w' hy.out)
                obtain ⟨o, hoo⟩ : ∃ o, o = ofN y := ⟨_, rfl⟩
                have hob : o ≤ 1048576 := by rw [hoo]; exact ofN_le _
                rw [← hoo] at CO
                obtain ⟨s2, hs2⟩ : ∃ s2, s2 = s + cntF k (x, y) := ⟨_, rfl⟩
                have S2 := Lib.hid (show s2 = sumK (cntF k) l (i + 1) by rw [sumK_succ hp.out, ← hs.out, hs2])
                have hs2c : s2 = if q = k then s + o else s := by rw [hs2]; unfold cntF; dsimp only; rw [← hqe, ← hoo]; split <;> rfl
                have hi0 : ¬ (i : Int) < 0 := by omega
                clear hoo hqe hs2 hs hp hx hy hq hrb
                by_cases hqr : q = k
                · rw [if_pos hqr] at hs2c
                  have hqr' : (q : Int) = (k : Int) := by omega
                  have hsi : (s : Int) + (o : Int) = (s2 : Nat) := by omega
                  have hs2b : s2 ≤ (i + 1) * 1048576 := by omega
                  clear hs2c
                  subst hqr
                  go_wp2_with fail
                  refine (CO.out _).mono ?_
                  rintro e w2 ⟨rfl, rfl⟩
                  go_wp2_with fail
                  go_roundw
                  case rel => exact ⟨i + 1, s2, by omega, by go_num, by go_num, S2, hs2b, trivial⟩
                  case measure => simp [intOf]; omega
                · rw [if_neg hqr] at hs2c
                  have hqr' : ¬ (q : Int) = (k : Int) := by omega
                  have S3 := Lib.hid (show s = sumK (cntF k) l (i + 1) by rw [← hs2c]; exact S2.out)
                  have hs3b : s ≤ (i + 1) * 1048576 := Nat.le_trans hsb (Nat.mul_le_mul_right _ (Nat.le_succ i))
                  clear hs2c hqr S2
                  go_wp2_with fail
                  go_roundw
                  case rel => exact ⟨i + 1, s, by omega, by go_num, rfl, S3, hs3b, trivial⟩
                  case measure => simp [intOf]; omega
              · obtain rfl : i = n7 := by omega
                have hv : s = f k := by rw [hs.out, HF.out]; unfold sumK cntL; rw [List.take_of_length_le (by have := HLL.out; omega)]
                obtain ⟨u2, hu2⟩ : ∃ u2, u2 = u + s := ⟨_, rfl⟩
                have U2 := Lib.hid (show u2 = upTo f (k + 1) by rw [hu2, upTo_succ, hu.out, hv])
                have hu2M : u2 ≤ M := by rw [U2.out]; exact HUP.out _ hkt
                have hui : (u : Int) + (s : Int) = (u2 : Nat) := by omega
                obtain ⟨z, hz⟩ : ∃ z, z = u2 * 1000 := ⟨_, rfl⟩
                have hzi : (u2 : Int) * 1000 = (z : Nat) := by omega
                have hzb : z ≤ 104857600000 := by omega
                have HZ := Lib.hid hz
                have HV := Lib.hid hv
                clear hv hu2 hz hu hs
                by_cases hv0 : 0 < s
                · have hv0' : (0 : Int) < (s : Int) := by omega
                  by_cases hge : mp ≤ z
                  · have hge' : ((mp : Nat) : Int) ≤ (z : Int) := by omega
                    have e := Lib.hid (hB.out.trans (bel_hit hkt ⟨by rw [← HV.out]; exact hv0, by rw [← U2.out, ← HZ.out, ← HMP.out]; exact hge⟩))
                    have CL := Lib.hid (rleast_any (k : Int) wr (WalkArith.wf_i64 ⟨by omega, by omega⟩))
                    rw [clN_of (Nat.zero_le _) (by omega)] at CL
                    clear hB hge
                    go_wp2_with fail
                    refine CL.out.mono ?_
                    rintro e9 w9 ⟨rfl, rfl⟩
                    go_wp2_with fail
                    go_ret
                    exact ⟨by rw [e.out]; rfl, BB.out⟩
                  · have hge' : ¬ ((mp : Nat) : Int) ≤ (z : Int) := by omega
                    have B2 := Lib.hid (hB.out.trans (bel_miss hkt fun h => hge (by rw [HMP.out, HZ.out, U2.out]; exact h.2)))
                    clear hB hge
                    go_wp2_with fail
                    go_roundw
                    case rel => exact ⟨k + 1, u2, by omega, by go_num, by go_num, U2, hu2M, B2, trivial⟩
                    case measure => simp [intOf]; omega
                · obtain rfl : s = 0 := by omega
                  have B2 := Lib.hid (hB.out.trans (bel_miss hkt fun h => by have := h.1; rw [← HV.out] at this; omega))
                  clear hB
                  go_wp2_with fail
                  go_roundw
                  case rel => exact ⟨k + 1, u2, by omega, by go_num, by go_num, U2, hu2M, B2, trivial⟩
                  case measure => simp [intOf]; omega
          · obtain rfl : k = 120 := by omega
            have e := Lib.hid hB.out
            clear hu hB
            go_wp2_with fail
            go_ret
            exact ⟨by rw [e.out]; rfl, BB.out⟩
  · have hp0 : (p : Int) = part := by rw [HP.out]; exact clN_in (by simpa using h0) h1
    subst hp0
    clear HP
    go_enter Try.func23, Try.ntmps23
    go_wp2_with fail
    refine CM.out.mono ?_
    rintro e w1 ⟨rfl, hb1⟩
    have B1 := Lib.hid hb1
    clear hb1 CM
    go_wp2_with fail
    go_loopw [7, 8] (fun rv iv wr => ∃ (i : Nat), i ≤ n ∧ iv = .int .i64 (i : Nat) ∧ Hid (Nats wr 3 .i64 w.heap.size rv ((rowsL l).take i)) ∧ Hid (Below w.heap.size w wr)) (fun _ iv _ => n - (intOf iv).toNat)
    case atStart => exact ⟨0, Nat.zero_le _, rfl, Lib.hid (Nats.nil _ _ _ _), B1⟩
    case round =>
      clear B1
      obtain ⟨i, hi, rfl, HN, BB⟩ := hrel
      obtain ⟨A7, n7, c7, rfl, hc7, hl7, hr7⟩ := HN.out.out
      by_cases hlt : i < n
      · have hlt' : (i : Int) < (n : Int) := by omega
        obtain ⟨ab, ao, x, y, hA, hab, p0, p1, hp⟩ := HR.out.pz hlt
        subst hA
        have p0 := (BB.out.cell (p := ⟨ab, ao + i * 2, none⟩) hab).trans p0
        have p1 := (BB.out.cell (p := ⟨ab, ao + i * 2 + 1, none⟩) hab).trans p1
        have hx := Lib.hid (HL.out _ (List.mem_of_getElem? hp.out)).1
        have hy := Lib.hid (HL.out _ (List.mem_of_getElem? hp.out)).2
        clear hab
        have CR := Lib.hid (fun w' => rrow_any x w' hx.out)
        obtain ⟨q, hq⟩ : ∃ q, q = rowN (inN x) := ⟨_, rfl⟩
        rw [← hq] at CR
        have HQ := Lib.hid (show (rowsL l).take (i + 1) = (rowsL l).take i ++ [q] by rw [hq]; exact tkSnoc (rowsL_get hp.out))
        have hlen : ((rowsL l).take i).length = i := by rw [List.length_take, rowsL_len, HR.out.pzLen]; omega
        have hroom : (((rowsL l).take i).length + 1) * 8 ≤ room := room_ge (by rw [hlen]; omega)
        have hz := BB.out.size
        have hi0 : ¬ (i : Int) < 0 := by omega
        clear hq hp hx hy hr7 hl7
        go_wp2_with fail
        refine (CR.out _).mono ?_
        rintro e w2 ⟨rfl, rfl⟩
        go_wp2_with (at_builtin; go_must (refine app1n iEl q rfl _ _ rfl rfl HN.out rfl rfl hroom hz ?_))
        intro v7 w7 hn7 hg7 hb7
        rw [← HQ.out] at hn7
        have N7 := Lib.hid hn7
        have B7 := Lib.hid (BB.out.trans (hb7.mono (Nat.le_refl _)))
        clear hn7 hg7 hb7 HN BB p0 p1 hz hlen hroom
        obtain ⟨A9, n9, c9, rfl, hc9, hl9, hr9⟩ := N7.out.out
        go_wp2_with fail
        go_roundw
        case rel => exact ⟨i + 1, by omega, by go_num, N7, B7⟩
        case measure => simp [intOf]; omega
      · obtain rfl : i = n := by omega
        have hll := HR.out.pzLen
        have HLN := Lib.hid (show (rowsL l).take i = rowsL l from List.take_of_length_le (by rw [rowsL_len]; omega))
        have h7 : n7 = i := by have := hl7.out; rw [HLN.out, rowsL_len, hll] at this; omega
        have HRD := Lib.hid (show Rd wr wr.heap.size 1 A7 i (ns .i64 (rowsL l)) from by have := hr7.out.re h7; rwa [HLN.out] at this)
        have HLL := Lib.hid hll
        subst h7
        clear hr7 hl7 HN HLN hll
        go_wp2_with fail
        go_loopw [9, 10] (fun uv kv wk => ∃ (k u : Nat), k ≤ 120 ∧ kv = .int .i64 (k : Nat) ∧ uv = .int .i64 (u : Nat) ∧ Hid (u = upTo f k) ∧ u ≤ M ∧ Hid (belN f M p = bel f M p (120 - k) k) ∧ wk = wr) (fun _ kv _ => 120 - (intOf kv).toNat)
        case atStart => exact ⟨0, 0, by omega, rfl, rfl, Lib.hid rfl, Nat.zero_le _, Lib.hid rfl, rfl⟩
        case round =>
          obtain ⟨k, u, hk, rfl, rfl, hu, huM, hB, hwk⟩ := hrel
          subst hwk
          by_cases hkt : k < 120
          · have hkt' : (k : Int) < 120 := by omega
            go_wp2_with fail
            go_loopw [11, 12] (fun sv iv wj => ∃ (i s : Nat), i ≤ n7 ∧ iv = .int .i64 (i : Nat) ∧ sv = .int .i64 (s : Nat) ∧ Hid (s = sumK (cntF k) l i) ∧ s ≤ i * 1048576 ∧ wj = wr) (fun _ iv _ => n7 - (intOf iv).toNat)
            case atStart => exact ⟨0, 0, Nat.zero_le _, rfl, rfl, Lib.hid rfl, by omega, rfl⟩
            case round =>
              obtain ⟨i, s, hi, rfl, rfl, hs, hsb, hwj⟩ := hrel
              subst hwj
              by_cases hli : i < n7
              · skip
                obtain ⟨ab, ao, x, y, hA, hab, p0, p1, hp⟩ := HR.out.pz hli
                subst hA
                have p0 := (BB.out.cell (p := ⟨ab, ao + i * 2, none⟩) hab).trans p0
                have p1 := (BB.out.cell (p := ⟨ab, ao + i * 2 + 1, none⟩) hab).trans p1
                have hx := Lib.hid (HL.out _ (List.mem_of_getElem? hp.out)).1
                have hy := Lib.hid (HL.out _ (List.mem_of_getElem? hp.out)).2
                clear hab
                have hli' : (i : Int) < (n7 : Int) := by omega
                obtain ⟨rb, ro, q, rfl, hrb, q0, hq⟩ := HRD.out.nth hli
                have hqe : q = rowN (inN x) := by
                  have h1 := hq.out
                  rw [rowsL_get hp.out] at h1
                  exact (Option.some.inj h1).symm
                have CO := Lib.hid (fun w' => roften_any y w' hy.out)
                obtain ⟨o, hoo⟩ : ∃ o, o = ofN y := ⟨_, rfl⟩
                have hob : o ≤ 1048576 := by rw [hoo]; exact ofN_le _
                rw [← hoo] at CO
                obtain ⟨s2, hs2⟩ : ∃ s2, s2 = s + cntF k (x, y) := ⟨_, rfl⟩
                have S2 := Lib.hid (show s2 = sumK (cntF k) l (i + 1) by rw [sumK_succ hp.out, ← hs.out, hs2])
                have hs2c : s2 = if q = k then s + o else s := by rw [hs2]; unfold cntF; dsimp only; rw [← hqe, ← hoo]; split <;> rfl
                have hi0 : ¬ (i : Int) < 0 := by omega
                clear hoo hqe hs2 hs hp hx hy hq hrb
                by_cases hqr : q = k
                · rw [if_pos hqr] at hs2c
                  have hqr' : (q : Int) = (k : Int) := by omega
                  have hsi : (s : Int) + (o : Int) = (s2 : Nat) := by omega
                  have hs2b : s2 ≤ (i + 1) * 1048576 := by omega
                  clear hs2c
                  subst hqr
                  go_wp2_with fail
                  refine (CO.out _).mono ?_
                  rintro e w2 ⟨rfl, rfl⟩
                  go_wp2_with fail
                  go_roundw
                  case rel => exact ⟨i + 1, s2, by omega, by go_num, by go_num, S2, hs2b, trivial⟩
                  case measure => simp [intOf]; omega
                · rw [if_neg hqr] at hs2c
                  have hqr' : ¬ (q : Int) = (k : Int) := by omega
                  have S3 := Lib.hid (show s = sumK (cntF k) l (i + 1) by rw [← hs2c]; exact S2.out)
                  have hs3b : s ≤ (i + 1) * 1048576 := Nat.le_trans hsb (Nat.mul_le_mul_right _ (Nat.le_succ i))
                  clear hs2c hqr S2
                  go_wp2_with fail
                  go_roundw
                  case rel => exact ⟨i + 1, s, by omega, by go_num, rfl, S3, hs3b, trivial⟩
                  case measure => simp [intOf]; omega
              · obtain rfl : i = n7 := by omega
                have hv : s = f k := by rw [hs.out, HF.out]; unfold sumK cntL; rw [List.take_of_length_le (by have := HLL.out; omega)]
                obtain ⟨u2, hu2⟩ : ∃ u2, u2 = u + s := ⟨_, rfl⟩
                have U2 := Lib.hid (show u2 = upTo f (k + 1) by rw [hu2, upTo_succ, hu.out, hv])
                have hu2M : u2 ≤ M := by rw [U2.out]; exact HUP.out _ hkt
                have hui : (u : Int) + (s : Int) = (u2 : Nat) := by omega
                obtain ⟨z, hz⟩ : ∃ z, z = u2 * 1000 := ⟨_, rfl⟩
                have hzi : (u2 : Int) * 1000 = (z : Nat) := by omega
                have hzb : z ≤ 104857600000 := by omega
                have HZ := Lib.hid hz
                have HV := Lib.hid hv
                clear hv hu2 hz hu hs
                by_cases hv0 : 0 < s
                · have hv0' : (0 : Int) < (s : Int) := by omega
                  by_cases hge : mp ≤ z
                  · have hge' : ((mp : Nat) : Int) ≤ (z : Int) := by omega
                    have e := Lib.hid (hB.out.trans (bel_hit hkt ⟨by rw [← HV.out]; exact hv0, by rw [← U2.out, ← HZ.out, ← HMP.out]; exact hge⟩))
                    have CL := Lib.hid (rleast_any (k : Int) wr (WalkArith.wf_i64 ⟨by omega, by omega⟩))
                    rw [clN_of (Nat.zero_le _) (by omega)] at CL
                    clear hB hge
                    go_wp2_with fail
                    refine CL.out.mono ?_
                    rintro e9 w9 ⟨rfl, rfl⟩
                    go_wp2_with fail
                    go_ret
                    exact ⟨by rw [e.out]; rfl, BB.out⟩
                  · have hge' : ¬ ((mp : Nat) : Int) ≤ (z : Int) := by omega
                    have B2 := Lib.hid (hB.out.trans (bel_miss hkt fun h => hge (by rw [HMP.out, HZ.out, U2.out]; exact h.2)))
                    clear hB hge
                    go_wp2_with fail
                    go_roundw
                    case rel => exact ⟨k + 1, u2, by omega, by go_num, by go_num, U2, hu2M, B2, trivial⟩
                    case measure => simp [intOf]; omega
                · obtain rfl : s = 0 := by omega
                  have B2 := Lib.hid (hB.out.trans (bel_miss hkt fun h => by have := h.1; rw [← HV.out] at this; omega))
                  clear hB
                  go_wp2_with fail
                  go_roundw
                  case rel => exact ⟨k + 1, u2, by omega, by go_num, by go_num, U2, hu2M, B2, trivial⟩
                  case measure => simp [intOf]; omega
          · obtain rfl : k = 120 := by omega
            have e := Lib.hid hB.out
            clear hu hB
            go_wp2_with fail
            go_ret
            exact ⟨by rw [e.out]; rfl, BB.out⟩
end Go.Proofs.Ytioebcjhmfndnaa
