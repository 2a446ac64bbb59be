/- Layer 6's law: Plain, Same, most. -/
import Derived.Test.YtiabafnfiedlcaaSpn7
import Derived.Laws.StructEq
namespace Go.Proofs.Ytiabafnfiedlcaa
open Go.RowKit
set_option linter.unusedVariables false
theorem prfEl : El Try.prog 28 40 (.agg #[.int .u64 0, .int .u64 0]) 2 16 := ⟨Try.underlying28, by kernel_rfl, rfl, by omega, by omega⟩
set_option maxRecDepth 20000 in
set_option maxHeartbeats 1000000 in
theorem plain_any (A : Option Addr) (n c B : Nat) (l : List Sp) (w : World) (h : Rd w B 2 A n (cels l)) (hB : B ≤ w.heap.size) (hn : n ≤ 1000) :
    Calls Try.prog 20 #[.slice A n c] w fun e w' => ∃ v, e = .returned v ∧ Pcs w' 40 w.heap.size v l ∧ Below w.heap.size w w' := by
  have HR := Lib.hid (h.mono hB)
  have HL := Lib.hid h.pcLen
  clear h
  go_enter Try.func20, Try.ntmps20
  go_wp2_with fail
  go_loopw [3, 4] (fun ov iv wr => ∃ k : Nat, k ≤ n ∧ iv = .int .i64 k ∧ Hid (Pcs wr 40 w.heap.size ov (l.take k)) ∧ Below w.heap.size w wr) (fun _ iv _ => n - (intOf iv).toNat)
  case atStart => exact ⟨0, Nat.zero_le _, rfl, Lib.hid (Pcs.nil _ _ _), Below.refl _ _⟩
  case round =>
    obtain ⟨k, hk, rfl, ho, hbw⟩ := hrel
    obtain ⟨A7, n7, c7, rfl, _, _, hl7, _⟩ := ho.out.out
    have hbs := hbw.size
    by_cases hlt : k < n
    · have hlt' : (k : Int) < (n : Int) := by omega
      obtain ⟨b, off, x, y, rfl, hbb, p0, p1, hp⟩ := (HR.out.below hbw).pc hlt
      have htk : l.take (k + 1) = l.take k ++ [(x, y)] := nth_take hp
      have hroom : ((l.take k).length + 1) * 16 ≤ room := by have := List.length_take_le k l; exact room_ge (by omega)
      have HT := Lib.hid htk
      clear htk hp hl7
      go_wp2_with fail
      refine wp_ord [(0, .pure), (1, .pure), (2, .pure), (3, .pure), (4, .pure), (5, .read), (6, .pure), (7, .pure), (8, .pure), (9, .pure), (10, .read), (11, .pure), (12, .sole), (13, .sole), (14, .pure)] [13] (by kernel_rfl) (by kernel_rfl) (fun QQ hQ wd hwd => ?_); simp only [List.map_cons, List.map_nil, List.getD_cons_zero, List.getD_cons_succ]
      have pp0 : wd.cell? ⟨b, off + k * 2, none⟩ = some (.int .u64 (x : Int)) := by rw [hwd.out]; exact p0
      have pp1 : wd.cell? ⟨b, off + k * 2 + 1, none⟩ = some (.int .u64 (y : Int)) := by rw [hwd.out]; exact p1
      have hod : Pcs wd 40 w.heap.size (.slice A7 n7 c7) (l.take k) := by rw [hwd.out]; exact ho.out
      have HOD := Lib.hid hod
      have hbd : Below w.heap.size w wd := by rw [hwd.out]; exact hbw.drew
      have hbs' : w.heap.size ≤ wd.heap.size := hbd.size
      clear hod ho hbw hbs p0 p1 hwd
      (refine o_pure (v := ?_) (by rfl) (fun w' => ?_) ?_; rotate_left; (focus (go_simp; (try with_reducible rfl))); (try simp only [Act.put, List.setIfInBounds_toArray, List.set_cons_zero, List.set_cons_succ]))
      (refine o_pure (v := ?_) (by rfl) (fun w' => ?_) ?_; rotate_left; (focus (go_simp; (try with_reducible rfl))); (try simp only [Act.put, List.setIfInBounds_toArray, List.set_cons_zero, List.set_cons_succ]))
      (refine o_pure (v := ?_) (by rfl) (fun w' => ?_) ?_; rotate_left; (focus (go_simp; (try with_reducible rfl))); (try simp only [Act.put, List.setIfInBounds_toArray, List.set_cons_zero, List.set_cons_succ]))
      (refine o_pure (v := ?_) (by rfl) (fun w' => ?_) ?_; rotate_left; (focus (go_simp; (try with_reducible rfl))); (try simp only [Act.put, List.setIfInBounds_toArray, List.set_cons_zero, List.set_cons_succ]))
      (refine o_pure (v := ?_) (by rfl) (fun w' => ?_) ?_; rotate_left; (focus (go_simp; (try with_reducible rfl))); (try simp only [Act.put, List.setIfInBounds_toArray, List.set_cons_zero, List.set_cons_succ]))
      (refine o_load _ (by rfl) rfl rfl (by assumption) (by kernel_rfl) ?_; simp only [Act.put, List.setIfInBounds_toArray, List.set_cons_zero, List.set_cons_succ])
      (refine o_pure (v := ?_) (by rfl) (fun w' => ?_) ?_; rotate_left; (focus (go_simp; (try with_reducible rfl))); (try simp only [Act.put, List.setIfInBounds_toArray, List.set_cons_zero, List.set_cons_succ]))
      (refine o_pure (v := ?_) (by rfl) (fun w' => ?_) ?_; rotate_left; (focus (go_simp; (try with_reducible rfl))); (try simp only [Act.put, List.setIfInBounds_toArray, List.set_cons_zero, List.set_cons_succ]))
      (refine o_pure (v := ?_) (by rfl) (fun w' => ?_) ?_; rotate_left; (focus (go_simp; (try with_reducible rfl))); (try simp only [Act.put, List.setIfInBounds_toArray, List.set_cons_zero, List.set_cons_succ]))
      (refine o_pure (v := ?_) (by rfl) (fun w' => ?_) ?_; rotate_left; (focus (go_simp; (try with_reducible rfl))); (try simp only [Act.put, List.setIfInBounds_toArray, List.set_cons_zero, List.set_cons_succ]))
      (refine o_load _ (by rfl) rfl rfl (by assumption) (by kernel_rfl) ?_; simp only [Act.put, List.setIfInBounds_toArray, List.set_cons_zero, List.set_cons_succ])
      (refine o_pure (v := ?_) (by rfl) (fun w' => ?_) ?_; rotate_left; (focus (go_simp; (try with_reducible rfl))); (try simp only [Act.put, List.setIfInBounds_toArray, List.set_cons_zero, List.set_cons_succ]))
      refine o_sole (fun K hK => ?_)
      go_wp2_with fail
      refine hK _ _ (fun _ => Ext.of ((Below.refl _ _).alloc (Nat.le_refl _) _)) ?_; clear hK K
      refine o_sole (fun K hK => ?_)
      refine app1p prfEl x y rfl (.tmp 11) (.tmp 23) rfl rfl HOD.out rfl rfl hroom hbs' ?_
      intro v2 w2 ho2 hg2 hb2
      have HO2 := Lib.hid ho2
      clear ho2 hg2
      refine wpList_nil ?_
      refine hK _ _ (fun h => by cases h) ?_; clear hK K
      simp only [Act.put, List.setIfInBounds_toArray, List.set_cons_zero, List.set_cons_succ]
      (refine o_pure (v := ?_) (by rfl) (fun w' => ?_) ?_; rotate_left; (focus (go_simp; (try with_reducible rfl))); (try simp only [Act.put, List.setIfInBounds_toArray, List.set_cons_zero, List.set_cons_succ]))
      refine o_nil (hQ.out _ _ ?_); clear hQ QQ
      go_wp2_with fail
      go_roundw
      case rel => exact ⟨k + 1, by omega, by go_num, Lib.hid (by rw [HT.out]; exact HO2.out), hbd.trans hb2⟩
      case measure => simp [intOf]; omega
    · have hge : ¬ (k : Int) < (n : Int) := by omega
      have hall : l.take k = l := List.take_of_length_le (by rw [HL.out]; omega)
      have HA := Lib.hid hall
      clear hall
      go_wp2_with fail
      go_ret
      refine ⟨_, rfl, ?_, hbw⟩
      have := ho.out
      rw [HA.out] at this
      exact this
theorem most_any (m : Int) (w : World) : Calls Try.prog 17 #[.int .i64 m] w fun e w' => e = .returned (.int .i64 (mostN m : Int)) ∧ w = w' := by
  unfold mostN
  by_cases h1 : m < 1
  · rw [if_pos h1]
    go_enter Try.func17, Try.ntmps17
    go_wp2_with fail
    go_ret
    exact ⟨rfl, rfl⟩
  · rw [if_neg h1]
    by_cases h2 : 64 < m
    · rw [if_pos h2]
      go_enter Try.func17, Try.ntmps17
      go_wp2_with fail
      go_ret
      exact ⟨rfl, rfl⟩
    · rw [if_neg h2]
      go_enter Try.func17, Try.ntmps17
      go_wp2_with fail
      go_ret
      exact ⟨ret_int (by omega), rfl⟩
theorem same_at {l m : List Sp} {i : Nat} {p q : Sp} (hp : l[i]? = some p) (hq : m[i]? = some q) (h : p ≠ q) : decide (l = m) = false := by
  rw [decide_eq_false_iff_not]
  intro e
  subst e
  rw [hp] at hq
  injection hq with hq
  exact h hq
theorem same_step {l m : List Sp} {i : Nat} {p : Sp} (hp : Hid (l[i]? = some p)) (hq : Hid (m[i]? = some p)) (h : l.take i = m.take i) : l.take (i + 1) = m.take (i + 1) := by
  rw [nth_take hp, nth_take hq, h]
set_option maxRecDepth 20000 in
set_option maxHeartbeats 1000000 in
theorem same_any (A A2 : Option Addr) (n c n2 c2 B B2 : Nat) (l m : List Sp) (w : World) (h : Rd w B 2 A n (cels l)) (h2 : Rd w B2 2 A2 n2 (cels m)) (hn : n ≤ 100000) :
    Calls Try.prog 19 #[.slice A n c, .slice A2 n2 c2] w fun e w' => e = .returned (.bool (decide (l = m))) ∧ Below w.heap.size w w' := by
  have HL := Lib.hid h.pcLen
  have HL2 := Lib.hid h2.pcLen
  have HR := Lib.hid h
  have HR2 := Lib.hid h2
  clear h h2
  by_cases hne : n = n2
  · subst hne
    go_enter Try.func19, Try.ntmps19
    go_wp2_with fail
    go_loopw [5] (fun iv wr => ∃ k : Nat, k ≤ n ∧ iv = .int .i64 k ∧ Hid (l.take k = m.take k) ∧ ∃ q, wr = w.drewN q) (fun iv _ => n - (intOf iv).toNat)
    case atStart => exact ⟨0, Nat.zero_le _, rfl, Lib.hid (by simp), 0, rfl⟩
    case round =>
      obtain ⟨k, hk, rfl, hs, q, rfl⟩ := hrel
      by_cases hlt : k < n
      · have hlt' : (k : Int) < (n : Int) := by omega
        obtain ⟨b, off, x, y, rfl, hbb, p0, p1, hp⟩ := HR.out.pc hlt
        obtain ⟨b2, off2, x2, y2, rfl, hbb2, q0, q1, hp2⟩ := HR2.out.pc hlt
        by_cases he : x = x2 ∧ y = y2
        · obtain ⟨rfl, rfl⟩ := he
          have hst := same_step hp hp2 hs.out
          have HST := Lib.hid hst
          clear hst hp hp2 hs
          go_wp2_with fail
          go_quiet (fail)
          go_wp2_with fail
          go_roundw
          case rel => exact ⟨k + 1, by omega, by go_num, HST, _, rfl⟩
          case measure => simp [intOf]; omega
        · have hd : decide (l = m) = false := same_at hp.out hp2.out (fun e => he (by injection e with e1 e2; exact ⟨e1, e2⟩))
          have HD := Lib.hid hd
          clear hd hp hp2 hs
          by_cases hx : x = x2
          · subst hx
            have hy : ¬ (y : Int) = (y2 : Int) := by omega
            have hy2 : ((y : Int) == (y2 : Int)) = false := beq_eq_false_iff_ne.2 hy
            go_wp2_with fail
            go_quiet (fail)
            go_wp2_with fail
            go_ret
            exact ⟨ret_bool (by rw [HD.out]), below_drewN (below_drewN (Below.refl _ _) _) _⟩
          · have hx1 : ¬ (x : Int) = (x2 : Int) := by omega
            have hx2 : ((x : Int) == (x2 : Int)) = false := beq_eq_false_iff_ne.2 hx1
            clear he hx
            go_wp2_with fail
            go_quiet (fail)
            go_wp2_with fail
            go_ret
            exact ⟨ret_bool (by rw [HD.out]), below_drewN (below_drewN (Below.refl _ _) _) _⟩
      · have hge : ¬ (k : Int) < (n : Int) := by omega
        have hall : l = m := by
          have := hs.out
          rw [List.take_of_length_le (by rw [HL.out]; omega), List.take_of_length_le (by rw [HL2.out]; omega)] at this
          exact this
        have HA := Lib.hid hall
        clear hall
        go_wp2_with fail
        go_ret
        exact ⟨ret_bool (by rw [decide_eq_true HA.out]), below_drewN (Below.refl _ _) q⟩
  · have hne' : ¬ (n : Int) = (n2 : Int) := by omega
    have hd : decide (l = m) = false := by
      rw [decide_eq_false_iff_not]
      intro e
      subst e
      exact hne (HL.out.symm.trans HL2.out)
    rw [hd]
    go_enter Try.func19, Try.ntmps19
    go_wp2_with fail
    go_ret
    exact ⟨rfl, Below.refl _ _⟩
end Go.Proofs.Ytiabafnfiedlcaa
