/- Layer 34: the document's Right; two rows of records that are the same. -/
import Derived.Test.YtiblmlmkpilgmaaCap6
import Derived.Test.YtiblmlmkpilgmaaQx
import Derived.Test.YtiblmlmkpilgmaaPut
import Derived.Laws.StructEq
namespace Go.Proofs.Ytiblmlmkpilgmaa
open Go.RowKit
set_option linter.unusedVariables false
set_option linter.unusedSimpArgs false
theorem strN_size (l : List Nat) : (strN l).size = l.length := by
  show ((l.map UInt8.ofNat).toArray).size = _
  simp
theorem rgo_step {l : List Rcd} {k : Nat} {a : Int} {p : Rcd} (h : rightGo 0 l ↔ rightGo a (l.drop k)) (hp : l[k]? = some p) : rightGo 0 l ↔ recOk a p ∧ rightGo p.1 (l.drop (k + 1)) := by
  rw [h, drop_at hp]
  rfl
set_option maxRecDepth 20000 in
set_option maxHeartbeats 16000000 in
theorem rcright_any (A : Option Addr) (n c : Nat) (l : List Rcd) (w : World) (h : Rd w w.heap.size 4 A n (rcs l)) (hn : n ≤ 100000) (hbd : ∀ p ∈ l, p.2.2.2.length ≤ maxLen) :
    Calls Try.prog 60 #[.slice A n c] w fun e w' => CRPost l e ∧ Below w.heap.size w w' := by
  have HR := Lib.hid h
  have HL := Lib.hid (rcLen h)
  have HBD := Lib.hid hbd
  clear h hbd
  go_enter Try.func60, Try.ntmps60
  go_wp2_with fail
  go_loopw [3] (fun iv wr => ∃ (k : Nat) (a : Int), k ≤ n ∧ iv = .int .i64 k ∧ 0 ≤ a ∧ Hid (rightGo 0 l ↔ rightGo a (l.drop k)) ∧ Hid ((k = 0 ∧ a = 0) ∨ ∃ r, 0 < k ∧ l[k - 1]? = some r ∧ r.1 = a) ∧ Below w.heap.size w wr) (fun iv _ => n - (intOf iv).toNat)
  case atStart => exact ⟨0, 0, Nat.zero_le _, rfl, by omega, Lib.hid (by simp), Lib.hid (.inl ⟨rfl, rfl⟩), Below.refl _ _⟩
  case round =>
    obtain ⟨k, a, hk, rfl, ha0, hgo, hpr, hbw⟩ := hrel
    by_cases hlt : k < n
    · have hlt' : (k : Int) < (n : Int) := by omega
      have hRw := HR.out.below hbw
      obtain ⟨b, off, t, s, p, bs, rfl, hbb, p0, p1, p2, p3, hp⟩ := hRw.rec4 hlt
      have HST := Lib.hid (rgo_step hgo.out hp.out)
      have HP := Lib.hid hp.out
      obtain ⟨m, hm⟩ : ∃ m, m = bs.length := ⟨_, rfl⟩
      have hsz : (strN bs).size = m := by rw [strN_size, hm]
      have HM := Lib.hid hm
      have hmm : m ≤ maxLen := by rw [hm]; exact HBD.out _ (List.mem_of_getElem? hp.out)
      clear hgo hp hm
      have hno : ¬ recOk a (t, s, p, bs) → CRPost l (.returned (.bool false)) := fun h1 => crPost_no fun h2 => h1 (HST.out.1 h2.2).1
      have HNO := Lib.hid hno
      clear hno
      have ha : Below wr.heap.size wr (wr.alloc (.cells #[.int .i64 t, .int .i64 s, .int .i64 p, .string (strN bs)] 134)) := (Below.refl _ _).alloc (Nat.le_refl _) _
      have hk4 := Blk.new wr 134 #[.int .i64 t, .int .i64 s, .int .i64 p, .string (strN bs)]
      have hRa := hRw.below (ha.mono hbw.size)
      have hbA := hbw.trans (ha.mono hbw.size)
      have KN := Lib.hid hk4
      have BA := Lib.hid hbA
      have RA := Lib.hid hRa
      clear ha hk4 hbA hRa hRw hbw
      go_wp2_with fail
      clear p0 p1 p2 p3
      generalize wr.alloc (.cells #[.int .i64 t, .int .i64 s, .int .i64 p, .string (strN bs)] 134) = W at *
      obtain ⟨T, hT⟩ : ∃ T, T = wr.heap.size := ⟨_, rfl⟩
      rw [← hT] at KN ⊢
      clear hT
      obtain ⟨t0, t1, t2, t3⟩ := ptc4 KN.out
      rcases Nat.eq_zero_or_pos k with hk0 | hk0
      · subst hk0
        have haz : a = 0 := by
          rcases hpr.out with ⟨_, h⟩ | ⟨r, h, _⟩
          · exact h
          · omega
        subst haz
        clear hpr
        by_cases c0 : t < 0
        · have HN := Lib.hid (HNO.out fun h => by have := h.1; dsimp only at this; omega)
          refine wp_ext (by kernel_rfl) (by kernel_rfl) (fun QQ hQ => ?_)
          iterate 49 (first | (refine x_skip (by rfl) ?_; simp only [Act.put, List.setIfInBounds_toArray, List.set_cons_zero, List.set_cons_succ]) | (first | (refine x_load _ (by rfl) rfl rfl (by assumption) (by kernel_rfl) ?_; simp only [Act.put, List.setIfInBounds_toArray, List.set_cons_zero, List.set_cons_succ]) | (refine x_val (v := ?_) (by rfl) (fun w' hx => ?_) ?_; rotate_left; (focus (go_simp; (try with_reducible rfl))); (try simp only [Act.put, List.setIfInBounds_toArray, List.set_cons_zero, List.set_cons_succ]))))
          refine x_nil (hQ.out _ ?_); clear hQ QQ
          intro w5 hb5
          have B5 := Lib.hid (BA.out.trans (hb5.mono BA.out.size))
          clear hb5 t0 t1 t2 t3
          go_wp2_with fail
          go_ret
          exact ⟨HN.out, B5.out⟩
        have d0 : decide (t < 0) = false := decide_eq_false c0
        by_cases c1 : 2147483647 < t
        · have HN := Lib.hid (HNO.out fun h => by have := h.2.1; dsimp only at this; omega)
          refine wp_ext (by kernel_rfl) (by kernel_rfl) (fun QQ hQ => ?_)
          iterate 49 (first | (refine x_skip (by rfl) ?_; simp only [Act.put, List.setIfInBounds_toArray, List.set_cons_zero, List.set_cons_succ]) | (first | (refine x_load _ (by rfl) rfl rfl (by assumption) (by kernel_rfl) ?_; simp only [Act.put, List.setIfInBounds_toArray, List.set_cons_zero, List.set_cons_succ]) | (refine x_val (v := ?_) (by rfl) (fun w' hx => ?_) ?_; rotate_left; (focus (go_simp; (try with_reducible rfl))); (try simp only [Act.put, List.setIfInBounds_toArray, List.set_cons_zero, List.set_cons_succ]))))
          refine x_nil (hQ.out _ ?_); clear hQ QQ
          intro w5 hb5
          have B5 := Lib.hid (BA.out.trans (hb5.mono BA.out.size))
          clear hb5 t0 t1 t2 t3
          go_wp2_with fail
          go_ret
          exact ⟨HN.out, B5.out⟩
        have d1 : decide (2147483647 < t) = false := decide_eq_false c1
        by_cases c3 : s < 0
        · have HN := Lib.hid (HNO.out fun h => by have := h.2.2.2.1; dsimp only at this; omega)
          refine wp_ext (by kernel_rfl) (by kernel_rfl) (fun QQ hQ => ?_)
          iterate 49 (first | (refine x_skip (by rfl) ?_; simp only [Act.put, List.setIfInBounds_toArray, List.set_cons_zero, List.set_cons_succ]) | (first | (refine x_load _ (by rfl) rfl rfl (by assumption) (by kernel_rfl) ?_; simp only [Act.put, List.setIfInBounds_toArray, List.set_cons_zero, List.set_cons_succ]) | (refine x_val (v := ?_) (by rfl) (fun w' hx => ?_) ?_; rotate_left; (focus (go_simp; (try with_reducible rfl))); (try simp only [Act.put, List.setIfInBounds_toArray, List.set_cons_zero, List.set_cons_succ]))))
          refine x_nil (hQ.out _ ?_); clear hQ QQ
          intro w5 hb5
          have B5 := Lib.hid (BA.out.trans (hb5.mono BA.out.size))
          clear hb5 t0 t1 t2 t3
          go_wp2_with fail
          go_ret
          exact ⟨HN.out, B5.out⟩
        have d3 : decide (s < 0) = false := decide_eq_false c3
        by_cases c4 : 1 < s
        · have HN := Lib.hid (HNO.out fun h => by have := h.2.2.2.1; dsimp only at this; omega)
          refine wp_ext (by kernel_rfl) (by kernel_rfl) (fun QQ hQ => ?_)
          iterate 49 (first | (refine x_skip (by rfl) ?_; simp only [Act.put, List.setIfInBounds_toArray, List.set_cons_zero, List.set_cons_succ]) | (first | (refine x_load _ (by rfl) rfl rfl (by assumption) (by kernel_rfl) ?_; simp only [Act.put, List.setIfInBounds_toArray, List.set_cons_zero, List.set_cons_succ]) | (refine x_val (v := ?_) (by rfl) (fun w' hx => ?_) ?_; rotate_left; (focus (go_simp; (try with_reducible rfl))); (try simp only [Act.put, List.setIfInBounds_toArray, List.set_cons_zero, List.set_cons_succ]))))
          refine x_nil (hQ.out _ ?_); clear hQ QQ
          intro w5 hb5
          have B5 := Lib.hid (BA.out.trans (hb5.mono BA.out.size))
          clear hb5 t0 t1 t2 t3
          go_wp2_with fail
          go_ret
          exact ⟨HN.out, B5.out⟩
        have d4 : decide (1 < s) = false := decide_eq_false c4
        by_cases c5 : p < 0
        · have HN := Lib.hid (HNO.out fun h => by have := h.2.2.2.2.1; dsimp only at this; omega)
          refine wp_ext (by kernel_rfl) (by kernel_rfl) (fun QQ hQ => ?_)
          iterate 49 (first | (refine x_skip (by rfl) ?_; simp only [Act.put, List.setIfInBounds_toArray, List.set_cons_zero, List.set_cons_succ]) | (first | (refine x_load _ (by rfl) rfl rfl (by assumption) (by kernel_rfl) ?_; simp only [Act.put, List.setIfInBounds_toArray, List.set_cons_zero, List.set_cons_succ]) | (refine x_val (v := ?_) (by rfl) (fun w' hx => ?_) ?_; rotate_left; (focus (go_simp; (try with_reducible rfl))); (try simp only [Act.put, List.setIfInBounds_toArray, List.set_cons_zero, List.set_cons_succ]))))
          refine x_nil (hQ.out _ ?_); clear hQ QQ
          intro w5 hb5
          have B5 := Lib.hid (BA.out.trans (hb5.mono BA.out.size))
          clear hb5 t0 t1 t2 t3
          go_wp2_with fail
          go_ret
          exact ⟨HN.out, B5.out⟩
        have d5 : decide (p < 0) = false := decide_eq_false c5
        by_cases c6 : 3 < p
        · have HN := Lib.hid (HNO.out fun h => by have := h.2.2.2.2.2; dsimp only at this; omega)
          refine wp_ext (by kernel_rfl) (by kernel_rfl) (fun QQ hQ => ?_)
          iterate 49 (first | (refine x_skip (by rfl) ?_; simp only [Act.put, List.setIfInBounds_toArray, List.set_cons_zero, List.set_cons_succ]) | (first | (refine x_load _ (by rfl) rfl rfl (by assumption) (by kernel_rfl) ?_; simp only [Act.put, List.setIfInBounds_toArray, List.set_cons_zero, List.set_cons_succ]) | (refine x_val (v := ?_) (by rfl) (fun w' hx => ?_) ?_; rotate_left; (focus (go_simp; (try with_reducible rfl))); (try simp only [Act.put, List.setIfInBounds_toArray, List.set_cons_zero, List.set_cons_succ]))))
          refine x_nil (hQ.out _ ?_); clear hQ QQ
          intro w5 hb5
          have B5 := Lib.hid (BA.out.trans (hb5.mono BA.out.size))
          clear hb5 t0 t1 t2 t3
          go_wp2_with fail
          go_ret
          exact ⟨HN.out, B5.out⟩
        have d6 : decide (3 < p) = false := decide_eq_false c6
        by_cases c7 : 2048 < m
        · have HN := Lib.hid (HNO.out fun h => by have := h.2.2.1; dsimp only at this; have := HM.out; omega)
          have c7' : (2048 : Int) < (m : Int) := by omega
          refine wp_ext (by kernel_rfl) (by kernel_rfl) (fun QQ hQ => ?_)
          iterate 49 (first | (refine x_skip (by rfl) ?_; simp only [Act.put, List.setIfInBounds_toArray, List.set_cons_zero, List.set_cons_succ]) | (first | (refine x_load _ (by rfl) rfl rfl (by assumption) (by kernel_rfl) ?_; simp only [Act.put, List.setIfInBounds_toArray, List.set_cons_zero, List.set_cons_succ]) | (refine x_val (v := ?_) (by rfl) (fun w' hx => ?_) ?_; rotate_left; (focus (go_simp; (try with_reducible rfl))); (try simp only [Act.put, List.setIfInBounds_toArray, List.set_cons_zero, List.set_cons_succ]))))
          refine x_nil (hQ.out _ ?_); clear hQ QQ
          intro w5 hb5
          have B5 := Lib.hid (BA.out.trans (hb5.mono BA.out.size))
          clear hb5 t0 t1 t2 t3
          go_wp2_with fail
          go_ret
          exact ⟨HN.out, B5.out⟩
        have c7' : ¬ (2048 : Int) < (m : Int) := by omega
        have d7 : decide ((2048 : Int) < (m : Int)) = false := decide_eq_false c7'
        have HOK := Lib.hid (show recOk 0 (t, s, p, bs) from ⟨by dsimp only; omega, by dsimp only; omega, by dsimp only; have := HM.out; omega, by dsimp only; omega, by dsimp only; omega, by dsimp only; omega⟩)
        have HGO : Hid (rightGo 0 l ↔ rightGo t (l.drop (0 + 1))) := Lib.hid ⟨fun h => (HST.out.1 h).2, fun h => HST.out.2 ⟨HOK.out, h⟩⟩
        have ht0 : 0 ≤ t := by omega
        refine wp_ext (by kernel_rfl) (by kernel_rfl) (fun QQ hQ => ?_)
        iterate 49 (first | (refine x_skip (by rfl) ?_; simp only [Act.put, List.setIfInBounds_toArray, List.set_cons_zero, List.set_cons_succ]) | (first | (refine x_load _ (by rfl) rfl rfl (by assumption) (by kernel_rfl) ?_; simp only [Act.put, List.setIfInBounds_toArray, List.set_cons_zero, List.set_cons_succ]) | (refine x_val (v := ?_) (by rfl) (fun w' hx => ?_) ?_; rotate_left; (focus (go_simp; (try with_reducible rfl))); (try simp only [Act.put, List.setIfInBounds_toArray, List.set_cons_zero, List.set_cons_succ]))))
        refine x_nil (hQ.out _ ?_); clear hQ QQ
        intro w5 hb5
        have B5 := Lib.hid (BA.out.trans (hb5.mono BA.out.size))
        clear hb5 t0 t1 t2 t3
        go_wp2_with fail
        go_roundw
        case rel => exact ⟨0 + 1, t, by omega, by go_num, ht0, HGO, Lib.hid (.inr ⟨(t, s, p, bs), by omega, by rw [Nat.add_sub_cancel]; exact HP.out, rfl⟩), B5.out⟩
        case measure => simp [intOf]; omega
      ·
        obtain ⟨k1, hk1⟩ : ∃ k1, k1 = k - 1 := ⟨_, rfl⟩
        obtain ⟨b', off', a', s', p', bs', e', hbb', r0, _, _, _, hq⟩ := RA.out.rec4 (show k1 < n by omega)
        injection e' with e'
        injection e' with e1 e2
        subst e1 e2
        have haa : a' = a := by
          rcases hpr.out with ⟨h, _⟩ | ⟨r, _, h1, h2⟩
          · omega
          · rw [← hk1, hq.out] at h1
            injection h1 with h1
            rw [← h2, ← h1]
        subst haa
        have ek1 : (k : Int) - 1 = (k1 : Int) := by omega
        have wk1 : IntKind.i64.wrap ((k : Int) - 1) = (k1 : Int) := by rw [ek1, IntKind.wrap_i64]; omega
        have hkp : (0 : Int) < (k : Int) := by omega
        have hk1n : (k1 : Int) < (n : Int) := by omega
        have hk10 : (0 : Int) ≤ (k1 : Int) := by omega
        clear hpr hk1 hq ek1
        by_cases c0 : t < 0
        · have HN := Lib.hid (HNO.out fun h => by have h1 := h.1; dsimp only at h1; omega)
          refine wp_ext (by kernel_rfl) (by kernel_rfl) (fun QQ hQ => ?_)
          iterate 49 (first | (refine x_skip (by rfl) ?_; simp only [Act.put, List.setIfInBounds_toArray, List.set_cons_zero, List.set_cons_succ]) | (first | (refine x_load _ (by rfl) rfl rfl (by assumption) (by kernel_rfl) ?_; simp only [Act.put, List.setIfInBounds_toArray, List.set_cons_zero, List.set_cons_succ]) | (refine x_val (v := ?_) (by rfl) (fun w' hx => ?_) ?_; rotate_left; (focus (go_simp; (try with_reducible rfl))); (try simp only [Act.put, List.setIfInBounds_toArray, List.set_cons_zero, List.set_cons_succ]))))
          refine x_nil (hQ.out _ ?_); clear hQ QQ
          intro w5 hb5
          have B5 := Lib.hid (BA.out.trans (hb5.mono BA.out.size))
          clear hb5 t0 t1 t2 t3
          go_wp2_with fail
          go_ret
          exact ⟨HN.out, B5.out⟩
        have d0 : decide (t < 0) = false := decide_eq_false c0
        by_cases c1 : 2147483647 < t
        · have HN := Lib.hid (HNO.out fun h => by have := h.2.1; dsimp only at this; omega)
          refine wp_ext (by kernel_rfl) (by kernel_rfl) (fun QQ hQ => ?_)
          iterate 49 (first | (refine x_skip (by rfl) ?_; simp only [Act.put, List.setIfInBounds_toArray, List.set_cons_zero, List.set_cons_succ]) | (first | (refine x_load _ (by rfl) rfl rfl (by assumption) (by kernel_rfl) ?_; simp only [Act.put, List.setIfInBounds_toArray, List.set_cons_zero, List.set_cons_succ]) | (refine x_val (v := ?_) (by rfl) (fun w' hx => ?_) ?_; rotate_left; (focus (go_simp; (try with_reducible rfl))); (try simp only [Act.put, List.setIfInBounds_toArray, List.set_cons_zero, List.set_cons_succ]))))
          refine x_nil (hQ.out _ ?_); clear hQ QQ
          intro w5 hb5
          have B5 := Lib.hid (BA.out.trans (hb5.mono BA.out.size))
          clear hb5 t0 t1 t2 t3
          go_wp2_with fail
          go_ret
          exact ⟨HN.out, B5.out⟩
        have d1 : decide (2147483647 < t) = false := decide_eq_false c1
        by_cases c2 : t < a'
        · have HN := Lib.hid (HNO.out fun h => by have := h.1; dsimp only at this; omega)
          refine wp_ext (by kernel_rfl) (by kernel_rfl) (fun QQ hQ => ?_)
          iterate 49 (first | (refine x_skip (by rfl) ?_; simp only [Act.put, List.setIfInBounds_toArray, List.set_cons_zero, List.set_cons_succ]) | (first | (refine x_load _ (by rfl) rfl rfl (by assumption) (by kernel_rfl) ?_; simp only [Act.put, List.setIfInBounds_toArray, List.set_cons_zero, List.set_cons_succ]) | (refine x_val (v := ?_) (by rfl) (fun w' hx => ?_) ?_; rotate_left; (focus (go_simp; (try with_reducible rfl))); (try simp only [Act.put, List.setIfInBounds_toArray, List.set_cons_zero, List.set_cons_succ]))))
          refine x_nil (hQ.out _ ?_); clear hQ QQ
          intro w5 hb5
          have B5 := Lib.hid (BA.out.trans (hb5.mono BA.out.size))
          clear hb5 t0 t1 t2 t3
          go_wp2_with fail
          go_ret
          exact ⟨HN.out, B5.out⟩
        have d2 : decide (t < a') = false := decide_eq_false c2
        by_cases c3 : s < 0
        · have HN := Lib.hid (HNO.out fun h => by have := h.2.2.2.1; dsimp only at this; omega)
          refine wp_ext (by kernel_rfl) (by kernel_rfl) (fun QQ hQ => ?_)
          iterate 49 (first | (refine x_skip (by rfl) ?_; simp only [Act.put, List.setIfInBounds_toArray, List.set_cons_zero, List.set_cons_succ]) | (first | (refine x_load _ (by rfl) rfl rfl (by assumption) (by kernel_rfl) ?_; simp only [Act.put, List.setIfInBounds_toArray, List.set_cons_zero, List.set_cons_succ]) | (refine x_val (v := ?_) (by rfl) (fun w' hx => ?_) ?_; rotate_left; (focus (go_simp; (try with_reducible rfl))); (try simp only [Act.put, List.setIfInBounds_toArray, List.set_cons_zero, List.set_cons_succ]))))
          refine x_nil (hQ.out _ ?_); clear hQ QQ
          intro w5 hb5
          have B5 := Lib.hid (BA.out.trans (hb5.mono BA.out.size))
          clear hb5 t0 t1 t2 t3
          go_wp2_with fail
          go_ret
          exact ⟨HN.out, B5.out⟩
        have d3 : decide (s < 0) = false := decide_eq_false c3
        by_cases c4 : 1 < s
        · have HN := Lib.hid (HNO.out fun h => by have := h.2.2.2.1; dsimp only at this; omega)
          refine wp_ext (by kernel_rfl) (by kernel_rfl) (fun QQ hQ => ?_)
          iterate 49 (first | (refine x_skip (by rfl) ?_; simp only [Act.put, List.setIfInBounds_toArray, List.set_cons_zero, List.set_cons_succ]) | (first | (refine x_load _ (by rfl) rfl rfl (by assumption) (by kernel_rfl) ?_; simp only [Act.put, List.setIfInBounds_toArray, List.set_cons_zero, List.set_cons_succ]) | (refine x_val (v := ?_) (by rfl) (fun w' hx => ?_) ?_; rotate_left; (focus (go_simp; (try with_reducible rfl))); (try simp only [Act.put, List.setIfInBounds_toArray, List.set_cons_zero, List.set_cons_succ]))))
          refine x_nil (hQ.out _ ?_); clear hQ QQ
          intro w5 hb5
          have B5 := Lib.hid (BA.out.trans (hb5.mono BA.out.size))
          clear hb5 t0 t1 t2 t3
          go_wp2_with fail
          go_ret
          exact ⟨HN.out, B5.out⟩
        have d4 : decide (1 < s) = false := decide_eq_false c4
        by_cases c5 : p < 0
        · have HN := Lib.hid (HNO.out fun h => by have := h.2.2.2.2.1; dsimp only at this; omega)
          refine wp_ext (by kernel_rfl) (by kernel_rfl) (fun QQ hQ => ?_)
          iterate 49 (first | (refine x_skip (by rfl) ?_; simp only [Act.put, List.setIfInBounds_toArray, List.set_cons_zero, List.set_cons_succ]) | (first | (refine x_load _ (by rfl) rfl rfl (by assumption) (by kernel_rfl) ?_; simp only [Act.put, List.setIfInBounds_toArray, List.set_cons_zero, List.set_cons_succ]) | (refine x_val (v := ?_) (by rfl) (fun w' hx => ?_) ?_; rotate_left; (focus (go_simp; (try with_reducible rfl))); (try simp only [Act.put, List.setIfInBounds_toArray, List.set_cons_zero, List.set_cons_succ]))))
          refine x_nil (hQ.out _ ?_); clear hQ QQ
          intro w5 hb5
          have B5 := Lib.hid (BA.out.trans (hb5.mono BA.out.size))
          clear hb5 t0 t1 t2 t3
          go_wp2_with fail
          go_ret
          exact ⟨HN.out, B5.out⟩
        have d5 : decide (p < 0) = false := decide_eq_false c5
        by_cases c6 : 3 < p
        · have HN := Lib.hid (HNO.out fun h => by have := h.2.2.2.2.2; dsimp only at this; omega)
          refine wp_ext (by kernel_rfl) (by kernel_rfl) (fun QQ hQ => ?_)
          iterate 49 (first | (refine x_skip (by rfl) ?_; simp only [Act.put, List.setIfInBounds_toArray, List.set_cons_zero, List.set_cons_succ]) | (first | (refine x_load _ (by rfl) rfl rfl (by assumption) (by kernel_rfl) ?_; simp only [Act.put, List.setIfInBounds_toArray, List.set_cons_zero, List.set_cons_succ]) | (refine x_val (v := ?_) (by rfl) (fun w' hx => ?_) ?_; rotate_left; (focus (go_simp; (try with_reducible rfl))); (try simp only [Act.put, List.setIfInBounds_toArray, List.set_cons_zero, List.set_cons_succ]))))
          refine x_nil (hQ.out _ ?_); clear hQ QQ
          intro w5 hb5
          have B5 := Lib.hid (BA.out.trans (hb5.mono BA.out.size))
          clear hb5 t0 t1 t2 t3
          go_wp2_with fail
          go_ret
          exact ⟨HN.out, B5.out⟩
        have d6 : decide (3 < p) = false := decide_eq_false c6
        by_cases c7 : 2048 < m
        · have HN := Lib.hid (HNO.out fun h => by have := h.2.2.1; dsimp only at this; have := HM.out; omega)
          have c7' : (2048 : Int) < (m : Int) := by omega
          refine wp_ext (by kernel_rfl) (by kernel_rfl) (fun QQ hQ => ?_)
          iterate 49 (first | (refine x_skip (by rfl) ?_; simp only [Act.put, List.setIfInBounds_toArray, List.set_cons_zero, List.set_cons_succ]) | (first | (refine x_load _ (by rfl) rfl rfl (by assumption) (by kernel_rfl) ?_; simp only [Act.put, List.setIfInBounds_toArray, List.set_cons_zero, List.set_cons_succ]) | (refine x_val (v := ?_) (by rfl) (fun w' hx => ?_) ?_; rotate_left; (focus (go_simp; (try with_reducible rfl))); (try simp only [Act.put, List.setIfInBounds_toArray, List.set_cons_zero, List.set_cons_succ]))))
          refine x_nil (hQ.out _ ?_); clear hQ QQ
          intro w5 hb5
          have B5 := Lib.hid (BA.out.trans (hb5.mono BA.out.size))
          clear hb5 t0 t1 t2 t3
          go_wp2_with fail
          go_ret
          exact ⟨HN.out, B5.out⟩
        have c7' : ¬ (2048 : Int) < (m : Int) := by omega
        have d7 : decide ((2048 : Int) < (m : Int)) = false := decide_eq_false c7'
        have HOK := Lib.hid (show recOk a' (t, s, p, bs) from ⟨by dsimp only; omega, by dsimp only; omega, by dsimp only; have := HM.out; omega, by dsimp only; omega, by dsimp only; omega, by dsimp only; omega⟩)
        have HGO : Hid (rightGo 0 l ↔ rightGo t (l.drop (k + 1))) := Lib.hid ⟨fun h => (HST.out.1 h).2, fun h => HST.out.2 ⟨HOK.out, h⟩⟩
        have ht0 : 0 ≤ t := by omega
        refine wp_ext (by kernel_rfl) (by kernel_rfl) (fun QQ hQ => ?_)
        iterate 49 (first | (refine x_skip (by rfl) ?_; simp only [Act.put, List.setIfInBounds_toArray, List.set_cons_zero, List.set_cons_succ]) | (first | (refine x_load _ (by rfl) rfl rfl (by assumption) (by kernel_rfl) ?_; simp only [Act.put, List.setIfInBounds_toArray, List.set_cons_zero, List.set_cons_succ]) | (refine x_val (v := ?_) (by rfl) (fun w' hx => ?_) ?_; rotate_left; (focus (go_simp; (try with_reducible rfl))); (try simp only [Act.put, List.setIfInBounds_toArray, List.set_cons_zero, List.set_cons_succ]))))
        refine x_nil (hQ.out _ ?_); clear hQ QQ
        intro w5 hb5
        have B5 := Lib.hid (BA.out.trans (hb5.mono BA.out.size))
        clear hb5 t0 t1 t2 t3
        go_wp2_with fail
        go_roundw
        case rel => exact ⟨k + 1, t, by omega, by go_num, ht0, HGO, Lib.hid (.inr ⟨(t, s, p, bs), by omega, by rw [Nat.add_sub_cancel]; exact HP.out, rfl⟩), B5.out⟩
        case measure => simp [intOf]; omega
    · have hge : ¬ (k : Int) < (n : Int) := by omega
      have hall : l.drop k = [] := List.drop_of_length_le (by rw [HL.out]; omega)
      have h1 := hgo.out
      rw [hall] at h1
      have hT : rightGo 0 l := h1.2 trivial
      by_cases h10 : n ≤ 1024
      · have h10' : (n : Int) ≤ 1024 := by omega
        have HY := Lib.hid (crPost_yes (l := l) ⟨by rw [HL.out]; omega, hT⟩)
        clear h1 hT hgo hpr hall h10
        go_wp2_with fail
        go_ret
        exact ⟨by simpa using HY.out, hbw⟩
      · have h10' : ¬ (n : Int) ≤ 1024 := by omega
        have h10d : decide ((n : Int) ≤ 1024) = false := decide_eq_false h10'
        have HY := Lib.hid (crPost_no (l := l) (fun h => by have := h.1; rw [HL.out] at this; omega))
        clear h1 hT hgo hpr hall h10
        go_wp2_with fail
        go_ret
        exact ⟨by simpa using HY.out, hbw⟩
theorem neqR (t s p : Int) (x : ByteArray) (w : World) : (binOp .neq 134 (.agg #[.int .i64 t, .int .i64 s, .int .i64 p, .string x]) (.agg #[.int .i64 t, .int .i64 s, .int .i64 p, .string x])).run Try.prog w = .ok (.bool false) w := by
  have h : (Op.equalIn 10000 134 (.agg #[.int .i64 t, .int .i64 s, .int .i64 p, .string x]) (.agg #[.int .i64 t, .int .i64 s, .int .i64 p, .string x])).run Try.prog w = .ok true w := by
    rw [show (10000 : Nat) = 9999 + 1 from rfl, run_equalIn_agg w 9999 134 _ _ (by kernel_rfl) (by kernel_rfl)]
    simp [go_sem]
  rw [run_neq_struct, h]
  rfl
set_option maxRecDepth 20000 in
set_option maxHeartbeats 4000000 in
/-- Two rows of the same records. -/
theorem csame_true (A C : Option Addr) (n c d : Nat) (l : List Rcd) (w : World) (h1 : Rd w w.heap.size 4 A n (rcs l)) (h2 : Rd w w.heap.size 4 C n (rcs l)) (hn : n ≤ 100000) :
    Calls Try.prog 66 #[.slice A n c, .slice C n d] w fun e w' => e = .returned (.bool true) ∧ Below w.heap.size w w' := by
  have H1 := Lib.hid h1
  have H2 := Lib.hid h2
  have hnn : ((n : Int) != (n : Int)) = false := by simp
  clear h1 h2
  go_enter Try.func66, Try.ntmps66
  go_wp2_with fail
  go_loopw [5] (fun iv wr => ∃ k : Nat, k ≤ n ∧ iv = .int .i64 k ∧ Below w.heap.size w wr) (fun iv _ => n - (intOf iv).toNat)
  case atStart => exact ⟨0, Nat.zero_le _, rfl, Below.refl _ _⟩
  case round =>
    obtain ⟨k, hk, rfl, hbw⟩ := hrel
    by_cases hlt : k < n
    · have hlt' : (k : Int) < (n : Int) := by omega
      obtain ⟨b, off, t, s, p, bs, rfl, hbb, p0, p1, p2, p3, hp⟩ := (H1.out.below hbw).rec4 hlt
      obtain ⟨b', off', t', s', p', bs', rfl, hbb', r0, r1, r2, r3, hq⟩ := (H2.out.below hbw).rec4 hlt
      have e := hp.out.symm.trans hq.out
      injection e with e
      injection e with e1 e
      injection e with e2 e
      injection e with e3 e4
      subst e1 e2 e3 e4
      have hnR := neqR t s p (strN bs)
      clear hp hq
      have c1 : ∀ j x, [Value.int .i64 t, .int .i64 s, .int .i64 p, .string (strN bs)][j]? = some x → wr.cell? ⟨b, off + k * 4 + j, none⟩ = some x := by
        intro j x hx
        match j, hx with
        | 0, hx => simp at hx; subst hx; exact p0
        | 1, hx => simp at hx; subst hx; exact p1
        | 2, hx => simp at hx; subst hx; exact p2
        | 3, hx => simp at hx; subst hx; exact p3
      have c2 : ∀ j x, [Value.int .i64 t, .int .i64 s, .int .i64 p, .string (strN bs)][j]? = some x → wr.cell? ⟨b', off' + k * 4 + j, none⟩ = some x := by
        intro j x hx
        match j, hx with
        | 0, hx => simp at hx; subst hx; exact r0
        | 1, hx => simp at hx; subst hx; exact r1
        | 2, hx => simp at hx; subst hx; exact r2
        | 3, hx => simp at hx; subst hx; exact r3
      have C1 := Lib.hid c1
      have C2 := Lib.hid c2
      clear c1 c2 p0 p1 p2 p3 r0 r1 r2 r3
      go_wp2_with fail
      refine wp_ext (by kernel_rfl) (by kernel_rfl) (fun QQ hQ => ?_)
      (first | (refine x_load _ (by rfl) rfl rfl (by assumption) (by kernel_rfl) ?_; simp only [Act.put, List.setIfInBounds_toArray, List.set_cons_zero, List.set_cons_succ]) | (refine x_val (v := ?_) (by rfl) (fun w' hx => ?_) ?_; rotate_left; (focus (go_simp; (try with_reducible rfl))); (try simp only [Act.put, List.setIfInBounds_toArray, List.set_cons_zero, List.set_cons_succ])))
      (first | (refine x_load _ (by rfl) rfl rfl (by assumption) (by kernel_rfl) ?_; simp only [Act.put, List.setIfInBounds_toArray, List.set_cons_zero, List.set_cons_succ]) | (refine x_val (v := ?_) (by rfl) (fun w' hx => ?_) ?_; rotate_left; (focus (go_simp; (try with_reducible rfl))); (try simp only [Act.put, List.setIfInBounds_toArray, List.set_cons_zero, List.set_cons_succ])))
      (first | (refine x_load _ (by rfl) rfl rfl (by assumption) (by kernel_rfl) ?_; simp only [Act.put, List.setIfInBounds_toArray, List.set_cons_zero, List.set_cons_succ]) | (refine x_val (v := ?_) (by rfl) (fun w' hx => ?_) ?_; rotate_left; (focus (go_simp; (try with_reducible rfl))); (try simp only [Act.put, List.setIfInBounds_toArray, List.set_cons_zero, List.set_cons_succ])))
      refine x_loads _ [.int .i64 t, .int .i64 s, .int .i64 p, .string (strN bs)] (by rfl) rfl rfl (C1.out) (Nat.succ_pos _) (by kernel_rfl) (by kernel_rfl) ?_; simp only [Act.put, List.setIfInBounds_toArray, List.set_cons_zero, List.set_cons_succ]
      (first | (refine x_load _ (by rfl) rfl rfl (by assumption) (by kernel_rfl) ?_; simp only [Act.put, List.setIfInBounds_toArray, List.set_cons_zero, List.set_cons_succ]) | (refine x_val (v := ?_) (by rfl) (fun w' hx => ?_) ?_; rotate_left; (focus (go_simp; (try with_reducible rfl))); (try simp only [Act.put, List.setIfInBounds_toArray, List.set_cons_zero, List.set_cons_succ])))
      (first | (refine x_load _ (by rfl) rfl rfl (by assumption) (by kernel_rfl) ?_; simp only [Act.put, List.setIfInBounds_toArray, List.set_cons_zero, List.set_cons_succ]) | (refine x_val (v := ?_) (by rfl) (fun w' hx => ?_) ?_; rotate_left; (focus (go_simp; (try with_reducible rfl))); (try simp only [Act.put, List.setIfInBounds_toArray, List.set_cons_zero, List.set_cons_succ])))
      (first | (refine x_load _ (by rfl) rfl rfl (by assumption) (by kernel_rfl) ?_; simp only [Act.put, List.setIfInBounds_toArray, List.set_cons_zero, List.set_cons_succ]) | (refine x_val (v := ?_) (by rfl) (fun w' hx => ?_) ?_; rotate_left; (focus (go_simp; (try with_reducible rfl))); (try simp only [Act.put, List.setIfInBounds_toArray, List.set_cons_zero, List.set_cons_succ])))
      refine x_loads _ [.int .i64 t, .int .i64 s, .int .i64 p, .string (strN bs)] (by rfl) rfl rfl (C2.out) (Nat.succ_pos _) (by kernel_rfl) (by kernel_rfl) ?_; simp only [Act.put, List.setIfInBounds_toArray, List.set_cons_zero, List.set_cons_succ]
      (first | (refine x_load _ (by rfl) rfl rfl (by assumption) (by kernel_rfl) ?_; simp only [Act.put, List.setIfInBounds_toArray, List.set_cons_zero, List.set_cons_succ]) | (refine x_val (v := ?_) (by rfl) (fun w' hx => ?_) ?_; rotate_left; (focus (go_simp; (try with_reducible rfl))); (try simp only [Act.put, List.setIfInBounds_toArray, List.set_cons_zero, List.set_cons_succ])))
      refine x_nil (hQ.out _ ?_); clear hQ QQ
      intro w5 hb5
      have B5 := Lib.hid (hbw.trans (hb5.mono hbw.size))
      clear hb5
      go_wp2_with fail
      go_roundw
      case rel => exact ⟨k + 1, by omega, by go_num, B5.out⟩
      case measure => simp [intOf]; omega
    · have hge : ¬ (k : Int) < (n : Int) := by omega
      go_wp2_with fail
      go_ret
      exact ⟨rfl, hbw⟩
end Go.Proofs.Ytiblmlmkpilgmaa
