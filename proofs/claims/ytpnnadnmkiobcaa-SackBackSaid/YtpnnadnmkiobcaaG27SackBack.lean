/- Layer 31: sack.Parse. -/
import Derived.Test.YtpnnadnmkiobcaaG26SackBack
import Derived.Test.YtpnnadnmkiobcaaG4SackBack
import Derived.Test.YtpnnadnmkiobcaaG14SackBack
import Derived.Deep.Cut

namespace Go.Proofs.Ytpnnadnmkiobcaa
open Go.RowKit Go.Shelf
set_option linter.unusedVariables false
set_option linter.unusedSimpArgs false
attribute [local go_sem] Oper.semAt_some
theorem retM {n : Nat} {P : Program} {fn : Func} {R : Ending → World → Prop} {tmps : Array Value} {w : World} {v : Value} (hr : (results fn tmps).run P w = .ok v w) (h : R (.returned v) w) : bodyPostM Fence.wide n P fn R .ret { tmps := tmps, defers := [] } w := ⟨_, hr, h⟩
set_option maxRecDepth 100000 in
set_option maxHeartbeats 4000000 in
theorem spparse_any (wait kind : Int) (A : Option Addr) (n c : Nat) (lb : List Nat) (w : World) (h : Rd w w.heap.size 1 A n (ns .u8 lb)) (hnc : n ≤ c) (hb : ∀ x ∈ lb, x < 256) (hn : n ≤ 1000) (hw : U32 wait) :
    Calls Try.prog 8 #[.int .u32 wait, .agg #[.int .u8 kind, .slice A n c]] w fun e w' => PPPost wait kind n lb w.heap.size w' e ∧ Below w.heap.size w w' := by
  have HR := Lib.hid h
  have HBY := Lib.hid hb
  have HW := Lib.hid hw
  have HL := Lib.hid h.natLen
  obtain ⟨m, hm⟩ : ∃ m, m = n / 8 := ⟨_, rfl⟩
  have hmi : (n : Int) / 8 = (m : Nat) := by omega
  have hmt : (n : Int).tdiv 8 = (m : Nat) := by rw [Int.tdiv_eq_ediv_of_nonneg (by omega)]; exact hmi
  have hmb : m ≤ 125 := by omega
  have HM := Lib.hid hm
  have k0 := Blk.new w 26 #[.int .u8 kind, .slice A n c]
  have hA0 : Below w.heap.size w (w.alloc (.cells #[.int .u8 kind, .slice A n c] 26)) := (Below.refl _ _).alloc (Nat.le_refl _) _
  have K0 := Lib.hid k0
  have B0 := Lib.hid hA0
  have HSZ := Lib.hid (show (w.alloc (.cells #[.int .u8 kind, .slice A n c] 26)).heap.size = w.heap.size + 1 by simp)
  clear h hb hw k0 hA0 hm
  refine (callsIn_wide (n := 8)).1 ?_
  refine callsIn_of_wp_marks Try.func8 rfl trivial ?_ rfl
  refine wpIn_wide.2 ?_
  simp only [Try.ntmps8, List.size_toArray, List.length_cons, List.length_nil, Nat.reduceAdd, Nat.reduceSub, Array.replicate_succ, Array.replicate_zero, List.push_toArray, List.append_toArray, List.nil_append, List.cons_append]
  go_upto_region 1 with fail
  generalize (w.alloc (.cells #[.int .u8 kind, .slice A n c] 26)) = w1 at K0 B0 HSZ ⊢
  obtain ⟨c0, c1⟩ := ptc2 K0.out
  by_cases h9 : kind = 9
  case neg =>
    have HN := Lib.hid (show ¬ SPOk wait kind n lb from fun h => h9 h.1)
    go_wp2_with fail
    refine retM (results_tmp2 rfl _ _ _) ?_
    exact ⟨PPPost.no HN.out, B0.out⟩
  subst h9
  by_cases hm0 : m < 1
  · have HN := Lib.hid (show ¬ SPOk wait 9 n lb from fun h => by have h1 := h.2.1; have h2 := h.2.2.1; have := HM.out; omega)
    have hm0i : (m : Int) < 1 := by omega
    go_wp2_with fail
    refine retM (results_tmp2 rfl _ _ _) ?_
    exact ⟨PPPost.no HN.out, B0.out⟩
  by_cases hm4 : 4 < m
  · have HN := Lib.hid (show ¬ SPOk wait 9 n lb from fun h => by have h1 := h.2.2.2.1; have := HM.out; omega)
    have hm0i : ¬ (m : Int) < 1 := by omega
    have hm4i : 4 < (m : Int) := by omega
    go_wp2_with fail
    refine retM (results_tmp2 rfl _ _ _) ?_
    exact ⟨PPPost.no HN.out, B0.out⟩
  have hm0i : ¬ (m : Int) < 1 := by omega
  have hm4i : ¬ 4 < (m : Int) := by omega
  obtain ⟨mm, hmm⟩ : ∃ mm, mm = 2 * m := ⟨_, rfl⟩
  have hmmi : 2 * (m : Int) = (mm : Nat) := by omega
  have hwm : IntKind.i64.wrap (mm : Int) = (mm : Nat) := by rw [IntKind.wrap_i64]; omega
  have HMM := Lib.hid hmm
  have hm1 : 1 ≤ mm := by omega
  have hm8 : mm ≤ 8 := by omega
  have HCUT := Lib.hid (show cut lb (List.replicate mm 4) = some ((List.range mm).map (wdB lb), lb.drop (4 * mm)) from cut_rep mm lb (by have := HL.out; have := HM.out; omega))
  have HRB := Lib.hid (HR.out.into B0.out)
  clear hmm
  by_cases hn8 : n % 8 = 0
  case neg =>
    have HN := Lib.hid (show ¬ SPOk wait 9 n lb from fun h => hn8 h.2.2.1)
    go_upto_region 4 with fail
    refine wp_ord [(0, .pure), (1, .read), (3, .pure), (4, .pure), (2, .sole), (5, .sole), (6, .sole), (7, .pure), (8, .pure), (9, .pure), (10, .pure), (11, .pure)] [] (by kernel_rfl) (by kernel_rfl) (fun QQ hQ wd hwd => ?_); simp only [List.map_cons, List.map_nil, List.getD_cons_zero, List.getD_cons_succ]
    (refine o_pure (v := ?_) (by rfl) (fun w' => ?_) ?_; rotate_left; (focus (go_simp; (try with_reducible rfl); (try (rw [if_pos (by omega)]; (try with_reducible rfl))))); (try simp only [Act.put, List.setIfInBounds_toArray, List.set_cons_zero, List.set_cons_succ]))
    have c1 : wd.cell? ⟨w.heap.size, 1, none⟩ = some (.slice A n c) := by rw [hwd.out]; exact c1
    (refine o_load _ (by rfl) rfl rfl (by assumption) (by kernel_rfl) ?_; simp only [Act.put, List.setIfInBounds_toArray, List.set_cons_zero, List.set_cons_succ])
    (refine o_pure (v := ?_) (by rfl) (fun w' => ?_) ?_; rotate_left; (focus (go_simp; (try with_reducible rfl); (try (rw [if_pos (by omega)]; (try with_reducible rfl))))); (try simp only [Act.put, List.setIfInBounds_toArray, List.set_cons_zero, List.set_cons_succ]))
    (refine o_pure (v := ?_) (by rfl) (fun w' => ?_) ?_; rotate_left; (focus (go_simp; (try with_reducible rfl); (try (rw [if_pos (by omega)]; (try with_reducible rfl))))); (try simp only [Act.put, List.setIfInBounds_toArray, List.set_cons_zero, List.set_cons_succ]))
    refine o_sole (fun K hK => ?_)
    go_wp2_with fail
    refine hK _ _ (fun _ => Ext.of ((Below.refl _ _).alloc (Nat.le_refl _) _)) ?_; clear hK K
    have K3 := Lib.hid (show Rd (wd.alloc (.cells #[.int .i64 4] 3)) (wd.alloc (.cells #[.int .i64 4] 3)).heap.size 1 (some ⟨wd.heap.size, 0, none⟩) 1 (ns .i64 [4]) from (Rd.one wd 3 (.int .i64 4)).mono (by simp))
    have B3 := Lib.hid (show Below w1.heap.size w1 (wd.alloc (.cells #[.int .i64 4] 3)) by rw [hwd.out]; exact ((Below.refl _ _).drew).alloc (Nat.le_refl _) _)
    have C3 := Lib.hid (repeat_any (some ⟨wd.heap.size, 0, none⟩) 4 mm (wd.alloc (.cells #[.int .i64 4] 3)) K3.out hm1 (by omega))
    clear K3
    generalize wd.alloc (.cells #[.int .i64 4] 3) = w3 at C3 B3 ⊢
    refine o_sole (fun K hK => ?_)
    go_wp2_with fail
    refine C3.out.mono ?_
    rintro e w4 ⟨rfl, hm4', hb4⟩
    have B4 := Lib.hid (B3.out.trans (hb4.mono B3.out.size))
    have R4 := Lib.hid (show Rd w4 w4.heap.size 1 (some ⟨w3.heap.size, 0, none⟩) mm (zs .i64 (List.replicate mm 4)) by
      have h := hm4'.rd (B := w4.heap.size) (o := 0) (n := mm) hm4'.lt (by simp)
      rw [List.drop_zero, List.take_of_length_le (by simp)] at h
      simpa [ns, zs] using h)
    go_wp2_with fail
    refine hK _ _ (fun _ => Ext.of hb4) ?_; clear hK K
    clear hm4' hb4 C3 B3
    have C4 := Lib.hid (pall_any A (some ⟨w3.heap.size, 0, none⟩) n mm c mm lb (List.replicate mm 4) w4 (HRB.out.into B4.out) R4.out hnc HBY.out (by omega) (by omega))
    rw [HCUT.out] at C4
    clear R4
    refine o_sole (fun K hK => ?_)
    go_wp2_with fail
    refine C4.out.mono ?_
    rintro e w5 ⟨hb5, ⟨xs, v, hx, rfl, hv⟩ | ⟨hx, rfl⟩⟩
    · exfalso
      injection hx with hx
      injection hx with hx8 hx
      clear hx8
      have h1 := congrArg List.length hx
      rw [List.length_drop, HL.out] at h1
      have := HMM.out
      have := HM.out
      simp at h1
      omega
    clear hx
    have B6 := Lib.hid (B0.out.trans ((B4.out.mono B0.out.size).trans (hb5.mono (by have := B0.out.size; have := B4.out.size; omega))))
    go_wp2_with fail
    refine hK _ _ (fun _ => Ext.of hb5) ?_; clear hK K
    (refine o_pure (v := ?_) (by rfl) (fun w' => ?_) ?_; rotate_left; (focus (go_simp; (try with_reducible rfl); (try (rw [if_pos (by omega)]; (try with_reducible rfl))))); (try simp only [Act.put, List.setIfInBounds_toArray, List.set_cons_zero, List.set_cons_succ]))
    (refine o_pure (v := ?_) (by rfl) (fun w' => ?_) ?_; rotate_left; (focus (go_simp; (try with_reducible rfl); (try (rw [if_pos (by omega)]; (try with_reducible rfl))))); (try simp only [Act.put, List.setIfInBounds_toArray, List.set_cons_zero, List.set_cons_succ]))
    (refine o_pure (v := ?_) (by rfl) (fun w' => ?_) ?_; rotate_left; (focus (go_simp; (try with_reducible rfl); (try (rw [if_pos (by omega)]; (try with_reducible rfl))))); (try simp only [Act.put, List.setIfInBounds_toArray, List.set_cons_zero, List.set_cons_succ]))
    (refine o_pure (v := ?_) (by rfl) (fun w' => ?_) ?_; rotate_left; (focus (go_simp; (try with_reducible rfl); (try (rw [if_pos (by omega)]; (try with_reducible rfl))))); (try simp only [Act.put, List.setIfInBounds_toArray, List.set_cons_zero, List.set_cons_succ]))
    (refine o_pure (v := ?_) (by rfl) (fun w' => ?_) ?_; rotate_left; (focus (go_simp; (try with_reducible rfl); (try (rw [if_pos (by omega)]; (try with_reducible rfl))))); (try simp only [Act.put, List.setIfInBounds_toArray, List.set_cons_zero, List.set_cons_succ]))
    refine o_nil (hQ.out _ _ ?_); clear hQ QQ
    go_wp2_with fail
    refine retM (results_tmp2 rfl _ _ _) ?_
    exact ⟨PPPost.no HN.out, B6.out⟩
  go_upto_region 4 with fail
  refine wp_ord [(0, .pure), (1, .read), (3, .pure), (4, .pure), (2, .sole), (5, .sole), (6, .sole), (7, .pure), (8, .pure), (9, .pure), (10, .pure), (11, .pure)] [] (by kernel_rfl) (by kernel_rfl) (fun QQ hQ wd hwd => ?_); simp only [List.map_cons, List.map_nil, List.getD_cons_zero, List.getD_cons_succ]
  (refine o_pure (v := ?_) (by rfl) (fun w' => ?_) ?_; rotate_left; (focus (go_simp; (try with_reducible rfl); (try (rw [if_pos (by omega)]; (try with_reducible rfl))))); (try simp only [Act.put, List.setIfInBounds_toArray, List.set_cons_zero, List.set_cons_succ]))
  have c1 : wd.cell? ⟨w.heap.size, 1, none⟩ = some (.slice A n c) := by rw [hwd.out]; exact c1
  (refine o_load _ (by rfl) rfl rfl (by assumption) (by kernel_rfl) ?_; simp only [Act.put, List.setIfInBounds_toArray, List.set_cons_zero, List.set_cons_succ])
  (refine o_pure (v := ?_) (by rfl) (fun w' => ?_) ?_; rotate_left; (focus (go_simp; (try with_reducible rfl); (try (rw [if_pos (by omega)]; (try with_reducible rfl))))); (try simp only [Act.put, List.setIfInBounds_toArray, List.set_cons_zero, List.set_cons_succ]))
  (refine o_pure (v := ?_) (by rfl) (fun w' => ?_) ?_; rotate_left; (focus (go_simp; (try with_reducible rfl); (try (rw [if_pos (by omega)]; (try with_reducible rfl))))); (try simp only [Act.put, List.setIfInBounds_toArray, List.set_cons_zero, List.set_cons_succ]))
  refine o_sole (fun K hK => ?_)
  go_wp2_with fail
  refine hK _ _ (fun _ => Ext.of ((Below.refl _ _).alloc (Nat.le_refl _) _)) ?_; clear hK K
  have K3 := Lib.hid (show Rd (wd.alloc (.cells #[.int .i64 4] 3)) (wd.alloc (.cells #[.int .i64 4] 3)).heap.size 1 (some ⟨wd.heap.size, 0, none⟩) 1 (ns .i64 [4]) from (Rd.one wd 3 (.int .i64 4)).mono (by simp))
  have B3 := Lib.hid (show Below w1.heap.size w1 (wd.alloc (.cells #[.int .i64 4] 3)) by rw [hwd.out]; exact ((Below.refl _ _).drew).alloc (Nat.le_refl _) _)
  have C3 := Lib.hid (repeat_any (some ⟨wd.heap.size, 0, none⟩) 4 mm (wd.alloc (.cells #[.int .i64 4] 3)) K3.out hm1 (by omega))
  clear K3
  generalize wd.alloc (.cells #[.int .i64 4] 3) = w3 at C3 B3 ⊢
  refine o_sole (fun K hK => ?_)
  go_wp2_with fail
  refine C3.out.mono ?_
  rintro e w4 ⟨rfl, hm4', hb4⟩
  have B4 := Lib.hid (B3.out.trans (hb4.mono B3.out.size))
  have R4 := Lib.hid (show Rd w4 w4.heap.size 1 (some ⟨w3.heap.size, 0, none⟩) mm (zs .i64 (List.replicate mm 4)) by
    have h := hm4'.rd (B := w4.heap.size) (o := 0) (n := mm) hm4'.lt (by simp)
    rw [List.drop_zero, List.take_of_length_le (by simp)] at h
    simpa [ns, zs] using h)
  go_wp2_with fail
  refine hK _ _ (fun _ => Ext.of hb4) ?_; clear hK K
  clear hm4' hb4 C3 B3
  have C4 := Lib.hid (pall_any A (some ⟨w3.heap.size, 0, none⟩) n mm c mm lb (List.replicate mm 4) w4 (HRB.out.into B4.out) R4.out hnc HBY.out (by omega) (by omega))
  rw [HCUT.out] at C4
  clear R4
  refine o_sole (fun K hK => ?_)
  go_wp2_with fail
  refine C4.out.mono ?_
  rintro e w5 ⟨hb5, ⟨xs, v, hx, rfl, hv⟩ | ⟨hx, rfl⟩⟩
  case inr =>
    exfalso
    refine hx _ (by rw [List.drop_eq_nil_of_le (by rw [HL.out]; have := HMM.out; have := HM.out; omega)])
  injection hx with hx
  injection hx with hx hx9
  clear hx9
  subst hx
  have HV := Lib.hid hv
  clear hv
  have B6 := Lib.hid (B0.out.trans ((B4.out.mono B0.out.size).trans (hb5.mono (by have := B0.out.size; have := B4.out.size; omega))))
  go_wp2_with fail
  refine hK _ _ (fun _ => Ext.of hb5) ?_; clear hK K
  (refine o_pure (v := ?_) (by rfl) (fun w' => ?_) ?_; rotate_left; (focus (go_simp; (try with_reducible rfl); (try (rw [if_pos (by omega)]; (try with_reducible rfl))))); (try simp only [Act.put, List.setIfInBounds_toArray, List.set_cons_zero, List.set_cons_succ]))
  (refine o_pure (v := ?_) (by rfl) (fun w' => ?_) ?_; rotate_left; (focus (go_simp; (try with_reducible rfl); (try (rw [if_pos (by omega)]; (try with_reducible rfl))))); (try simp only [Act.put, List.setIfInBounds_toArray, List.set_cons_zero, List.set_cons_succ]))
  (refine o_pure (v := ?_) (by rfl) (fun w' => ?_) ?_; rotate_left; (focus (go_simp; (try with_reducible rfl); (try (rw [if_pos (by omega)]; (try with_reducible rfl))))); (try simp only [Act.put, List.setIfInBounds_toArray, List.set_cons_zero, List.set_cons_succ]))
  (refine o_pure (v := ?_) (by rfl) (fun w' => ?_) ?_; rotate_left; (focus (go_simp; (try with_reducible rfl); (try (rw [if_pos (by omega)]; (try with_reducible rfl))))); (try simp only [Act.put, List.setIfInBounds_toArray, List.set_cons_zero, List.set_cons_succ]))
  (refine o_pure (v := ?_) (by rfl) (fun w' => ?_) ?_; rotate_left; (focus (go_simp; (try with_reducible rfl); (try (rw [if_pos (by omega)]; (try with_reducible rfl))))); (try simp only [Act.put, List.setIfInBounds_toArray, List.set_cons_zero, List.set_cons_succ]))
  refine o_nil (hQ.out _ _ ?_); clear hQ QQ
  have HVF : ∃ g cap cur, v = .slice (some ⟨g, 0, none⟩) mm cap ∧ w4.heap.size ≤ g ∧ Blk w5 g 46 cur ∧ mm ≤ cap ∧ cur.toList.take (mm * 1) = ns .u64 ((List.range mm).map (wdB lb)) := by
    have h := HV.out
    unfold Nats at h
    rw [List.length_map, List.length_range] at h
    rcases h.2 with ⟨_, h0⟩ | ⟨g, cap, cur, e1, e2, e3, e4, _, _, e7⟩
    · omega
    · exact ⟨g, cap, cur, e1, e2, e3, e4, e7⟩
  obtain ⟨g, cap, cur, rfl, hg, hgb, hcap, hcur⟩ := HVF
  have KG := Lib.hid hgb
  have HCUR := Lib.hid (show ∀ j, j < mm → cur[j]? = some (.int .u64 (wdB lb j : Nat)) from fun j hj => by
    have h := congrArg (fun l => l[j]?) hcur
    simp only [Nat.mul_one, List.getElem?_take, if_pos hj] at h
    rw [← Array.getElem?_toList, h]
    simp [ns, hj])
  have HCAP := Lib.hid hcap
  clear hgb hcur hcap HV C4 c1 c0 hwd hg
  go_wp2_with fail
  obtain ⟨P, hP⟩ : ∃ P, P = w5.heap.size := ⟨_, rfl⟩
  have q0 := Blk.new w5 23 #[.slice none 0 0]
  have e1 : (w5.alloc (.cells #[.slice none 0 0] 23)).heap.size = w5.heap.size + 1 := by simp
  have q1 := Blk.new (w5.alloc (.cells #[.slice none 0 0] 23)) 22 #[.int .u32 wait]
  rw [e1] at q1
  have q0 := q0.alloc (.cells #[.int .u32 wait] 22)
  have e2 : ((w5.alloc (.cells #[.slice none 0 0] 23)).alloc (.cells #[.int .u32 wait] 22)).heap.size = w5.heap.size + 2 := by simp
  have hb6 : Below w5.heap.size w5 ((w5.alloc (.cells #[.slice none 0 0] 23)).alloc (.cells #[.int .u32 wait] 22)) := ((Below.refl _ _).alloc (Nat.le_refl _) _).alloc (by omega) _
  have KG6 := Lib.hid (KG.out.below hb6 KG.out.lt)
  have HWP := Lib.hid (show w.heap.size ≤ P by rw [hP]; exact B6.out.size)
  have HGP := Lib.hid (show g < P by rw [hP]; exact KG.out.lt)
  have B7 := Lib.hid (B6.out.trans (hb6.mono B6.out.size))
  rw [← hP] at q0 q1 e2 ⊢
  have Q0 := Lib.hid q0
  have Q1 := Lib.hid q1
  have E2 := Lib.hid e2
  clear q0 q1 e1 e2 hb6 KG B6 hP
  generalize (w5.alloc (.cells #[.slice none 0 0] 23)).alloc (.cells #[.int .u32 wait] 22) = w6 at Q0 Q1 E2 KG6 B7 ⊢
  refine (chunk_any (some ⟨g, 0, none⟩) mm cap w6).mono ?_
  rintro e w7 ⟨rfl, hw7⟩
  have q2 := Blk.new w6 52 #[.slice (some ⟨g, 0, none⟩) mm cap]
  have e3 : (w6.alloc (.cells #[.slice (some ⟨g, 0, none⟩) mm cap] 52)).heap.size = w6.heap.size + 1 := by simp
  have q3 := Blk.new (w6.alloc (.cells #[.slice (some ⟨g, 0, none⟩) mm cap] 52)) 3 #[.int .i64 2]
  rw [e3, E2.out] at q3
  have q2 := q2.alloc (.cells #[.int .i64 2] 3)
  rw [E2.out] at q2
  have e4 : w7.heap.size = P + 4 := by rw [hw7]; simp [E2.out]
  have hb7 : Below w6.heap.size w6 w7 := by rw [hw7]; exact ((Below.refl _ _).alloc (Nat.le_refl _) _).alloc (by omega) _
  rw [← hw7] at q2 q3
  have Q2 := Lib.hid q2
  have Q3 := Lib.hid q3
  have E4 := Lib.hid e4
  have Q4 := Lib.hid (Q0.out.below hb7 Q0.out.lt)
  have Q5 := Lib.hid (Q1.out.below hb7 Q1.out.lt)
  have Q6 := Lib.hid (KG6.out.below hb7 KG6.out.lt)
  have B8 := Lib.hid (B7.out.trans (hb7.mono B7.out.size))
  have e5 := E2.out
  rw [e5]
  clear q2 q3 e3 e4 hb7 hw7 Q0 Q1 KG6 B7 e5 E2
  go_wp2_with fail
  have hm2 : mm = 2 * m := HMM.out
  have hBs : w7.cell? ⟨P + 2, 0, none⟩ = some (.slice (some ⟨g, 0, none⟩) (2 * m) cap) := by rw [Q2.out.cell, ← hm2]; rfl
  have hBn : w7.cell? ⟨P + 3, 0, none⟩ = some (.int .i64 2) := by rw [Q3.out.cell]; rfl
  have hcap2 : 2 * m ≤ cap := by rw [← hm2]; exact HCAP.out
  have hI0 : PI w P (P + 1) (P + 2) (P + 3) g 0 wait lb m [] w7 := ⟨⟨.slice none 0 0, Q4.out, World.ownsRow_nil _ _ _ _⟩, Q5.out, ⟨cur, _, Q6.out, fun j hj => by rw [Nat.zero_add]; exact HCUR.out j (by omega)⟩, ⟨_, _, Q2.out⟩, ⟨_, _, Q3.out⟩, B8.out⟩
  refine (wpIn_wide (n := 8)).1 ?_
  refine wpIn_rangeFunc_ownF (n := 8) rfl (by omega) (gf := 32) (lb := #[.pointer (some ⟨P + 2, 0, none⟩), .pointer (some ⟨P + 3, 0, none⟩)]) rfl trivial (enters_of Try.func32 (by kernel_rfl) rfl)
    (chunk_stops 7 (by omega) (P + 2) (P + 3) g 0 m cap hcap2 (by omega) w7 hBs hBn (by rw [E4.out]; omega) (by rw [E4.out]; omega)) (fun h k => h.trans k) ?hKb (Below.refl _ _) (fun _ => rfl)
    (PI w P (P + 1) (P + 2) (P + 3) g 0 wait lb m) (fun _ _ _ => False) (PI.own B8.out.size) (fun _ _ _ _ _ hs _ _ => hs) hI0
    (fun x => { tmps := List.toArray (.int .u32 wait :: .agg #[.int .u8 9, .slice A n c] :: undef :: .pointer (some ⟨w.heap.size, 0, none⟩) :: .slice none 0 0 :: .bool false :: .int .i64 (m : Nat) :: .slice (some ⟨g, 0, none⟩) mm cap :: .bool true :: .pointer (some ⟨P, 0, none⟩) :: .pointer (some ⟨P + 1, 0, none⟩) :: .slice (some ⟨g, 0 + 2 * x.1, none⟩) 2 2 :: undef :: .pointer (some ⟨w.heap.size, 1, none⟩) :: .slice A n c :: .int .i64 (n : Nat) :: .int .i64 (m : Nat) :: .pointer (some ⟨w.heap.size, 0, none⟩) :: .int .u8 9 :: .bool false :: .bool false :: .int .i64 (m : Nat) :: .bool false :: .bool false :: .bool false :: .int .i64 (m : Nat) :: .bool false :: .bool false :: .tuple #[.slice (some ⟨g, 0, none⟩) mm cap, .bool true] :: .pointer (some ⟨w.heap.size, 1, none⟩) :: .slice A n c :: .slice (some ⟨wd.heap.size, 0, none⟩) 1 1 :: .int .i64 (m : Nat) :: .int .i64 (mm : Nat) :: .slice (some ⟨w3.heap.size, 0, none⟩) mm mm :: .tuple #[.slice (some ⟨g, 0, none⟩) mm cap, .bool true] :: .slice (some ⟨g, 0, none⟩) mm cap :: .bool true :: .bool true :: .bool false :: .int .u32 wait :: .slice (some ⟨g, 0, none⟩) mm cap :: .func (.func 32) #[] #[.pointer (some ⟨P + 2, 0, none⟩), .pointer (some ⟨P + 3, 0, none⟩)] :: .slice (some ⟨g, 0 + 2 * x.1, none⟩) 2 2 :: undef :: undef :: undef :: undef :: undef :: undef :: undef :: undef :: undef :: undef :: undef :: undef :: undef :: undef :: undef :: undef :: undef :: undef :: undef :: undef :: undef :: undef :: undef :: []), defers := [] }) ?assign ?body ?done ?stop
  case hKb =>
    intro W l o o' hl ho hc hw
    have hlt : l < W.heap.size := (Array.getElem?_eq_some_iff.1 ho).1
    have hg := grownBy_putObj' W l o'
    have e4 := E4.out
    exact ⟨World.cell?_of_block (a := ⟨P + 2, 0, none⟩) (hg.block (P + 2) (by omega) fun e => by injection e with e; omega), World.cell?_of_block (a := ⟨P + 3, 0, none⟩) (hg.block (P + 3) (by omega) fun e => by injection e with e; omega)⟩
  case assign =>
    intro l x W K hK
    have hz : (#[43] : Array Nat).zip (pairV g 0 x.1) = #[(43, .slice (some ⟨g, 0 + 2 * x.1, none⟩) 2 2)] := by simp only [pairV, List.zip_toArray, List.zip_cons_cons, List.zip_nil_left]
    rw [hz]
    simp only [List.foldl_toArray, List.foldl_cons, List.foldl_nil, List.setIfInBounds_toArray, List.set_cons_succ, List.set_cons_zero]
    gi_wp2
    exact hK
  case body =>
    rintro l pre x W hI hlen
    obtain ⟨v, r1, r2⟩ := hI.row
    have r3 := hI.at_
    obtain ⟨cs, tt, r4, r5⟩ := hI.words
    have R1 := Lib.hid r1; have R2 := Lib.hid r2; have R3 := Lib.hid r3; have R4 := Lib.hid r4; have R5 := Lib.hid r5
    have HI := Lib.hid hI
    have hx := x.2
    obtain ⟨y, hy⟩ : ∃ y : Nat, y = x.1 := ⟨_, rfl⟩
    obtain ⟨L, hL⟩ : ∃ L, L = prX wait lb (pre.map (·.1)) := ⟨_, rfl⟩
    obtain ⟨a0, ha0⟩ : ∃ a, a = bkLast wait L := ⟨_, rfl⟩
    obtain ⟨d1, hd1⟩ : ∃ d, d = wdB lb (2 * y) := ⟨_, rfl⟩
    obtain ⟨d2, hd2⟩ : ∃ d, d = wdB lb (2 * y + 1) := ⟨_, rfl⟩
    obtain ⟨x1, hx1⟩ : ∃ x, x = nx a0 d1 := ⟨_, rfl⟩
    obtain ⟨x2, hx2⟩ : ∃ x, x = nx x1 d2 := ⟨_, rfl⟩
    have w1' : IntKind.u32.wrap (a0 + (d1 : Int)) = x1 := by rw [hx1]; exact nx_wrap a0 d1
    have w2' : IntKind.u32.wrap (x1 + (d2 : Int)) = x2 := by rw [hx2]; exact nx_wrap x1 d2
    have f1 : IntKind.u32.wrap (d1 : Int) = (d1 : Nat) := by have := wdB_lt HBY.out (2 * y); rw [← hd1] at this; rw [IntKind.wrap_u32]; omega
    have f2 : IntKind.u32.wrap (d2 : Int) = (d2 : Nat) := by have := wdB_lt HBY.out (2 * y + 1); rw [← hd2] at this; rw [IntKind.wrap_u32]; omega
    have k1 : W.cell? ⟨P + 1, 0, none⟩ = some (.int .u32 a0) := by rw [r3.cell, ← hL, ← ha0]; rfl
    have k2 : W.cell? ⟨g, 2 * y, none⟩ = some (.int .u64 (d1 : Nat)) := by have h := r5 (2 * x.1) (by omega); rw [Nat.zero_add] at h; rw [r4.cell, hd1, hy]; exact h
    have k3 : W.cell? ⟨g, 2 * y + 1, none⟩ = some (.int .u64 (d2 : Nat)) := by have h := r5 (2 * x.1 + 1) (by omega); rw [Nat.zero_add] at h; rw [r4.cell, hd2, hy]; exact h
    have k4 : W.frozen? ⟨P + 1, 0, none⟩ = false := (show Boxed W (P + 1) 22 _ from r3).frozen
    have hgP : g < P := HGP.out
    have HX1 := Lib.hid (show (x1, x2) = pcX lb (bkLast wait L) x.1 from by rw [hx2, hx1, hd1, hd2, ha0, hy]; rfl)
    have HLL := Lib.hid hL
    have AE := Lib.hid (show a0 = bkLast wait (prX wait lb (pre.map (·.1))) by rw [ha0, hL])
    rw [← hy]
    have hmx : Try.prog.follows .mixedOrders = true := by kernel_rfl
    clear r1 r2 r3 r4 r5 hI hL ha0 hd1 hd2 hx1 hx2 hy
    gi_wp2
    rename_i hKK
    have KOUT := Lib.hid hKK
    clear hKK
    refine wpIn_region_quietR_lit (by kernel_rfl) (by kernel_rfl) (by kernel_rfl) ?_
    repeat (gi_big_quiet_step (fail))
    refine wpQuietIn_nil ?_
    rintro W1 ⟨nq, hW1⟩
    have kp1 := Lib.hid (show KeepsOthers W W1 from by rw [hW1]; exact ⟨Nat.le_refl _, fun _ _ h _ => h⟩)
    have r1 := Lib.hid (show Blk W1 P 23 #[v] by rw [hW1]; exact R1.out)
    have r2 := Lib.hid (show BS W1 (P + 4) v L by rw [hW1, HLL.out]; exact R2.out)
    have r3 := Lib.hid (show Blk W1 (P + 1) 22 #[.int .u32 a0] by rw [hW1, AE.out]; exact R3.out)
    have r4 := Lib.hid (show Blk W1 g tt cs by rw [hW1]; exact R4.out)
    have rb := Lib.hid (show ∃ cs t, Blk W1 (P + 2) t cs by rw [hW1]; exact HI.out.bs)
    have rn := Lib.hid (show ∃ cs t, Blk W1 (P + 3) t cs by rw [hW1]; exact HI.out.bn)
    have rl := Lib.hid (show Below w.heap.size w W1 by rw [hW1]; have h := HI.out.bel; exact ⟨h.os, h.tape, h.output, h.size, h.block⟩)
    have k3 : W1.cell? ⟨g, 2 * y + 1, none⟩ = some (.int .u64 (d2 : Nat)) := by rw [hW1]; exact k3
    have k4 : W1.frozen? ⟨P + 1, 0, none⟩ = false := by rw [hW1]; exact k4
    have KV : W1.cell? ⟨P, 0, none⟩ = some v := by rw [r1.out.cell]; rfl
    have KA : W1.cell? ⟨P + 1, 0, none⟩ = some (.int .u32 a0) := by rw [r3.out.cell]; rfl
    have BX1 := Lib.hid (show Boxed W1 (P + 1) 22 (.int .u32 a0) from r3.out)
    have BX0 := Lib.hid (show Boxed W1 P 23 v from r1.out)
    have BROW := Lib.hid (show W1.ownsRow (P + 4) 44 2 v L.length (bks L) from r2.out)
    have HE1 := Lib.hid (show W1.heap = W.heap by rw [hW1]; rfl)
    clear k1 k2 hW1 HI R1 R2 R3 R4
    have kz : W1.cell? ⟨P, 0, none⟩ = some v := KV
    have ky : W1.cell? ⟨P + 1, 0, none⟩ = some (.int .u32 a0) := KA
    obtain ⟨S2, hS2⟩ : ∃ S2, S2 = W1.setCell ⟨P + 1, 0, none⟩ (.int .u32 x2) := ⟨_, rfl⟩
    have bx1 : Boxed W1 (P + 1) 22 (.int .u32 a0) := BX1.out
    have hg2 := Lib.hid (show W1.grownBy S2 (some (P + 1)) by rw [hS2]; exact grownBy_setCell' W1 (P + 1) _)
    have hk2 := Lib.hid (show KeepsOthers W1 S2 by rw [hS2]; exact KeepsOthers.setCell _ _ _)
    have s3 := Lib.hid (show Boxed S2 (P + 1) 22 (.int .u32 x2) by rw [hS2]; exact bx1.set _)
    have s1 := Lib.hid (show Boxed S2 P 23 v from Boxed.kept BX0.out hg2.out (by simp))
    have s2 := Lib.hid (show S2.ownsRow (P + 4) 44 2 v L.length (bks L) from World.ownsRow.kept BROW.out hg2.out (.inr (Ne.symm (bx1.not_row (by decide) BROW.out))))
    have sz := Lib.hid (show S2.heap.size = W1.heap.size by rw [hS2]; simp)
    have c5 : S2.cell? ⟨P, 0, none⟩ = some v := s1.out.cell
    have c6 : S2.cell? ⟨P + 1, 0, none⟩ = some (.int .u32 x2) := s3.out.cell
    have f5 : S2.frozen? ⟨P, 0, none⟩ = false := s1.out.frozen
    have HB2 := Lib.hid (show Below w.heap.size W1 S2 by rw [hS2]; exact (Below.refl _ _).setCell (p := ⟨P + 1, 0, none⟩) (by have := HWP.out; show w.heap.size ≤ P + 1; omega) _)
    have eS := hS2.symm
    clear bx1 hS2
    obtain ⟨i0, hi, hz0, hz1, hz2⟩ := info_parts (show (Try.prog.info? 44).map (fun i => (i.zero, i.size, i.bytes)) = some (some (.agg #[.int .u32 0, .int .u32 0]), 2, 8) by kernel_rfl)
    have HI0 := Lib.hid hi; have HZ := Lib.hid (And.intro hz0 (And.intro hz1 hz2))
    clear hi hz0 hz1 hz2
    have HLN := Lib.hid (show L.length < 4 from by have h := prX_len wait lb (pre.map (·.1)); rw [List.length_map] at h; rw [HLL.out]; omega)
    have hP3 := Lib.hid (show P + 4 ≤ S2.heap.size from by obtain ⟨_, _, h⟩ := rn.out; have := h.lt; rw [sz.out]; omega)
    refine KOUT.out _ _ ?_
    iterate 42 (first | gi_step | gi_upon | go_values)
    refine wpListIn_append_own (S2.alloc (.cells #[.int .u32 x1, .int .u32 x2] 44)) rfl (.tmp 56) (.tmp 60) 23 rfl (P + 4) 44 i0 (.agg #[.int .u32 0, .int .u32 0]) 2 8 Try.underlying23 HI0.out HZ.out.1 HZ.out.2.1 HZ.out.2.2 rfl (by decide) v L.length (bks L) rfl (s2.out.alloc _) ⟨S2.heap.size, 0, none⟩ 1 1 [.int .u32 x1, .int .u32 x2] rfl rfl ?hc (by simp [Value.oneCell']) ?b1 ?b2 ?b3 ?hK
    case hc =>
      intro j u h
      have hb := Blk.new S2 44 #[.int .u32 x1, .int .u32 x2]
      rw [show (⟨S2.heap.size, 0, none⟩ : Addr).add j = ⟨S2.heap.size, j, none⟩ from by simp [Addr.add]; intro h; exact h.symm, hb.cell]
      simpa using h
    case b1 => have := HLN.out; simp only [maxLen]; omega
    case b2 => have := HLN.out; omega
    case b3 => have := hP3.out; simp; omega
    case hK =>
    intro v' w9 hown' hgrow _
    have hrow := s2.out
    have bb1 : Boxed w9 P 23 v := (s1.out.alloc _).kept hgrow (s1.out.not_row (by decide) hrow)
    have c7 := bb1.cell
    have f7 := bb1.frozen
    have T1 := Lib.hid (s1.out.appended (n₀ := P) (by decide) (own_mono hrow (by omega)) (by have := hP3.out; omega) (Nat.le_refl _) (own_mono hown' (by omega)) hgrow)
    have T2 := Lib.hid (World.ownsRow.kept hown' (grownBy_setCell' w9 P v') (.inr (Ne.symm (bb1.not_row (by decide) hown'))))
    have T3 := Lib.hid (show ∀ k, k < P + 4 → k ≠ P → (w9.setCell ⟨P, 0, none⟩ v').heap[k]? = S2.heap[k]? from fun k hk hne => by
      have hp3 := hP3.out
      have hlt : k < S2.heap.size := by omega
      have e2 := hgrow.block k (by simp; omega) (fun e => by have := (hrow.lt k e.symm).1; omega)
      have hz : k < w9.heap.size := by have := hgrow.size; simp at this; omega
      exact ((grownBy_setCell' w9 P v').block k hz (fun e => hne (by injection e))).trans (e2.trans (Below.heap_alloc S2 _ k hlt)))
    obtain ⟨g', cap', rfl⟩ := ownsRow_succ hown'
    have HLE := HLN.out
    clear hown' hgrow hrow bb1 HLE
    simp only [Act.put, List.setIfInBounds_toArray, List.set_cons_succ, List.set_cons_zero]
    iterate 6 (first | gi_step | gi_upon | go_values | skip)
    generalize w9.setCell ⟨P, 0, none⟩ (.slice (some ⟨g', 0, none⟩) (L.length + 1) cap') = S4 at T1 T2 T3 ⊢
    obtain ⟨_, hvB, _, hkB, hbB⟩ := T1.out
    have hp3 := hP3.out
    have hsz := sz.out
    have heap1 : ∀ k, k < P + 4 → k ≠ P → k ≠ P + 1 → S4.heap[k]? = W1.heap[k]? := fun k h1 h2 h3 => (T3.out k h1 h2).trans (hg2.out.block k (by omega) (fun e => h3 (by injection e)))
    have hmap : (pre ++ [x]).map (fun z => z.1) = pre.map (·.1) ++ [x.1] := by simp
    have hpr : prX wait lb ((pre ++ [x]).map (·.1)) = L ++ [(x1, x2)] := by rw [hmap, prX_snoc, ← HLL.out, ← HX1.out]
    refine ⟨kp1.out.trans (hk2.out.trans hkB), ⟨World.cell?_of_block (a := ⟨P + 2, 0, none⟩) ((heap1 (P + 2) (by omega) (by omega) (by omega)).trans (by rw [HE1.out])), World.cell?_of_block (a := ⟨P + 3, 0, none⟩) ((heap1 (P + 3) (by omega) (by omega) (by omega)).trans (by rw [HE1.out]))⟩, ⟨⟨_, hvB, ?_⟩, ?_, ⟨cs, tt, (heap1 g (by omega) (by omega) (by omega)).trans r4.out, R5.out⟩, ?_, ?_, ?_⟩⟩
    · unfold BS
      rw [hpr, bks_append, List.length_append]
      exact T2.out
    · rw [hpr, bkLast_snoc]
      exact (T3.out (P + 1) (by omega) (by omega)).trans s3.out
    · obtain ⟨c', t', h⟩ := rb.out
      exact ⟨c', t', (heap1 (P + 2) (by omega) (by omega) (by omega)).trans h⟩
    · obtain ⟨c', t', h⟩ := rn.out
      exact ⟨c', t', (heap1 (P + 3) (by omega) (by omega) (by omega)).trans h⟩
    · exact rl.out.trans (HB2.out.trans (hbB.mono HWP.out))
  case done =>
    rintro D ys W hD hys hI hK
    obtain ⟨v, r1, r2⟩ := hI.row
    have HBE := Lib.hid hI.bel
    rw [hys, prX_upto] at r2
    obtain ⟨L, hL⟩ : ∃ L, L = parB m wait lb := ⟨_, rfl⟩
    rw [← hL] at r2
    have hLm : L.length = m := by rw [hL]; exact parB_len _ _ _
    have HLL := Lib.hid hL
    have HLM := Lib.hid hLm
    unfold BS at r2
    rw [hLm] at r2
    have HROW := Lib.hid r2
    obtain ⟨g', cap', rfl⟩ : ∃ g' cap', v = .slice (some ⟨g', 0, none⟩) m cap' := by
      rcases r2.2 with ⟨_, h0⟩ | ⟨g', cap', _, rfl, _⟩
      · omega
      · exact ⟨g', cap', rfl⟩
    have k1 : W.cell? ⟨P, 0, none⟩ = some (.slice (some ⟨g', 0, none⟩) m cap') := by rw [r1.cell]; rfl
    have HK := Lib.hid hK
    have HD := Lib.hid hD
    have R1 := Lib.hid r1
    clear hL hLm r2 hI hys r1 hK hD hI0
    have HRD := Lib.hid (Rd.of_own HROW.out)
    go_wp2_with fail
    refine (sright_any wait (some ⟨g', 0, none⟩) m cap' L W HRD.out).mono ?_
    rintro e W2 ⟨⟨b, rfl, hbk⟩, hbel⟩
    dsimp only
    have HBK := Lib.hid hbk
    have K9 := Lib.hid (show W2.cell? ⟨P, 0, none⟩ = some (.slice (some ⟨g', 0, none⟩) m cap') from (hbel.cell (p := ⟨P, 0, none⟩) R1.out.lt).trans (by rw [R1.out.cell]; rfl))
    have hDl : D < W.heap.size := (Array.getElem?_eq_some_iff.1 HK.out).1
    have HK2 := Lib.hid ((hbel.block D hDl).trans HK.out)
    have HROW2 := Lib.hid (show W2.ownsRow (P + 4) 44 2 (.slice (some ⟨g', 0, none⟩) m cap') m (bks L) from by
      have h := HROW.out
      refine World.ownsRow.kept h (row := none) ⟨hbel.os, hbel.tape, hbel.output, hbel.size, fun k hk _ => hbel.block k hk⟩ (by cases hv : (Value.slice (some ⟨g', 0, none⟩) m cap').ownBlock <;> simp))
    have hwp := HWP.out
    have HB3 := Lib.hid (HBE.out.trans (hbel.mono (by have := HBE.out.size; exact this)))
    have HB4 := Lib.hid (HB3.out.trans (belowK_b (w := w) (Nat.le_refl _) W2 D _ (.deferred none) (by have := HD.out; have := B8.out.size; omega) HK2.out rfl rfl))
    clear hbk hbel hDl hwp
    have k2 : W2.cell? ⟨P, 0, none⟩ = some (.slice (some ⟨g', 0, none⟩) m cap') := K9.out
    cases b with
    | true =>
      have HSP := Lib.hid (show SPOk wait 9 n lb from ⟨rfl, by have := HM.out; omega, by omega, by have := HM.out; omega, by rw [← HM.out, ← HLL.out]; exact HBK.out.1 rfl⟩)
      go_wp2_with fail
      refine ⟨by simp, .inl ⟨_, _, rfl, run_takeDeferred HK2.out, ?_⟩⟩
      refine ⟨_, results_tmp2 rfl _ _ _, .inl ⟨HSP.out, _, rfl, ?_⟩, HB4.out⟩
      unfold BS
      rw [← HM.out, ← HLL.out, HLM.out]
      exact ownsRow_putObj (own_mono HROW2.out (by have := HWP.out; omega)) _ HK2.out rfl
    | false =>
      have HN := Lib.hid (show ¬ SPOk wait 9 n lb from fun h => by
        have h2 := h.2.2.2.2
        rw [← HM.out, ← HLL.out] at h2
        cases HBK.out.2 h2)
      go_wp2_with fail
      refine ⟨by simp, .inl ⟨_, _, rfl, run_takeDeferred HK2.out, ?_⟩⟩
      exact ⟨_, results_tmp2 rfl _ _ _, PPPost.no HN.out, HB4.out⟩
  case stop =>
    rintro D c pre W _ _ h _
    exact h.elim
end Go.Proofs.Ytpnnadnmkiobcaa
