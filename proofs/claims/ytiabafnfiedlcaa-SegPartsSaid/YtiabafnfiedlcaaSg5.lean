/- Two segments held against each other: they are the same. -/
import Derived.Test.YtiabafnfiedlcaaSg1
import Derived.Test.YtiabafnfiedlcaaOrd
namespace Go.Proofs.Ytiabafnfiedlcaa
open Go.RowKit
set_option linter.unusedVariables false
theorem cells2v {w : World} {b off : Nat} {u v : Value} (h1 : w.cell? ⟨b, off, none⟩ = some u) (h2 : w.cell? ⟨b, off + 1, none⟩ = some v) :
    ∀ j x, [u, v][j]? = some x → w.cell? ⟨b, off + j, none⟩ = some x := by
  intro j x hx
  match j, hx with
  | 0, hx => simp at hx; subst hx; exact h1
  | 1, hx => simp at hx; subst hx; exact h2
set_option maxRecDepth 20000 in
set_option maxHeartbeats 1000000 in
theorem sameo_any (kd : Nat) (A B : Option Addr) (n c m d : Nat) (l : List Nat) (w : World) (h1 : Rd w w.heap.size 1 A n (ns .u8 l)) (h2 : Rd w w.heap.size 1 B m (ns .u8 l)) :
    Calls Try.prog 46 #[.agg #[.int .u8 (kd : Int), .slice A n c], .agg #[.int .u8 (kd : Int), .slice B m d]] w fun e w' => e = .returned (.bool true) ∧ Below w.heap.size w w' := by
  have hb : Below w.heap.size w ((w.alloc (.cells #[.int .u8 (kd : Int), .slice A n c] 74)).alloc (.cells #[.int .u8 (kd : Int), .slice B m d] 74)) := ((Below.refl _ _).alloc (Nat.le_refl _) _).alloc (by simp) _
  have H1 := Lib.hid (h1.below hb)
  have H2 := Lib.hid (h2.below hb)
  have HB := Lib.hid hb
  clear h1 h2 hb
  go_enter Try.func46, Try.ntmps46
  go_wp2_with (first | refine wpList_conv Try.underlying54 Try.underlying5 Try.underlying9 rfl _ rfl rfl H1.out ?_ | refine wpList_conv Try.underlying54 Try.underlying5 Try.underlying9 rfl _ rfl rfl H2.out ?_)
  go_ret
  exact ⟨ret_bool (by simp), HB.out⟩
set_option maxRecDepth 20000 in
set_option maxHeartbeats 4000000 in
theorem same_true (v u : Value) (g : Sg) (w : World) (hv : SegV w v g) (hu : SegV w u g) (hs : g.small) :
    Calls Try.prog 40 #[v, u] w fun e w' => e = .returned (.bool true) ∧ Below w.heap.size w w' := by
  obtain ⟨A, n, c, D, m, d, l, rfl, hO, ho, hD, hmd, hdm⟩ := hv
  obtain ⟨A2, n2, c2, D2, m2, d2, l2, rfl, hO2, ho2, hD2, hmd2, hdm2⟩ := hu
  have hb : Below w.heap.size w ((w.alloc (.cells (segCs g A n c D m d) 56)).alloc (.cells (segCs g A2 n2 c2 D2 m2 d2) 56)) := ((Below.refl _ _).alloc (Nat.le_refl _) _).alloc (by simp) _
  have hk1 := (Blk.new w 56 (segCs g A n c D m d)).alloc (.cells (segCs g A2 n2 c2 D2 m2 d2) 56)
  have hk2 := Blk.new (w.alloc (.cells (segCs g A n c D m d) 56)) 56 (segCs g A2 n2 c2 D2 m2 d2)
  rw [show (w.alloc (.cells (segCs g A n c D m d) 56)).heap.size = w.heap.size + 1 by simp] at hk2
  have hn : n ≤ 10000 := by have h1 := hs.opts; rw [ho] at h1; unfold osay at h1; rw [List.length_map, hO.len] at h1; exact h1
  have hnn : n2 = n := by have := hO.len; have := hO2.len; have e := congrArg List.length (ho.symm.trans ho2); unfold osay at e; rw [List.length_map, List.length_map] at e; omega
  have hmm : m2 = m := by have := hD.natLen; have := hD2.natLen; omega
  subst hnn hmm
  have HO := Lib.hid hO
  have HO2 := Lib.hid hO2
  have HS := Lib.hid ho
  have HS2 := Lib.hid ho2
  have HD := Lib.hid (hD.below hb)
  have HD2 := Lib.hid (hD2.below hb)
  have HB := Lib.hid hb
  obtain ⟨s0, s1, s2, s3, s4, s5, s6⟩ := seg_cells hk1
  obtain ⟨t0, t1, t2, t3, t4, t5, t6⟩ := seg_cells hk2
  have HK1 := Lib.hid hk1
  have HK2 := Lib.hid hk2
  clear hO hO2 ho ho2 hD hD2 hb hk1 hk2 hmd hdm hmd2 hdm2 hs
  unfold segCs at *
  go_enter Try.func40, Try.ntmps40
  go_wp2_with (first | refine wpList_conv Try.underlying54 Try.underlying5 Try.underlying9 rfl _ rfl rfl HD.out ?_ | refine wpList_conv Try.underlying54 Try.underlying5 Try.underlying9 rfl _ rfl rfl HD2.out ?_)
  have HW := HB
  generalize (w.alloc (.cells #[.int .u16 (g.src : Int), .int .u16 (g.dst : Int), .int .u32 (g.seq : Int), .int .u32 (g.ack : Int), .int .u8 (g.flags : Int), .slice A n2 c, .slice D m2 d] 56)).alloc (.cells #[.int .u16 (g.src : Int), .int .u16 (g.dst : Int), .int .u32 (g.seq : Int), .int .u32 (g.ack : Int), .int .u8 (g.flags : Int), .slice A2 n2 c2, .slice D2 m2 d2] 56) = W at *
  clear s0 s1 s2 s3 s4 s5 s6 t0 t1 t2 t3 t4 t5 t6 HD HD2
  obtain ⟨T, hT⟩ : ∃ T, T = w.heap.size := ⟨_, rfl⟩
  rw [← hT] at HK1 HK2 HW ⊢
  have HT := Lib.hid hT
  clear hT HB
  go_loopw [5] (fun iv wr => ∃ k : Nat, k ≤ n2 ∧ iv = .int .i64 k ∧ Hid (Blk wr T 56 (segCs g A n2 c D m2 d)) ∧ Hid (Blk wr (T + 1) 56 (segCs g A2 n2 c2 D2 m2 d2)) ∧ Below w.heap.size w wr) (fun iv _ => n2 - (intOf iv).toNat)
  case atStart => exact ⟨0, Nat.zero_le _, rfl, HK1, HK2, by rw [← HT.out]; exact HW.out⟩
  case round =>
    obtain ⟨k, hk, rfl, hk1, hk2, hbw⟩ := hrel
    clear HK1 HK2 HW
    obtain ⟨_, _, _, _, _, s5, _⟩ := seg_cells hk1.out
    obtain ⟨_, _, _, _, _, t5, _⟩ := seg_cells hk2.out
    by_cases hlt : k < n2
    · have hlt' : (k : Int) < (n2 : Int) := by omega
      obtain ⟨b, off, kd, q, rfl, hbb, p0, p1, hp, hq, hql⟩ := HO.out.at_ hlt
      obtain ⟨b2, off2, kd2, q2, rfl, hbb2, r0, r1, hp2, hq2, hql2⟩ := HO2.out.at_ hlt
      have e1 := osay_at hp
      have e2 := osay_at hp2
      rw [← HS.out] at e1
      rw [← HS2.out, e1] at e2
      injection e2 with e2
      injection e2 with e2 e3
      subst e2
      obtain ⟨qA, qn, qc, ql⟩ := q
      obtain ⟨rA, rn, rc, rl⟩ := q2
      dsimp only at *
      subst e3
      have P0 := (hbw.cell (p := ⟨b, off + k * 2, none⟩) hbb).trans p0
      have P1 := (hbw.cell (p := ⟨b, off + k * 2 + 1, none⟩) hbb).trans p1
      have R0 := (hbw.cell (p := ⟨b2, off2 + k * 2, none⟩) hbb2).trans r0
      have R1 := (hbw.cell (p := ⟨b2, off2 + k * 2 + 1, none⟩) hbb2).trans r1
      have Q1 := Lib.hid (hq.out.into hbw)
      have Q2 := Lib.hid (hq2.out.into hbw)
      clear p0 p1 r0 r1 hp hp2 e1 hq hq2 hql hql2
      go_wp2_with fail
      refine wp_ord [(0, .pure), (1, .read), (2, .pure), (3, .pure), (4, .read), (5, .pure), (6, .read), (7, .pure), (8, .pure), (9, .read), (10, .sole), (11, .pure)] [] (by kernel_rfl) (by kernel_rfl) (fun QQ hQ wd hwd => ?_); simp only [List.map_cons, List.map_nil, List.getD_cons_zero, List.getD_cons_succ]
      have x5 : wd.cell? ⟨T, 5, none⟩ = some (.slice (some ⟨b, off, none⟩) n2 c) := by rw [hwd.out]; exact s5
      have y5 : wd.cell? ⟨T + 1, 5, none⟩ = some (.slice (some ⟨b2, off2, none⟩) n2 c2) := by rw [hwd.out]; exact t5
      have p0 : wd.cell? ⟨b, off + k * 2, none⟩ = some (.int .u8 (kd : Int)) := by rw [hwd.out]; exact P0
      have p1 : wd.cell? ⟨b, off + k * 2 + 1, none⟩ = some (.slice qA qn qc) := by rw [hwd.out]; exact P1
      have r0 : wd.cell? ⟨b2, off2 + k * 2, none⟩ = some (.int .u8 (kd : Int)) := by rw [hwd.out]; exact R0
      have r1 : wd.cell? ⟨b2, off2 + k * 2 + 1, none⟩ = some (.slice rA rn rc) := by rw [hwd.out]; exact R1
      have QD1 := Lib.hid (show Rd wd wd.heap.size 1 qA qn (ns .u8 ql) by rw [hwd.out]; exact Q1.out)
      have QD2 := Lib.hid (show Rd wd wd.heap.size 1 rA rn (ns .u8 ql) by rw [hwd.out]; exact Q2.out)
      have KD1 := Lib.hid (show Blk wd T 56 (segCs g (some ⟨b, off, none⟩) n2 c D m2 d) by rw [hwd.out]; exact hk1.out)
      have KD2 := Lib.hid (show Blk wd (T + 1) 56 (segCs g (some ⟨b2, off2, none⟩) n2 c2 D2 m2 d2) by rw [hwd.out]; exact hk2.out)
      have BD := Lib.hid (show Below w.heap.size w wd by rw [hwd.out]; exact hbw.drew)
      clear hwd hbw hk1 hk2 s5 t5 P0 P1 R0 R1 Q1 Q2
      (refine o_pure (v := ?_) (by rfl) (fun w' => ?_) ?_; rotate_left; (focus (go_simp; (try with_reducible rfl))); (try simp only [Act.put, List.setIfInBounds_toArray, List.set_cons_zero, List.set_cons_succ]))
      (refine o_load _ (by rfl) rfl rfl (by assumption) (by kernel_rfl) ?_; simp only [Act.put, List.setIfInBounds_toArray, List.set_cons_zero, List.set_cons_succ])
      (refine o_pure (v := ?_) (by rfl) (fun w' => ?_) ?_; rotate_left; (focus (go_simp; (try with_reducible rfl))); (try simp only [Act.put, List.setIfInBounds_toArray, List.set_cons_zero, List.set_cons_succ]))
      (refine o_pure (v := ?_) (by rfl) (fun w' => ?_) ?_; rotate_left; (focus (go_simp; (try with_reducible rfl))); (try simp only [Act.put, List.setIfInBounds_toArray, List.set_cons_zero, List.set_cons_succ]))
      (refine o_loads _ [.int .u8 (kd : Int), .slice qA qn qc] (by rfl) rfl rfl (cells2v p0 p1) (Nat.succ_pos _) (by kernel_rfl) (by kernel_rfl) ?_; simp only [Act.put, List.setIfInBounds_toArray, List.set_cons_zero, List.set_cons_succ])
      (refine o_pure (v := ?_) (by rfl) (fun w' => ?_) ?_; rotate_left; (focus (go_simp; (try with_reducible rfl))); (try simp only [Act.put, List.setIfInBounds_toArray, List.set_cons_zero, List.set_cons_succ]))
      (refine o_load _ (by rfl) rfl rfl (by assumption) (by kernel_rfl) ?_; simp only [Act.put, List.setIfInBounds_toArray, List.set_cons_zero, List.set_cons_succ])
      (refine o_pure (v := ?_) (by rfl) (fun w' => ?_) ?_; rotate_left; (focus (go_simp; (try with_reducible rfl))); (try simp only [Act.put, List.setIfInBounds_toArray, List.set_cons_zero, List.set_cons_succ]))
      (refine o_pure (v := ?_) (by rfl) (fun w' => ?_) ?_; rotate_left; (focus (go_simp; (try with_reducible rfl))); (try simp only [Act.put, List.setIfInBounds_toArray, List.set_cons_zero, List.set_cons_succ]))
      (refine o_loads _ [.int .u8 (kd : Int), .slice rA rn rc] (by rfl) rfl rfl (cells2v r0 r1) (Nat.succ_pos _) (by kernel_rfl) (by kernel_rfl) ?_; simp only [Act.put, List.setIfInBounds_toArray, List.set_cons_zero, List.set_cons_succ])
      refine o_sole (fun K hK => ?_)
      go_wp2_with fail
      refine (sameo_any kd qA rA qn qc rn rc ql wd QD1.out QD2.out).mono ?_
      rintro e w5 ⟨rfl, hb5⟩
      have KD3 := Lib.hid (KD1.out.below hb5 KD1.out.lt)
      have KD4 := Lib.hid (KD2.out.below hb5 KD2.out.lt)
      have B5 := Lib.hid (BD.out.trans (hb5.mono BD.out.size))
      go_wp2_with fail
      refine hK _ _ (fun _ => Ext.of hb5) ?_; clear hK K
      clear hb5 KD1 KD2 BD x5 y5 p0 p1 r0 r1
      (refine o_pure (v := ?_) (by rfl) (fun w' => ?_) ?_; rotate_left; (focus (go_simp; (try with_reducible rfl))); (try simp only [Act.put, List.setIfInBounds_toArray, List.set_cons_zero, List.set_cons_succ]))
      refine o_nil (hQ.out _ _ ?_); clear hQ QQ
      go_wp2_with fail
      go_roundw
      case rel => exact ⟨k + 1, by omega, by go_num, KD3, KD4, B5.out⟩
      case measure => simp [intOf]; omega
    · have hge : ¬ (k : Int) < (n2 : Int) := by omega
      go_wp2_with fail
      go_ret
      exact ⟨rfl, hbw⟩
end Go.Proofs.Ytiabafnfiedlcaa
