/- Package sched: ids, equals, Order, Choose. -/
import Derived.Test.YtcfeojobkpbohaaSc8
namespace Go.Proofs.Ytcfeojobkpbohaa
open Go.RowKit Go.Sort
set_option linter.unusedVariables false
set_option linter.unusedSimpArgs false
theorem intEl : El Try.prog 27 3 (.int .i64 0) 1 8 := ⟨Try.underlying27, by kernel_rfl, rfl, by omega, by omega⟩
theorem map_snocP {f : Pth → Int} {l : List Pth} {k : Nat} {x : Pth} (h : l[k]? = some x) : (l.take (k + 1)).map f = (l.take k).map f ++ [f x] := by rw [tkSnocP h]; simp
theorem tw_take {p : Pth → Bool} : ∀ {l : List Pth} {k : Nat}, (∀ x ∈ l.take k, p x = true) → (l.length ≤ k ∨ ∃ x, l[k]? = some x ∧ p x = false) → l.take k = l.takeWhile p
  | [], k, _, _ => by simp
  | x :: l, 0, _, h => by
    rcases h with h | ⟨y, h1, h2⟩
    · simp at h
    · simp at h1; subst h1; simp [h2]
  | x :: l, k + 1, h0, h => by
    have hx : p x = true := h0 x (by simp)
    have := tw_take (l := l) (k := k) (fun y hy => h0 y (by simp [hy])) (by simpa using h)
    simp [hx, this]
/-- Those of the first one's rank. -/
def eqL (l : List Pth) : List Pth := l.takeWhile fun y => decide (rkP y = rkP l.head!)
/-- The paths that are chosen out of those in order. -/
def chL (pol : Int) (s : List Pth) : List Pth := if pol = 3 then eqL s else s.take 1
set_option maxRecDepth 20000 in
set_option maxHeartbeats 4000000 in
theorem ids_any (A : Option Addr) (m c : Nat) (l : List Pth) (w : World) (h : Rd w w.heap.size 7 A m (pths l)) (hm : m ≤ 100) :
    Calls Try.prog 15 #[.slice A m c] w fun e w' => ∃ v, e = .returned v ∧ Zats w' 3 .i64 w.heap.size v (l.map Pth.id) ∧ Below w.heap.size w w' := by
  have HR := Lib.hid h
  have HL := Lib.hid h.pthLen
  have HO0 : Hid (Zats w 3 .i64 w.heap.size (.slice none 0 0) ((l.take 0).map Pth.id)) := Lib.hid (Zats.nil _ _ _ _)
  clear h
  go_enter Try.func15, Try.ntmps15
  go_wp2_with fail
  go_loopw [3, 8] (fun qv iv wr => ∃ (k : Nat), k ≤ m ∧ iv = .int .i64 (k : Nat) ∧ Hid (Zats wr 3 .i64 w.heap.size qv ((l.take k).map Pth.id)) ∧ Hid (Below w.heap.size w wr)) (fun _ iv _ => m - (intOf iv).toNat)
  case atStart => exact ⟨0, Nat.zero_le _, rfl, HO0, Lib.hid (Below.refl _ _)⟩
  case round =>
    clear HO0
    obtain ⟨k, hk, rfl, HO, BB⟩ := hrel
    by_cases hlt : k < m
    · have hlt' : (k : Int) < (m : Int) := by omega
      have hk0 : (0 : Int) ≤ (k : Int) := by omega
      obtain ⟨rb, off, x, hA, hrb, HC, HX⟩ := HR.out.pth hlt
      subst hA
      obtain ⟨a0, a1, a2, a3, a4, a5, a6⟩ := pt7 (w := wr) (o := off + k * 7) (fun j v hj => (BB.out.cell (p := ⟨rb, off + k * 7 + j, none⟩) hrb).trans (HC.out j v hj))
      go_upto_region 5 with fail
      have K1 := Lib.hid (Blk.new wr 36 #[.int .i64 x.id, .bool x.up, .bool x.bk, .bool x.bd, .int .i64 x.room, .int .i64 x.und, .int .i64 x.mean])
      have hb1 := (Below.refl wr.heap.size wr).alloc (Nat.le_refl _) (.cells #[.int .i64 x.id, .bool x.up, .bool x.bk, .bool x.bd, .int .i64 x.room, .int .i64 x.und, .int .i64 x.mean] 36)
      have B2 := Lib.hid (BB.out.trans (hb1.mono BB.out.size))
      have O2 := Lib.hid (HO.out.below hb1)
      obtain ⟨Y, hY⟩ : ∃ Y, Y = wr.heap.size := ⟨_, rfl⟩
      rw [← hY] at K1 ⊢
      clear hb1 hY BB HO a0 a1 a2 a3 a4 a5 a6
      generalize wr.alloc (.cells #[.int .i64 x.id, .bool x.up, .bool x.bk, .bool x.bd, .int .i64 x.room, .int .i64 x.und, .int .i64 x.mean] 36) = w3 at *
      obtain ⟨b0, b1, b2, b3, b4, b5, b6⟩ := ptb (x := x) K1.out
      have hroom : (((l.take k).map Pth.id).length + 1) * 8 ≤ room := room_ge (by rw [List.length_map, List.length_take]; have := HL.out; omega)
      have hbw : w.heap.size ≤ w3.heap.size := B2.out.size
      clear b1 b2 b3 b4 b5 b6
      go_wp2_with (at_builtin; go_must (refine app1z intEl x.id rfl _ _ rfl rfl O2.out rfl rfl hroom hbw ?_))
      intro v5 w5 ho5 hg5 hb5
      have O5 := Lib.hid (show Zats w5 3 .i64 w.heap.size v5 ((l.take (k + 1)).map Pth.id) by rw [map_snocP HX.out, List.map_take]; exact ho5)
      have B5 := Lib.hid (B2.out.trans hb5)
      clear ho5 hg5 hb5 b0 B2 O2 K1 hroom hbw
      go_wp2_with fail
      go_roundw
      case rel => exact ⟨k + 1, by omega, by go_num, O5, B5⟩
      case measure => simp [intOf]; omega
    · have hlt' : ¬ (k : Int) < (m : Int) := by omega
      have O2 := Lib.hid (show Zats wr 3 .i64 w.heap.size u3 (l.map Pth.id) by have := HO.out; rw [List.take_of_length_le (by rw [HL.out]; omega)] at this; exact this)
      clear HO
      go_wp2_with fail
      refine bodyPost_ret (v := u3) (by kernel_rfl) rfl ?_
      exact ⟨_, rfl, O2.out, BB.out⟩
set_option maxRecDepth 20000 in
set_option maxHeartbeats 4000000 in
theorem order_any (pol last n : Int) (A : Option Addr) (m c : Nat) (l : List Pth) (w : World) (h : Rd w w.heap.size 7 A m (pths l)) (hm : m ≤ 100) :
    Calls Try.prog 8 #[.int .i64 pol, .int .i64 last, .int .i64 n, .slice A m c] w fun e w' => ∃ (v : Value) (s : List Pth), e = .returned v ∧ Zats w' 3 .i64 w.heap.size v (s.map Pth.id) ∧ Below w.heap.size w w' ∧ s.Perm (l.filter (fitP n)) ∧ s.Pairwise (fun x y => ltP pol last y x = false) := by
  have HO := Lib.hid (ord_any pol last n A m c l w h hm)
  have HL := Lib.hid h.pthLen
  clear h
  go_enter Try.func8, Try.ntmps8
  go_wp2_with fail
  refine HO.out.mono ?_
  rintro e w2 ⟨v, s, rfl, ho, hb, hp, hq⟩
  obtain ⟨A2, c2, rfl, h1, h2, h3⟩ := own_form ho
  have HP := Lib.hid hp
  have HQ := Lib.hid hq
  have HB := Lib.hid hb
  have hsl : s.length ≤ 100 := by rw [hp.length_eq]; have := List.length_filter_le (fitP n) l; have := HL.out; omega
  have HI := Lib.hid (ids_any A2 s.length c2 s w2 h3 hsl)
  clear ho h1 h2 h3 hp hq hb hsl HO
  generalize s.length = sn at *
  go_wp2_with fail
  refine HI.out.mono ?_
  rintro e w3 ⟨v3, rfl, hz, hb3⟩
  have HZ := Lib.hid (hz.mono HB.out.size)
  have B3 := Lib.hid (HB.out.trans (hb3.mono HB.out.size))
  clear hz hb3 HI
  go_wp2_with fail
  refine bodyPost_ret (v := v3) (by kernel_rfl) rfl ?_
  exact ⟨_, s, rfl, HZ.out, B3.out, HP.out, HQ.out⟩
set_option maxRecDepth 20000 in
set_option maxHeartbeats 4000000 in
theorem equals_any (A : Option Addr) (m c : Nat) (l : List Pth) (w : World) (h : Rd w w.heap.size 7 A m (pths l)) (hm : m ≤ 100) (hmc : m ≤ c) :
    Calls Try.prog 18 #[.slice A m c] w fun e w' => ∃ k, e = .returned (.slice A k c) ∧ k ≤ m ∧ l.take k = eqL l ∧ Below w.heap.size w w' := by
  have HR := Lib.hid h
  have HL := Lib.hid h.pthLen
  have HMC := Lib.hid hmc
  clear h hmc
  go_enter Try.func18, Try.ntmps18
  go_wp2_with fail
  go_loopw [7] (fun iv wr => ∃ (k : Nat), k ≤ m ∧ iv = .int .i64 (k : Nat) ∧ Hid (∀ x ∈ l.take k, decide (rkP x = rkP l.head!) = true) ∧ Hid (Below w.heap.size w wr)) (fun iv _ => m - (intOf iv).toNat)
  case atStart => exact ⟨0, Nat.zero_le _, rfl, Lib.hid (fun x hx => by simp at hx), Lib.hid (Below.refl _ _)⟩
  case round =>
    obtain ⟨k, hk, rfl, HK, BB⟩ := hrel
    by_cases hlt : k < m
    · have hlt' : (k : Int) < (m : Int) := by omega
      have hk0 : (0 : Int) ≤ (k : Int) := by omega
      have hm0 : 0 < m := by omega
      have hm0' : (0 : Int) < (m : Int) := by omega
      obtain ⟨rb, off, x, hA, hrb, HC, HX⟩ := HR.out.pth hlt
      obtain ⟨rb2, off2, y, hA2, hrb2, HC2, HY⟩ := HR.out.pth hm0
      rw [hA] at hA2
      injection hA2 with hA2
      injection hA2 with e1 e2
      subst e1
      subst e2
      subst hA
      have HH := Lib.hid (show l.head! = y by have h1 := HY.out; cases l with | nil => simp at h1 | cons a t => simp at h1; exact h1)
      have HCW := Lib.hid (fun j v hj => (BB.out.cell (p := ⟨rb, off + k * 7 + j, none⟩) hrb).trans (HC.out j v hj))
      have HCW2 := Lib.hid (fun j v hj => (BB.out.cell (p := ⟨rb, off + 0 * 7 + j, none⟩) hrb).trans (HC2.out j v hj))
      obtain ⟨a0, a1, a2, a3, a4, a5, a6⟩ := pt7 (w := wr) (o := off + k * 7) HCW.out
      go_upto_region 4 with fail
      have K1 := Lib.hid (Blk.new wr 36 #[.int .i64 x.id, .bool x.up, .bool x.bk, .bool x.bd, .int .i64 x.room, .int .i64 x.und, .int .i64 x.mean])
      have hb1 := (Below.refl wr.heap.size wr).alloc (Nat.le_refl _) (.cells #[.int .i64 x.id, .bool x.up, .bool x.bk, .bool x.bd, .int .i64 x.room, .int .i64 x.und, .int .i64 x.mean] 36)
      have B2 := Lib.hid (BB.out.trans (hb1.mono BB.out.size))
      have YC := Lib.hid (show ∀ j v, y.el[j]? = some v → (wr.alloc (.cells #[.int .i64 x.id, .bool x.up, .bool x.bk, .bool x.bd, .int .i64 x.room, .int .i64 x.und, .int .i64 x.mean] 36)).cell? ⟨rb, off + j, none⟩ = some v from fun j v hj => (hb1.cell (p := ⟨rb, off + j, none⟩) (Nat.lt_of_lt_of_le hrb BB.out.size)).trans (by have := HCW2.out j v hj; rw [Nat.zero_mul, Nat.add_zero] at this; exact this))
      obtain ⟨Y, hY⟩ : ∃ Y, Y = wr.heap.size := ⟨_, rfl⟩
      rw [← hY] at K1 ⊢
      clear hb1 hY BB a0 a1 a2 a3 a4 a5 a6 HCW HCW2 HC HC2
      generalize wr.alloc (.cells #[.int .i64 x.id, .bool x.up, .bool x.bk, .bool x.bd, .int .i64 x.room, .int .i64 x.und, .int .i64 x.mean] 36) = w3 at *
      have R1 := Lib.hid (fun w' => rank_any x w')
      have R2 := Lib.hid (fun w' => rank_any y w')
      have HRK := Lib.hid (show rkP l.head! = rkP y by rw [HH.out])
      obtain ⟨r1, hr1⟩ : ∃ r, r = rkP x := ⟨_, rfl⟩
      obtain ⟨r2, hr2⟩ : ∃ r, r = rkP y := ⟨_, rfl⟩
      rw [← hr1] at R1
      rw [← hr2] at R2 HRK
      have HR1 := Sh.mk hr1
      clear hr1 hr2
      by_cases hre : r1 = r2
      · have hre' : (r1 == r2) = true := by simpa using hre
        have HK2 := Lib.hid (show ∀ x ∈ l.take (k + 1), decide (rkP x = rkP l.head!) = true by
          intro z hz
          rw [tkSnocP HX.out] at hz
          simp only [List.mem_append, List.mem_singleton] at hz
          rcases hz with hz | rfl
          · exact HK.out z hz
          · rw [HRK.out, ← HR1.out]; exact decide_eq_true hre)
        subst hre
        clear HK
        refine wp_ext (by kernel_rfl) (by kernel_rfl) (fun QQ hQ => ?_)
        refine x_loads _ [.int .i64 x.id, .bool x.up, .bool x.bk, .bool x.bd, .int .i64 x.room, .int .i64 x.und, .int .i64 x.mean] (by rfl) rfl rfl (K1.out.loads 0 _ (by rfl)) (Nat.succ_pos _) (by kernel_rfl) (by kernel_rfl) ?_; simp only [Act.put, List.setIfInBounds_toArray, List.set_cons_zero, List.set_cons_succ]
        refine x_call (by rfl) (fun w' hx => by go_simp) (fun w' hx => R1.out w') ?_; simp only [Act.put, List.setIfInBounds_toArray, List.set_cons_zero, List.set_cons_succ]
        (first | (refine x_load _ (by rfl) rfl rfl (by assumption) (by kernel_rfl) ?_; simp only [Act.put, List.setIfInBounds_toArray, List.set_cons_zero, List.set_cons_succ]) | (refine x_val (v := ?_) (by rfl) (fun w' hx => ?_) ?_; rotate_left; (focus (go_simp; (try with_reducible rfl))); (try simp only [Act.put, List.setIfInBounds_toArray, List.set_cons_zero, List.set_cons_succ])))
        (first | (refine x_load _ (by rfl) rfl rfl (by assumption) (by kernel_rfl) ?_; simp only [Act.put, List.setIfInBounds_toArray, List.set_cons_zero, List.set_cons_succ]) | (refine x_val (v := ?_) (by rfl) (fun w' hx => ?_) ?_; rotate_left; (focus (go_simp; (try with_reducible rfl))); (try simp only [Act.put, List.setIfInBounds_toArray, List.set_cons_zero, List.set_cons_succ])))
        refine x_loads _ [.int .i64 y.id, .bool y.up, .bool y.bk, .bool y.bd, .int .i64 y.room, .int .i64 y.und, .int .i64 y.mean] (by rfl) rfl rfl (YC.out) (Nat.succ_pos _) (by kernel_rfl) (by kernel_rfl) ?_; simp only [Act.put, List.setIfInBounds_toArray, List.set_cons_zero, List.set_cons_succ]
        refine x_call (by rfl) (fun w' hx => by go_simp) (fun w' hx => R2.out w') ?_; simp only [Act.put, List.setIfInBounds_toArray, List.set_cons_zero, List.set_cons_succ]
        (first | (refine x_load _ (by rfl) rfl rfl (by assumption) (by kernel_rfl) ?_; simp only [Act.put, List.setIfInBounds_toArray, List.set_cons_zero, List.set_cons_succ]) | (refine x_val (v := ?_) (by rfl) (fun w' hx => ?_) ?_; rotate_left; (focus (go_simp; (try with_reducible rfl))); (try simp only [Act.put, List.setIfInBounds_toArray, List.set_cons_zero, List.set_cons_succ])))
        refine x_nil (hQ.out _ ?_); clear hQ QQ
        intro w4 hb4
        have B4 := Lib.hid (B2.out.trans (hb4.mono B2.out.size))
        clear hb4 B2 K1 YC R1 R2
        go_wp2_with fail
        go_roundw
        case rel => exact ⟨k + 1, by omega, by go_num, HK2, B4⟩
        case measure => simp [intOf]; omega
      · have hre' : (r1 == r2) = false := by simpa using hre
        have HT := Lib.hid (show l.take k = eqL l from tw_take HK.out (.inr ⟨x, HX.out, by rw [HRK.out, ← HR1.out]; exact decide_eq_false hre⟩))
        have hs1 : ∀ w, (Instr.slice 25 (.slice (some ⟨rb, off, none⟩) m c) none (some (.int .i64 (k : Int))) none).run Try.prog w = .ok (.slice (some ⟨rb, off, none⟩) k c) w := fun w => run_cut_h scEl (some ⟨rb, off, none⟩) m c k (by have := HMC.out; omega) w
        clear HK
        refine wp_ext (by kernel_rfl) (by kernel_rfl) (fun QQ hQ => ?_)
        refine x_loads _ [.int .i64 x.id, .bool x.up, .bool x.bk, .bool x.bd, .int .i64 x.room, .int .i64 x.und, .int .i64 x.mean] (by rfl) rfl rfl (K1.out.loads 0 _ (by rfl)) (Nat.succ_pos _) (by kernel_rfl) (by kernel_rfl) ?_; simp only [Act.put, List.setIfInBounds_toArray, List.set_cons_zero, List.set_cons_succ]
        refine x_call (by rfl) (fun w' hx => by go_simp) (fun w' hx => R1.out w') ?_; simp only [Act.put, List.setIfInBounds_toArray, List.set_cons_zero, List.set_cons_succ]
        (first | (refine x_load _ (by rfl) rfl rfl (by assumption) (by kernel_rfl) ?_; simp only [Act.put, List.setIfInBounds_toArray, List.set_cons_zero, List.set_cons_succ]) | (refine x_val (v := ?_) (by rfl) (fun w' hx => ?_) ?_; rotate_left; (focus (go_simp; (try with_reducible rfl))); (try simp only [Act.put, List.setIfInBounds_toArray, List.set_cons_zero, List.set_cons_succ])))
        (first | (refine x_load _ (by rfl) rfl rfl (by assumption) (by kernel_rfl) ?_; simp only [Act.put, List.setIfInBounds_toArray, List.set_cons_zero, List.set_cons_succ]) | (refine x_val (v := ?_) (by rfl) (fun w' hx => ?_) ?_; rotate_left; (focus (go_simp; (try with_reducible rfl))); (try simp only [Act.put, List.setIfInBounds_toArray, List.set_cons_zero, List.set_cons_succ])))
        refine x_loads _ [.int .i64 y.id, .bool y.up, .bool y.bk, .bool y.bd, .int .i64 y.room, .int .i64 y.und, .int .i64 y.mean] (by rfl) rfl rfl (YC.out) (Nat.succ_pos _) (by kernel_rfl) (by kernel_rfl) ?_; simp only [Act.put, List.setIfInBounds_toArray, List.set_cons_zero, List.set_cons_succ]
        refine x_call (by rfl) (fun w' hx => by go_simp) (fun w' hx => R2.out w') ?_; simp only [Act.put, List.setIfInBounds_toArray, List.set_cons_zero, List.set_cons_succ]
        (first | (refine x_load _ (by rfl) rfl rfl (by assumption) (by kernel_rfl) ?_; simp only [Act.put, List.setIfInBounds_toArray, List.set_cons_zero, List.set_cons_succ]) | (refine x_val (v := ?_) (by rfl) (fun w' hx => ?_) ?_; rotate_left; (focus (go_simp; (try with_reducible rfl))); (try simp only [Act.put, List.setIfInBounds_toArray, List.set_cons_zero, List.set_cons_succ])))
        refine x_nil (hQ.out _ ?_); clear hQ QQ
        intro w4 hb4
        have B4 := Lib.hid (B2.out.trans (hb4.mono B2.out.size))
        clear hb4 B2 K1 YC R1 R2 hre
        go_wp2_with fail
        refine bodyPost_ret (v := .slice (some ⟨rb, off, none⟩) k c) (by kernel_rfl) rfl ?_
        exact ⟨k, rfl, by omega, HT.out, B4.out⟩
    · have hlt' : ¬ (k : Int) < (m : Int) := by omega
      have hkm : k = m := by omega
      have HT := Lib.hid (show l.take m = eqL l from tw_take (by rw [← hkm]; exact HK.out) (.inl (by rw [HL.out]; omega)))
      go_wp2_with fail
      refine bodyPost_ret (v := .slice A m c) (by kernel_rfl) rfl ?_
      exact ⟨m, rfl, Nat.le_refl _, HT.out, BB.out⟩
set_option maxRecDepth 20000 in
set_option maxHeartbeats 4000000 in
theorem choose_any (pol last n : Int) (A : Option Addr) (m c : Nat) (l : List Pth) (w : World) (h : Rd w w.heap.size 7 A m (pths l)) (hm : m ≤ 100) :
    Calls Try.prog 13 #[.int .i64 pol, .int .i64 last, .int .i64 n, .slice A m c] w fun e w' => ∃ (v : Value) (s : List Pth), e = .returned v ∧ Zats w' 3 .i64 w.heap.size v ((chL pol s).map Pth.id) ∧ Below w.heap.size w w' ∧ s.Perm (l.filter (fitP n)) ∧ s.Pairwise (fun x y => ltP pol last y x = false) := by
  have HO := Lib.hid (ord_any pol last n A m c l w h hm)
  have HL := Lib.hid h.pthLen
  clear h
  by_cases hpol : pol = 3
  · have hpol' : (pol == 3) = true := by simpa using hpol
    have HPL := Sh.mk hpol
    clear hpol
    go_enter Try.func13, Try.ntmps13
    go_wp2_with fail
    refine HO.out.mono ?_
    rintro e w2 ⟨v, s, rfl, ho, hb, hp, hq⟩
    obtain ⟨A2, c2, rfl, h1, h2, h3⟩ := own_form ho
    have HP := Lib.hid hp
    have HQ := Lib.hid hq
    have HB := Lib.hid hb
    have hsl : s.length ≤ 100 := by rw [hp.length_eq]; have := List.length_filter_le (fitP n) l; have := HL.out; omega
    have HE := Lib.hid (equals_any A2 s.length c2 s w2 h3 hsl h1)
    have H3 := Lib.hid h3
    have HSL := Lib.hid hsl
    have HCH0 := Lib.hid (show chL pol s = eqL s by unfold chL; rw [if_pos HPL.out])
    clear ho h1 h2 h3 hp hq hb hsl HO
    generalize s.length = sn at *
    go_wp2_with fail
    refine HE.out.mono ?_
    rintro e w3 ⟨k, rfl, hk, ht, hb3⟩
    have B3 := Lib.hid (HB.out.trans (hb3.mono HB.out.size))
    have HCH := Lib.hid (HCH0.out.trans ht.symm)
    have hr3 := (H3.out.take hk).into hb3
    rw [show (pths s).take (k * 7) = pths (s.take k) from fm_take pth_len s k] at hr3
    have HI := Lib.hid (ids_any A2 k c2 (s.take k) w3 hr3 (Nat.le_trans hk HSL.out))
    clear hk ht hb3 hr3 HE H3 HSL HCH0
    go_wp2_with fail
    refine HI.out.mono ?_
    rintro e w4 ⟨v4, rfl, hz, hb4⟩
    have HZ := Lib.hid (hz.mono B3.out.size)
    have B4 := Lib.hid (B3.out.trans (hb4.mono B3.out.size))
    clear hz hb4 HI
    go_wp2_with fail
    refine bodyPost_ret (v := v4) (by kernel_rfl) rfl ?_
    exact ⟨_, s, rfl, by rw [HCH.out]; exact HZ.out, B4.out, HP.out, HQ.out⟩
  · have hpol' : (pol == 3) = false := by simpa using hpol
    have HPL := Sh.mk hpol
    clear hpol
    go_enter Try.func13, Try.ntmps13
    go_wp2_with fail
    refine HO.out.mono ?_
    rintro e w2 ⟨v, s, rfl, ho, hb, hp, hq⟩
    obtain ⟨A2, c2, rfl, h1, h2, h3⟩ := own_form ho
    have HP := Lib.hid hp
    have HQ := Lib.hid hq
    have HB := Lib.hid hb
    have hsl : s.length ≤ 100 := by rw [hp.length_eq]; have := List.length_filter_le (fitP n) l; have := HL.out; omega
    by_cases hs0 : s.length < 1
    · have hs0' : (s.length : Int) < 1 := by omega
      have hs0e : (s.length : Int) = 0 := by omega
      have HCH := Lib.hid (show chL pol s = s.take 0 by unfold chL; rw [if_neg HPL.out]; rw [List.take_of_length_le (by omega), List.take_of_length_le (by omega)])
      have hr3 := h3.take (show 0 ≤ s.length by omega)
      rw [show (pths s).take (0 * 7) = pths (s.take 0) from fm_take pth_len s 0] at hr3
      have HI := Lib.hid (ids_any A2 0 c2 (s.take 0) w2 hr3 (by omega))
      have B3 := Lib.hid hb
      have hs1 : ∀ w, (Instr.slice 25 (.slice A2 s.length c2) none (some (.int .i64 0)) none).run Try.prog w = .ok (.slice A2 0 c2) w := fun w => run_cut_h scEl A2 s.length c2 0 (by omega) w

      clear ho h1 h2 h3 hp hq hb hsl HO hr3
      generalize hsn : s.length = sn at *
      clear hsn
      go_wp2_with fail
      refine HI.out.mono ?_
      rintro e w4 ⟨v4, rfl, hz, hb4⟩
      have HZ := Lib.hid (hz.mono B3.out.size)
      have B4 := Lib.hid (B3.out.trans (hb4.mono B3.out.size))
      clear hz hb4 HI
      go_wp2_with fail
      refine bodyPost_ret (v := v4) (by kernel_rfl) rfl ?_
      exact ⟨_, s, rfl, by rw [HCH.out]; exact HZ.out, B4.out, HP.out, HQ.out⟩
    · have hs0' : ¬ (s.length : Int) < 1 := by omega
      have HCH := Lib.hid (show chL pol s = s.take 1 by unfold chL; rw [if_neg HPL.out])
      have hr3 := h3.take (show 1 ≤ s.length by omega)
      rw [show (pths s).take (1 * 7) = pths (s.take 1) from fm_take pth_len s 1] at hr3
      have HI := Lib.hid (ids_any A2 1 c2 (s.take 1) w2 hr3 (by omega))
      have B3 := Lib.hid hb
      have hs1 : ∀ w, (Instr.slice 25 (.slice A2 s.length c2) none (some (.int .i64 1)) none).run Try.prog w = .ok (.slice A2 1 c2) w := fun w => run_cut_h scEl A2 s.length c2 1 (by omega) w
      have hmin : min (s.length : Int) 1 = 1 := by omega
      clear ho h1 h2 h3 hp hq hb hsl HO hr3
      generalize hsn : s.length = sn at *
      clear hsn
      go_wp2_with fail
      refine HI.out.mono ?_
      rintro e w4 ⟨v4, rfl, hz, hb4⟩
      have HZ := Lib.hid (hz.mono B3.out.size)
      have B4 := Lib.hid (B3.out.trans (hb4.mono B3.out.size))
      clear hz hb4 HI
      go_wp2_with fail
      refine bodyPost_ret (v := v4) (by kernel_rfl) rfl ?_
      exact ⟨_, s, rfl, by rw [HCH.out]; exact HZ.out, B4.out, HP.out, HQ.out⟩
end Go.Proofs.Ytcfeojobkpbohaa
