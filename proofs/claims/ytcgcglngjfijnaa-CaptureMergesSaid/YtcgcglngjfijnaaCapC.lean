/- Layer 34: the capture of some bytes. -/
import Derived.Test.YtcgcglngjfijnaaCapN
import Derived.Test.YtcgcglngjfijnaaCap8
namespace Go.Proofs.Ytcgcglngjfijnaa
open Go.RowKit
set_option linter.unusedVariables false
set_option linter.unusedSimpArgs false
/-- What Decode answers. -/
def CDPost (lb : List Nat) (w' : World) (e : Ending) : Prop :=
  (∃ (A : Option Addr) (n c : Nat) (lr : List Rb), e = .returned (.tuple #[.slice A n c, .bool true]) ∧ Rs w' A n c lr ∧ rightR (rsay lr) ∧ capE (rsay lr) = lb) ∨
  (e = .returned (.tuple #[.slice none 0 0, .bool false]) ∧ ∀ l, ¬ (rightR l ∧ capE l = lb))
theorem bequal_any (A C : Option Addr) (n c m d : Nat) (l k : List Nat) (w : World) (h1 : Rd w w.heap.size 1 A n (ns .u8 l)) (h2 : Rd w w.heap.size 1 C m (ns .u8 k)) (b1 : ∀ x ∈ l, x < 256) (b2 : ∀ x ∈ k, x < 256) :
    Calls Try.prog 117 #[.slice A n c, .slice C m d] w fun e w' => e = .returned (.bool (decide (l = k))) ∧ w' = w := by
  refine (Try.bytes_Equal_strs _ _ _ _ w (run_conv Try.underlying51 Try.underlying5 Try.underlying9 h1) (run_conv Try.underlying51 Try.underlying5 Try.underlying9 h2)).mono ?_
  rintro e w' ⟨rfl, rfl⟩
  exact ⟨ret_bool (strN_beq b1 b2), rfl⟩
set_option maxRecDepth 20000 in
set_option maxHeartbeats 8000000 in
theorem cdecode_any (A : Option Addr) (n c : Nat) (lb : List Nat) (w : World) (h : Rd w w.heap.size 1 A n (ns .u8 lb)) (hnc : n ≤ c) (hcm : c ≤ maxLen) (hb : ∀ x ∈ lb, x < 256) (hn : n ≤ 50000) :
    Calls Try.prog 88 #[.slice A n c] w fun e w' => CDPost lb w' e ∧ Below w.heap.size w w' := by
  have HR := Lib.hid h
  have HB := Lib.hid hb
  have HL := Lib.hid h.natLen
  have HNC := Lib.hid (And.intro hnc hcm)
  have hno : (¬ (10 ≤ n ∧ ub (lb.take 4) = 1112690517 ∧ lb.drop (n - 4) = be (sumS (lb.take (n - 4))) 4)) ∨ (∀ l, parR (ub ((lb.drop 4).take 2)) 0 ((lb.take (n - 4)).drop 6) = some (l, []) → ¬ rightR l) → CDPost lb w (.returned (.tuple #[.slice none 0 0, .bool false])) := fun hh => .inr ⟨rfl, fun l ⟨hr, he⟩ => by
    obtain ⟨p1, p2, p3, p4, p5, p6⟩ := capE_parts he hr
    rw [HL.out] at p1 p2 p3 p6
    rcases hh with hh | hh
    · exact hh ⟨p1, p4, by rw [p2]; exact p3⟩
    · exact hh l (by rw [p5]; exact p6) hr⟩
  have HNO : Hid (∀ w', (¬ (10 ≤ n ∧ ub (lb.take 4) = 1112690517 ∧ lb.drop (n - 4) = be (sumS (lb.take (n - 4))) 4)) ∨ (∀ l, parR (ub ((lb.drop 4).take 2)) 0 ((lb.take (n - 4)).drop 6) = some (l, []) → ¬ rightR l) → CDPost lb w' (.returned (.tuple #[.slice none 0 0, .bool false]))) := Lib.hid (fun w' hh => by
    rcases hno hh with ⟨A, n, c, lr, e, _⟩ | h
    · cases e
    · exact .inr h)
  clear h hb hcm hnc hno
  go_enter Try.func88, Try.ntmps88
  by_cases h10 : n < 10
  · have h10' : (n : Int) < 10 := by omega
    have HF := Lib.hid (HNO.out w (.inl (by omega)))
    clear HNO
    go_wp2_with fail
    go_ret2
    exact ⟨HF.out, Below.refl _ _⟩
  have h10' : ¬ (n : Int) < 10 := by omega
  have h10d : decide ((n : Int) < 10) = false := decide_eq_false h10'
  obtain ⟨m, hm⟩ : ∃ m, m = n - 4 := ⟨_, rfl⟩
  rw [← hm] at HNO
  have em : (n : Int) - 4 = (m : Int) := by omega
  have wm : IntKind.i64.wrap ((n : Int) - 4) = (m : Int) := by rw [em, IntKind.wrap_i64]; omega
  have hmn : m ≤ n := by omega
  have hm6 : 6 ≤ m := by omega
  obtain ⟨c4, hc4⟩ : ∃ c4, c4 = c - m := ⟨_, rfl⟩
  have HU := Lib.hid (show Try.prog.underlying 51 = some (.slice (Try.prog.elem 51)) by unfold Program.elem; rw [Try.underlying51])
  have hs1 : ∀ w, (Instr.slice 51 (.slice A n c) none (some (.int .i64 (m : Int))) none).run Try.prog w = .ok (.slice A m c) w := fun w => run_cut_h pel8 A n c m (by have := HNC.out; omega) w
  have hs2 : ∀ w, (Instr.sliceAt 51 (.slice A n c) none (some (.int .i64 (m : Int))) none).run Try.prog w = .ok (.slice A m c) w := fun w => (run_sliceAt_slice w _ _ _ _ _ HU.out).trans (hs1 w)
  have hs3 : ∀ w, (Instr.slice 51 (.slice A n c) (some (.int .i64 (m : Int))) none none).run Try.prog w = .ok (.slice (cutA A c m 1) 4 c4) w := fun w => by
    have := run_cut_l pel8 A n c m hmn w
    rw [show n - m = 4 by omega, ← hc4] at this
    exact this
  have hs4 : ∀ w, (Instr.sliceAt 51 (.slice A n c) (some (.int .i64 (m : Int))) none none).run Try.prog w = .ok (.slice (cutA A c m 1) 4 c4) w := fun w => (run_sliceAt_slice w _ _ _ _ _ HU.out).trans (hs3 w)
  have hs5 : ∀ w, (Instr.slice 51 (.slice A m c) none (some (.int .i64 6)) none).run Try.prog w = .ok (.slice A 6 c) w := fun w => run_cut_h pel8 A m c 6 (by have := HNC.out; omega) w
  have hs6 : ∀ w, (Instr.sliceAt 51 (.slice A m c) none (some (.int .i64 6)) none).run Try.prog w = .ok (.slice A 6 c) w := fun w => (run_sliceAt_slice w _ _ _ _ _ HU.out).trans (hs5 w)
  obtain ⟨m6, hm6e⟩ : ∃ m6, m6 = m - 6 := ⟨_, rfl⟩
  obtain ⟨c6, hc6⟩ : ∃ c6, c6 = c - 6 := ⟨_, rfl⟩
  have hs7 : ∀ w, (Instr.slice 51 (.slice A m c) (some (.int .i64 6)) none none).run Try.prog w = .ok (.slice (cutA A c 6 1) m6 c6) w := fun w => by
    have := run_cut_l pel8 A m c 6 hm6 w
    rw [← hm6e, ← hc6] at this
    exact this
  have hs8 : ∀ w, (Instr.sliceAt 51 (.slice A m c) (some (.int .i64 6)) none none).run Try.prog w = .ok (.slice (cutA A c 6 1) m6 c6) w := fun w => (run_sliceAt_slice w _ _ _ _ _ HU.out).trans (hs7 w)
  have RS := Lib.hid (by have h := HR.out.cut1 (h := m) hmn HNC.out.1; rwa [show n - m = 4 by omega] at h : Rd w w.heap.size 1 (cutA A c m 1) 4 (ns .u8 (lb.drop m)))
  have RM := Lib.hid (HR.out.takeN hmn)
  have R6 := Lib.hid (by have h := RM.out.cut1 (h := 6) (c := c) hm6 (by have := HNC.out; omega); rwa [← hm6e] at h : Rd w w.heap.size 1 (cutA A c 6 1) m6 (ns .u8 ((lb.take m).drop 6)))
  have RH := Lib.hid (HR.out.takeN (show 6 ≤ n by omega))
  have BM := Lib.hid (show ∀ x ∈ lb.take m, x < 256 from fun x hx => HB.out x (List.mem_of_mem_take hx))
  have BS := Lib.hid (show ∀ x ∈ lb.drop m, x < 256 from fun x hx => HB.out x (List.mem_of_mem_drop hx))
  have B6 := Lib.hid (show ∀ x ∈ (lb.take m).drop 6, x < 256 from fun x hx => BM.out x (List.mem_of_mem_drop hx))
  have hc6b : m6 ≤ c6 := by have := HNC.out; omega
  have HC6 := Lib.hid (show c6 ≤ maxLen from by have := HNC.out; omega)
  have hm6n : m6 ≤ 50000 := by omega
  have HDEC := Lib.hid (show ∀ l, ub (lb.take 4) = 1112690517 → lb.drop m = be (sumS (lb.take m)) 4 → parR (ub ((lb.drop 4).take 2)) 0 ((lb.take m).drop 6) = some (l, []) → capE l = lb ∧ ∀ p ∈ l, ∀ x ∈ p.2.2.2, x < 256 from fun l e1 e2 e3 => capE_of HB.out (by rw [HL.out]; omega) e1 (by rw [HL.out, ← hm]; exact e2) (by rw [HL.out, ← hm]; exact e3))
  have H10 := Lib.hid (show 10 ≤ n by omega)
  have HC7 := Lib.hid (show cut (lb.take 6) [4, 2] = some ([ub (lb.take 4), ub ((lb.drop 4).take 2)], []) from by
    match lb, HL.out with
    | a0 :: a1 :: a2 :: a3 :: a4 :: a5 :: r, _ => simp [cut, okS]
    | [a0, a1, a2, a3, a4], h => simp at h; omega
    | [a0, a1, a2, a3], h => simp at h; omega
    | [a0, a1, a2], h => simp at h; omega
    | [a0, a1], h => simp at h; omega
    | [a0], h => simp at h; omega
    | [], h => simp at h; omega)
  have HU4 := Lib.hid (show q32 (ub (lb.take 4)) from ub_lt 4 _ (by rw [List.length_take, HL.out]; omega) fun x hx => HB.out x (List.mem_of_mem_take hx))
  have HU2 := Lib.hid (show h16 (ub ((lb.drop 4).take 2)) from ub_lt 2 _ (by rw [List.length_take, List.length_drop, HL.out]; omega) fun x hx => HB.out x (List.mem_of_mem_drop (List.mem_of_mem_take hx)))
  generalize cutA A c m 1 = AS at *
  generalize cutA A c 6 1 = A6 at *
  generalize ub (lb.take 4) = u4 at *
  generalize ub ((lb.drop 4).take 2) = u2 at *
  clear hm em hc4 hm6e hc6 h10 HU
  go_wp2_with fail
  refine wp_ord [(0, .pure), (1, .pure), (2, .pure), (3, .pure), (4, .pure), (5, .pure), (6, .pure), (7, .pure), (8, .pure), (9, .pure), (10, .pure), (11, .pure)] [] (by kernel_rfl) (by kernel_rfl) (fun QQ hQ wd hwd => ?_); simp only [List.map_cons, List.map_nil, List.getD_cons_zero, List.getD_cons_succ]
  have hD : Below w.heap.size w wd := by rw [hwd.out]; exact (Below.refl _ _).drew
  have BD := Lib.hid hD
  clear hD hwd
  (refine o_pure (v := ?_) (by rfl) (fun w' => ?_) ?_; rotate_left; (focus (go_simp; (try with_reducible rfl))); (try simp only [Act.put, List.setIfInBounds_toArray, List.set_cons_zero, List.set_cons_succ]))
  (refine o_pure (v := ?_) (by rfl) (fun w' => ?_) ?_; rotate_left; (focus (go_simp; (try with_reducible rfl))); (try simp only [Act.put, List.setIfInBounds_toArray, List.set_cons_zero, List.set_cons_succ]))
  (refine o_pure (v := ?_) (by rfl) (fun w' => ?_) ?_; rotate_left; (focus (go_simp; (try with_reducible rfl))); (try simp only [Act.put, List.setIfInBounds_toArray, List.set_cons_zero, List.set_cons_succ]))
  (refine o_pure (v := ?_) (by rfl) (fun w' => ?_) ?_; rotate_left; (focus (go_simp; (try with_reducible rfl))); (try simp only [Act.put, List.setIfInBounds_toArray, List.set_cons_zero, List.set_cons_succ]))
  (refine o_pure (v := ?_) (by rfl) (fun w' => ?_) ?_; rotate_left; (focus (go_simp; (try with_reducible rfl))); (try simp only [Act.put, List.setIfInBounds_toArray, List.set_cons_zero, List.set_cons_succ]))
  (refine o_pure (v := ?_) (by rfl) (fun w' => ?_) ?_; rotate_left; (focus (go_simp; (try with_reducible rfl))); (try simp only [Act.put, List.setIfInBounds_toArray, List.set_cons_zero, List.set_cons_succ]))
  (refine o_pure (v := ?_) (by rfl) (fun w' => ?_) ?_; rotate_left; (focus (go_simp; (try with_reducible rfl))); (try simp only [Act.put, List.setIfInBounds_toArray, List.set_cons_zero, List.set_cons_succ]))
  (refine o_pure (v := ?_) (by rfl) (fun w' => ?_) ?_; rotate_left; (focus (go_simp; (try with_reducible rfl))); (try simp only [Act.put, List.setIfInBounds_toArray, List.set_cons_zero, List.set_cons_succ]))
  (refine o_pure (v := ?_) (by rfl) (fun w' => ?_) ?_; rotate_left; (focus (go_simp; (try with_reducible rfl))); (try simp only [Act.put, List.setIfInBounds_toArray, List.set_cons_zero, List.set_cons_succ]))
  (refine o_pure (v := ?_) (by rfl) (fun w' => ?_) ?_; rotate_left; (focus (go_simp; (try with_reducible rfl))); (try simp only [Act.put, List.setIfInBounds_toArray, List.set_cons_zero, List.set_cons_succ]))
  (refine o_pure (v := ?_) (by rfl) (fun w' => ?_) ?_; rotate_left; (focus (go_simp; (try with_reducible rfl))); (try simp only [Act.put, List.setIfInBounds_toArray, List.set_cons_zero, List.set_cons_succ]))
  (refine o_pure (v := ?_) (by rfl) (fun w' => ?_) ?_; rotate_left; (focus (go_simp; (try with_reducible rfl))); (try simp only [Act.put, List.setIfInBounds_toArray, List.set_cons_zero, List.set_cons_succ]))
  refine o_nil (hQ.out _ _ ?_); clear hQ QQ
  clear hs1 hs2 hs3 hs4 wm
  have hA : Below wd.heap.size wd (wd.alloc (.cells #[.int .i64 4, .int .i64 2] 3)) := (Below.refl _ _).alloc (Nat.le_refl _) _
  have hzs := Zats.lit (w := wd) (e := 3) (k := .i64) (ss := [4, 2]) (n := 2) #[.int .i64 4, .int .i64 2] rfl rfl (by unfold maxLen; omega)
  have hbA := BD.out.trans (hA.mono BD.out.size)
  have HALL := Lib.hid (pall_any A (some ⟨wd.heap.size, 0, none⟩) 6 2 c 2 (lb.take 6) [4, 2] _ (RH.out.into hbA) hzs.rd (by have := HNC.out; omega) (fun x hx => HB.out x (List.mem_of_mem_take hx)) (by omega) (by omega))
  have BA := Lib.hid hbA
  clear hA hzs hbA BD
  go_wp2_with fail
  clear hs5 hs6
  refine HALL.out.mono ?_
  rintro e w2 ⟨hb2, hres⟩
  have B2 := Lib.hid (BA.out.trans (hb2.mono BA.out.size))
  generalize wd.alloc (.cells #[.int .i64 4, .int .i64 2] 3) = wa at *
  rcases hres with ⟨xs, v, hcut, rfl, hN2⟩ | ⟨hno, _⟩
  rotate_left
  · exact absurd HC7.out (hno _)
  have exs := hcut.symm.trans HC7.out
  injection exs with exs
  injection exs with exs _
  subst exs
  obtain ⟨g, cg, rfl, hgB, hgl, hgc, hcell⟩ := nats_open hN2 (by simp)
  have c0 := hcell 0 _ rfl
  have c1 := hcell 1 _ rfl
  simp only [List.length_cons, List.length_nil] at hgc ⊢
  clear hcell hcut hN2 hb2 HALL BA HC7
  by_cases hmark : u4 = 1112690517
  rotate_left
  · have HF := Lib.hid (fun w' => HNO.out w' (.inl fun h => hmark h.2.1))
    have hmk : ((u4 : Int) != 1112690517) = true := by simp; omega
    clear hmark HNO HDEC HU4
    go_wp2_with fail
    go_ret2
    exact ⟨HF.out _, B2.out⟩
  subst hmark
  go_wp2_with fail
  refine (csum_any A m c (lb.take m) w2 (RM.out.into B2.out) (by have := HNC.out; omega) (by have := HNC.out; omega) BM.out).mono ?_
  rintro e w3 ⟨rfl, hb3⟩
  have c1b := (hb3.cell (p := ⟨g, 1, none⟩) hgl).trans c1
  have hgl3 := Nat.lt_of_lt_of_le hgl hb3.size
  have B3 := Lib.hid (B2.out.trans (hb3.mono B2.out.size))
  obtain ⟨S, hS⟩ : ∃ S, S = sumS (lb.take m) := ⟨_, rfl⟩
  rw [← hS] at HNO HDEC ⊢
  have hS32 : S < 4294967296 := by rw [hS]; exact sumS_lt _
  clear hS hb3 c0 c1 hgl B2
  go_wp2_with fail
  refine (pW_any (S : Int) w3 (by omega) (by omega)).mono ?_
  rintro e w4 ⟨rfl, hb⟩
  have c1 := (hb.cell (p := ⟨g, 1, none⟩) hgl3).trans c1b
  have hgl := Nat.lt_of_lt_of_le hgl3 hb.size
  have B4 := Lib.hid (B3.out.trans (hb.mono B3.out.size))
  clear hb c1b hgl3 B3
  go_wp2_with fail
  have hrd : Rd (w4.alloc (.cells #[.int .i64 4, .int .u64 (S : Int)] 129)) (w4.heap.size + 1) 2 (some ⟨w4.heap.size, 0, none⟩) 1 (fs [((4 : Int), S)]) := Rd.made w4 129 #[.int .i64 4, .int .u64 (S : Int)] rfl
  have hz : (w4.alloc (.cells #[.int .i64 4, .int .u64 (S : Int)] 129)).heap.size = w4.heap.size + 1 := by simp
  rw [← hz] at hrd
  have hb : Below w4.heap.size w4 (w4.alloc (.cells #[.int .i64 4, .int .u64 (S : Int)] 129)) := (Below.refl _ _).alloc (Nat.le_refl _) _
  have c1b := (hb.cell (p := ⟨g, 1, none⟩) hgl).trans c1
  have hgl5 := Nat.lt_of_lt_of_le hgl hb.size
  have B5 := Lib.hid (B4.out.trans (hb.mono B4.out.size))
  have HRD := Lib.hid hrd
  clear hrd hz hb c1 hgl B4
  generalize w4.alloc (.cells #[.int .i64 4, .int .u64 (S : Int)] 129) = w5 at *
  refine (pput_any none _ 0 1 0 1 [] _ w5 (Rd.nil _ _ _ _) HRD.out (by omega) (fun p hp => by simp at hp; subst hp; dsimp only; omega)).mono ?_
  rintro e w6 ⟨v6, rfl, hN6, hb⟩
  rw [List.nil_append, fbs_one 4 S rfl] at hN6
  obtain ⟨A7, n7, c7, rfl, _, _, hr7⟩ := hN6.out
  have c1 := (hb.cell (p := ⟨g, 1, none⟩) hgl5).trans c1b
  have hgl := Nat.lt_of_lt_of_le hgl5 hb.size
  have B6' := Lib.hid (B5.out.trans (hb.mono B5.out.size))
  clear hb hN6 HRD c1b hgl5 B5
  go_wp2_with fail
  refine (bequal_any AS A7 4 c4 n7 c7 _ _ w6 (RS.out.into B6'.out) hr7.out BS.out (be_byte _ _)).mono ?_
  rintro e w7 ⟨rfl, rfl⟩
  by_cases heq : lb.drop m = be S (4 : Int).toNat
  rotate_left
  · have HF := Lib.hid (fun w' => HNO.out w' (.inl fun h => heq h.2.2))
    rw [decide_eq_false heq]
    clear heq HNO HDEC hr7
    go_wp2_with fail
    go_ret2
    exact ⟨HF.out _, B6'.out⟩
  rw [decide_eq_true heq]
  have HEQ := Lib.hid heq
  clear heq hr7
  have w2b : IntKind.i64.wrap (u2 : Int) = (u2 : Int) := by have h := HU2.out; unfold h16 at h; rw [IntKind.wrap_i64]; omega
  go_wp2_with fail
  refine wp_ord [(0, .pure), (1, .pure), (2, .pure), (3, .pure), (4, .read), (5, .pure), (6, .sole), (7, .pure), (8, .pure), (9, .pure), (10, .pure), (11, .pure)] [] (by kernel_rfl) (by kernel_rfl) (fun QQ hQ wd hwd => ?_); simp only [List.map_cons, List.map_nil, List.getD_cons_zero, List.getD_cons_succ]
  have hD : Below w7.heap.size w7 wd := by rw [hwd.out]; exact (Below.refl _ _).drew
  have y1 : wd.cell? ⟨g, 1, none⟩ = some (.int .u64 (u2 : Int)) := by rw [hwd.out]; exact c1
  have BD := Lib.hid (B6'.out.trans (hD.mono B6'.out.size))
  clear hD hwd c1 B6' hgl
  (refine o_pure (v := ?_) (by rfl) (fun w' => ?_) ?_; rotate_left; (focus (go_simp; (try with_reducible rfl))); (try simp only [Act.put, List.setIfInBounds_toArray, List.set_cons_zero, List.set_cons_succ]))
  (refine o_pure (v := ?_) (by rfl) (fun w' => ?_) ?_; rotate_left; (focus (go_simp; (try with_reducible rfl))); (try simp only [Act.put, List.setIfInBounds_toArray, List.set_cons_zero, List.set_cons_succ]))
  (refine o_pure (v := ?_) (by rfl) (fun w' => ?_) ?_; rotate_left; (focus (go_simp; (try with_reducible rfl))); (try simp only [Act.put, List.setIfInBounds_toArray, List.set_cons_zero, List.set_cons_succ]))
  (refine o_pure (v := ?_) (by rfl) (fun w' => ?_) ?_; rotate_left; (focus (go_simp; (try with_reducible rfl))); (try simp only [Act.put, List.setIfInBounds_toArray, List.set_cons_zero, List.set_cons_succ]))
  (refine o_load _ (by rfl) rfl rfl (by assumption) (by kernel_rfl) ?_; simp only [Act.put, List.setIfInBounds_toArray, List.set_cons_zero, List.set_cons_succ])
  (refine o_pure (v := ?_) (by rfl) (fun w' => ?_) ?_; rotate_left; (focus (go_simp; (try with_reducible rfl))); (try simp only [Act.put, List.setIfInBounds_toArray, List.set_cons_zero, List.set_cons_succ]))
  clear y1 hs7 hs8
  refine o_sole (fun K hK => ?_)
  go_wp2_with fail
  refine (ccut_any A6 m6 c6 w.heap.size u2 _ wd (R6.out.below BD.out) BD.out.size hc6b HC6.out B6.out hm6n (by have := HU2.out; unfold h16 at this; omega)).mono ?_
  rintro e w8 ⟨hp, hb8⟩
  have B8 := Lib.hid (BD.out.trans (hb8.mono BD.out.size))
  rcases hp with ⟨A', n', c', lr, rest, ok, rfl, hpar, hok, hown, hbod⟩ | ⟨hpar, rfl⟩
  rotate_left
  · go_wp2_with fail
    refine hK _ _ (fun _ => Ext.of hb8) ?_; clear hK K
    clear hb8
    (refine o_pure (v := ?_) (by rfl) (fun w' => ?_) ?_; rotate_left; (focus (go_simp; (try with_reducible rfl))); (try simp only [Act.put, List.setIfInBounds_toArray, List.set_cons_zero, List.set_cons_succ]))
    (refine o_pure (v := ?_) (by rfl) (fun w' => ?_) ?_; rotate_left; (focus (go_simp; (try with_reducible rfl))); (try simp only [Act.put, List.setIfInBounds_toArray, List.set_cons_zero, List.set_cons_succ]))
    (refine o_pure (v := ?_) (by rfl) (fun w' => ?_) ?_; rotate_left; (focus (go_simp; (try with_reducible rfl))); (try simp only [Act.put, List.setIfInBounds_toArray, List.set_cons_zero, List.set_cons_succ]))
    (refine o_pure (v := ?_) (by rfl) (fun w' => ?_) ?_; rotate_left; (focus (go_simp; (try with_reducible rfl))); (try simp only [Act.put, List.setIfInBounds_toArray, List.set_cons_zero, List.set_cons_succ]))
    (refine o_pure (v := ?_) (by rfl) (fun w' => ?_) ?_; rotate_left; (focus (go_simp; (try with_reducible rfl))); (try simp only [Act.put, List.setIfInBounds_toArray, List.set_cons_zero, List.set_cons_succ]))
    refine o_nil (hQ.out _ _ ?_); clear hQ QQ
    have HF := Lib.hid (fun w' => HNO.out w' (.inr fun l hl => by rw [hpar] at hl; cases hl))
    clear HNO HDEC hpar
    go_wp2_with fail
    go_ret2
    exact ⟨HF.out _, B8.out⟩
  have HPAR := Lib.hid hpar
  have HOK := Lib.hid hok
  have HOWN := Lib.hid hown
  have HBOD := Lib.hid hbod
  go_wp2_with fail
  refine hK _ _ (fun _ => Ext.of hb8) ?_; clear hK K
  clear hpar hok hown hbod
  (refine o_pure (v := ?_) (by rfl) (fun w' => ?_) ?_; rotate_left; (focus (go_simp; (try with_reducible rfl))); (try simp only [Act.put, List.setIfInBounds_toArray, List.set_cons_zero, List.set_cons_succ]))
  (refine o_pure (v := ?_) (by rfl) (fun w' => ?_) ?_; rotate_left; (focus (go_simp; (try with_reducible rfl))); (try simp only [Act.put, List.setIfInBounds_toArray, List.set_cons_zero, List.set_cons_succ]))
  (refine o_pure (v := ?_) (by rfl) (fun w' => ?_) ?_; rotate_left; (focus (go_simp; (try with_reducible rfl))); (try simp only [Act.put, List.setIfInBounds_toArray, List.set_cons_zero, List.set_cons_succ]))
  (refine o_pure (v := ?_) (by rfl) (fun w' => ?_) ?_; rotate_left; (focus (go_simp; (try with_reducible rfl))); (try simp only [Act.put, List.setIfInBounds_toArray, List.set_cons_zero, List.set_cons_succ]))
  (refine o_pure (v := ?_) (by rfl) (fun w' => ?_) ?_; rotate_left; (focus (go_simp; (try with_reducible rfl))); (try simp only [Act.put, List.setIfInBounds_toArray, List.set_cons_zero, List.set_cons_succ]))
  refine o_nil (hQ.out _ _ ?_); clear hQ QQ
  cases ok with
  | false =>
    have HF := Lib.hid (fun w' => HNO.out w' (.inr fun l hl => by
      rw [HPAR.out] at hl
      injection hl with hl
      injection hl with _ hl
      have := HOK.out.2 hl
      cases this))
    clear HNO HDEC HPAR hb8
    go_wp2_with fail
    go_ret2
    exact ⟨HF.out _, B8.out⟩
  | true =>
  obtain rfl : rest = [] := HOK.out.1 rfl
  obtain ⟨hcapE, hbytes⟩ := HDEC.out _ (by first | trivial | rfl) HEQ.out HPAR.out
  have HCE := Lib.hid hcapE
  obtain ⟨A9, c9, e9, hnc9, hcm9, hr9⟩ := own_form HOWN.out
  injection e9 with e91 _ e93
  subst e91 e93
  have hll : lr.length = n' := by have := HOWN.out.1; rw [rbcs_len] at this; omega
  have hi64 : ∀ p ∈ lr, i64ok p.1 ∧ i64ok p.2.1 ∧ i64ok p.2.2.1 ∧ ∀ x ∈ p.2.2.2.l, x < 256 := fun p hp => by
    have hs := parR_bd HPAR.out (by have := HU2.out; unfold h16 at this; omega) (fun x hx => B6.out x hx) (p.1, p.2.1, p.2.2.1, p.2.2.2.l) (List.mem_map.2 ⟨p, hp, rfl⟩)
    exact ⟨hs.1, hs.2.1, hs.2.2, hbytes _ (List.mem_map.2 ⟨p, hp, rfl⟩)⟩
  have HRS := Lib.hid (show Rs w8 A' n' c' lr from ⟨hr9, fun p hp => ⟨((HBOD.out p hp).1.below (hb8.mono BD.out.size)).mono (Nat.le_trans BD.out.size hb8.size), (HBOD.out p hp).2⟩, hi64, hnc9, hcm9⟩)
  have HI64 := Lib.hid hi64
  clear hcapE hbytes hr9 hi64 hnc9 hcm9
  go_wp2_with fail
  refine (cright_any A' n' c' lr w8 HRS.out).mono ?_
  rintro e w9 ⟨⟨bb, rfl, hiff⟩, hb9⟩
  have B9 := Lib.hid (B8.out.trans (hb9.mono B8.out.size))
  cases bb with
  | false =>
    have HF := Lib.hid (fun w' => HNO.out w' (.inr fun l hl => by
      rw [HPAR.out] at hl
      injection hl with hl
      injection hl with hl _
      intro hr
      rw [← hl] at hr
      have := hiff.2 hr
      cases this))
    clear HNO HDEC HPAR hb8 hb9 hiff
    go_wp2_with fail
    go_ret2
    exact ⟨HF.out _, B9.out⟩
  | true =>
  have HRR := Lib.hid (hiff.1 rfl)
  have hn1024 : n' ≤ 1024 := by have := HRR.out.1; rw [rsay_len, hll] at this; exact this
  have hlen : ∀ p ∈ lr, p.2.2.2.n ≤ 100000 := fun p hp => by
    obtain ⟨b, hok⟩ := rightGo_mem HRR.out.2 (p.1, p.2.1, p.2.2.1, p.2.2.2.l) (List.mem_map.2 ⟨p, hp, rfl⟩)
    have h1 := hok.2.2.1
    have h2 := (HBOD.out p hp).1.natLen
    dsimp only at h1
    omega
  have HCP := Lib.hid (copied_any A' n' c' wd.heap.size lr w9 (own_below HOWN.out hb9 fun g hg => (own_lt4 HOWN.out g hg).2) (Nat.le_trans hb8.size hb9.size) (fun p hp => ⟨((HBOD.out p hp).1.below ((hb8.trans (hb9.mono hb8.size)).mono BD.out.size)).mono BD.out.size, (HBOD.out p hp).2⟩) (fun p hp => by
    obtain ⟨q, hq, rfl⟩ := List.mem_map.1 hp
    exact HI64.out q hq) (by omega) hlen)
  clear hiff hlen hb9 hll
  go_wp2_with fail
  refine HCP.out.mono ?_
  rintro e w10 ⟨⟨rfl, lo, hlo, hsay⟩, hb10⟩
  have B10 := Lib.hid (B9.out.trans (hb10.mono BD.out.size))
  have HLO := Lib.hid hlo
  have HSAY := Lib.hid hsay
  clear hlo hsay hb10 hb8 HCP
  go_wp2_with fail
  go_ret2
  exact ⟨.inl ⟨A', n', c', lo, rfl, HLO.out, by rw [HSAY.out]; exact HRR.out, by rw [HSAY.out]; exact HCE.out⟩, B10.out⟩
end Go.Proofs.Ytcgcglngjfijnaa
