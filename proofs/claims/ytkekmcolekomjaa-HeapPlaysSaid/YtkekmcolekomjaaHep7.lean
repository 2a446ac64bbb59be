/- Layer 42 by the document: Put. -/
import Derived.Test.YtkekmcolekomjaaHep6
import Derived.Test.YtkekmcolekomjaaGhoR
import Derived.Test.YtkekmcolekomjaaRowG
import Derived.Deep.Cut
namespace Go.Proofs.Ytkekmcolekomjaa
open Go.RowKit
set_option linter.unusedVariables false
set_option linter.unusedSimpArgs false
/-- Where a thing stands in a row to which it was put: behind all that aren't later. -/
def PutAt (l : List Pr) (x : Pr) (r : List Pr) : Prop := ∃ p s, l = p ++ s ∧ r = p ++ x :: s ∧ (∀ y ∈ s, x.1 < y.1) ∧ ∀ y, p.getLast? = some y → y.1 ≤ x.1
set_option maxRecDepth 20000 in
set_option maxHeartbeats 2000000 in
theorem rput_any (A : Option Addr) (n c B : Nat) (l : List Pr) (xa xw : Int) (w : World) (h : Rd w B 2 A n (prs l)) (hn : n ≤ 100000) (hB : B ≤ w.heap.size) :
    Calls Try.prog 20 #[.slice A n c, .agg #[.int .i64 xa, .int .i64 xw]] w fun e w' => (∃ v r, e = .returned v ∧ w'.ownsRow w.heap.size 45 2 v r.length (prs r) ∧ PutAt l (xa, xw) r) ∧ Below w.heap.size w w' := by
  have HR := Lib.hid h
  have HL := Lib.hid h.prLen
  clear h
  have hroom1 : n * 16 ≤ room := room_ge (by omega)
  go_enter Try.func20, Try.ntmps20
  go_upto_region 1 with fail
  have hk0 : Hid (Blk (w.alloc (.cells #[.int .i64 xa, .int .i64 xw] 45)) (w.heap.size) 45 #[.int .i64 xa, .int .i64 xw]) := Lib.hid ((Blk.new w 45 #[.int .i64 xa, .int .i64 xw]))
  have b1 : Hid (Below w.heap.size w (w.alloc (.cells #[.int .i64 xa, .int .i64 xw] 45))) := Lib.hid ((Below.refl w.heap.size w).alloc (Nat.le_refl _) (.cells #[.int .i64 xa, .int .i64 xw] 45))
  have hz : (w.alloc (.cells #[.int .i64 xa, .int .i64 xw] 45)).heap.size = w.heap.size + 1 := by simp
  generalize (w.alloc (.cells #[.int .i64 xa, .int .i64 xw] 45)) = w2 at hk0 b1 hz ⊢
  have HZ := Lib.hid hz
  clear hz
  refine GH.wp_ghl2 (M := false) 5 ((GH.SP.row0 45 (w2.heap.size)) :: (GH.SP.eq (.slice A n c)) :: (GH.SP.row 45 2 (w2.heap.size) (n) (prs l)) :: (GH.SP.eq (.agg #[.int .i64 xa, .int .i64 xw])) :: (GH.SP.rd 2 1 (prs [(xa, xw)])) :: []) (none :: none :: none :: none :: none :: none :: none :: (some 0) :: (some 1) :: (some 2) :: (some 3) :: (some 4) :: none :: none :: none :: none :: none :: none :: none :: none :: none :: none :: none :: none :: none :: none :: none :: none :: none :: none :: none :: none :: none :: none :: none :: none :: none :: none :: none :: none :: none :: none :: none :: none :: none :: none :: none :: none :: none :: none :: none :: []) [7, 8, 9, 10, 11] (by rfl) (by kernel_rfl) (by kernel_rfl) ?_ ?_ ?_
  · intro S jx v hjx
    match jx, hjx with
    | 0, _ => rfl
    | 1, _ => rfl
    | 2, _ => rfl
    | 3, _ => rfl
    | 4, _ => rfl
    | nx + 5, hjx => omega
  · intro jx hjx S w' hb hd
    match jx, hjx, hd with
    | 0, _, hd =>
      simp only [GH.mkL, List.getD_cons_succ, List.getD_cons_zero]
      clear hd
      refine ⟨fun K hK => ?_⟩
      go_wp2_with fail
      exact hK _ _ (GH.Gr.of ((Below.refl _ _).alloc (Nat.le_refl _) _) hb.below.size) ⟨_, rfl, hb.below.size, Blk.new _ _ _⟩
    | 1, _, hd =>
      simp only [GH.mkL, List.getD_cons_succ, List.getD_cons_zero]
      clear hd
      refine GH.st_eq (by rfl) ?_
      go_simp
      (try with_reducible rfl)
    | 2, _, hd =>
      simp only [GH.mkL, List.getD_cons_succ, List.getD_cons_zero]
      obtain ⟨G0, d0, hB0, K0⟩ := (hd 0 (by kernel_rfl)).2
      rw [d0]
      clear d0
      replace K0 := Lib.hid K0
      have d1 : S 1 = .slice A n c := (hd 1 (by kernel_rfl)).2
      rw [d1]
      clear d1
      clear hd
      exact GH.st_app0 prEl _ _ (by rfl) rfl rfl rfl K0.out hB0 hb.below.size (((HR.out.below (b1.out.mono hB)).below (hb.below.mono (Nat.le_trans hB b1.out.size)))) (prs_one l) hroom1
    | 3, _, hd =>
      simp only [GH.mkL, List.getD_cons_succ, List.getD_cons_zero]
      clear hd
      exact GH.st_loads _ [.int .i64 xa, .int .i64 xw] (by rfl) rfl rfl (((hk0.out.below hb.below hk0.out.lt)).loads 0 _ (by rfl)) (by kernel_rfl) (by kernel_rfl)
    | 4, _, hd =>
      simp only [GH.mkL, List.getD_cons_succ, List.getD_cons_zero]
      have d3 : S 3 = .agg #[.int .i64 xa, .int .i64 xw] := (hd 3 (by kernel_rfl)).2
      rw [d3]
      clear d3
      clear hd
      refine ⟨fun K hK => ?_⟩
      go_wp2_with fail
      exact hK _ _ (GH.Gr.of ((Below.refl _ _).alloc (Nat.le_refl _) _) hb.below.size) (GH.rd_lit rfl rfl)
    | nx + 5, hjx, _ => omega
  intro S w' hb hG
  simp only [GH.mkL, List.drop_succ_cons, List.drop_zero]
  have H2 := Lib.hid (show World.ownsRow _ _ _ _ (S 2) _ _ from hG 2 (by omega))
  generalize S 2 = v2 at H2 ⊢
  obtain ⟨A4, c4, d4, e4, H4⟩ := hG 4 (by omega)
  rw [d4]
  clear d4
  replace H4 := Lib.hid H4
  clear hG
  have B9 := Lib.hid (b1.out.trans (hb.below.mono b1.out.size))
  have hBz : w2.heap.size ≤ w'.heap.size := hb.below.size
  have HSZ := b1.out.size
  have hroom5 : (n + 1) * 16 ≤ room := room_ge (by omega)
  have ONE := Lib.hid (prs_one [(xa, xw)])
  clear hb b1 hk0 HZ hroom1
  obtain ⟨A2, c2, hv2, _, _, _⟩ := own_form H2.out
  subst hv2
  go_wp2_with (at_builtin; go_must (refine app prEl rfl _ _ rfl rfl H2.out rfl H4.out ONE.out hroom5 hBz ?_))
  intro v5 w5 ho5 hg5 hb5
  have O5 : Hid (w5.ownsRow w.heap.size 45 2 v5 (n + 1) (prs (l ++ [(xa, xw)]))) := Lib.hid (by rw [prs_append]; exact own_mono ho5 HSZ)
  have B5 := Lib.hid (B9.out.trans (hb5.mono HSZ))
  clear ho5 hg5 hb5 H2 H4 B9
  obtain ⟨rb, c5, rfl, hBr, hnc5, hcm5, hob5, hrow5⟩ := RowG.of_own (f := prc) O5.out (by rw [List.length_append, HL.out]; rfl) (by omega)
  have R5 := Lib.hid hrow5
  clear hrow5 hob5 O5
  unfold maxLen at hcm5
  go_wp2_with fail
  go_loopw [6] (fun iv wr => ∃ (p s : List Pr), p.length ≤ n ∧ iv = .int .i64 (p.length : Nat) ∧ Hid (l = p ++ s) ∧ Hid (∀ y ∈ s, xa < y.1) ∧ Hid (RowG wr rb c5 2 45 prc (p ++ (xa, xw) :: s)) ∧ Hid (Below w.heap.size w wr)) (fun iv _ => (intOf iv).toNat)
  case atStart => exact ⟨l, [], by rw [HL.out]; exact Nat.le_refl _, by rw [HL.out], Lib.hid (by simp), Lib.hid (by simp), R5, B5⟩
  case round =>
    clear R5 B5
    obtain ⟨p, s, hp, rfl, HE, HS, R5, B5⟩ := hrel
    have HLN : Hid ((p ++ (xa, xw) :: s).length = n + 1) := Lib.hid (by have := congrArg List.length HE.out; rw [List.length_append] at this; rw [List.length_append, List.length_cons]; have := HL.out; omega)
    have fin : (∀ y, p.getLast? = some y → y.1 ≤ xa) → (∃ v r, Ending.returned (Value.slice (some ⟨rb, 0, none⟩) (n + 1) c5) = Ending.returned v ∧ wr.ownsRow w.heap.size 45 2 v r.length (prs r) ∧ PutAt l (xa, xw) r) ∧ Below w.heap.size w wr := fun hlast => by
      have ho := R5.out.own hBr (show c5 ≤ maxLen by unfold maxLen; exact hcm5)
      rw [HLN.out] at ho
      exact ⟨⟨_, p ++ (xa, xw) :: s, rfl, by rw [HLN.out]; exact ho, p, s, HE.out, rfl, HS.out, hlast⟩, B5.out⟩
    have FIN := Lib.hid fin
    clear fin
    rcases List.eq_nil_or_concat p with hnil | ⟨q, y, hq⟩
    · subst hnil
      have F9 := Lib.hid (FIN.out (by simp))
      clear FIN
      go_wp2_with fail
      go_quiet (fail)
      go_wp2_with fail
      go_ret
      obtain ⟨⟨v, r, e, h1, h2⟩, h3⟩ := F9.out
      exact ⟨⟨v, r, e, h1, h2⟩, below_drewN h3 _⟩
    · rw [List.concat_eq_append] at hq
      subst hq
      obtain ⟨k, hk⟩ : ∃ k, k = q.length := ⟨_, rfl⟩
      have hpl : (q ++ [y]).length = k + 1 := by rw [hk]; simp
      rw [hpl] at hp ⊢
      have HK := Lib.hid hk
      have e1 : (q ++ [y]) ++ (xa, xw) :: s = q ++ y :: (xa, xw) :: s := by simp
      rw [e1] at R5 HLN
      have g0 : (q ++ y :: (xa, xw) :: s)[k]? = some y := by rw [hk]; simp
      have g1 : (q ++ y :: (xa, xw) :: s)[k + 1]? = some (xa, xw) := by rw [hk, List.getElem?_append_right (by omega)]; simp
      have G0 := Lib.hid g0; have G1 := Lib.hid g1
      obtain ⟨ya, yw⟩ := y
      have pf : ∀ x : Pr, (prc x).length = 2 := fun _ => rfl
      have y0 : wr.cell? ⟨rb, k * 2, none⟩ = some (.int .i64 ya) := R5.out.cell pf g0 (r := 0) (by omega)
      have x0 : wr.cell? ⟨rb, (k + 1) * 2, none⟩ = some (.int .i64 xa) := R5.out.cell pf g1 (r := 0) (by omega)
      have hk1 : (k : Int) < (n : Int) + 1 := by omega
      have hk2 : (k : Int) + 1 < (n : Int) + 1 := by omega
      have hwk : IntKind.i64.wrap (k : Int) = (k : Int) := by rw [IntKind.wrap_i64]; omega
      have hk4 : ((k + 1 : Nat) : Int) < (n : Int) + 1 := by omega
      have hk5 : k < n := by omega
      have hk6 : (k : Int) < (n : Int) := by omega
      have hk7 : (0 : Int) ≤ (k : Int) + 1 := by omega
      have hk3 : (0 : Int) < (k : Int) + 1 := by omega
      clear hk hpl e1 g0 g1
      by_cases hlt : xa < ya
      · clear FIN
        go_wp2_with fail
        go_quiet (fail)
        have R6 : Hid (RowG (wr.drewN nq) rb c5 2 45 prc (q ++ (ya, yw) :: (xa, xw) :: s)) := Lib.hid R5.out
        have B6 := Lib.hid (below_drewN B5.out nq)
        generalize wr.drewN nq = w6 at R6 B6 ⊢
        clear x0 y0 R5 B5
        go_wp2_with fail
        refine wp_ord [(0, .pure), (1, .pure), (2, .pure), (3, .pure), (4, .pure), (5, .pure), (6, .pure), (7, .pure), (8, .pure), (9, .read), (10, .pure), (11, .pure), (12, .pure), (13, .read), (14, .pure), (15, .sole), (16, .pure), (17, .sole)] [15, 17] (by kernel_rfl) (by kernel_rfl) (fun QQ hQ wd hwd => ?_); simp only [List.map_cons, List.map_nil, List.getD_cons_zero, List.getD_cons_succ]
        have R7 : Hid (RowG wd rb c5 2 45 prc (q ++ (ya, yw) :: (xa, xw) :: s)) := Lib.hid (by rw [hwd.out]; exact R6.out)
        have B7 : Hid (Below w.heap.size w wd) := Lib.hid (by rw [hwd.out]; exact B6.out.drew)
        clear hwd R6 B6
        have l7 : k < (q ++ (ya, yw) :: (xa, xw) :: s).length := by have := HLN.out; omega
        have l8 : k + 1 < (q ++ (ya, yw) :: (xa, xw) :: s).length := by have := HLN.out; omega
        have hpf : Hid (∀ x : Pr, (prc x).length = 2) := Lib.hid pf
        clear pf
        have HL7 := Lib.hid l7; have HL8 := Lib.hid l8
        clear l7 l8
        (refine o_pure (v := ?_) (by rfl) (fun w' => ?_) ?_; rotate_left; (focus (go_simp; (try with_reducible rfl); (try (rw [if_pos (by omega)]; (try with_reducible rfl))))); (try simp only [Act.put, List.setIfInBounds_toArray, List.set_cons_zero, List.set_cons_succ]))
        (refine o_pure (v := ?_) (by rfl) (fun w' => ?_) ?_; rotate_left; (focus (go_simp; (try with_reducible rfl); (try (rw [if_pos (by omega)]; (try with_reducible rfl))))); (try simp only [Act.put, List.setIfInBounds_toArray, List.set_cons_zero, List.set_cons_succ]))
        (refine o_pure (v := ?_) (by rfl) (fun w' => ?_) ?_; rotate_left; (focus (go_simp; (try with_reducible rfl); (try (rw [if_pos (by omega)]; (try with_reducible rfl))))); (try simp only [Act.put, List.setIfInBounds_toArray, List.set_cons_zero, List.set_cons_succ]))
        (refine o_pure (v := ?_) (by rfl) (fun w' => ?_) ?_; rotate_left; (focus (go_simp; (try with_reducible rfl); (try (rw [if_pos (by omega)]; (try with_reducible rfl))))); (try simp only [Act.put, List.setIfInBounds_toArray, List.set_cons_zero, List.set_cons_succ]))
        (refine o_pure (v := ?_) (by rfl) (fun w' => ?_) ?_; rotate_left; (focus (go_simp; (try with_reducible rfl); (try (rw [if_pos (by omega)]; (try with_reducible rfl))))); (try simp only [Act.put, List.setIfInBounds_toArray, List.set_cons_zero, List.set_cons_succ]))
        (refine o_pure (v := ?_) (by rfl) (fun w' => ?_) ?_; rotate_left; (focus (go_simp; (try with_reducible rfl); (try (rw [if_pos (by omega)]; (try with_reducible rfl))))); (try simp only [Act.put, List.setIfInBounds_toArray, List.set_cons_zero, List.set_cons_succ]))
        (refine o_pure (v := ?_) (by rfl) (fun w' => ?_) ?_; rotate_left; (focus (go_simp; (try with_reducible rfl); (try (rw [if_pos (by omega)]; (try with_reducible rfl))))); (try simp only [Act.put, List.setIfInBounds_toArray, List.set_cons_zero, List.set_cons_succ]))
        (refine o_pure (v := ?_) (by rfl) (fun w' => ?_) ?_; rotate_left; (focus (go_simp; (try with_reducible rfl); (try (rw [if_pos (by omega)]; (try with_reducible rfl))))); (try simp only [Act.put, List.setIfInBounds_toArray, List.set_cons_zero, List.set_cons_succ]))
        (refine o_pure (v := ?_) (by rfl) (fun w' => ?_) ?_; rotate_left; (focus (go_simp; (try with_reducible rfl); (try (rw [if_pos (by omega)]; (try with_reducible rfl))))); (try simp only [Act.put, List.setIfInBounds_toArray, List.set_cons_zero, List.set_cons_succ]))
        (refine o_loads _ [.int .i64 ya, .int .i64 yw] (by rfl) rfl rfl (RowG.loads (f := prc) hpf.out R7.out G0.out) (Nat.succ_pos _) (by kernel_rfl) (by kernel_rfl) ?_; simp only [Act.put, List.setIfInBounds_toArray, List.set_cons_zero, List.set_cons_succ])
        (refine o_pure (v := ?_) (by rfl) (fun w' => ?_) ?_; rotate_left; (focus (go_simp; (try with_reducible rfl); (try (rw [if_pos (by omega)]; (try with_reducible rfl))))); (try simp only [Act.put, List.setIfInBounds_toArray, List.set_cons_zero, List.set_cons_succ]))
        (refine o_pure (v := ?_) (by rfl) (fun w' => ?_) ?_; rotate_left; (focus (go_simp; (try with_reducible rfl); (try (rw [if_pos (by omega)]; (try with_reducible rfl))))); (try simp only [Act.put, List.setIfInBounds_toArray, List.set_cons_zero, List.set_cons_succ]))
        (refine o_pure (v := ?_) (by rfl) (fun w' => ?_) ?_; rotate_left; (focus (go_simp; (try with_reducible rfl); (try (rw [if_pos (by omega)]; (try with_reducible rfl))))); (try simp only [Act.put, List.setIfInBounds_toArray, List.set_cons_zero, List.set_cons_succ]))
        (refine o_loads _ [.int .i64 xa, .int .i64 xw] (by rfl) rfl rfl (RowG.loads (f := prc) hpf.out R7.out G1.out) (Nat.succ_pos _) (by kernel_rfl) (by kernel_rfl) ?_; simp only [Act.put, List.setIfInBounds_toArray, List.set_cons_zero, List.set_cons_succ])
        (refine o_pure (v := ?_) (by rfl) (fun w' => ?_) ?_; rotate_left; (focus (go_simp; (try with_reducible rfl); (try (rw [if_pos (by omega)]; (try with_reducible rfl))))); (try simp only [Act.put, List.setIfInBounds_toArray, List.set_cons_zero, List.set_cons_succ]))
        have u0 : wd.cell? ⟨rb, (k + 1) * 2, none⟩ = some (.int .i64 xa) := R7.out.cell hpf.out G1.out (r := 0) (by omega)
        have u1 : wd.cell? ⟨rb, (k + 1) * 2 + 1, none⟩ = some (.int .i64 xw) := R7.out.cell hpf.out G1.out (r := 1) (by omega)
        have f0 := R7.out.frozen ((k + 1) * 2)
        have f1 := R7.out.frozen ((k + 1) * 2 + 1)
        refine o_sole (fun K hK => ?_)
        go_wp2_with fail
        refine hK _ _ (fun h => by cases h) ?_; clear hK K
        have R8 := Lib.hid (R7.out.set2 hpf.out HL8.out (x := (ya, yw)) (a := .int .i64 ya) (b := .int .i64 yw) rfl)
        have B8 : Hid (Below w.heap.size w ((wd.setCell ⟨rb, (k + 1) * 2, none⟩ (.int .i64 ya)).setCell ⟨rb, (k + 1) * 2 + 1, none⟩ (.int .i64 yw))) := Lib.hid (B7.out.trans (((Solo.refl (g := rb)).setCell _ _).setCell _ _ |>.1.mono hBr))
        clear u0 u1 f0 f1 R7 B7
        generalize (wd.setCell ⟨rb, (k + 1) * 2, none⟩ (.int .i64 ya)).setCell ⟨rb, (k + 1) * 2 + 1, none⟩ (.int .i64 yw) = w8 at R8 B8 ⊢
        (refine o_pure (v := ?_) (by rfl) (fun w' => ?_) ?_; rotate_left; (focus (go_simp; (try with_reducible rfl); (try (rw [if_pos (by omega)]; (try with_reducible rfl))))); (try simp only [Act.put, List.setIfInBounds_toArray, List.set_cons_zero, List.set_cons_succ]))
        have hg8 : ((q ++ (ya, yw) :: (xa, xw) :: s).set (k + 1) (ya, yw))[k]? = some (ya, yw) := by rw [List.getElem?_set_ne (by omega)]; exact G0.out
        have u0 : w8.cell? ⟨rb, k * 2, none⟩ = some (.int .i64 ya) := R8.out.cell hpf.out hg8 (r := 0) (by omega)
        have u1 : w8.cell? ⟨rb, k * 2 + 1, none⟩ = some (.int .i64 yw) := R8.out.cell hpf.out hg8 (r := 1) (by omega)
        have f0 := R8.out.frozen (k * 2)
        have f1 := R8.out.frozen (k * 2 + 1)
        clear hg8
        refine o_sole (fun K hK => ?_)
        go_wp2_with fail
        refine hK _ _ (fun h => by cases h) ?_; clear hK K
        refine o_nil (hQ.out _ _ ?_); clear hQ QQ
        have r9 := R8.out.set2 (i := k) hpf.out (by rw [List.length_set]; exact HL7.out) (x := (xa, xw)) (a := .int .i64 xa) (b := .int .i64 xw) rfl
        have e9 : ((q ++ (ya, yw) :: (xa, xw) :: s).set (k + 1) (ya, yw)).set k (xa, xw) = q ++ (xa, xw) :: (ya, yw) :: s := by
          rw [HK.out, List.set_append_right _ _ (by omega), List.set_append_right _ _ (by omega)]
          simp [show q.length + 1 - q.length = 1 by omega]
        rw [e9] at r9
        have R9 := Lib.hid r9
        have B9 : Hid (Below w.heap.size w ((w8.setCell ⟨rb, k * 2, none⟩ (.int .i64 xa)).setCell ⟨rb, k * 2 + 1, none⟩ (.int .i64 xw))) := Lib.hid (B8.out.trans (((Solo.refl (g := rb)).setCell _ _).setCell _ _ |>.1.mono hBr))
        clear u0 u1 f0 f1 R8 B8 r9 e9
        generalize (w8.setCell ⟨rb, k * 2, none⟩ (.int .i64 xa)).setCell ⟨rb, k * 2 + 1, none⟩ (.int .i64 xw) = w9 at R9 B9 ⊢
        have HE9 : Hid (l = q ++ (ya, yw) :: s) := Lib.hid (by rw [HE.out]; simp)
        have HS9 : Hid (∀ y ∈ (ya, yw) :: s, xa < y.1) := Lib.hid (by
          intro y hy
          rcases List.mem_cons.1 hy with rfl | hy
          · exact hlt
          · exact HS.out y hy)
        go_wp2_with fail
        go_roundw
        case rel => exact ⟨q, (ya, yw) :: s, by rw [← HK.out]; omega, by rw [← HK.out], HE9, HS9, R9, B9⟩
        case measure => simp [intOf]
      · have F9 := Lib.hid (FIN.out (by intro y hy; simp at hy; subst hy; omega))
        clear FIN
        go_wp2_with fail
        go_quiet (fail)
        go_wp2_with fail
        go_ret
        obtain ⟨⟨v, r, e, h1, h2⟩, h3⟩ := F9.out
        exact ⟨⟨v, r, e, h1, h2⟩, below_drewN h3 _⟩
end Go.Proofs.Ytkekmcolekomjaa
