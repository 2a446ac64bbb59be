/- Layer 13: the law CwndPlays answers true. -/
import Derived.Test.YtpjfheojlcahgaaLawCwA
namespace Go.Proofs.Ytpjfheojlcahgaa
open Go.RowKit
set_option linter.unusedVariables false
set_option linter.unusedSimpArgs false
theorem pzs_rd {M : Bool} {w : World} {e : TypeId} {B n : Nat} {v : Value} {l : List (Int × Int)} (h : Pzs w e B v l) (hn : l.length = n) : (GH.SP.rd (M := M) 2 n (pz l)).G v w := by
  obtain ⟨A, c, rfl, h1, h2, h3⟩ := own_form h
  subst hn
  exact ⟨A, c, rfl, h1, h3⟩
/-- An operation: its kind, its number, its paths (where they lie, and what they are). -/
structure CwOp where
  k : Int
  n : Int
  A : Option Addr
  m : Nat
  c : Nat
  l : List (Int × Int)
def CwOp.el (o : CwOp) : List Value := [.int .i64 o.k, .int .i64 o.n, .slice o.A o.m o.c]
structure CwOp.ok (w : World) (o : CwOp) : Prop where
  k : I64 o.k
  n : I64 o.n
  rd : Rd w w.heap.size 2 o.A o.m (pz o.l)
  mc : o.m ≤ o.c
  cm : o.c ≤ maxLen
  l : ∀ p ∈ o.l, I64 p.1 ∧ I64 p.2
def cwops (l : List CwOp) : List Value := l.flatMap CwOp.el
theorem cwop_len (o : CwOp) : o.el.length = 3 := rfl
theorem Rd.cwop {w : World} {B n : Nat} {A : Option Addr} {l : List CwOp} (h : Rd w B 3 A n (cwops l)) {i : Nat} (hi : i < n) :
    ∃ (b off : Nat) (o : CwOp), A = some ⟨b, off, none⟩ ∧ b < B ∧ w.cell? ⟨b, off + i * 3, none⟩ = some (.int .i64 o.k) ∧ w.cell? ⟨b, off + i * 3 + 1, none⟩ = some (.int .i64 o.n) ∧ w.cell? ⟨b, off + i * 3 + 2, none⟩ = some (.slice o.A o.m o.c) ∧ o ∈ l := by
  obtain ⟨b, off, e, hb, hc⟩ := h.2 (by omega)
  have hl : l.length = n := by have := h.1; unfold cwops at this; rw [fm_len cwop_len] at this; omega
  have hg : l[i]? = some l[i] := by rw [List.getElem?_eq_getElem (by omega)]
  have g0 := fm_get cwop_len hg (r := 0) (by omega)
  have g1 := fm_get cwop_len hg (r := 1) (by omega)
  have g2 := fm_get cwop_len hg (r := 2) (by omega)
  exact ⟨b, off, _, e, hb, (hc (i * 3) (by omega)).trans g0, (Nat.add_assoc off (i * 3) 1 ▸ hc (i * 3 + 1) (by omega)).trans g1, (Nat.add_assoc off (i * 3) 2 ▸ hc (i * 3 + 2) (by omega)).trans g2, List.mem_of_getElem? hg⟩
theorem cwsize_anyB (g m s sl p u : Nat) (w : World) (h : Wn w g m s sl p u) :
    Calls Try.prog 20 #[.pointer (some ⟨g, 0, none⟩)] w fun e w' => e = .returned (.int .i64 (s : Nat)) ∧ Below w.heap.size w w' := (cwsize_any g m s sl p u w h).mono (by rintro e w' ⟨rfl, rfl⟩; exact ⟨rfl, Below.refl _ _⟩)
theorem cwunder_anyB (g m s sl p u : Nat) (w : World) (h : Wn w g m s sl p u) :
    Calls Try.prog 21 #[.pointer (some ⟨g, 0, none⟩)] w fun e w' => e = .returned (.int .i64 (u : Nat)) ∧ Below w.heap.size w w' := (cwunder_any g m s sl p u w h).mono (by rintro e w' ⟨rfl, rfl⟩; exact ⟨rfl, Below.refl _ _⟩)
set_option maxRecDepth 20000 in
set_option maxHeartbeats 16000000 in
theorem cwndPlays_walk (mss : Int) (A : Option Addr) (n c : Nat) (l : List CwOp) (w : World) (hm : (Lit.int .i64 mss).wf = true) (h : Rd w w.heap.size 3 A n (cwops l)) (hnc : n ≤ c) (hmax : c ≤ maxLen) (hl : ∀ o ∈ l, o.ok w) :
    Calls Try.prog 4 #[.int .i64 mss, .slice A n c] w fun e w' => e = .returned (.bool true) ∧ Below w.heap.size w w' := by
  by_cases h2 : 200 < n
  · have h2' : (200 : Int) < (n : Int) := by omega
    go_enter Try.func4, Try.ntmps4
    go_wp2_with fail
    go_ret
    exact ⟨rfl, Below.refl _ _⟩
  have h2' : ¬ (200 : Int) < (n : Int) := by omega
  have hn200 : n ≤ 200 := by omega
  have HR := Lib.hid h
  have HL := Lib.hid hl
  have hm1 : 1 ≤ clN 1 1024 mss := clN_ge (by omega) _
  have hm2 : clN 1 1024 mss ≤ 1024 := clN_le (by omega) _
  have HN := Lib.hid (cwnew_any mss w hm)
  have HRN := Lib.hid fun w => rcwnew_any mss w hm
  obtain ⟨m, hm0⟩ : ∃ m, m = clN 1 1024 mss := ⟨_, rfl⟩
  rw [← hm0] at hm1 hm2 HN HRN
  have OK0 := Lib.hid (WOk.init hm1 hm2)
  obtain ⟨s0, hs0⟩ : ∃ s0, s0 = 4 * m := ⟨_, rfl⟩
  obtain ⟨M, hM⟩ : ∃ M, M = 64 * m := ⟨_, rfl⟩
  rw [← hs0, ← hM] at HN HRN OK0
  have HM := Lib.hid hM
  have eM : (64 : Int) * (m : Int) = (M : Nat) := by omega
  have hMb : M ≤ 65536 := by omega
  have wM : IntKind.i64.wrap (M : Int) = (M : Nat) := by rw [IntKind.wrap_i64]; omega
  clear hm0 hm h hl hnc hmax h2 hs0 hM
  go_enter Try.func4, Try.ntmps4
  go_wp2_with fail
  refine HN.out.mono ?_
  rintro e w1 ⟨rfl, h1, hb1⟩
  have W1 := Lib.hid h1
  have B1 := Lib.hid hb1
  clear h1 hb1 HN
  go_wp2_with fail
  refine (HRN.out w1).mono ?_
  rintro e w2 ⟨rfl, hb2⟩
  have W2 := Lib.hid (Blk.below W1.out hb2 (Blk.lt W1.out))
  have B2 := Lib.hid (B1.out.trans (hb2.mono B1.out.size))
  have HGX := Lib.hid (Nat.lt_of_lt_of_le (Blk.lt W1.out) hb2.size)
  clear hb2 W1 B1 HRN
  unfold cwv
  go_upto_region 7 with fail
  have hbA := (Below.refl w2.heap.size w2).alloc (Nat.le_refl _) (.cells #[.int .i64 (m : Nat), .int .i64 (s0 : Nat), .int .i64 (M : Nat), .int .i64 (0 : Nat), .int .i64 (0 : Nat)] 33)
  have W3 := Lib.hid (W2.out.below hbA (Blk.lt W2.out))
  have B3 := Lib.hid (B2.out.trans (hbA.mono B2.out.size))
  have X3 := Lib.hid (Blk.new w2 33 #[.int .i64 (m : Nat), .int .i64 (s0 : Nat), .int .i64 (M : Nat), .int .i64 (0 : Nat), .int .i64 (0 : Nat)])
  obtain ⟨xb, hxb⟩ : ∃ x, x = w2.heap.size := ⟨_, rfl⟩
  rw [← hxb] at X3 HGX ⊢
  generalize w2.alloc (.cells #[.int .i64 (m : Nat), .int .i64 (s0 : Nat), .int .i64 (M : Nat), .int .i64 (0 : Nat), .int .i64 (0 : Nat)] 33) = w3 at W3 B3 X3 ⊢
  clear hxb hbA W2 B2
  go_wp2_with fail
  go_loopw [7] (fun iv wr => ∃ (i s sl p u : Nat), i ≤ n ∧ iv = .int .i64 (i : Nat) ∧ Hid (WOk m s sl p u ∧ u ≤ 1024 * i) ∧ Hid (Wn wr w.heap.size m s sl p u) ∧ Hid (Blk wr xb 33 #[.int .i64 (m : Nat), .int .i64 (s : Nat), .int .i64 (sl : Nat), .int .i64 (p : Nat), .int .i64 (u : Nat)]) ∧ Hid (Below w.heap.size w wr)) (fun iv _ => n - (intOf iv).toNat)
  case atStart => exact ⟨0, s0, M, 0, 0, Nat.zero_le _, rfl, Lib.hid ⟨OK0.out, by omega⟩, W3, X3, B3⟩
  case round =>
    clear W3 X3 B3 OK0
    obtain ⟨i, s, sl, p, u, hi, rfl, HOK, HW, HX, BB⟩ := hrel
    by_cases hlt : i < n
    · have hlt' : (i : Int) < (n : Int) := by omega
      obtain ⟨ab, ao, o, rfl, hab, q0, q1, q2, ho⟩ := HR.out.cwop hlt
      have HO := Lib.hid (HL.out _ ho)
      have Q0 := (BB.out.cell (p := ⟨ab, ao + i * 3, none⟩) hab).trans q0
      have Q1 := (BB.out.cell (p := ⟨ab, ao + i * 3 + 1, none⟩) hab).trans q1
      have Q2 := (BB.out.cell (p := ⟨ab, ao + i * 3 + 2, none⟩) hab).trans q2
      have Z1 := Lib.hid q1
      have Z2 := Lib.hid q2
      clear ho q0 q1 q2
      obtain ⟨kd, nn, A2, n2, c2, l2⟩ := o
      dsimp only at Q0 Q1 Q2 Z1 Z2
      by_cases h100 : 100 < n2
      · have h100' : (100 : Int) < (n2 : Int) := by omega
        go_wp2_with fail
        go_ret
        exact ⟨rfl, BB.out⟩
      have h100' : ¬ (100 : Int) < (n2 : Int) := by omega
      go_upto_region 15 with fail
      generalize (wrap64 (kd.tmod 7 + 7)).tmod 7 = q
      clear Q0
      by_cases hq0 : q = 0
      · subst hq0
        have HS1 := Lib.hid (cwsent_any w.heap.size m s sl p u nn wr HW.out HOK.out.1 HO.out.n.wf)
        have HS2 := Lib.hid fun w' => rcwsent_any m s sl p u nn w' HOK.out.1 HO.out.n.wf
        obtain ⟨u5, hu5⟩ : ∃ u5, u5 = u + bdB nn := ⟨_, rfl⟩
        rw [← hu5] at HS1 HS2
        have HOK2 := Lib.hid (show WOk m s sl p u5 ∧ u5 ≤ 1024 * (i + 1) from ⟨⟨HOK.out.1.m1, HOK.out.1.m2, HOK.out.1.s1, HOK.out.1.s2, HOK.out.1.sl2, HOK.out.1.p2, by have := bdB_le nn; have := HOK.out.2; omega⟩, by have := bdB_le nn; have := HOK.out.2; omega⟩)
        unfold cwv at HS2
        clear hu5
        go_wp2_with fail
        refine HS1.out.mono ?_
        rintro e w4 ⟨rfl, h4, t4⟩
        have W4 := Lib.hid h4
        have X4 := Lib.hid (t4.blk HX.out (Nat.ne_of_gt HGX.out))
        have B4 := Lib.hid (BB.out.trans t4.1)
        have Q1 := (B4.out.cell (p := ⟨ab, ao + i * 3 + 1, none⟩) hab).trans Z1.out
        have Q2 := (B4.out.cell (p := ⟨ab, ao + i * 3 + 2, none⟩) hab).trans Z2.out
        clear h4 t4 HS1 HW HX BB
        go_upto_region 18 with fail
        refine GH.wp_ghl (M := false) 7 ((GH.SP.eq (.agg #[.int .i64 (m : Nat), .int .i64 (s : Nat), .int .i64 (sl : Nat), .int .i64 (p : Nat), .int .i64 (u : Nat)])) :: (GH.SP.eq (.slice (some ⟨ab, ao, none⟩) n c)) :: (GH.SP.eq (.int .i64 (i : Nat))) :: (GH.SP.eq (.pointer (some ⟨ab, ao + i * 3, none⟩))) :: (GH.SP.eq (.pointer (some ⟨ab, ao + i * 3 + 1, none⟩))) :: (GH.SP.eq (.int .i64 nn)) :: (GH.SP.eq (.agg #[.int .i64 (m : Nat), .int .i64 (s : Nat), .int .i64 (sl : Nat), .int .i64 (p : Nat), .int .i64 (u5 : Nat)])) :: []) (none :: none :: none :: none :: none :: none :: none :: none :: none :: none :: none :: none :: none :: none :: none :: none :: none :: none :: none :: none :: none :: none :: none :: none :: none :: none :: none :: none :: none :: none :: none :: none :: none :: none :: none :: none :: none :: none :: none :: none :: none :: none :: none :: none :: none :: none :: none :: none :: none :: none :: none :: none :: none :: none :: none :: none :: none :: none :: none :: none :: none :: none :: none :: none :: none :: none :: none :: none :: none :: none :: none :: none :: none :: (some 0) :: (some 1) :: (some 2) :: (some 3) :: (some 4) :: (some 5) :: (some 6) :: none :: none :: none :: none :: none :: none :: none :: none :: none :: none :: none :: none :: none :: none :: none :: none :: none :: none :: none :: none :: none :: none :: none :: none :: none :: none :: none :: none :: none :: none :: none :: none :: none :: none :: none :: none :: none :: none :: none :: none :: none :: none :: none :: none :: none :: none :: none :: none :: none :: none :: none :: none :: none :: none :: none :: none :: none :: none :: none :: none :: none :: none :: none :: none :: none :: none :: none :: []) [73, 74, 75, 76, 77, 78, 79] (by rfl) (by kernel_rfl) (by kernel_rfl) ?_ ?_ ?_
        · intro S jx v hjx
          match jx, hjx with
          | 0, _ => rfl
          | 1, _ => rfl
          | 2, _ => rfl
          | 3, _ => rfl
          | 4, _ => rfl
          | 5, _ => rfl
          | 6, _ => rfl
          | nx + 7, hjx => omega
        · intro jx hjx S w' hb hd
          match jx, hjx, hd with
          | 0, _, hd =>
            simp only [GH.mkL, List.getD_cons_succ, List.getD_cons_zero]
            clear hd
            exact GH.st_loads _ [.int .i64 (m : Nat), .int .i64 (s : Nat), .int .i64 (sl : Nat), .int .i64 (p : Nat), .int .i64 (u : Nat)] (by rfl) rfl rfl (((X4.out.below hb.below X4.out.lt)).loads 0 _ (by rfl)) (by kernel_rfl) (by kernel_rfl)
          | 1, _, hd =>
            simp only [GH.mkL, List.getD_cons_succ, List.getD_cons_zero]
            clear hd
            refine GH.st_eq (by rfl) ?_
            go_simp
            (try with_reducible rfl)
          | 2, _, hd =>
            simp only [GH.mkL, List.getD_cons_succ, List.getD_cons_zero]
            clear hd
            refine GH.st_eq (by rfl) ?_
            go_simp
            (try with_reducible rfl)
          | 3, _, hd =>
            simp only [GH.mkL, List.getD_cons_succ, List.getD_cons_zero]
            have d1 : S 1 = .slice (some ⟨ab, ao, none⟩) n c := (hd 1 (by kernel_rfl)).2
            rw [d1]
            clear d1
            have d2 : S 2 = .int .i64 (i : Nat) := (hd 2 (by kernel_rfl)).2
            rw [d2]
            clear d2
            clear hd
            refine GH.st_eq (by rfl) ?_
            go_simp
            (try with_reducible rfl)
          | 4, _, hd =>
            simp only [GH.mkL, List.getD_cons_succ, List.getD_cons_zero]
            have d3 : S 3 = .pointer (some ⟨ab, ao + i * 3, none⟩) := (hd 3 (by kernel_rfl)).2
            rw [d3]
            clear d3
            clear hd
            refine GH.st_eq (by rfl) ?_
            go_simp
            (try with_reducible rfl)
          | 5, _, hd =>
            simp only [GH.mkL, List.getD_cons_succ, List.getD_cons_zero]
            have d4 : S 4 = .pointer (some ⟨ab, ao + i * 3 + 1, none⟩) := (hd 4 (by kernel_rfl)).2
            rw [d4]
            clear d4
            clear hd
            exact GH.st_load _ (by rfl) rfl rfl ((hb.below.cell (p := ⟨ab, ao + i * 3 + 1, none⟩) (Nat.lt_of_lt_of_le hab B4.out.size)).trans ((B4.out.cell (p := ⟨ab, ao + i * 3 + 1, none⟩) hab).trans Z1.out)) (by kernel_rfl)
          | 6, _, hd =>
            simp only [GH.mkL, List.getD_cons_succ, List.getD_cons_zero]
            have d0 : S 0 = .agg #[.int .i64 (m : Nat), .int .i64 (s : Nat), .int .i64 (sl : Nat), .int .i64 (p : Nat), .int .i64 (u : Nat)] := (hd 0 (by kernel_rfl)).2
            rw [d0]
            clear d0
            have d5 : S 5 = .int .i64 nn := (hd 5 (by kernel_rfl)).2
            rw [d5]
            clear d5
            clear hd
            refine GH.st_call (by rfl) hb.below.size (by go_simp) ((HS2.out w').mono ?_)
            rintro e w9 ⟨rfl, hb9⟩
            exact ⟨_, rfl, hb9, rfl⟩
          | nx + 7, hjx, _ => omega
        intro S w' hb hG
        simp only [GH.mkL, List.drop_succ_cons, List.drop_zero]
        have d6 : S 6 = .agg #[.int .i64 (m : Nat), .int .i64 (s : Nat), .int .i64 (sl : Nat), .int .i64 (p : Nat), .int .i64 (u5 : Nat)] := hG 6 (by omega)
        rw [d6]
        clear d6
        clear hG
        have KX := X4.out.below hb.below X4.out.lt
        have W5 := Lib.hid (Blk.below W4.out hb.below (Blk.lt W4.out))
        have B5 := Lib.hid (B4.out.trans (hb.below.mono B4.out.size))
        have f0 := KX.frozen 0
        have f1 := KX.frozen 1
        have f2 := KX.frozen 2
        have f3 := KX.frozen 3
        have f4 := KX.frozen 4
        obtain ⟨x0, x1, x2, x3, x4⟩ := ptc5 KX
        have X5 := Lib.hid KX
        clear KX hb W4 X4 B4
        go_upto_region 25 with fail
        have X6 := Lib.hid (show Blk (ptw5 w' xb (.int .i64 (m : Nat)) (.int .i64 (s : Nat)) (.int .i64 (sl : Nat)) (.int .i64 (p : Nat)) (.int .i64 (u5 : Nat))) xb 33 #[.int .i64 (m : Nat), .int .i64 (s : Nat), .int .i64 (sl : Nat), .int .i64 (p : Nat), .int .i64 (u5 : Nat)] from pt5 _ _ _ _ _ X5.out)
        have hs5 : Solo xb w' (ptw5 w' xb (.int .i64 (m : Nat)) (.int .i64 (s : Nat)) (.int .i64 (sl : Nat)) (.int .i64 (p : Nat)) (.int .i64 (u5 : Nat))) := pts5 _ _ _ _ _
        have W6 := Lib.hid (show Wn (ptw5 w' xb (.int .i64 (m : Nat)) (.int .i64 (s : Nat)) (.int .i64 (sl : Nat)) (.int .i64 (p : Nat)) (.int .i64 (u5 : Nat))) w.heap.size m s sl p u5 from hs5.blk W5.out (Nat.ne_of_lt HGX.out))
        have B6 := Lib.hid (B5.out.trans (hs5.1.mono (Nat.le_of_lt HGX.out)))
        clear hs5 W5 X5 B5 x0 x1 x2 x3 x4 f0 f1 f2 f3 f4
        unfold ptw5 at X6 W6 B6
        generalize (((((w'.setCell ⟨xb, 0, none⟩ (.int .i64 (m : Nat))).setCell ⟨xb, 1, none⟩ (.int .i64 (s : Nat))).setCell ⟨xb, 2, none⟩ (.int .i64 (sl : Nat))).setCell ⟨xb, 3, none⟩ (.int .i64 (p : Nat))).setCell ⟨xb, 4, none⟩ (.int .i64 (u5 : Nat))) = w6 at X6 W6 B6 ⊢
        clear Q1 Q2 HS2
        have hs6d : decide (s < m) = false := decide_eq_false (by have := HOK2.out.1.s1; omega)
        have hs7d : decide (M < s) = false := decide_eq_false (by have := HOK2.out.1.s2; have := HM.out; omega)
        have HR1 := Lib.hid fun (w' : World) (h : Wn w' w.heap.size m s sl p u5) => cwroom_any _ _ _ _ _ _ w' h HOK2.out.1.s3 HOK2.out.1.u2
        have HR2 := Lib.hid fun (w' : World) => rcwroom_any m s sl p u5 w' HOK2.out.1
        unfold cwv at HR2
        obtain ⟨rm, hrm⟩ : ∃ rm, rm = s - u5 := ⟨_, rfl⟩
        rw [← hrm] at HR1 HR2
        clear hrm
        go_upto_region 25 with fail
        refine GH.wp_ghl (M := false) 34 ((GH.SP.eq (.pointer (some ⟨w.heap.size, 0, none⟩))) :: (GH.SP.eq (.int .i64 (s : Nat))) :: (GH.SP.eq (.pointer (some ⟨xb, 1, none⟩))) :: (GH.SP.eq (.int .i64 (s : Nat))) :: (GH.SP.eq (.bool false)) :: (GH.SP.eq (.bool false)) :: (GH.SP.eq (.pointer (some ⟨w.heap.size, 0, none⟩))) :: (GH.SP.eq (.int .i64 (u5 : Nat))) :: (GH.SP.eq (.pointer (some ⟨xb, 4, none⟩))) :: (GH.SP.eq (.int .i64 (u5 : Nat))) :: (GH.SP.eq (.bool false)) :: (GH.SP.eq (.bool false)) :: (GH.SP.eq (.bool false)) :: (GH.SP.eq (.pointer (some ⟨w.heap.size, 0, none⟩))) :: (GH.SP.eq (.int .i64 (rm : Nat))) :: (GH.SP.eq (.agg #[.int .i64 (m : Nat), .int .i64 (s : Nat), .int .i64 (sl : Nat), .int .i64 (p : Nat), .int .i64 (u5 : Nat)])) :: (GH.SP.eq (.int .i64 (rm : Nat))) :: (GH.SP.eq (.bool false)) :: (GH.SP.eq (.bool false)) :: (GH.SP.eq (.bool false)) :: (GH.SP.eq (.pointer (some ⟨w.heap.size, 0, none⟩))) :: (GH.SP.eq (.int .i64 (s : Nat))) :: (GH.SP.eq (.pointer (some ⟨xb, 0, none⟩))) :: (GH.SP.eq (.int .i64 (m : Nat))) :: (GH.SP.eq (.bool false)) :: (GH.SP.eq (.bool false)) :: (GH.SP.eq (.bool false)) :: (GH.SP.eq (.pointer (some ⟨w.heap.size, 0, none⟩))) :: (GH.SP.eq (.int .i64 (s : Nat))) :: (GH.SP.eq (.pointer (some ⟨xb, 0, none⟩))) :: (GH.SP.eq (.int .i64 (m : Nat))) :: (GH.SP.eq (.int .i64 (M : Nat))) :: (GH.SP.eq (.bool false)) :: (GH.SP.eq (.bool false)) :: []) (none :: none :: none :: none :: none :: none :: none :: none :: none :: none :: none :: none :: none :: none :: none :: none :: none :: none :: none :: none :: none :: none :: none :: none :: none :: none :: none :: none :: none :: none :: none :: none :: none :: none :: none :: none :: none :: none :: none :: none :: none :: none :: none :: none :: none :: none :: none :: none :: none :: none :: none :: none :: none :: none :: none :: none :: none :: none :: none :: none :: none :: none :: none :: none :: none :: none :: none :: none :: none :: none :: none :: none :: none :: none :: none :: none :: none :: none :: none :: none :: none :: none :: none :: none :: none :: none :: none :: none :: none :: none :: none :: none :: none :: none :: none :: none :: none :: none :: none :: none :: none :: none :: none :: none :: none :: none :: none :: none :: none :: none :: none :: none :: (some 0) :: (some 1) :: (some 2) :: (some 3) :: (some 4) :: (some 5) :: (some 6) :: (some 7) :: (some 8) :: (some 9) :: (some 10) :: (some 11) :: (some 12) :: (some 13) :: (some 14) :: (some 15) :: (some 16) :: (some 17) :: (some 18) :: (some 19) :: (some 20) :: (some 21) :: (some 22) :: (some 23) :: (some 24) :: (some 25) :: (some 26) :: (some 27) :: (some 28) :: (some 29) :: (some 30) :: (some 31) :: (some 32) :: (some 33) :: none :: []) [112, 113, 114, 115, 116, 117, 118, 119, 120, 121, 122, 123, 124, 125, 126, 127, 128, 129, 130, 131, 132, 133, 134, 135, 136, 137, 138, 139, 140, 141, 142, 143, 144, 145] (by rfl) (by kernel_rfl) (by kernel_rfl) ?_ ?_ ?_
        · intro S jx v hjx
          match jx, hjx with
          | 0, _ => rfl
          | 1, _ => rfl
          | 2, _ => rfl
          | 3, _ => rfl
          | 4, _ => rfl
          | 5, _ => rfl
          | 6, _ => rfl
          | 7, _ => rfl
          | 8, _ => rfl
          | 9, _ => rfl
          | 10, _ => rfl
          | 11, _ => rfl
          | 12, _ => rfl
          | 13, _ => rfl
          | 14, _ => rfl
          | 15, _ => rfl
          | 16, _ => rfl
          | 17, _ => rfl
          | 18, _ => rfl
          | 19, _ => rfl
          | 20, _ => rfl
          | 21, _ => rfl
          | 22, _ => rfl
          | 23, _ => rfl
          | 24, _ => rfl
          | 25, _ => rfl
          | 26, _ => rfl
          | 27, _ => rfl
          | 28, _ => rfl
          | 29, _ => rfl
          | 30, _ => rfl
          | 31, _ => rfl
          | 32, _ => rfl
          | 33, _ => rfl
          | nx + 34, hjx => omega
        · intro jx hjx S w' hb hd
          match jx, hjx, hd with
          | 0, _, hd =>
            simp only [GH.mkL, List.getD_cons_succ, List.getD_cons_zero]
            clear hd
            refine GH.st_eq (by rfl) ?_
            go_simp
            (try with_reducible rfl)
          | 1, _, hd =>
            simp only [GH.mkL, List.getD_cons_succ, List.getD_cons_zero]
            have d0 : S 0 = .pointer (some ⟨w.heap.size, 0, none⟩) := (hd 0 (by kernel_rfl)).2
            rw [d0]
            clear d0
            clear hd
            refine GH.st_call (by rfl) hb.below.size (by go_simp) ((cwsize_anyB _ _ _ _ _ _ w' (Blk.below W6.out hb.below (Blk.lt W6.out))).mono ?_)
            rintro e w9 ⟨rfl, hb9⟩
            exact ⟨_, rfl, hb9, rfl⟩
          | 2, _, hd =>
            simp only [GH.mkL, List.getD_cons_succ, List.getD_cons_zero]
            clear hd
            refine GH.st_eq (by rfl) ?_
            go_simp
            (try with_reducible rfl)
          | 3, _, hd =>
            simp only [GH.mkL, List.getD_cons_succ, List.getD_cons_zero]
            have d2 : S 2 = .pointer (some ⟨xb, 1, none⟩) := (hd 2 (by kernel_rfl)).2
            rw [d2]
            clear d2
            clear hd
            exact GH.st_load _ (by rfl) rfl rfl (((X6.out.below hb.below X6.out.lt)).cell 1) (by kernel_rfl)
          | 4, _, hd =>
            simp only [GH.mkL, List.getD_cons_succ, List.getD_cons_zero]
            have d1 : S 1 = .int .i64 (s : Nat) := (hd 1 (by kernel_rfl)).2
            rw [d1]
            clear d1
            have d3 : S 3 = .int .i64 (s : Nat) := (hd 3 (by kernel_rfl)).2
            rw [d3]
            clear d3
            clear hd
            refine GH.st_eq (by rfl) ?_
            go_simp
            (try with_reducible rfl)
          | 5, _, hd =>
            simp only [GH.mkL, List.getD_cons_succ, List.getD_cons_zero]
            have d1 : S 1 = .int .i64 (s : Nat) := (hd 1 (by kernel_rfl)).2
            rw [d1]
            clear d1
            have d4 : S 4 = .bool false := (hd 4 (by kernel_rfl)).2
            rw [d4]
            clear d4
            clear hd
            refine GH.st_eq (by rfl) ?_
            go_simp
            (try with_reducible rfl)
          | 6, _, hd =>
            simp only [GH.mkL, List.getD_cons_succ, List.getD_cons_zero]
            have d5 : S 5 = .bool false := (hd 5 (by kernel_rfl)).2
            rw [d5]
            clear d5
            clear hd
            refine GH.st_eq (by rfl) ?_
            go_simp
            (try with_reducible rfl)
          | 7, _, hd =>
            simp only [GH.mkL, List.getD_cons_succ, List.getD_cons_zero]
            have d5 : S 5 = .bool false := (hd 5 (by kernel_rfl)).2
            rw [d5]
            clear d5
            have d6 : S 6 = .pointer (some ⟨w.heap.size, 0, none⟩) := (hd 6 (by kernel_rfl)).2
            rw [d6]
            clear d6
            clear hd
            refine GH.st_call (by rfl) hb.below.size (by go_simp) ((cwunder_anyB _ _ _ _ _ _ w' (Blk.below W6.out hb.below (Blk.lt W6.out))).mono ?_)
            rintro e w9 ⟨rfl, hb9⟩
            exact ⟨_, rfl, hb9, rfl⟩
          | 8, _, hd =>
            simp only [GH.mkL, List.getD_cons_succ, List.getD_cons_zero]
            have d5 : S 5 = .bool false := (hd 5 (by kernel_rfl)).2
            rw [d5]
            clear d5
            clear hd
            refine GH.st_eq (by rfl) ?_
            go_simp
            (try with_reducible rfl)
          | 9, _, hd =>
            simp only [GH.mkL, List.getD_cons_succ, List.getD_cons_zero]
            have d5 : S 5 = .bool false := (hd 5 (by kernel_rfl)).2
            rw [d5]
            clear d5
            have d8 : S 8 = .pointer (some ⟨xb, 4, none⟩) := (hd 8 (by kernel_rfl)).2
            rw [d8]
            clear d8
            clear hd
            exact GH.st_load _ (by rfl) rfl rfl (((X6.out.below hb.below X6.out.lt)).cell 4) (by kernel_rfl)
          | 10, _, hd =>
            simp only [GH.mkL, List.getD_cons_succ, List.getD_cons_zero]
            have d5 : S 5 = .bool false := (hd 5 (by kernel_rfl)).2
            rw [d5]
            clear d5
            have d7 : S 7 = .int .i64 (u5 : Nat) := (hd 7 (by kernel_rfl)).2
            rw [d7]
            clear d7
            have d9 : S 9 = .int .i64 (u5 : Nat) := (hd 9 (by kernel_rfl)).2
            rw [d9]
            clear d9
            clear hd
            refine GH.st_eq (by rfl) ?_
            go_simp
            (try with_reducible rfl)
          | 11, _, hd =>
            simp only [GH.mkL, List.getD_cons_succ, List.getD_cons_zero]
            have d5 : S 5 = .bool false := (hd 5 (by kernel_rfl)).2
            rw [d5]
            clear d5
            have d10 : S 10 = .bool false := (hd 10 (by kernel_rfl)).2
            rw [d10]
            clear d10
            clear hd
            refine GH.st_eq (by rfl) ?_
            go_simp
            (try with_reducible rfl)
          | 12, _, hd =>
            simp only [GH.mkL, List.getD_cons_succ, List.getD_cons_zero]
            have d7 : S 7 = .int .i64 (u5 : Nat) := (hd 7 (by kernel_rfl)).2
            rw [d7]
            clear d7
            have d11 : S 11 = .bool false := (hd 11 (by kernel_rfl)).2
            rw [d11]
            clear d11
            clear hd
            refine GH.st_eq (by rfl) ?_
            go_simp
            (try with_reducible rfl)
          | 13, _, hd =>
            simp only [GH.mkL, List.getD_cons_succ, List.getD_cons_zero]
            have d12 : S 12 = .bool false := (hd 12 (by kernel_rfl)).2
            rw [d12]
            clear d12
            clear hd
            refine GH.st_eq (by rfl) ?_
            go_simp
            (try with_reducible rfl)
          | 14, _, hd =>
            simp only [GH.mkL, List.getD_cons_succ, List.getD_cons_zero]
            have d12 : S 12 = .bool false := (hd 12 (by kernel_rfl)).2
            rw [d12]
            clear d12
            have d13 : S 13 = .pointer (some ⟨w.heap.size, 0, none⟩) := (hd 13 (by kernel_rfl)).2
            rw [d13]
            clear d13
            clear hd
            refine GH.st_call (by rfl) hb.below.size (by go_simp) ((HR1.out w' (Blk.below W6.out hb.below (Blk.lt W6.out))).mono ?_)
            rintro e w9 ⟨rfl, hb9⟩
            exact ⟨_, rfl, hb9, rfl⟩
          | 15, _, hd =>
            simp only [GH.mkL, List.getD_cons_succ, List.getD_cons_zero]
            have d12 : S 12 = .bool false := (hd 12 (by kernel_rfl)).2
            rw [d12]
            clear d12
            clear hd
            exact GH.st_loads _ [.int .i64 (m : Nat), .int .i64 (s : Nat), .int .i64 (sl : Nat), .int .i64 (p : Nat), .int .i64 (u5 : Nat)] (by rfl) rfl rfl (((X6.out.below hb.below X6.out.lt)).loads 0 _ (by rfl)) (by kernel_rfl) (by kernel_rfl)
          | 16, _, hd =>
            simp only [GH.mkL, List.getD_cons_succ, List.getD_cons_zero]
            have d12 : S 12 = .bool false := (hd 12 (by kernel_rfl)).2
            rw [d12]
            clear d12
            have d14 : S 14 = .int .i64 (rm : Nat) := (hd 14 (by kernel_rfl)).2
            rw [d14]
            clear d14
            have d15 : S 15 = .agg #[.int .i64 (m : Nat), .int .i64 (s : Nat), .int .i64 (sl : Nat), .int .i64 (p : Nat), .int .i64 (u5 : Nat)] := (hd 15 (by kernel_rfl)).2
            rw [d15]
            clear d15
            clear hd
            refine GH.st_call (by rfl) hb.below.size (by go_simp) ((HR2.out w').mono ?_)
            rintro e w9 ⟨rfl, hb9⟩
            exact ⟨_, rfl, hb9, rfl⟩
          | 17, _, hd =>
            simp only [GH.mkL, List.getD_cons_succ, List.getD_cons_zero]
            have d12 : S 12 = .bool false := (hd 12 (by kernel_rfl)).2
            rw [d12]
            clear d12
            have d14 : S 14 = .int .i64 (rm : Nat) := (hd 14 (by kernel_rfl)).2
            rw [d14]
            clear d14
            have d16 : S 16 = .int .i64 (rm : Nat) := (hd 16 (by kernel_rfl)).2
            rw [d16]
            clear d16
            clear hd
            refine GH.st_eq (by rfl) ?_
            go_simp
            (try with_reducible rfl)
          | 18, _, hd =>
            simp only [GH.mkL, List.getD_cons_succ, List.getD_cons_zero]
            have d12 : S 12 = .bool false := (hd 12 (by kernel_rfl)).2
            rw [d12]
            clear d12
            have d17 : S 17 = .bool false := (hd 17 (by kernel_rfl)).2
            rw [d17]
            clear d17
            clear hd
            refine GH.st_eq (by rfl) ?_
            go_simp
            (try with_reducible rfl)
          | 19, _, hd =>
            simp only [GH.mkL, List.getD_cons_succ, List.getD_cons_zero]
            have d16 : S 16 = .int .i64 (rm : Nat) := (hd 16 (by kernel_rfl)).2
            rw [d16]
            clear d16
            have d18 : S 18 = .bool false := (hd 18 (by kernel_rfl)).2
            rw [d18]
            clear d18
            clear hd
            refine GH.st_eq (by rfl) ?_
            go_simp
            (try with_reducible rfl)
          | 20, _, hd =>
            simp only [GH.mkL, List.getD_cons_succ, List.getD_cons_zero]
            have d19 : S 19 = .bool false := (hd 19 (by kernel_rfl)).2
            rw [d19]
            clear d19
            clear hd
            refine GH.st_eq (by rfl) ?_
            go_simp
            (try with_reducible rfl)
          | 21, _, hd =>
            simp only [GH.mkL, List.getD_cons_succ, List.getD_cons_zero]
            have d19 : S 19 = .bool false := (hd 19 (by kernel_rfl)).2
            rw [d19]
            clear d19
            have d20 : S 20 = .pointer (some ⟨w.heap.size, 0, none⟩) := (hd 20 (by kernel_rfl)).2
            rw [d20]
            clear d20
            clear hd
            refine GH.st_call (by rfl) hb.below.size (by go_simp) ((cwsize_anyB _ _ _ _ _ _ w' (Blk.below W6.out hb.below (Blk.lt W6.out))).mono ?_)
            rintro e w9 ⟨rfl, hb9⟩
            exact ⟨_, rfl, hb9, rfl⟩
          | 22, _, hd =>
            simp only [GH.mkL, List.getD_cons_succ, List.getD_cons_zero]
            have d19 : S 19 = .bool false := (hd 19 (by kernel_rfl)).2
            rw [d19]
            clear d19
            clear hd
            refine GH.st_eq (by rfl) ?_
            go_simp
            (try with_reducible rfl)
          | 23, _, hd =>
            simp only [GH.mkL, List.getD_cons_succ, List.getD_cons_zero]
            have d19 : S 19 = .bool false := (hd 19 (by kernel_rfl)).2
            rw [d19]
            clear d19
            have d22 : S 22 = .pointer (some ⟨xb, 0, none⟩) := (hd 22 (by kernel_rfl)).2
            rw [d22]
            clear d22
            clear hd
            exact GH.st_load _ (by rfl) rfl rfl (((X6.out.below hb.below X6.out.lt)).cell 0) (by kernel_rfl)
          | 24, _, hd =>
            simp only [GH.mkL, List.getD_cons_succ, List.getD_cons_zero]
            have d19 : S 19 = .bool false := (hd 19 (by kernel_rfl)).2
            rw [d19]
            clear d19
            have d21 : S 21 = .int .i64 (s : Nat) := (hd 21 (by kernel_rfl)).2
            rw [d21]
            clear d21
            have d23 : S 23 = .int .i64 (m : Nat) := (hd 23 (by kernel_rfl)).2
            rw [d23]
            clear d23
            clear hd
            refine GH.st_eq (by rfl) ?_
            go_simp
            (try simp only [hs6d])
            (try with_reducible rfl)
          | 25, _, hd =>
            simp only [GH.mkL, List.getD_cons_succ, List.getD_cons_zero]
            have d19 : S 19 = .bool false := (hd 19 (by kernel_rfl)).2
            rw [d19]
            clear d19
            have d24 : S 24 = .bool false := (hd 24 (by kernel_rfl)).2
            rw [d24]
            clear d24
            clear hd
            refine GH.st_eq (by rfl) ?_
            go_simp
            (try with_reducible rfl)
          | 26, _, hd =>
            simp only [GH.mkL, List.getD_cons_succ, List.getD_cons_zero]
            have d21 : S 21 = .int .i64 (s : Nat) := (hd 21 (by kernel_rfl)).2
            rw [d21]
            clear d21
            have d25 : S 25 = .bool false := (hd 25 (by kernel_rfl)).2
            rw [d25]
            clear d25
            clear hd
            refine GH.st_eq (by rfl) ?_
            go_simp
            (try with_reducible rfl)
          | 27, _, hd =>
            simp only [GH.mkL, List.getD_cons_succ, List.getD_cons_zero]
            have d26 : S 26 = .bool false := (hd 26 (by kernel_rfl)).2
            rw [d26]
            clear d26
            clear hd
            refine GH.st_eq (by rfl) ?_
            go_simp
            (try with_reducible rfl)
          | 28, _, hd =>
            simp only [GH.mkL, List.getD_cons_succ, List.getD_cons_zero]
            have d26 : S 26 = .bool false := (hd 26 (by kernel_rfl)).2
            rw [d26]
            clear d26
            have d27 : S 27 = .pointer (some ⟨w.heap.size, 0, none⟩) := (hd 27 (by kernel_rfl)).2
            rw [d27]
            clear d27
            clear hd
            refine GH.st_call (by rfl) hb.below.size (by go_simp) ((cwsize_anyB _ _ _ _ _ _ w' (Blk.below W6.out hb.below (Blk.lt W6.out))).mono ?_)
            rintro e w9 ⟨rfl, hb9⟩
            exact ⟨_, rfl, hb9, rfl⟩
          | 29, _, hd =>
            simp only [GH.mkL, List.getD_cons_succ, List.getD_cons_zero]
            have d26 : S 26 = .bool false := (hd 26 (by kernel_rfl)).2
            rw [d26]
            clear d26
            clear hd
            refine GH.st_eq (by rfl) ?_
            go_simp
            (try with_reducible rfl)
          | 30, _, hd =>
            simp only [GH.mkL, List.getD_cons_succ, List.getD_cons_zero]
            have d26 : S 26 = .bool false := (hd 26 (by kernel_rfl)).2
            rw [d26]
            clear d26
            have d29 : S 29 = .pointer (some ⟨xb, 0, none⟩) := (hd 29 (by kernel_rfl)).2
            rw [d29]
            clear d29
            clear hd
            exact GH.st_load _ (by rfl) rfl rfl (((X6.out.below hb.below X6.out.lt)).cell 0) (by kernel_rfl)
          | 31, _, hd =>
            simp only [GH.mkL, List.getD_cons_succ, List.getD_cons_zero]
            have d26 : S 26 = .bool false := (hd 26 (by kernel_rfl)).2
            rw [d26]
            clear d26
            have d30 : S 30 = .int .i64 (m : Nat) := (hd 30 (by kernel_rfl)).2
            rw [d30]
            clear d30
            clear hd
            refine GH.st_eq (by rfl) ?_
            go_simp
            (try simp only [eM, wM])
            (try with_reducible rfl)
          | 32, _, hd =>
            simp only [GH.mkL, List.getD_cons_succ, List.getD_cons_zero]
            have d26 : S 26 = .bool false := (hd 26 (by kernel_rfl)).2
            rw [d26]
            clear d26
            have d28 : S 28 = .int .i64 (s : Nat) := (hd 28 (by kernel_rfl)).2
            rw [d28]
            clear d28
            have d31 : S 31 = .int .i64 (M : Nat) := (hd 31 (by kernel_rfl)).2
            rw [d31]
            clear d31
            clear hd
            refine GH.st_eq (by rfl) ?_
            go_simp
            (try simp only [hs7d])
            (try with_reducible rfl)
          | 33, _, hd =>
            simp only [GH.mkL, List.getD_cons_succ, List.getD_cons_zero]
            have d26 : S 26 = .bool false := (hd 26 (by kernel_rfl)).2
            rw [d26]
            clear d26
            have d32 : S 32 = .bool false := (hd 32 (by kernel_rfl)).2
            rw [d32]
            clear d32
            clear hd
            refine GH.st_eq (by rfl) ?_
            go_simp
            (try with_reducible rfl)
          | nx + 34, hjx, _ => omega
        intro S w' hb hG
        simp only [GH.mkL, List.drop_succ_cons, List.drop_zero]
        have d33 : S 33 = .bool false := hG 33 (by omega)
        rw [d33]
        clear d33
        clear hG
        have W7 := Lib.hid (Blk.below W6.out hb.below (Blk.lt W6.out))
        have X7 := Lib.hid (X6.out.below hb.below X6.out.lt)
        have B7 := Lib.hid (B6.out.trans (hb.below.mono B6.out.size))
        clear hb W6 X6 B6 hs6d hs7d
        refine wpList_nil ?_
        go_wp2_with fail
        go_roundw
        case rel => exact ⟨i + 1, s, sl, p, u5, by omega, by go_num, HOK2, W7, X7, B7⟩
        case measure => simp [intOf]; omega
      by_cases hq1 : q = 1
      · subst hq1
        clear hq0
        have HS1 := Lib.hid (cwsent_any w.heap.size m s sl p u nn wr HW.out HOK.out.1 HO.out.n.wf)
        have HS2 := Lib.hid fun w' => rcwsent_any m s sl p u nn w' HOK.out.1 HO.out.n.wf
        obtain ⟨u5, hu5⟩ : ∃ u5, u5 = u + bdB nn := ⟨_, rfl⟩
        rw [← hu5] at HS1 HS2
        have HOK2 := Lib.hid (show WOk m s sl p u5 ∧ u5 ≤ 1024 * (i + 1) from ⟨⟨HOK.out.1.m1, HOK.out.1.m2, HOK.out.1.s1, HOK.out.1.s2, HOK.out.1.sl2, HOK.out.1.p2, by have := bdB_le nn; have := HOK.out.2; omega⟩, by have := bdB_le nn; have := HOK.out.2; omega⟩)
        unfold cwv at HS2
        clear hu5
        go_wp2_with fail
        refine HS1.out.mono ?_
        rintro e w4 ⟨rfl, h4, t4⟩
        have W4 := Lib.hid h4
        have X4 := Lib.hid (t4.blk HX.out (Nat.ne_of_gt HGX.out))
        have B4 := Lib.hid (BB.out.trans t4.1)
        have Q1 := (B4.out.cell (p := ⟨ab, ao + i * 3 + 1, none⟩) hab).trans Z1.out
        have Q2 := (B4.out.cell (p := ⟨ab, ao + i * 3 + 2, none⟩) hab).trans Z2.out
        clear h4 t4 HS1 HW HX BB
        go_upto_region 18 with fail
        refine GH.wp_ghl (M := false) 7 ((GH.SP.eq (.agg #[.int .i64 (m : Nat), .int .i64 (s : Nat), .int .i64 (sl : Nat), .int .i64 (p : Nat), .int .i64 (u : Nat)])) :: (GH.SP.eq (.slice (some ⟨ab, ao, none⟩) n c)) :: (GH.SP.eq (.int .i64 (i : Nat))) :: (GH.SP.eq (.pointer (some ⟨ab, ao + i * 3, none⟩))) :: (GH.SP.eq (.pointer (some ⟨ab, ao + i * 3 + 1, none⟩))) :: (GH.SP.eq (.int .i64 nn)) :: (GH.SP.eq (.agg #[.int .i64 (m : Nat), .int .i64 (s : Nat), .int .i64 (sl : Nat), .int .i64 (p : Nat), .int .i64 (u5 : Nat)])) :: []) (none :: none :: none :: none :: none :: none :: none :: none :: none :: none :: none :: none :: none :: none :: none :: none :: none :: none :: none :: none :: none :: none :: none :: none :: none :: none :: none :: none :: none :: none :: none :: none :: none :: none :: none :: none :: none :: none :: none :: none :: none :: none :: none :: none :: none :: none :: none :: none :: none :: none :: none :: none :: none :: none :: none :: none :: none :: none :: none :: none :: none :: none :: none :: none :: none :: none :: none :: none :: none :: none :: none :: none :: none :: (some 0) :: (some 1) :: (some 2) :: (some 3) :: (some 4) :: (some 5) :: (some 6) :: none :: none :: none :: none :: none :: none :: none :: none :: none :: none :: none :: none :: none :: none :: none :: none :: none :: none :: none :: none :: none :: none :: none :: none :: none :: none :: none :: none :: none :: none :: none :: none :: none :: none :: none :: none :: none :: none :: none :: none :: none :: none :: none :: none :: none :: none :: none :: none :: none :: none :: none :: none :: none :: none :: none :: none :: none :: none :: none :: none :: none :: none :: none :: none :: none :: none :: none :: []) [73, 74, 75, 76, 77, 78, 79] (by rfl) (by kernel_rfl) (by kernel_rfl) ?_ ?_ ?_
        · intro S jx v hjx
          match jx, hjx with
          | 0, _ => rfl
          | 1, _ => rfl
          | 2, _ => rfl
          | 3, _ => rfl
          | 4, _ => rfl
          | 5, _ => rfl
          | 6, _ => rfl
          | nx + 7, hjx => omega
        · intro jx hjx S w' hb hd
          match jx, hjx, hd with
          | 0, _, hd =>
            simp only [GH.mkL, List.getD_cons_succ, List.getD_cons_zero]
            clear hd
            exact GH.st_loads _ [.int .i64 (m : Nat), .int .i64 (s : Nat), .int .i64 (sl : Nat), .int .i64 (p : Nat), .int .i64 (u : Nat)] (by rfl) rfl rfl (((X4.out.below hb.below X4.out.lt)).loads 0 _ (by rfl)) (by kernel_rfl) (by kernel_rfl)
          | 1, _, hd =>
            simp only [GH.mkL, List.getD_cons_succ, List.getD_cons_zero]
            clear hd
            refine GH.st_eq (by rfl) ?_
            go_simp
            (try with_reducible rfl)
          | 2, _, hd =>
            simp only [GH.mkL, List.getD_cons_succ, List.getD_cons_zero]
            clear hd
            refine GH.st_eq (by rfl) ?_
            go_simp
            (try with_reducible rfl)
          | 3, _, hd =>
            simp only [GH.mkL, List.getD_cons_succ, List.getD_cons_zero]
            have d1 : S 1 = .slice (some ⟨ab, ao, none⟩) n c := (hd 1 (by kernel_rfl)).2
            rw [d1]
            clear d1
            have d2 : S 2 = .int .i64 (i : Nat) := (hd 2 (by kernel_rfl)).2
            rw [d2]
            clear d2
            clear hd
            refine GH.st_eq (by rfl) ?_
            go_simp
            (try with_reducible rfl)
          | 4, _, hd =>
            simp only [GH.mkL, List.getD_cons_succ, List.getD_cons_zero]
            have d3 : S 3 = .pointer (some ⟨ab, ao + i * 3, none⟩) := (hd 3 (by kernel_rfl)).2
            rw [d3]
            clear d3
            clear hd
            refine GH.st_eq (by rfl) ?_
            go_simp
            (try with_reducible rfl)
          | 5, _, hd =>
            simp only [GH.mkL, List.getD_cons_succ, List.getD_cons_zero]
            have d4 : S 4 = .pointer (some ⟨ab, ao + i * 3 + 1, none⟩) := (hd 4 (by kernel_rfl)).2
            rw [d4]
            clear d4
            clear hd
            exact GH.st_load _ (by rfl) rfl rfl ((hb.below.cell (p := ⟨ab, ao + i * 3 + 1, none⟩) (Nat.lt_of_lt_of_le hab B4.out.size)).trans ((B4.out.cell (p := ⟨ab, ao + i * 3 + 1, none⟩) hab).trans Z1.out)) (by kernel_rfl)
          | 6, _, hd =>
            simp only [GH.mkL, List.getD_cons_succ, List.getD_cons_zero]
            have d0 : S 0 = .agg #[.int .i64 (m : Nat), .int .i64 (s : Nat), .int .i64 (sl : Nat), .int .i64 (p : Nat), .int .i64 (u : Nat)] := (hd 0 (by kernel_rfl)).2
            rw [d0]
            clear d0
            have d5 : S 5 = .int .i64 nn := (hd 5 (by kernel_rfl)).2
            rw [d5]
            clear d5
            clear hd
            refine GH.st_call (by rfl) hb.below.size (by go_simp) ((HS2.out w').mono ?_)
            rintro e w9 ⟨rfl, hb9⟩
            exact ⟨_, rfl, hb9, rfl⟩
          | nx + 7, hjx, _ => omega
        intro S w' hb hG
        simp only [GH.mkL, List.drop_succ_cons, List.drop_zero]
        have d6 : S 6 = .agg #[.int .i64 (m : Nat), .int .i64 (s : Nat), .int .i64 (sl : Nat), .int .i64 (p : Nat), .int .i64 (u5 : Nat)] := hG 6 (by omega)
        rw [d6]
        clear d6
        clear hG
        have KX := X4.out.below hb.below X4.out.lt
        have W5 := Lib.hid (Blk.below W4.out hb.below (Blk.lt W4.out))
        have B5 := Lib.hid (B4.out.trans (hb.below.mono B4.out.size))
        have f0 := KX.frozen 0
        have f1 := KX.frozen 1
        have f2 := KX.frozen 2
        have f3 := KX.frozen 3
        have f4 := KX.frozen 4
        obtain ⟨x0, x1, x2, x3, x4⟩ := ptc5 KX
        have X5 := Lib.hid KX
        clear KX hb W4 X4 B4
        go_upto_region 25 with fail
        have X6 := Lib.hid (show Blk (ptw5 w' xb (.int .i64 (m : Nat)) (.int .i64 (s : Nat)) (.int .i64 (sl : Nat)) (.int .i64 (p : Nat)) (.int .i64 (u5 : Nat))) xb 33 #[.int .i64 (m : Nat), .int .i64 (s : Nat), .int .i64 (sl : Nat), .int .i64 (p : Nat), .int .i64 (u5 : Nat)] from pt5 _ _ _ _ _ X5.out)
        have hs5 : Solo xb w' (ptw5 w' xb (.int .i64 (m : Nat)) (.int .i64 (s : Nat)) (.int .i64 (sl : Nat)) (.int .i64 (p : Nat)) (.int .i64 (u5 : Nat))) := pts5 _ _ _ _ _
        have W6 := Lib.hid (show Wn (ptw5 w' xb (.int .i64 (m : Nat)) (.int .i64 (s : Nat)) (.int .i64 (sl : Nat)) (.int .i64 (p : Nat)) (.int .i64 (u5 : Nat))) w.heap.size m s sl p u5 from hs5.blk W5.out (Nat.ne_of_lt HGX.out))
        have B6 := Lib.hid (B5.out.trans (hs5.1.mono (Nat.le_of_lt HGX.out)))
        clear hs5 W5 X5 B5 x0 x1 x2 x3 x4 f0 f1 f2 f3 f4
        unfold ptw5 at X6 W6 B6
        generalize (((((w'.setCell ⟨xb, 0, none⟩ (.int .i64 (m : Nat))).setCell ⟨xb, 1, none⟩ (.int .i64 (s : Nat))).setCell ⟨xb, 2, none⟩ (.int .i64 (sl : Nat))).setCell ⟨xb, 3, none⟩ (.int .i64 (p : Nat))).setCell ⟨xb, 4, none⟩ (.int .i64 (u5 : Nat))) = w6 at X6 W6 B6 ⊢
        clear Q1 Q2 HS2
        have hs6d : decide (s < m) = false := decide_eq_false (by have := HOK2.out.1.s1; omega)
        have hs7d : decide (M < s) = false := decide_eq_false (by have := HOK2.out.1.s2; have := HM.out; omega)
        have HR1 := Lib.hid fun (w' : World) (h : Wn w' w.heap.size m s sl p u5) => cwroom_any _ _ _ _ _ _ w' h HOK2.out.1.s3 HOK2.out.1.u2
        have HR2 := Lib.hid fun (w' : World) => rcwroom_any m s sl p u5 w' HOK2.out.1
        unfold cwv at HR2
        obtain ⟨rm, hrm⟩ : ∃ rm, rm = s - u5 := ⟨_, rfl⟩
        rw [← hrm] at HR1 HR2
        clear hrm
        go_upto_region 25 with fail
        refine GH.wp_ghl (M := false) 34 ((GH.SP.eq (.pointer (some ⟨w.heap.size, 0, none⟩))) :: (GH.SP.eq (.int .i64 (s : Nat))) :: (GH.SP.eq (.pointer (some ⟨xb, 1, none⟩))) :: (GH.SP.eq (.int .i64 (s : Nat))) :: (GH.SP.eq (.bool false)) :: (GH.SP.eq (.bool false)) :: (GH.SP.eq (.pointer (some ⟨w.heap.size, 0, none⟩))) :: (GH.SP.eq (.int .i64 (u5 : Nat))) :: (GH.SP.eq (.pointer (some ⟨xb, 4, none⟩))) :: (GH.SP.eq (.int .i64 (u5 : Nat))) :: (GH.SP.eq (.bool false)) :: (GH.SP.eq (.bool false)) :: (GH.SP.eq (.bool false)) :: (GH.SP.eq (.pointer (some ⟨w.heap.size, 0, none⟩))) :: (GH.SP.eq (.int .i64 (rm : Nat))) :: (GH.SP.eq (.agg #[.int .i64 (m : Nat), .int .i64 (s : Nat), .int .i64 (sl : Nat), .int .i64 (p : Nat), .int .i64 (u5 : Nat)])) :: (GH.SP.eq (.int .i64 (rm : Nat))) :: (GH.SP.eq (.bool false)) :: (GH.SP.eq (.bool false)) :: (GH.SP.eq (.bool false)) :: (GH.SP.eq (.pointer (some ⟨w.heap.size, 0, none⟩))) :: (GH.SP.eq (.int .i64 (s : Nat))) :: (GH.SP.eq (.pointer (some ⟨xb, 0, none⟩))) :: (GH.SP.eq (.int .i64 (m : Nat))) :: (GH.SP.eq (.bool false)) :: (GH.SP.eq (.bool false)) :: (GH.SP.eq (.bool false)) :: (GH.SP.eq (.pointer (some ⟨w.heap.size, 0, none⟩))) :: (GH.SP.eq (.int .i64 (s : Nat))) :: (GH.SP.eq (.pointer (some ⟨xb, 0, none⟩))) :: (GH.SP.eq (.int .i64 (m : Nat))) :: (GH.SP.eq (.int .i64 (M : Nat))) :: (GH.SP.eq (.bool false)) :: (GH.SP.eq (.bool false)) :: []) (none :: none :: none :: none :: none :: none :: none :: none :: none :: none :: none :: none :: none :: none :: none :: none :: none :: none :: none :: none :: none :: none :: none :: none :: none :: none :: none :: none :: none :: none :: none :: none :: none :: none :: none :: none :: none :: none :: none :: none :: none :: none :: none :: none :: none :: none :: none :: none :: none :: none :: none :: none :: none :: none :: none :: none :: none :: none :: none :: none :: none :: none :: none :: none :: none :: none :: none :: none :: none :: none :: none :: none :: none :: none :: none :: none :: none :: none :: none :: none :: none :: none :: none :: none :: none :: none :: none :: none :: none :: none :: none :: none :: none :: none :: none :: none :: none :: none :: none :: none :: none :: none :: none :: none :: none :: none :: none :: none :: none :: none :: none :: none :: (some 0) :: (some 1) :: (some 2) :: (some 3) :: (some 4) :: (some 5) :: (some 6) :: (some 7) :: (some 8) :: (some 9) :: (some 10) :: (some 11) :: (some 12) :: (some 13) :: (some 14) :: (some 15) :: (some 16) :: (some 17) :: (some 18) :: (some 19) :: (some 20) :: (some 21) :: (some 22) :: (some 23) :: (some 24) :: (some 25) :: (some 26) :: (some 27) :: (some 28) :: (some 29) :: (some 30) :: (some 31) :: (some 32) :: (some 33) :: none :: []) [112, 113, 114, 115, 116, 117, 118, 119, 120, 121, 122, 123, 124, 125, 126, 127, 128, 129, 130, 131, 132, 133, 134, 135, 136, 137, 138, 139, 140, 141, 142, 143, 144, 145] (by rfl) (by kernel_rfl) (by kernel_rfl) ?_ ?_ ?_
        · intro S jx v hjx
          match jx, hjx with
          | 0, _ => rfl
          | 1, _ => rfl
          | 2, _ => rfl
          | 3, _ => rfl
          | 4, _ => rfl
          | 5, _ => rfl
          | 6, _ => rfl
          | 7, _ => rfl
          | 8, _ => rfl
          | 9, _ => rfl
          | 10, _ => rfl
          | 11, _ => rfl
          | 12, _ => rfl
          | 13, _ => rfl
          | 14, _ => rfl
          | 15, _ => rfl
          | 16, _ => rfl
          | 17, _ => rfl
          | 18, _ => rfl
          | 19, _ => rfl
          | 20, _ => rfl
          | 21, _ => rfl
          | 22, _ => rfl
          | 23, _ => rfl
          | 24, _ => rfl
          | 25, _ => rfl
          | 26, _ => rfl
          | 27, _ => rfl
          | 28, _ => rfl
          | 29, _ => rfl
          | 30, _ => rfl
          | 31, _ => rfl
          | 32, _ => rfl
          | 33, _ => rfl
          | nx + 34, hjx => omega
        · intro jx hjx S w' hb hd
          match jx, hjx, hd with
          | 0, _, hd =>
            simp only [GH.mkL, List.getD_cons_succ, List.getD_cons_zero]
            clear hd
            refine GH.st_eq (by rfl) ?_
            go_simp
            (try with_reducible rfl)
          | 1, _, hd =>
            simp only [GH.mkL, List.getD_cons_succ, List.getD_cons_zero]
            have d0 : S 0 = .pointer (some ⟨w.heap.size, 0, none⟩) := (hd 0 (by kernel_rfl)).2
            rw [d0]
            clear d0
            clear hd
            refine GH.st_call (by rfl) hb.below.size (by go_simp) ((cwsize_anyB _ _ _ _ _ _ w' (Blk.below W6.out hb.below (Blk.lt W6.out))).mono ?_)
            rintro e w9 ⟨rfl, hb9⟩
            exact ⟨_, rfl, hb9, rfl⟩
          | 2, _, hd =>
            simp only [GH.mkL, List.getD_cons_succ, List.getD_cons_zero]
            clear hd
            refine GH.st_eq (by rfl) ?_
            go_simp
            (try with_reducible rfl)
          | 3, _, hd =>
            simp only [GH.mkL, List.getD_cons_succ, List.getD_cons_zero]
            have d2 : S 2 = .pointer (some ⟨xb, 1, none⟩) := (hd 2 (by kernel_rfl)).2
            rw [d2]
            clear d2
            clear hd
            exact GH.st_load _ (by rfl) rfl rfl (((X6.out.below hb.below X6.out.lt)).cell 1) (by kernel_rfl)
          | 4, _, hd =>
            simp only [GH.mkL, List.getD_cons_succ, List.getD_cons_zero]
            have d1 : S 1 = .int .i64 (s : Nat) := (hd 1 (by kernel_rfl)).2
            rw [d1]
            clear d1
            have d3 : S 3 = .int .i64 (s : Nat) := (hd 3 (by kernel_rfl)).2
            rw [d3]
            clear d3
            clear hd
            refine GH.st_eq (by rfl) ?_
            go_simp
            (try with_reducible rfl)
          | 5, _, hd =>
            simp only [GH.mkL, List.getD_cons_succ, List.getD_cons_zero]
            have d1 : S 1 = .int .i64 (s : Nat) := (hd 1 (by kernel_rfl)).2
            rw [d1]
            clear d1
            have d4 : S 4 = .bool false := (hd 4 (by kernel_rfl)).2
            rw [d4]
            clear d4
            clear hd
            refine GH.st_eq (by rfl) ?_
            go_simp
            (try with_reducible rfl)
          | 6, _, hd =>
            simp only [GH.mkL, List.getD_cons_succ, List.getD_cons_zero]
            have d5 : S 5 = .bool false := (hd 5 (by kernel_rfl)).2
            rw [d5]
            clear d5
            clear hd
            refine GH.st_eq (by rfl) ?_
            go_simp
            (try with_reducible rfl)
          | 7, _, hd =>
            simp only [GH.mkL, List.getD_cons_succ, List.getD_cons_zero]
            have d5 : S 5 = .bool false := (hd 5 (by kernel_rfl)).2
            rw [d5]
            clear d5
            have d6 : S 6 = .pointer (some ⟨w.heap.size, 0, none⟩) := (hd 6 (by kernel_rfl)).2
            rw [d6]
            clear d6
            clear hd
            refine GH.st_call (by rfl) hb.below.size (by go_simp) ((cwunder_anyB _ _ _ _ _ _ w' (Blk.below W6.out hb.below (Blk.lt W6.out))).mono ?_)
            rintro e w9 ⟨rfl, hb9⟩
            exact ⟨_, rfl, hb9, rfl⟩
          | 8, _, hd =>
            simp only [GH.mkL, List.getD_cons_succ, List.getD_cons_zero]
            have d5 : S 5 = .bool false := (hd 5 (by kernel_rfl)).2
            rw [d5]
            clear d5
            clear hd
            refine GH.st_eq (by rfl) ?_
            go_simp
            (try with_reducible rfl)
          | 9, _, hd =>
            simp only [GH.mkL, List.getD_cons_succ, List.getD_cons_zero]
            have d5 : S 5 = .bool false := (hd 5 (by kernel_rfl)).2
            rw [d5]
            clear d5
            have d8 : S 8 = .pointer (some ⟨xb, 4, none⟩) := (hd 8 (by kernel_rfl)).2
            rw [d8]
            clear d8
            clear hd
            exact GH.st_load _ (by rfl) rfl rfl (((X6.out.below hb.below X6.out.lt)).cell 4) (by kernel_rfl)
          | 10, _, hd =>
            simp only [GH.mkL, List.getD_cons_succ, List.getD_cons_zero]
            have d5 : S 5 = .bool false := (hd 5 (by kernel_rfl)).2
            rw [d5]
            clear d5
            have d7 : S 7 = .int .i64 (u5 : Nat) := (hd 7 (by kernel_rfl)).2
            rw [d7]
            clear d7
            have d9 : S 9 = .int .i64 (u5 : Nat) := (hd 9 (by kernel_rfl)).2
            rw [d9]
            clear d9
            clear hd
            refine GH.st_eq (by rfl) ?_
            go_simp
            (try with_reducible rfl)
          | 11, _, hd =>
            simp only [GH.mkL, List.getD_cons_succ, List.getD_cons_zero]
            have d5 : S 5 = .bool false := (hd 5 (by kernel_rfl)).2
            rw [d5]
            clear d5
            have d10 : S 10 = .bool false := (hd 10 (by kernel_rfl)).2
            rw [d10]
            clear d10
            clear hd
            refine GH.st_eq (by rfl) ?_
            go_simp
            (try with_reducible rfl)
          | 12, _, hd =>
            simp only [GH.mkL, List.getD_cons_succ, List.getD_cons_zero]
            have d7 : S 7 = .int .i64 (u5 : Nat) := (hd 7 (by kernel_rfl)).2
            rw [d7]
            clear d7
            have d11 : S 11 = .bool false := (hd 11 (by kernel_rfl)).2
            rw [d11]
            clear d11
            clear hd
            refine GH.st_eq (by rfl) ?_
            go_simp
            (try with_reducible rfl)
          | 13, _, hd =>
            simp only [GH.mkL, List.getD_cons_succ, List.getD_cons_zero]
            have d12 : S 12 = .bool false := (hd 12 (by kernel_rfl)).2
            rw [d12]
            clear d12
            clear hd
            refine GH.st_eq (by rfl) ?_
            go_simp
            (try with_reducible rfl)
          | 14, _, hd =>
            simp only [GH.mkL, List.getD_cons_succ, List.getD_cons_zero]
            have d12 : S 12 = .bool false := (hd 12 (by kernel_rfl)).2
            rw [d12]
            clear d12
            have d13 : S 13 = .pointer (some ⟨w.heap.size, 0, none⟩) := (hd 13 (by kernel_rfl)).2
            rw [d13]
            clear d13
            clear hd
            refine GH.st_call (by rfl) hb.below.size (by go_simp) ((HR1.out w' (Blk.below W6.out hb.below (Blk.lt W6.out))).mono ?_)
            rintro e w9 ⟨rfl, hb9⟩
            exact ⟨_, rfl, hb9, rfl⟩
          | 15, _, hd =>
            simp only [GH.mkL, List.getD_cons_succ, List.getD_cons_zero]
            have d12 : S 12 = .bool false := (hd 12 (by kernel_rfl)).2
            rw [d12]
            clear d12
            clear hd
            exact GH.st_loads _ [.int .i64 (m : Nat), .int .i64 (s : Nat), .int .i64 (sl : Nat), .int .i64 (p : Nat), .int .i64 (u5 : Nat)] (by rfl) rfl rfl (((X6.out.below hb.below X6.out.lt)).loads 0 _ (by rfl)) (by kernel_rfl) (by kernel_rfl)
          | 16, _, hd =>
            simp only [GH.mkL, List.getD_cons_succ, List.getD_cons_zero]
            have d12 : S 12 = .bool false := (hd 12 (by kernel_rfl)).2
            rw [d12]
            clear d12
            have d14 : S 14 = .int .i64 (rm : Nat) := (hd 14 (by kernel_rfl)).2
            rw [d14]
            clear d14
            have d15 : S 15 = .agg #[.int .i64 (m : Nat), .int .i64 (s : Nat), .int .i64 (sl : Nat), .int .i64 (p : Nat), .int .i64 (u5 : Nat)] := (hd 15 (by kernel_rfl)).2
            rw [d15]
            clear d15
            clear hd
            refine GH.st_call (by rfl) hb.below.size (by go_simp) ((HR2.out w').mono ?_)
            rintro e w9 ⟨rfl, hb9⟩
            exact ⟨_, rfl, hb9, rfl⟩
          | 17, _, hd =>
            simp only [GH.mkL, List.getD_cons_succ, List.getD_cons_zero]
            have d12 : S 12 = .bool false := (hd 12 (by kernel_rfl)).2
            rw [d12]
            clear d12
            have d14 : S 14 = .int .i64 (rm : Nat) := (hd 14 (by kernel_rfl)).2
            rw [d14]
            clear d14
            have d16 : S 16 = .int .i64 (rm : Nat) := (hd 16 (by kernel_rfl)).2
            rw [d16]
            clear d16
            clear hd
            refine GH.st_eq (by rfl) ?_
            go_simp
            (try with_reducible rfl)
          | 18, _, hd =>
            simp only [GH.mkL, List.getD_cons_succ, List.getD_cons_zero]
            have d12 : S 12 = .bool false := (hd 12 (by kernel_rfl)).2
            rw [d12]
            clear d12
            have d17 : S 17 = .bool false := (hd 17 (by kernel_rfl)).2
            rw [d17]
            clear d17
            clear hd
            refine GH.st_eq (by rfl) ?_
            go_simp
            (try with_reducible rfl)
          | 19, _, hd =>
            simp only [GH.mkL, List.getD_cons_succ, List.getD_cons_zero]
            have d16 : S 16 = .int .i64 (rm : Nat) := (hd 16 (by kernel_rfl)).2
            rw [d16]
            clear d16
            have d18 : S 18 = .bool false := (hd 18 (by kernel_rfl)).2
            rw [d18]
            clear d18
            clear hd
            refine GH.st_eq (by rfl) ?_
            go_simp
            (try with_reducible rfl)
          | 20, _, hd =>
            simp only [GH.mkL, List.getD_cons_succ, List.getD_cons_zero]
            have d19 : S 19 = .bool false := (hd 19 (by kernel_rfl)).2
            rw [d19]
            clear d19
            clear hd
            refine GH.st_eq (by rfl) ?_
            go_simp
            (try with_reducible rfl)
          | 21, _, hd =>
            simp only [GH.mkL, List.getD_cons_succ, List.getD_cons_zero]
            have d19 : S 19 = .bool false := (hd 19 (by kernel_rfl)).2
            rw [d19]
            clear d19
            have d20 : S 20 = .pointer (some ⟨w.heap.size, 0, none⟩) := (hd 20 (by kernel_rfl)).2
            rw [d20]
            clear d20
            clear hd
            refine GH.st_call (by rfl) hb.below.size (by go_simp) ((cwsize_anyB _ _ _ _ _ _ w' (Blk.below W6.out hb.below (Blk.lt W6.out))).mono ?_)
            rintro e w9 ⟨rfl, hb9⟩
            exact ⟨_, rfl, hb9, rfl⟩
          | 22, _, hd =>
            simp only [GH.mkL, List.getD_cons_succ, List.getD_cons_zero]
            have d19 : S 19 = .bool false := (hd 19 (by kernel_rfl)).2
            rw [d19]
            clear d19
            clear hd
            refine GH.st_eq (by rfl) ?_
            go_simp
            (try with_reducible rfl)
          | 23, _, hd =>
            simp only [GH.mkL, List.getD_cons_succ, List.getD_cons_zero]
            have d19 : S 19 = .bool false := (hd 19 (by kernel_rfl)).2
            rw [d19]
            clear d19
            have d22 : S 22 = .pointer (some ⟨xb, 0, none⟩) := (hd 22 (by kernel_rfl)).2
            rw [d22]
            clear d22
            clear hd
            exact GH.st_load _ (by rfl) rfl rfl (((X6.out.below hb.below X6.out.lt)).cell 0) (by kernel_rfl)
          | 24, _, hd =>
            simp only [GH.mkL, List.getD_cons_succ, List.getD_cons_zero]
            have d19 : S 19 = .bool false := (hd 19 (by kernel_rfl)).2
            rw [d19]
            clear d19
            have d21 : S 21 = .int .i64 (s : Nat) := (hd 21 (by kernel_rfl)).2
            rw [d21]
            clear d21
            have d23 : S 23 = .int .i64 (m : Nat) := (hd 23 (by kernel_rfl)).2
            rw [d23]
            clear d23
            clear hd
            refine GH.st_eq (by rfl) ?_
            go_simp
            (try simp only [hs6d])
            (try with_reducible rfl)
          | 25, _, hd =>
            simp only [GH.mkL, List.getD_cons_succ, List.getD_cons_zero]
            have d19 : S 19 = .bool false := (hd 19 (by kernel_rfl)).2
            rw [d19]
            clear d19
            have d24 : S 24 = .bool false := (hd 24 (by kernel_rfl)).2
            rw [d24]
            clear d24
            clear hd
            refine GH.st_eq (by rfl) ?_
            go_simp
            (try with_reducible rfl)
          | 26, _, hd =>
            simp only [GH.mkL, List.getD_cons_succ, List.getD_cons_zero]
            have d21 : S 21 = .int .i64 (s : Nat) := (hd 21 (by kernel_rfl)).2
            rw [d21]
            clear d21
            have d25 : S 25 = .bool false := (hd 25 (by kernel_rfl)).2
            rw [d25]
            clear d25
            clear hd
            refine GH.st_eq (by rfl) ?_
            go_simp
            (try with_reducible rfl)
          | 27, _, hd =>
            simp only [GH.mkL, List.getD_cons_succ, List.getD_cons_zero]
            have d26 : S 26 = .bool false := (hd 26 (by kernel_rfl)).2
            rw [d26]
            clear d26
            clear hd
            refine GH.st_eq (by rfl) ?_
            go_simp
            (try with_reducible rfl)
          | 28, _, hd =>
            simp only [GH.mkL, List.getD_cons_succ, List.getD_cons_zero]
            have d26 : S 26 = .bool false := (hd 26 (by kernel_rfl)).2
            rw [d26]
            clear d26
            have d27 : S 27 = .pointer (some ⟨w.heap.size, 0, none⟩) := (hd 27 (by kernel_rfl)).2
            rw [d27]
            clear d27
            clear hd
            refine GH.st_call (by rfl) hb.below.size (by go_simp) ((cwsize_anyB _ _ _ _ _ _ w' (Blk.below W6.out hb.below (Blk.lt W6.out))).mono ?_)
            rintro e w9 ⟨rfl, hb9⟩
            exact ⟨_, rfl, hb9, rfl⟩
          | 29, _, hd =>
            simp only [GH.mkL, List.getD_cons_succ, List.getD_cons_zero]
            have d26 : S 26 = .bool false := (hd 26 (by kernel_rfl)).2
            rw [d26]
            clear d26
            clear hd
            refine GH.st_eq (by rfl) ?_
            go_simp
            (try with_reducible rfl)
          | 30, _, hd =>
            simp only [GH.mkL, List.getD_cons_succ, List.getD_cons_zero]
            have d26 : S 26 = .bool false := (hd 26 (by kernel_rfl)).2
            rw [d26]
            clear d26
            have d29 : S 29 = .pointer (some ⟨xb, 0, none⟩) := (hd 29 (by kernel_rfl)).2
            rw [d29]
            clear d29
            clear hd
            exact GH.st_load _ (by rfl) rfl rfl (((X6.out.below hb.below X6.out.lt)).cell 0) (by kernel_rfl)
          | 31, _, hd =>
            simp only [GH.mkL, List.getD_cons_succ, List.getD_cons_zero]
            have d26 : S 26 = .bool false := (hd 26 (by kernel_rfl)).2
            rw [d26]
            clear d26
            have d30 : S 30 = .int .i64 (m : Nat) := (hd 30 (by kernel_rfl)).2
            rw [d30]
            clear d30
            clear hd
            refine GH.st_eq (by rfl) ?_
            go_simp
            (try simp only [eM, wM])
            (try with_reducible rfl)
          | 32, _, hd =>
            simp only [GH.mkL, List.getD_cons_succ, List.getD_cons_zero]
            have d26 : S 26 = .bool false := (hd 26 (by kernel_rfl)).2
            rw [d26]
            clear d26
            have d28 : S 28 = .int .i64 (s : Nat) := (hd 28 (by kernel_rfl)).2
            rw [d28]
            clear d28
            have d31 : S 31 = .int .i64 (M : Nat) := (hd 31 (by kernel_rfl)).2
            rw [d31]
            clear d31
            clear hd
            refine GH.st_eq (by rfl) ?_
            go_simp
            (try simp only [hs7d])
            (try with_reducible rfl)
          | 33, _, hd =>
            simp only [GH.mkL, List.getD_cons_succ, List.getD_cons_zero]
            have d26 : S 26 = .bool false := (hd 26 (by kernel_rfl)).2
            rw [d26]
            clear d26
            have d32 : S 32 = .bool false := (hd 32 (by kernel_rfl)).2
            rw [d32]
            clear d32
            clear hd
            refine GH.st_eq (by rfl) ?_
            go_simp
            (try with_reducible rfl)
          | nx + 34, hjx, _ => omega
        intro S w' hb hG
        simp only [GH.mkL, List.drop_succ_cons, List.drop_zero]
        have d33 : S 33 = .bool false := hG 33 (by omega)
        rw [d33]
        clear d33
        clear hG
        have W7 := Lib.hid (Blk.below W6.out hb.below (Blk.lt W6.out))
        have X7 := Lib.hid (X6.out.below hb.below X6.out.lt)
        have B7 := Lib.hid (B6.out.trans (hb.below.mono B6.out.size))
        clear hb W6 X6 B6 hs6d hs7d
        refine wpList_nil ?_
        go_wp2_with fail
        go_roundw
        case rel => exact ⟨i + 1, s, sl, p, u5, by omega, by go_num, HOK2, W7, X7, B7⟩
        case measure => simp [intOf]; omega
      by_cases hq5 : q = 5
      · subst hq5
        clear hq0
        clear hq1
        have HS1 := Lib.hid (cwlost_any w.heap.size m s sl p u nn wr HW.out HOK.out.1 HO.out.n.wf)
        have HS2 := Lib.hid fun w' => rcwlost_any m s sl p u nn w' HOK.out.1 HO.out.n.wf
        obtain ⟨u5, hu5⟩ : ∃ u5, u5 = u - bdB nn := ⟨_, rfl⟩
        rw [← hu5] at HS1 HS2
        obtain ⟨sl5, hsl5⟩ : ∃ sl5, sl5 = max (s / 2) (2 * m) := ⟨_, rfl⟩
        rw [← hsl5] at HS1 HS2
        have HOK2 := Lib.hid (show WOk m m sl5 0 u5 ∧ u5 ≤ 1024 * (i + 1) from ⟨by rw [hu5, hsl5]; exact HOK.out.1.lost, by have := HOK.out.2; omega⟩)
        unfold cwv at HS2
        clear hu5 hsl5
        go_wp2_with fail
        refine HS1.out.mono ?_
        rintro e w4 ⟨rfl, h4, t4⟩
        have W4 := Lib.hid h4
        have X4 := Lib.hid (t4.blk HX.out (Nat.ne_of_gt HGX.out))
        have B4 := Lib.hid (BB.out.trans t4.1)
        have Q1 := (B4.out.cell (p := ⟨ab, ao + i * 3 + 1, none⟩) hab).trans Z1.out
        have Q2 := (B4.out.cell (p := ⟨ab, ao + i * 3 + 2, none⟩) hab).trans Z2.out
        clear h4 t4 HS1 HW HX BB
        go_upto_region 21 with fail
        refine GH.wp_ghl (M := false) 7 ((GH.SP.eq (.agg #[.int .i64 (m : Nat), .int .i64 (s : Nat), .int .i64 (sl : Nat), .int .i64 (p : Nat), .int .i64 (u : Nat)])) :: (GH.SP.eq (.slice (some ⟨ab, ao, none⟩) n c)) :: (GH.SP.eq (.int .i64 (i : Nat))) :: (GH.SP.eq (.pointer (some ⟨ab, ao + i * 3, none⟩))) :: (GH.SP.eq (.pointer (some ⟨ab, ao + i * 3 + 1, none⟩))) :: (GH.SP.eq (.int .i64 nn)) :: (GH.SP.eq (.agg #[.int .i64 (m : Nat), .int .i64 (m : Nat), .int .i64 (sl5 : Nat), .int .i64 (0 : Nat), .int .i64 (u5 : Nat)])) :: []) (none :: none :: none :: none :: none :: none :: none :: none :: none :: none :: none :: none :: none :: none :: none :: none :: none :: none :: none :: none :: none :: none :: none :: none :: none :: none :: none :: none :: none :: none :: none :: none :: none :: none :: none :: none :: none :: none :: none :: none :: none :: none :: none :: none :: none :: none :: none :: none :: none :: none :: none :: none :: none :: none :: none :: none :: none :: none :: none :: none :: none :: none :: none :: none :: none :: none :: none :: none :: none :: none :: none :: none :: none :: none :: none :: none :: none :: none :: none :: none :: none :: none :: none :: none :: none :: none :: none :: none :: none :: (some 0) :: (some 1) :: (some 2) :: (some 3) :: (some 4) :: (some 5) :: (some 6) :: none :: none :: none :: none :: none :: none :: none :: none :: none :: none :: none :: none :: none :: none :: none :: none :: none :: none :: none :: none :: none :: none :: none :: none :: none :: none :: none :: none :: none :: none :: none :: none :: none :: none :: none :: none :: none :: none :: none :: none :: none :: none :: none :: none :: none :: none :: none :: none :: none :: none :: none :: []) [89, 90, 91, 92, 93, 94, 95] (by rfl) (by kernel_rfl) (by kernel_rfl) ?_ ?_ ?_
        · intro S jx v hjx
          match jx, hjx with
          | 0, _ => rfl
          | 1, _ => rfl
          | 2, _ => rfl
          | 3, _ => rfl
          | 4, _ => rfl
          | 5, _ => rfl
          | 6, _ => rfl
          | nx + 7, hjx => omega
        · intro jx hjx S w' hb hd
          match jx, hjx, hd with
          | 0, _, hd =>
            simp only [GH.mkL, List.getD_cons_succ, List.getD_cons_zero]
            clear hd
            exact GH.st_loads _ [.int .i64 (m : Nat), .int .i64 (s : Nat), .int .i64 (sl : Nat), .int .i64 (p : Nat), .int .i64 (u : Nat)] (by rfl) rfl rfl (((X4.out.below hb.below X4.out.lt)).loads 0 _ (by rfl)) (by kernel_rfl) (by kernel_rfl)
          | 1, _, hd =>
            simp only [GH.mkL, List.getD_cons_succ, List.getD_cons_zero]
            clear hd
            refine GH.st_eq (by rfl) ?_
            go_simp
            (try with_reducible rfl)
          | 2, _, hd =>
            simp only [GH.mkL, List.getD_cons_succ, List.getD_cons_zero]
            clear hd
            refine GH.st_eq (by rfl) ?_
            go_simp
            (try with_reducible rfl)
          | 3, _, hd =>
            simp only [GH.mkL, List.getD_cons_succ, List.getD_cons_zero]
            have d1 : S 1 = .slice (some ⟨ab, ao, none⟩) n c := (hd 1 (by kernel_rfl)).2
            rw [d1]
            clear d1
            have d2 : S 2 = .int .i64 (i : Nat) := (hd 2 (by kernel_rfl)).2
            rw [d2]
            clear d2
            clear hd
            refine GH.st_eq (by rfl) ?_
            go_simp
            (try with_reducible rfl)
          | 4, _, hd =>
            simp only [GH.mkL, List.getD_cons_succ, List.getD_cons_zero]
            have d3 : S 3 = .pointer (some ⟨ab, ao + i * 3, none⟩) := (hd 3 (by kernel_rfl)).2
            rw [d3]
            clear d3
            clear hd
            refine GH.st_eq (by rfl) ?_
            go_simp
            (try with_reducible rfl)
          | 5, _, hd =>
            simp only [GH.mkL, List.getD_cons_succ, List.getD_cons_zero]
            have d4 : S 4 = .pointer (some ⟨ab, ao + i * 3 + 1, none⟩) := (hd 4 (by kernel_rfl)).2
            rw [d4]
            clear d4
            clear hd
            exact GH.st_load _ (by rfl) rfl rfl ((hb.below.cell (p := ⟨ab, ao + i * 3 + 1, none⟩) (Nat.lt_of_lt_of_le hab B4.out.size)).trans ((B4.out.cell (p := ⟨ab, ao + i * 3 + 1, none⟩) hab).trans Z1.out)) (by kernel_rfl)
          | 6, _, hd =>
            simp only [GH.mkL, List.getD_cons_succ, List.getD_cons_zero]
            have d0 : S 0 = .agg #[.int .i64 (m : Nat), .int .i64 (s : Nat), .int .i64 (sl : Nat), .int .i64 (p : Nat), .int .i64 (u : Nat)] := (hd 0 (by kernel_rfl)).2
            rw [d0]
            clear d0
            have d5 : S 5 = .int .i64 nn := (hd 5 (by kernel_rfl)).2
            rw [d5]
            clear d5
            clear hd
            refine GH.st_call (by rfl) hb.below.size (by go_simp) ((HS2.out w').mono ?_)
            rintro e w9 ⟨rfl, hb9⟩
            exact ⟨_, rfl, hb9, rfl⟩
          | nx + 7, hjx, _ => omega
        intro S w' hb hG
        simp only [GH.mkL, List.drop_succ_cons, List.drop_zero]
        have d6 : S 6 = .agg #[.int .i64 (m : Nat), .int .i64 (m : Nat), .int .i64 (sl5 : Nat), .int .i64 (0 : Nat), .int .i64 (u5 : Nat)] := hG 6 (by omega)
        rw [d6]
        clear d6
        clear hG
        have KX := X4.out.below hb.below X4.out.lt
        have W5 := Lib.hid (Blk.below W4.out hb.below (Blk.lt W4.out))
        have B5 := Lib.hid (B4.out.trans (hb.below.mono B4.out.size))
        have f0 := KX.frozen 0
        have f1 := KX.frozen 1
        have f2 := KX.frozen 2
        have f3 := KX.frozen 3
        have f4 := KX.frozen 4
        obtain ⟨x0, x1, x2, x3, x4⟩ := ptc5 KX
        have X5 := Lib.hid KX
        clear KX hb W4 X4 B4
        go_upto_region 25 with fail
        have X6 := Lib.hid (show Blk (ptw5 w' xb (.int .i64 (m : Nat)) (.int .i64 (m : Nat)) (.int .i64 (sl5 : Nat)) (.int .i64 (0 : Nat)) (.int .i64 (u5 : Nat))) xb 33 #[.int .i64 (m : Nat), .int .i64 (m : Nat), .int .i64 (sl5 : Nat), .int .i64 (0 : Nat), .int .i64 (u5 : Nat)] from pt5 _ _ _ _ _ X5.out)
        have hs5 : Solo xb w' (ptw5 w' xb (.int .i64 (m : Nat)) (.int .i64 (m : Nat)) (.int .i64 (sl5 : Nat)) (.int .i64 (0 : Nat)) (.int .i64 (u5 : Nat))) := pts5 _ _ _ _ _
        have W6 := Lib.hid (show Wn (ptw5 w' xb (.int .i64 (m : Nat)) (.int .i64 (m : Nat)) (.int .i64 (sl5 : Nat)) (.int .i64 (0 : Nat)) (.int .i64 (u5 : Nat))) w.heap.size m m sl5 0 u5 from hs5.blk W5.out (Nat.ne_of_lt HGX.out))
        have B6 := Lib.hid (B5.out.trans (hs5.1.mono (Nat.le_of_lt HGX.out)))
        clear hs5 W5 X5 B5 x0 x1 x2 x3 x4 f0 f1 f2 f3 f4
        unfold ptw5 at X6 W6 B6
        generalize (((((w'.setCell ⟨xb, 0, none⟩ (.int .i64 (m : Nat))).setCell ⟨xb, 1, none⟩ (.int .i64 (m : Nat))).setCell ⟨xb, 2, none⟩ (.int .i64 (sl5 : Nat))).setCell ⟨xb, 3, none⟩ (.int .i64 (0 : Nat))).setCell ⟨xb, 4, none⟩ (.int .i64 (u5 : Nat))) = w6 at X6 W6 B6 ⊢
        clear Q1 Q2 HS2
        have hs6d : decide (m < m) = false := decide_eq_false (by have := HOK2.out.1.s1; omega)
        have hs7d : decide (M < m) = false := decide_eq_false (by have := HOK2.out.1.s2; have := HM.out; omega)
        have HR1 := Lib.hid fun (w' : World) (h : Wn w' w.heap.size m m sl5 0 u5) => cwroom_any _ _ _ _ _ _ w' h HOK2.out.1.s3 HOK2.out.1.u2
        have HR2 := Lib.hid fun (w' : World) => rcwroom_any m m sl5 0 u5 w' HOK2.out.1
        unfold cwv at HR2
        obtain ⟨rm, hrm⟩ : ∃ rm, rm = m - u5 := ⟨_, rfl⟩
        rw [← hrm] at HR1 HR2
        clear hrm
        go_upto_region 25 with fail
        refine GH.wp_ghl (M := false) 34 ((GH.SP.eq (.pointer (some ⟨w.heap.size, 0, none⟩))) :: (GH.SP.eq (.int .i64 (m : Nat))) :: (GH.SP.eq (.pointer (some ⟨xb, 1, none⟩))) :: (GH.SP.eq (.int .i64 (m : Nat))) :: (GH.SP.eq (.bool false)) :: (GH.SP.eq (.bool false)) :: (GH.SP.eq (.pointer (some ⟨w.heap.size, 0, none⟩))) :: (GH.SP.eq (.int .i64 (u5 : Nat))) :: (GH.SP.eq (.pointer (some ⟨xb, 4, none⟩))) :: (GH.SP.eq (.int .i64 (u5 : Nat))) :: (GH.SP.eq (.bool false)) :: (GH.SP.eq (.bool false)) :: (GH.SP.eq (.bool false)) :: (GH.SP.eq (.pointer (some ⟨w.heap.size, 0, none⟩))) :: (GH.SP.eq (.int .i64 (rm : Nat))) :: (GH.SP.eq (.agg #[.int .i64 (m : Nat), .int .i64 (m : Nat), .int .i64 (sl5 : Nat), .int .i64 (0 : Nat), .int .i64 (u5 : Nat)])) :: (GH.SP.eq (.int .i64 (rm : Nat))) :: (GH.SP.eq (.bool false)) :: (GH.SP.eq (.bool false)) :: (GH.SP.eq (.bool false)) :: (GH.SP.eq (.pointer (some ⟨w.heap.size, 0, none⟩))) :: (GH.SP.eq (.int .i64 (m : Nat))) :: (GH.SP.eq (.pointer (some ⟨xb, 0, none⟩))) :: (GH.SP.eq (.int .i64 (m : Nat))) :: (GH.SP.eq (.bool false)) :: (GH.SP.eq (.bool false)) :: (GH.SP.eq (.bool false)) :: (GH.SP.eq (.pointer (some ⟨w.heap.size, 0, none⟩))) :: (GH.SP.eq (.int .i64 (m : Nat))) :: (GH.SP.eq (.pointer (some ⟨xb, 0, none⟩))) :: (GH.SP.eq (.int .i64 (m : Nat))) :: (GH.SP.eq (.int .i64 (M : Nat))) :: (GH.SP.eq (.bool false)) :: (GH.SP.eq (.bool false)) :: []) (none :: none :: none :: none :: none :: none :: none :: none :: none :: none :: none :: none :: none :: none :: none :: none :: none :: none :: none :: none :: none :: none :: none :: none :: none :: none :: none :: none :: none :: none :: none :: none :: none :: none :: none :: none :: none :: none :: none :: none :: none :: none :: none :: none :: none :: none :: none :: none :: none :: none :: none :: none :: none :: none :: none :: none :: none :: none :: none :: none :: none :: none :: none :: none :: none :: none :: none :: none :: none :: none :: none :: none :: none :: none :: none :: none :: none :: none :: none :: none :: none :: none :: none :: none :: none :: none :: none :: none :: none :: none :: none :: none :: none :: none :: none :: none :: none :: none :: none :: none :: none :: none :: none :: none :: none :: none :: none :: none :: none :: none :: none :: none :: (some 0) :: (some 1) :: (some 2) :: (some 3) :: (some 4) :: (some 5) :: (some 6) :: (some 7) :: (some 8) :: (some 9) :: (some 10) :: (some 11) :: (some 12) :: (some 13) :: (some 14) :: (some 15) :: (some 16) :: (some 17) :: (some 18) :: (some 19) :: (some 20) :: (some 21) :: (some 22) :: (some 23) :: (some 24) :: (some 25) :: (some 26) :: (some 27) :: (some 28) :: (some 29) :: (some 30) :: (some 31) :: (some 32) :: (some 33) :: none :: []) [112, 113, 114, 115, 116, 117, 118, 119, 120, 121, 122, 123, 124, 125, 126, 127, 128, 129, 130, 131, 132, 133, 134, 135, 136, 137, 138, 139, 140, 141, 142, 143, 144, 145] (by rfl) (by kernel_rfl) (by kernel_rfl) ?_ ?_ ?_
        · intro S jx v hjx
          match jx, hjx with
          | 0, _ => rfl
          | 1, _ => rfl
          | 2, _ => rfl
          | 3, _ => rfl
          | 4, _ => rfl
          | 5, _ => rfl
          | 6, _ => rfl
          | 7, _ => rfl
          | 8, _ => rfl
          | 9, _ => rfl
          | 10, _ => rfl
          | 11, _ => rfl
          | 12, _ => rfl
          | 13, _ => rfl
          | 14, _ => rfl
          | 15, _ => rfl
          | 16, _ => rfl
          | 17, _ => rfl
          | 18, _ => rfl
          | 19, _ => rfl
          | 20, _ => rfl
          | 21, _ => rfl
          | 22, _ => rfl
          | 23, _ => rfl
          | 24, _ => rfl
          | 25, _ => rfl
          | 26, _ => rfl
          | 27, _ => rfl
          | 28, _ => rfl
          | 29, _ => rfl
          | 30, _ => rfl
          | 31, _ => rfl
          | 32, _ => rfl
          | 33, _ => rfl
          | nx + 34, hjx => omega
        · intro jx hjx S w' hb hd
          match jx, hjx, hd with
          | 0, _, hd =>
            simp only [GH.mkL, List.getD_cons_succ, List.getD_cons_zero]
            clear hd
            refine GH.st_eq (by rfl) ?_
            go_simp
            (try with_reducible rfl)
          | 1, _, hd =>
            simp only [GH.mkL, List.getD_cons_succ, List.getD_cons_zero]
            have d0 : S 0 = .pointer (some ⟨w.heap.size, 0, none⟩) := (hd 0 (by kernel_rfl)).2
            rw [d0]
            clear d0
            clear hd
            refine GH.st_call (by rfl) hb.below.size (by go_simp) ((cwsize_anyB _ _ _ _ _ _ w' (Blk.below W6.out hb.below (Blk.lt W6.out))).mono ?_)
            rintro e w9 ⟨rfl, hb9⟩
            exact ⟨_, rfl, hb9, rfl⟩
          | 2, _, hd =>
            simp only [GH.mkL, List.getD_cons_succ, List.getD_cons_zero]
            clear hd
            refine GH.st_eq (by rfl) ?_
            go_simp
            (try with_reducible rfl)
          | 3, _, hd =>
            simp only [GH.mkL, List.getD_cons_succ, List.getD_cons_zero]
            have d2 : S 2 = .pointer (some ⟨xb, 1, none⟩) := (hd 2 (by kernel_rfl)).2
            rw [d2]
            clear d2
            clear hd
            exact GH.st_load _ (by rfl) rfl rfl (((X6.out.below hb.below X6.out.lt)).cell 1) (by kernel_rfl)
          | 4, _, hd =>
            simp only [GH.mkL, List.getD_cons_succ, List.getD_cons_zero]
            have d1 : S 1 = .int .i64 (m : Nat) := (hd 1 (by kernel_rfl)).2
            rw [d1]
            clear d1
            have d3 : S 3 = .int .i64 (m : Nat) := (hd 3 (by kernel_rfl)).2
            rw [d3]
            clear d3
            clear hd
            refine GH.st_eq (by rfl) ?_
            go_simp
            (try with_reducible rfl)
          | 5, _, hd =>
            simp only [GH.mkL, List.getD_cons_succ, List.getD_cons_zero]
            have d1 : S 1 = .int .i64 (m : Nat) := (hd 1 (by kernel_rfl)).2
            rw [d1]
            clear d1
            have d4 : S 4 = .bool false := (hd 4 (by kernel_rfl)).2
            rw [d4]
            clear d4
            clear hd
            refine GH.st_eq (by rfl) ?_
            go_simp
            (try with_reducible rfl)
          | 6, _, hd =>
            simp only [GH.mkL, List.getD_cons_succ, List.getD_cons_zero]
            have d5 : S 5 = .bool false := (hd 5 (by kernel_rfl)).2
            rw [d5]
            clear d5
            clear hd
            refine GH.st_eq (by rfl) ?_
            go_simp
            (try with_reducible rfl)
          | 7, _, hd =>
            simp only [GH.mkL, List.getD_cons_succ, List.getD_cons_zero]
            have d5 : S 5 = .bool false := (hd 5 (by kernel_rfl)).2
            rw [d5]
            clear d5
            have d6 : S 6 = .pointer (some ⟨w.heap.size, 0, none⟩) := (hd 6 (by kernel_rfl)).2
            rw [d6]
            clear d6
            clear hd
            refine GH.st_call (by rfl) hb.below.size (by go_simp) ((cwunder_anyB _ _ _ _ _ _ w' (Blk.below W6.out hb.below (Blk.lt W6.out))).mono ?_)
            rintro e w9 ⟨rfl, hb9⟩
            exact ⟨_, rfl, hb9, rfl⟩
          | 8, _, hd =>
            simp only [GH.mkL, List.getD_cons_succ, List.getD_cons_zero]
            have d5 : S 5 = .bool false := (hd 5 (by kernel_rfl)).2
            rw [d5]
            clear d5
            clear hd
            refine GH.st_eq (by rfl) ?_
            go_simp
            (try with_reducible rfl)
          | 9, _, hd =>
            simp only [GH.mkL, List.getD_cons_succ, List.getD_cons_zero]
            have d5 : S 5 = .bool false := (hd 5 (by kernel_rfl)).2
            rw [d5]
            clear d5
            have d8 : S 8 = .pointer (some ⟨xb, 4, none⟩) := (hd 8 (by kernel_rfl)).2
            rw [d8]
            clear d8
            clear hd
            exact GH.st_load _ (by rfl) rfl rfl (((X6.out.below hb.below X6.out.lt)).cell 4) (by kernel_rfl)
          | 10, _, hd =>
            simp only [GH.mkL, List.getD_cons_succ, List.getD_cons_zero]
            have d5 : S 5 = .bool false := (hd 5 (by kernel_rfl)).2
            rw [d5]
            clear d5
            have d7 : S 7 = .int .i64 (u5 : Nat) := (hd 7 (by kernel_rfl)).2
            rw [d7]
            clear d7
            have d9 : S 9 = .int .i64 (u5 : Nat) := (hd 9 (by kernel_rfl)).2
            rw [d9]
            clear d9
            clear hd
            refine GH.st_eq (by rfl) ?_
            go_simp
            (try with_reducible rfl)
          | 11, _, hd =>
            simp only [GH.mkL, List.getD_cons_succ, List.getD_cons_zero]
            have d5 : S 5 = .bool false := (hd 5 (by kernel_rfl)).2
            rw [d5]
            clear d5
            have d10 : S 10 = .bool false := (hd 10 (by kernel_rfl)).2
            rw [d10]
            clear d10
            clear hd
            refine GH.st_eq (by rfl) ?_
            go_simp
            (try with_reducible rfl)
          | 12, _, hd =>
            simp only [GH.mkL, List.getD_cons_succ, List.getD_cons_zero]
            have d7 : S 7 = .int .i64 (u5 : Nat) := (hd 7 (by kernel_rfl)).2
            rw [d7]
            clear d7
            have d11 : S 11 = .bool false := (hd 11 (by kernel_rfl)).2
            rw [d11]
            clear d11
            clear hd
            refine GH.st_eq (by rfl) ?_
            go_simp
            (try with_reducible rfl)
          | 13, _, hd =>
            simp only [GH.mkL, List.getD_cons_succ, List.getD_cons_zero]
            have d12 : S 12 = .bool false := (hd 12 (by kernel_rfl)).2
            rw [d12]
            clear d12
            clear hd
            refine GH.st_eq (by rfl) ?_
            go_simp
            (try with_reducible rfl)
          | 14, _, hd =>
            simp only [GH.mkL, List.getD_cons_succ, List.getD_cons_zero]
            have d12 : S 12 = .bool false := (hd 12 (by kernel_rfl)).2
            rw [d12]
            clear d12
            have d13 : S 13 = .pointer (some ⟨w.heap.size, 0, none⟩) := (hd 13 (by kernel_rfl)).2
            rw [d13]
            clear d13
            clear hd
            refine GH.st_call (by rfl) hb.below.size (by go_simp) ((HR1.out w' (Blk.below W6.out hb.below (Blk.lt W6.out))).mono ?_)
            rintro e w9 ⟨rfl, hb9⟩
            exact ⟨_, rfl, hb9, rfl⟩
          | 15, _, hd =>
            simp only [GH.mkL, List.getD_cons_succ, List.getD_cons_zero]
            have d12 : S 12 = .bool false := (hd 12 (by kernel_rfl)).2
            rw [d12]
            clear d12
            clear hd
            exact GH.st_loads _ [.int .i64 (m : Nat), .int .i64 (m : Nat), .int .i64 (sl5 : Nat), .int .i64 (0 : Nat), .int .i64 (u5 : Nat)] (by rfl) rfl rfl (((X6.out.below hb.below X6.out.lt)).loads 0 _ (by rfl)) (by kernel_rfl) (by kernel_rfl)
          | 16, _, hd =>
            simp only [GH.mkL, List.getD_cons_succ, List.getD_cons_zero]
            have d12 : S 12 = .bool false := (hd 12 (by kernel_rfl)).2
            rw [d12]
            clear d12
            have d14 : S 14 = .int .i64 (rm : Nat) := (hd 14 (by kernel_rfl)).2
            rw [d14]
            clear d14
            have d15 : S 15 = .agg #[.int .i64 (m : Nat), .int .i64 (m : Nat), .int .i64 (sl5 : Nat), .int .i64 (0 : Nat), .int .i64 (u5 : Nat)] := (hd 15 (by kernel_rfl)).2
            rw [d15]
            clear d15
            clear hd
            refine GH.st_call (by rfl) hb.below.size (by go_simp) ((HR2.out w').mono ?_)
            rintro e w9 ⟨rfl, hb9⟩
            exact ⟨_, rfl, hb9, rfl⟩
          | 17, _, hd =>
            simp only [GH.mkL, List.getD_cons_succ, List.getD_cons_zero]
            have d12 : S 12 = .bool false := (hd 12 (by kernel_rfl)).2
            rw [d12]
            clear d12
            have d14 : S 14 = .int .i64 (rm : Nat) := (hd 14 (by kernel_rfl)).2
            rw [d14]
            clear d14
            have d16 : S 16 = .int .i64 (rm : Nat) := (hd 16 (by kernel_rfl)).2
            rw [d16]
            clear d16
            clear hd
            refine GH.st_eq (by rfl) ?_
            go_simp
            (try with_reducible rfl)
          | 18, _, hd =>
            simp only [GH.mkL, List.getD_cons_succ, List.getD_cons_zero]
            have d12 : S 12 = .bool false := (hd 12 (by kernel_rfl)).2
            rw [d12]
            clear d12
            have d17 : S 17 = .bool false := (hd 17 (by kernel_rfl)).2
            rw [d17]
            clear d17
            clear hd
            refine GH.st_eq (by rfl) ?_
            go_simp
            (try with_reducible rfl)
          | 19, _, hd =>
            simp only [GH.mkL, List.getD_cons_succ, List.getD_cons_zero]
            have d16 : S 16 = .int .i64 (rm : Nat) := (hd 16 (by kernel_rfl)).2
            rw [d16]
            clear d16
            have d18 : S 18 = .bool false := (hd 18 (by kernel_rfl)).2
            rw [d18]
            clear d18
            clear hd
            refine GH.st_eq (by rfl) ?_
            go_simp
            (try with_reducible rfl)
          | 20, _, hd =>
            simp only [GH.mkL, List.getD_cons_succ, List.getD_cons_zero]
            have d19 : S 19 = .bool false := (hd 19 (by kernel_rfl)).2
            rw [d19]
            clear d19
            clear hd
            refine GH.st_eq (by rfl) ?_
            go_simp
            (try with_reducible rfl)
          | 21, _, hd =>
            simp only [GH.mkL, List.getD_cons_succ, List.getD_cons_zero]
            have d19 : S 19 = .bool false := (hd 19 (by kernel_rfl)).2
            rw [d19]
            clear d19
            have d20 : S 20 = .pointer (some ⟨w.heap.size, 0, none⟩) := (hd 20 (by kernel_rfl)).2
            rw [d20]
            clear d20
            clear hd
            refine GH.st_call (by rfl) hb.below.size (by go_simp) ((cwsize_anyB _ _ _ _ _ _ w' (Blk.below W6.out hb.below (Blk.lt W6.out))).mono ?_)
            rintro e w9 ⟨rfl, hb9⟩
            exact ⟨_, rfl, hb9, rfl⟩
          | 22, _, hd =>
            simp only [GH.mkL, List.getD_cons_succ, List.getD_cons_zero]
            have d19 : S 19 = .bool false := (hd 19 (by kernel_rfl)).2
            rw [d19]
            clear d19
            clear hd
            refine GH.st_eq (by rfl) ?_
            go_simp
            (try with_reducible rfl)
          | 23, _, hd =>
            simp only [GH.mkL, List.getD_cons_succ, List.getD_cons_zero]
            have d19 : S 19 = .bool false := (hd 19 (by kernel_rfl)).2
            rw [d19]
            clear d19
            have d22 : S 22 = .pointer (some ⟨xb, 0, none⟩) := (hd 22 (by kernel_rfl)).2
            rw [d22]
            clear d22
            clear hd
            exact GH.st_load _ (by rfl) rfl rfl (((X6.out.below hb.below X6.out.lt)).cell 0) (by kernel_rfl)
          | 24, _, hd =>
            simp only [GH.mkL, List.getD_cons_succ, List.getD_cons_zero]
            have d19 : S 19 = .bool false := (hd 19 (by kernel_rfl)).2
            rw [d19]
            clear d19
            have d21 : S 21 = .int .i64 (m : Nat) := (hd 21 (by kernel_rfl)).2
            rw [d21]
            clear d21
            have d23 : S 23 = .int .i64 (m : Nat) := (hd 23 (by kernel_rfl)).2
            rw [d23]
            clear d23
            clear hd
            refine GH.st_eq (by rfl) ?_
            go_simp
            (try simp only [hs6d])
            (try with_reducible rfl)
          | 25, _, hd =>
            simp only [GH.mkL, List.getD_cons_succ, List.getD_cons_zero]
            have d19 : S 19 = .bool false := (hd 19 (by kernel_rfl)).2
            rw [d19]
            clear d19
            have d24 : S 24 = .bool false := (hd 24 (by kernel_rfl)).2
            rw [d24]
            clear d24
            clear hd
            refine GH.st_eq (by rfl) ?_
            go_simp
            (try with_reducible rfl)
          | 26, _, hd =>
            simp only [GH.mkL, List.getD_cons_succ, List.getD_cons_zero]
            have d21 : S 21 = .int .i64 (m : Nat) := (hd 21 (by kernel_rfl)).2
            rw [d21]
            clear d21
            have d25 : S 25 = .bool false := (hd 25 (by kernel_rfl)).2
            rw [d25]
            clear d25
            clear hd
            refine GH.st_eq (by rfl) ?_
            go_simp
            (try with_reducible rfl)
          | 27, _, hd =>
            simp only [GH.mkL, List.getD_cons_succ, List.getD_cons_zero]
            have d26 : S 26 = .bool false := (hd 26 (by kernel_rfl)).2
            rw [d26]
            clear d26
            clear hd
            refine GH.st_eq (by rfl) ?_
            go_simp
            (try with_reducible rfl)
          | 28, _, hd =>
            simp only [GH.mkL, List.getD_cons_succ, List.getD_cons_zero]
            have d26 : S 26 = .bool false := (hd 26 (by kernel_rfl)).2
            rw [d26]
            clear d26
            have d27 : S 27 = .pointer (some ⟨w.heap.size, 0, none⟩) := (hd 27 (by kernel_rfl)).2
            rw [d27]
            clear d27
            clear hd
            refine GH.st_call (by rfl) hb.below.size (by go_simp) ((cwsize_anyB _ _ _ _ _ _ w' (Blk.below W6.out hb.below (Blk.lt W6.out))).mono ?_)
            rintro e w9 ⟨rfl, hb9⟩
            exact ⟨_, rfl, hb9, rfl⟩
          | 29, _, hd =>
            simp only [GH.mkL, List.getD_cons_succ, List.getD_cons_zero]
            have d26 : S 26 = .bool false := (hd 26 (by kernel_rfl)).2
            rw [d26]
            clear d26
            clear hd
            refine GH.st_eq (by rfl) ?_
            go_simp
            (try with_reducible rfl)
          | 30, _, hd =>
            simp only [GH.mkL, List.getD_cons_succ, List.getD_cons_zero]
            have d26 : S 26 = .bool false := (hd 26 (by kernel_rfl)).2
            rw [d26]
            clear d26
            have d29 : S 29 = .pointer (some ⟨xb, 0, none⟩) := (hd 29 (by kernel_rfl)).2
            rw [d29]
            clear d29
            clear hd
            exact GH.st_load _ (by rfl) rfl rfl (((X6.out.below hb.below X6.out.lt)).cell 0) (by kernel_rfl)
          | 31, _, hd =>
            simp only [GH.mkL, List.getD_cons_succ, List.getD_cons_zero]
            have d26 : S 26 = .bool false := (hd 26 (by kernel_rfl)).2
            rw [d26]
            clear d26
            have d30 : S 30 = .int .i64 (m : Nat) := (hd 30 (by kernel_rfl)).2
            rw [d30]
            clear d30
            clear hd
            refine GH.st_eq (by rfl) ?_
            go_simp
            (try simp only [eM, wM])
            (try with_reducible rfl)
          | 32, _, hd =>
            simp only [GH.mkL, List.getD_cons_succ, List.getD_cons_zero]
            have d26 : S 26 = .bool false := (hd 26 (by kernel_rfl)).2
            rw [d26]
            clear d26
            have d28 : S 28 = .int .i64 (m : Nat) := (hd 28 (by kernel_rfl)).2
            rw [d28]
            clear d28
            have d31 : S 31 = .int .i64 (M : Nat) := (hd 31 (by kernel_rfl)).2
            rw [d31]
            clear d31
            clear hd
            refine GH.st_eq (by rfl) ?_
            go_simp
            (try simp only [hs7d])
            (try with_reducible rfl)
          | 33, _, hd =>
            simp only [GH.mkL, List.getD_cons_succ, List.getD_cons_zero]
            have d26 : S 26 = .bool false := (hd 26 (by kernel_rfl)).2
            rw [d26]
            clear d26
            have d32 : S 32 = .bool false := (hd 32 (by kernel_rfl)).2
            rw [d32]
            clear d32
            clear hd
            refine GH.st_eq (by rfl) ?_
            go_simp
            (try with_reducible rfl)
          | nx + 34, hjx, _ => omega
        intro S w' hb hG
        simp only [GH.mkL, List.drop_succ_cons, List.drop_zero]
        have d33 : S 33 = .bool false := hG 33 (by omega)
        rw [d33]
        clear d33
        clear hG
        have W7 := Lib.hid (Blk.below W6.out hb.below (Blk.lt W6.out))
        have X7 := Lib.hid (X6.out.below hb.below X6.out.lt)
        have B7 := Lib.hid (B6.out.trans (hb.below.mono B6.out.size))
        clear hb W6 X6 B6 hs6d hs7d
        refine wpList_nil ?_
        go_wp2_with fail
        go_roundw
        case rel => exact ⟨i + 1, m, sl5, 0, u5, by omega, by go_num, HOK2, W7, X7, B7⟩
        case measure => simp [intOf]; omega
      by_cases hq6 : q = 6
      · subst hq6
        clear hq0
        clear hq1
        clear hq5
        have HS1 := Lib.hid (cwforget_any w.heap.size m s sl p u nn wr HW.out HOK.out.1 HO.out.n.wf)
        have HS2 := Lib.hid fun w' => rcwgone_any m s sl p u nn w' HOK.out.1 HO.out.n.wf
        obtain ⟨u5, hu5⟩ : ∃ u5, u5 = u - bdB nn := ⟨_, rfl⟩
        rw [← hu5] at HS1 HS2
        have HOK2 := Lib.hid (show WOk m s sl p u5 ∧ u5 ≤ 1024 * (i + 1) from ⟨by rw [hu5]; exact HOK.out.1.gone, by have := HOK.out.2; omega⟩)
        unfold cwv at HS2
        clear hu5
        go_wp2_with fail
        refine HS1.out.mono ?_
        rintro e w4 ⟨rfl, h4, t4⟩
        have W4 := Lib.hid h4
        have X4 := Lib.hid (t4.blk HX.out (Nat.ne_of_gt HGX.out))
        have B4 := Lib.hid (BB.out.trans t4.1)
        have Q1 := (B4.out.cell (p := ⟨ab, ao + i * 3 + 1, none⟩) hab).trans Z1.out
        have Q2 := (B4.out.cell (p := ⟨ab, ao + i * 3 + 2, none⟩) hab).trans Z2.out
        clear h4 t4 HS1 HW HX BB
        go_upto_region 24 with fail
        refine GH.wp_ghl (M := false) 7 ((GH.SP.eq (.agg #[.int .i64 (m : Nat), .int .i64 (s : Nat), .int .i64 (sl : Nat), .int .i64 (p : Nat), .int .i64 (u : Nat)])) :: (GH.SP.eq (.slice (some ⟨ab, ao, none⟩) n c)) :: (GH.SP.eq (.int .i64 (i : Nat))) :: (GH.SP.eq (.pointer (some ⟨ab, ao + i * 3, none⟩))) :: (GH.SP.eq (.pointer (some ⟨ab, ao + i * 3 + 1, none⟩))) :: (GH.SP.eq (.int .i64 nn)) :: (GH.SP.eq (.agg #[.int .i64 (m : Nat), .int .i64 (s : Nat), .int .i64 (sl : Nat), .int .i64 (p : Nat), .int .i64 (u5 : Nat)])) :: []) (none :: none :: none :: none :: none :: none :: none :: none :: none :: none :: none :: none :: none :: none :: none :: none :: none :: none :: none :: none :: none :: none :: none :: none :: none :: none :: none :: none :: none :: none :: none :: none :: none :: none :: none :: none :: none :: none :: none :: none :: none :: none :: none :: none :: none :: none :: none :: none :: none :: none :: none :: none :: none :: none :: none :: none :: none :: none :: none :: none :: none :: none :: none :: none :: none :: none :: none :: none :: none :: none :: none :: none :: none :: none :: none :: none :: none :: none :: none :: none :: none :: none :: none :: none :: none :: none :: none :: none :: none :: none :: none :: none :: none :: none :: none :: none :: none :: none :: none :: none :: none :: none :: none :: none :: none :: (some 0) :: (some 1) :: (some 2) :: (some 3) :: (some 4) :: (some 5) :: (some 6) :: none :: none :: none :: none :: none :: none :: none :: none :: none :: none :: none :: none :: none :: none :: none :: none :: none :: none :: none :: none :: none :: none :: none :: none :: none :: none :: none :: none :: none :: none :: none :: none :: none :: none :: none :: []) [105, 106, 107, 108, 109, 110, 111] (by rfl) (by kernel_rfl) (by kernel_rfl) ?_ ?_ ?_
        · intro S jx v hjx
          match jx, hjx with
          | 0, _ => rfl
          | 1, _ => rfl
          | 2, _ => rfl
          | 3, _ => rfl
          | 4, _ => rfl
          | 5, _ => rfl
          | 6, _ => rfl
          | nx + 7, hjx => omega
        · intro jx hjx S w' hb hd
          match jx, hjx, hd with
          | 0, _, hd =>
            simp only [GH.mkL, List.getD_cons_succ, List.getD_cons_zero]
            clear hd
            exact GH.st_loads _ [.int .i64 (m : Nat), .int .i64 (s : Nat), .int .i64 (sl : Nat), .int .i64 (p : Nat), .int .i64 (u : Nat)] (by rfl) rfl rfl (((X4.out.below hb.below X4.out.lt)).loads 0 _ (by rfl)) (by kernel_rfl) (by kernel_rfl)
          | 1, _, hd =>
            simp only [GH.mkL, List.getD_cons_succ, List.getD_cons_zero]
            clear hd
            refine GH.st_eq (by rfl) ?_
            go_simp
            (try with_reducible rfl)
          | 2, _, hd =>
            simp only [GH.mkL, List.getD_cons_succ, List.getD_cons_zero]
            clear hd
            refine GH.st_eq (by rfl) ?_
            go_simp
            (try with_reducible rfl)
          | 3, _, hd =>
            simp only [GH.mkL, List.getD_cons_succ, List.getD_cons_zero]
            have d1 : S 1 = .slice (some ⟨ab, ao, none⟩) n c := (hd 1 (by kernel_rfl)).2
            rw [d1]
            clear d1
            have d2 : S 2 = .int .i64 (i : Nat) := (hd 2 (by kernel_rfl)).2
            rw [d2]
            clear d2
            clear hd
            refine GH.st_eq (by rfl) ?_
            go_simp
            (try with_reducible rfl)
          | 4, _, hd =>
            simp only [GH.mkL, List.getD_cons_succ, List.getD_cons_zero]
            have d3 : S 3 = .pointer (some ⟨ab, ao + i * 3, none⟩) := (hd 3 (by kernel_rfl)).2
            rw [d3]
            clear d3
            clear hd
            refine GH.st_eq (by rfl) ?_
            go_simp
            (try with_reducible rfl)
          | 5, _, hd =>
            simp only [GH.mkL, List.getD_cons_succ, List.getD_cons_zero]
            have d4 : S 4 = .pointer (some ⟨ab, ao + i * 3 + 1, none⟩) := (hd 4 (by kernel_rfl)).2
            rw [d4]
            clear d4
            clear hd
            exact GH.st_load _ (by rfl) rfl rfl ((hb.below.cell (p := ⟨ab, ao + i * 3 + 1, none⟩) (Nat.lt_of_lt_of_le hab B4.out.size)).trans ((B4.out.cell (p := ⟨ab, ao + i * 3 + 1, none⟩) hab).trans Z1.out)) (by kernel_rfl)
          | 6, _, hd =>
            simp only [GH.mkL, List.getD_cons_succ, List.getD_cons_zero]
            have d0 : S 0 = .agg #[.int .i64 (m : Nat), .int .i64 (s : Nat), .int .i64 (sl : Nat), .int .i64 (p : Nat), .int .i64 (u : Nat)] := (hd 0 (by kernel_rfl)).2
            rw [d0]
            clear d0
            have d5 : S 5 = .int .i64 nn := (hd 5 (by kernel_rfl)).2
            rw [d5]
            clear d5
            clear hd
            refine GH.st_call (by rfl) hb.below.size (by go_simp) ((HS2.out w').mono ?_)
            rintro e w9 ⟨rfl, hb9⟩
            exact ⟨_, rfl, hb9, rfl⟩
          | nx + 7, hjx, _ => omega
        intro S w' hb hG
        simp only [GH.mkL, List.drop_succ_cons, List.drop_zero]
        have d6 : S 6 = .agg #[.int .i64 (m : Nat), .int .i64 (s : Nat), .int .i64 (sl : Nat), .int .i64 (p : Nat), .int .i64 (u5 : Nat)] := hG 6 (by omega)
        rw [d6]
        clear d6
        clear hG
        have KX := X4.out.below hb.below X4.out.lt
        have W5 := Lib.hid (Blk.below W4.out hb.below (Blk.lt W4.out))
        have B5 := Lib.hid (B4.out.trans (hb.below.mono B4.out.size))
        have f0 := KX.frozen 0
        have f1 := KX.frozen 1
        have f2 := KX.frozen 2
        have f3 := KX.frozen 3
        have f4 := KX.frozen 4
        obtain ⟨x0, x1, x2, x3, x4⟩ := ptc5 KX
        have X5 := Lib.hid KX
        clear KX hb W4 X4 B4
        go_upto_region 25 with fail
        have X6 := Lib.hid (show Blk (ptw5 w' xb (.int .i64 (m : Nat)) (.int .i64 (s : Nat)) (.int .i64 (sl : Nat)) (.int .i64 (p : Nat)) (.int .i64 (u5 : Nat))) xb 33 #[.int .i64 (m : Nat), .int .i64 (s : Nat), .int .i64 (sl : Nat), .int .i64 (p : Nat), .int .i64 (u5 : Nat)] from pt5 _ _ _ _ _ X5.out)
        have hs5 : Solo xb w' (ptw5 w' xb (.int .i64 (m : Nat)) (.int .i64 (s : Nat)) (.int .i64 (sl : Nat)) (.int .i64 (p : Nat)) (.int .i64 (u5 : Nat))) := pts5 _ _ _ _ _
        have W6 := Lib.hid (show Wn (ptw5 w' xb (.int .i64 (m : Nat)) (.int .i64 (s : Nat)) (.int .i64 (sl : Nat)) (.int .i64 (p : Nat)) (.int .i64 (u5 : Nat))) w.heap.size m s sl p u5 from hs5.blk W5.out (Nat.ne_of_lt HGX.out))
        have B6 := Lib.hid (B5.out.trans (hs5.1.mono (Nat.le_of_lt HGX.out)))
        clear hs5 W5 X5 B5 x0 x1 x2 x3 x4 f0 f1 f2 f3 f4
        unfold ptw5 at X6 W6 B6
        generalize (((((w'.setCell ⟨xb, 0, none⟩ (.int .i64 (m : Nat))).setCell ⟨xb, 1, none⟩ (.int .i64 (s : Nat))).setCell ⟨xb, 2, none⟩ (.int .i64 (sl : Nat))).setCell ⟨xb, 3, none⟩ (.int .i64 (p : Nat))).setCell ⟨xb, 4, none⟩ (.int .i64 (u5 : Nat))) = w6 at X6 W6 B6 ⊢
        clear Q1 Q2 HS2
        have hs6d : decide (s < m) = false := decide_eq_false (by have := HOK2.out.1.s1; omega)
        have hs7d : decide (M < s) = false := decide_eq_false (by have := HOK2.out.1.s2; have := HM.out; omega)
        have HR1 := Lib.hid fun (w' : World) (h : Wn w' w.heap.size m s sl p u5) => cwroom_any _ _ _ _ _ _ w' h HOK2.out.1.s3 HOK2.out.1.u2
        have HR2 := Lib.hid fun (w' : World) => rcwroom_any m s sl p u5 w' HOK2.out.1
        unfold cwv at HR2
        obtain ⟨rm, hrm⟩ : ∃ rm, rm = s - u5 := ⟨_, rfl⟩
        rw [← hrm] at HR1 HR2
        clear hrm
        go_upto_region 25 with fail
        refine GH.wp_ghl (M := false) 34 ((GH.SP.eq (.pointer (some ⟨w.heap.size, 0, none⟩))) :: (GH.SP.eq (.int .i64 (s : Nat))) :: (GH.SP.eq (.pointer (some ⟨xb, 1, none⟩))) :: (GH.SP.eq (.int .i64 (s : Nat))) :: (GH.SP.eq (.bool false)) :: (GH.SP.eq (.bool false)) :: (GH.SP.eq (.pointer (some ⟨w.heap.size, 0, none⟩))) :: (GH.SP.eq (.int .i64 (u5 : Nat))) :: (GH.SP.eq (.pointer (some ⟨xb, 4, none⟩))) :: (GH.SP.eq (.int .i64 (u5 : Nat))) :: (GH.SP.eq (.bool false)) :: (GH.SP.eq (.bool false)) :: (GH.SP.eq (.bool false)) :: (GH.SP.eq (.pointer (some ⟨w.heap.size, 0, none⟩))) :: (GH.SP.eq (.int .i64 (rm : Nat))) :: (GH.SP.eq (.agg #[.int .i64 (m : Nat), .int .i64 (s : Nat), .int .i64 (sl : Nat), .int .i64 (p : Nat), .int .i64 (u5 : Nat)])) :: (GH.SP.eq (.int .i64 (rm : Nat))) :: (GH.SP.eq (.bool false)) :: (GH.SP.eq (.bool false)) :: (GH.SP.eq (.bool false)) :: (GH.SP.eq (.pointer (some ⟨w.heap.size, 0, none⟩))) :: (GH.SP.eq (.int .i64 (s : Nat))) :: (GH.SP.eq (.pointer (some ⟨xb, 0, none⟩))) :: (GH.SP.eq (.int .i64 (m : Nat))) :: (GH.SP.eq (.bool false)) :: (GH.SP.eq (.bool false)) :: (GH.SP.eq (.bool false)) :: (GH.SP.eq (.pointer (some ⟨w.heap.size, 0, none⟩))) :: (GH.SP.eq (.int .i64 (s : Nat))) :: (GH.SP.eq (.pointer (some ⟨xb, 0, none⟩))) :: (GH.SP.eq (.int .i64 (m : Nat))) :: (GH.SP.eq (.int .i64 (M : Nat))) :: (GH.SP.eq (.bool false)) :: (GH.SP.eq (.bool false)) :: []) (none :: none :: none :: none :: none :: none :: none :: none :: none :: none :: none :: none :: none :: none :: none :: none :: none :: none :: none :: none :: none :: none :: none :: none :: none :: none :: none :: none :: none :: none :: none :: none :: none :: none :: none :: none :: none :: none :: none :: none :: none :: none :: none :: none :: none :: none :: none :: none :: none :: none :: none :: none :: none :: none :: none :: none :: none :: none :: none :: none :: none :: none :: none :: none :: none :: none :: none :: none :: none :: none :: none :: none :: none :: none :: none :: none :: none :: none :: none :: none :: none :: none :: none :: none :: none :: none :: none :: none :: none :: none :: none :: none :: none :: none :: none :: none :: none :: none :: none :: none :: none :: none :: none :: none :: none :: none :: none :: none :: none :: none :: none :: none :: (some 0) :: (some 1) :: (some 2) :: (some 3) :: (some 4) :: (some 5) :: (some 6) :: (some 7) :: (some 8) :: (some 9) :: (some 10) :: (some 11) :: (some 12) :: (some 13) :: (some 14) :: (some 15) :: (some 16) :: (some 17) :: (some 18) :: (some 19) :: (some 20) :: (some 21) :: (some 22) :: (some 23) :: (some 24) :: (some 25) :: (some 26) :: (some 27) :: (some 28) :: (some 29) :: (some 30) :: (some 31) :: (some 32) :: (some 33) :: none :: []) [112, 113, 114, 115, 116, 117, 118, 119, 120, 121, 122, 123, 124, 125, 126, 127, 128, 129, 130, 131, 132, 133, 134, 135, 136, 137, 138, 139, 140, 141, 142, 143, 144, 145] (by rfl) (by kernel_rfl) (by kernel_rfl) ?_ ?_ ?_
        · intro S jx v hjx
          match jx, hjx with
          | 0, _ => rfl
          | 1, _ => rfl
          | 2, _ => rfl
          | 3, _ => rfl
          | 4, _ => rfl
          | 5, _ => rfl
          | 6, _ => rfl
          | 7, _ => rfl
          | 8, _ => rfl
          | 9, _ => rfl
          | 10, _ => rfl
          | 11, _ => rfl
          | 12, _ => rfl
          | 13, _ => rfl
          | 14, _ => rfl
          | 15, _ => rfl
          | 16, _ => rfl
          | 17, _ => rfl
          | 18, _ => rfl
          | 19, _ => rfl
          | 20, _ => rfl
          | 21, _ => rfl
          | 22, _ => rfl
          | 23, _ => rfl
          | 24, _ => rfl
          | 25, _ => rfl
          | 26, _ => rfl
          | 27, _ => rfl
          | 28, _ => rfl
          | 29, _ => rfl
          | 30, _ => rfl
          | 31, _ => rfl
          | 32, _ => rfl
          | 33, _ => rfl
          | nx + 34, hjx => omega
        · intro jx hjx S w' hb hd
          match jx, hjx, hd with
          | 0, _, hd =>
            simp only [GH.mkL, List.getD_cons_succ, List.getD_cons_zero]
            clear hd
            refine GH.st_eq (by rfl) ?_
            go_simp
            (try with_reducible rfl)
          | 1, _, hd =>
            simp only [GH.mkL, List.getD_cons_succ, List.getD_cons_zero]
            have d0 : S 0 = .pointer (some ⟨w.heap.size, 0, none⟩) := (hd 0 (by kernel_rfl)).2
            rw [d0]
            clear d0
            clear hd
            refine GH.st_call (by rfl) hb.below.size (by go_simp) ((cwsize_anyB _ _ _ _ _ _ w' (Blk.below W6.out hb.below (Blk.lt W6.out))).mono ?_)
            rintro e w9 ⟨rfl, hb9⟩
            exact ⟨_, rfl, hb9, rfl⟩
          | 2, _, hd =>
            simp only [GH.mkL, List.getD_cons_succ, List.getD_cons_zero]
            clear hd
            refine GH.st_eq (by rfl) ?_
            go_simp
            (try with_reducible rfl)
          | 3, _, hd =>
            simp only [GH.mkL, List.getD_cons_succ, List.getD_cons_zero]
            have d2 : S 2 = .pointer (some ⟨xb, 1, none⟩) := (hd 2 (by kernel_rfl)).2
            rw [d2]
            clear d2
            clear hd
            exact GH.st_load _ (by rfl) rfl rfl (((X6.out.below hb.below X6.out.lt)).cell 1) (by kernel_rfl)
          | 4, _, hd =>
            simp only [GH.mkL, List.getD_cons_succ, List.getD_cons_zero]
            have d1 : S 1 = .int .i64 (s : Nat) := (hd 1 (by kernel_rfl)).2
            rw [d1]
            clear d1
            have d3 : S 3 = .int .i64 (s : Nat) := (hd 3 (by kernel_rfl)).2
            rw [d3]
            clear d3
            clear hd
            refine GH.st_eq (by rfl) ?_
            go_simp
            (try with_reducible rfl)
          | 5, _, hd =>
            simp only [GH.mkL, List.getD_cons_succ, List.getD_cons_zero]
            have d1 : S 1 = .int .i64 (s : Nat) := (hd 1 (by kernel_rfl)).2
            rw [d1]
            clear d1
            have d4 : S 4 = .bool false := (hd 4 (by kernel_rfl)).2
            rw [d4]
            clear d4
            clear hd
            refine GH.st_eq (by rfl) ?_
            go_simp
            (try with_reducible rfl)
          | 6, _, hd =>
            simp only [GH.mkL, List.getD_cons_succ, List.getD_cons_zero]
            have d5 : S 5 = .bool false := (hd 5 (by kernel_rfl)).2
            rw [d5]
            clear d5
            clear hd
            refine GH.st_eq (by rfl) ?_
            go_simp
            (try with_reducible rfl)
          | 7, _, hd =>
            simp only [GH.mkL, List.getD_cons_succ, List.getD_cons_zero]
            have d5 : S 5 = .bool false := (hd 5 (by kernel_rfl)).2
            rw [d5]
            clear d5
            have d6 : S 6 = .pointer (some ⟨w.heap.size, 0, none⟩) := (hd 6 (by kernel_rfl)).2
            rw [d6]
            clear d6
            clear hd
            refine GH.st_call (by rfl) hb.below.size (by go_simp) ((cwunder_anyB _ _ _ _ _ _ w' (Blk.below W6.out hb.below (Blk.lt W6.out))).mono ?_)
            rintro e w9 ⟨rfl, hb9⟩
            exact ⟨_, rfl, hb9, rfl⟩
          | 8, _, hd =>
            simp only [GH.mkL, List.getD_cons_succ, List.getD_cons_zero]
            have d5 : S 5 = .bool false := (hd 5 (by kernel_rfl)).2
            rw [d5]
            clear d5
            clear hd
            refine GH.st_eq (by rfl) ?_
            go_simp
            (try with_reducible rfl)
          | 9, _, hd =>
            simp only [GH.mkL, List.getD_cons_succ, List.getD_cons_zero]
            have d5 : S 5 = .bool false := (hd 5 (by kernel_rfl)).2
            rw [d5]
            clear d5
            have d8 : S 8 = .pointer (some ⟨xb, 4, none⟩) := (hd 8 (by kernel_rfl)).2
            rw [d8]
            clear d8
            clear hd
            exact GH.st_load _ (by rfl) rfl rfl (((X6.out.below hb.below X6.out.lt)).cell 4) (by kernel_rfl)
          | 10, _, hd =>
            simp only [GH.mkL, List.getD_cons_succ, List.getD_cons_zero]
            have d5 : S 5 = .bool false := (hd 5 (by kernel_rfl)).2
            rw [d5]
            clear d5
            have d7 : S 7 = .int .i64 (u5 : Nat) := (hd 7 (by kernel_rfl)).2
            rw [d7]
            clear d7
            have d9 : S 9 = .int .i64 (u5 : Nat) := (hd 9 (by kernel_rfl)).2
            rw [d9]
            clear d9
            clear hd
            refine GH.st_eq (by rfl) ?_
            go_simp
            (try with_reducible rfl)
          | 11, _, hd =>
            simp only [GH.mkL, List.getD_cons_succ, List.getD_cons_zero]
            have d5 : S 5 = .bool false := (hd 5 (by kernel_rfl)).2
            rw [d5]
            clear d5
            have d10 : S 10 = .bool false := (hd 10 (by kernel_rfl)).2
            rw [d10]
            clear d10
            clear hd
            refine GH.st_eq (by rfl) ?_
            go_simp
            (try with_reducible rfl)
          | 12, _, hd =>
            simp only [GH.mkL, List.getD_cons_succ, List.getD_cons_zero]
            have d7 : S 7 = .int .i64 (u5 : Nat) := (hd 7 (by kernel_rfl)).2
            rw [d7]
            clear d7
            have d11 : S 11 = .bool false := (hd 11 (by kernel_rfl)).2
            rw [d11]
            clear d11
            clear hd
            refine GH.st_eq (by rfl) ?_
            go_simp
            (try with_reducible rfl)
          | 13, _, hd =>
            simp only [GH.mkL, List.getD_cons_succ, List.getD_cons_zero]
            have d12 : S 12 = .bool false := (hd 12 (by kernel_rfl)).2
            rw [d12]
            clear d12
            clear hd
            refine GH.st_eq (by rfl) ?_
            go_simp
            (try with_reducible rfl)
          | 14, _, hd =>
            simp only [GH.mkL, List.getD_cons_succ, List.getD_cons_zero]
            have d12 : S 12 = .bool false := (hd 12 (by kernel_rfl)).2
            rw [d12]
            clear d12
            have d13 : S 13 = .pointer (some ⟨w.heap.size, 0, none⟩) := (hd 13 (by kernel_rfl)).2
            rw [d13]
            clear d13
            clear hd
            refine GH.st_call (by rfl) hb.below.size (by go_simp) ((HR1.out w' (Blk.below W6.out hb.below (Blk.lt W6.out))).mono ?_)
            rintro e w9 ⟨rfl, hb9⟩
            exact ⟨_, rfl, hb9, rfl⟩
          | 15, _, hd =>
            simp only [GH.mkL, List.getD_cons_succ, List.getD_cons_zero]
            have d12 : S 12 = .bool false := (hd 12 (by kernel_rfl)).2
            rw [d12]
            clear d12
            clear hd
            exact GH.st_loads _ [.int .i64 (m : Nat), .int .i64 (s : Nat), .int .i64 (sl : Nat), .int .i64 (p : Nat), .int .i64 (u5 : Nat)] (by rfl) rfl rfl (((X6.out.below hb.below X6.out.lt)).loads 0 _ (by rfl)) (by kernel_rfl) (by kernel_rfl)
          | 16, _, hd =>
            simp only [GH.mkL, List.getD_cons_succ, List.getD_cons_zero]
            have d12 : S 12 = .bool false := (hd 12 (by kernel_rfl)).2
            rw [d12]
            clear d12
            have d14 : S 14 = .int .i64 (rm : Nat) := (hd 14 (by kernel_rfl)).2
            rw [d14]
            clear d14
            have d15 : S 15 = .agg #[.int .i64 (m : Nat), .int .i64 (s : Nat), .int .i64 (sl : Nat), .int .i64 (p : Nat), .int .i64 (u5 : Nat)] := (hd 15 (by kernel_rfl)).2
            rw [d15]
            clear d15
            clear hd
            refine GH.st_call (by rfl) hb.below.size (by go_simp) ((HR2.out w').mono ?_)
            rintro e w9 ⟨rfl, hb9⟩
            exact ⟨_, rfl, hb9, rfl⟩
          | 17, _, hd =>
            simp only [GH.mkL, List.getD_cons_succ, List.getD_cons_zero]
            have d12 : S 12 = .bool false := (hd 12 (by kernel_rfl)).2
            rw [d12]
            clear d12
            have d14 : S 14 = .int .i64 (rm : Nat) := (hd 14 (by kernel_rfl)).2
            rw [d14]
            clear d14
            have d16 : S 16 = .int .i64 (rm : Nat) := (hd 16 (by kernel_rfl)).2
            rw [d16]
            clear d16
            clear hd
            refine GH.st_eq (by rfl) ?_
            go_simp
            (try with_reducible rfl)
          | 18, _, hd =>
            simp only [GH.mkL, List.getD_cons_succ, List.getD_cons_zero]
            have d12 : S 12 = .bool false := (hd 12 (by kernel_rfl)).2
            rw [d12]
            clear d12
            have d17 : S 17 = .bool false := (hd 17 (by kernel_rfl)).2
            rw [d17]
            clear d17
            clear hd
            refine GH.st_eq (by rfl) ?_
            go_simp
            (try with_reducible rfl)
          | 19, _, hd =>
            simp only [GH.mkL, List.getD_cons_succ, List.getD_cons_zero]
            have d16 : S 16 = .int .i64 (rm : Nat) := (hd 16 (by kernel_rfl)).2
            rw [d16]
            clear d16
            have d18 : S 18 = .bool false := (hd 18 (by kernel_rfl)).2
            rw [d18]
            clear d18
            clear hd
            refine GH.st_eq (by rfl) ?_
            go_simp
            (try with_reducible rfl)
          | 20, _, hd =>
            simp only [GH.mkL, List.getD_cons_succ, List.getD_cons_zero]
            have d19 : S 19 = .bool false := (hd 19 (by kernel_rfl)).2
            rw [d19]
            clear d19
            clear hd
            refine GH.st_eq (by rfl) ?_
            go_simp
            (try with_reducible rfl)
          | 21, _, hd =>
            simp only [GH.mkL, List.getD_cons_succ, List.getD_cons_zero]
            have d19 : S 19 = .bool false := (hd 19 (by kernel_rfl)).2
            rw [d19]
            clear d19
            have d20 : S 20 = .pointer (some ⟨w.heap.size, 0, none⟩) := (hd 20 (by kernel_rfl)).2
            rw [d20]
            clear d20
            clear hd
            refine GH.st_call (by rfl) hb.below.size (by go_simp) ((cwsize_anyB _ _ _ _ _ _ w' (Blk.below W6.out hb.below (Blk.lt W6.out))).mono ?_)
            rintro e w9 ⟨rfl, hb9⟩
            exact ⟨_, rfl, hb9, rfl⟩
          | 22, _, hd =>
            simp only [GH.mkL, List.getD_cons_succ, List.getD_cons_zero]
            have d19 : S 19 = .bool false := (hd 19 (by kernel_rfl)).2
            rw [d19]
            clear d19
            clear hd
            refine GH.st_eq (by rfl) ?_
            go_simp
            (try with_reducible rfl)
          | 23, _, hd =>
            simp only [GH.mkL, List.getD_cons_succ, List.getD_cons_zero]
            have d19 : S 19 = .bool false := (hd 19 (by kernel_rfl)).2
            rw [d19]
            clear d19
            have d22 : S 22 = .pointer (some ⟨xb, 0, none⟩) := (hd 22 (by kernel_rfl)).2
            rw [d22]
            clear d22
            clear hd
            exact GH.st_load _ (by rfl) rfl rfl (((X6.out.below hb.below X6.out.lt)).cell 0) (by kernel_rfl)
          | 24, _, hd =>
            simp only [GH.mkL, List.getD_cons_succ, List.getD_cons_zero]
            have d19 : S 19 = .bool false := (hd 19 (by kernel_rfl)).2
            rw [d19]
            clear d19
            have d21 : S 21 = .int .i64 (s : Nat) := (hd 21 (by kernel_rfl)).2
            rw [d21]
            clear d21
            have d23 : S 23 = .int .i64 (m : Nat) := (hd 23 (by kernel_rfl)).2
            rw [d23]
            clear d23
            clear hd
            refine GH.st_eq (by rfl) ?_
            go_simp
            (try simp only [hs6d])
            (try with_reducible rfl)
          | 25, _, hd =>
            simp only [GH.mkL, List.getD_cons_succ, List.getD_cons_zero]
            have d19 : S 19 = .bool false := (hd 19 (by kernel_rfl)).2
            rw [d19]
            clear d19
            have d24 : S 24 = .bool false := (hd 24 (by kernel_rfl)).2
            rw [d24]
            clear d24
            clear hd
            refine GH.st_eq (by rfl) ?_
            go_simp
            (try with_reducible rfl)
          | 26, _, hd =>
            simp only [GH.mkL, List.getD_cons_succ, List.getD_cons_zero]
            have d21 : S 21 = .int .i64 (s : Nat) := (hd 21 (by kernel_rfl)).2
            rw [d21]
            clear d21
            have d25 : S 25 = .bool false := (hd 25 (by kernel_rfl)).2
            rw [d25]
            clear d25
            clear hd
            refine GH.st_eq (by rfl) ?_
            go_simp
            (try with_reducible rfl)
          | 27, _, hd =>
            simp only [GH.mkL, List.getD_cons_succ, List.getD_cons_zero]
            have d26 : S 26 = .bool false := (hd 26 (by kernel_rfl)).2
            rw [d26]
            clear d26
            clear hd
            refine GH.st_eq (by rfl) ?_
            go_simp
            (try with_reducible rfl)
          | 28, _, hd =>
            simp only [GH.mkL, List.getD_cons_succ, List.getD_cons_zero]
            have d26 : S 26 = .bool false := (hd 26 (by kernel_rfl)).2
            rw [d26]
            clear d26
            have d27 : S 27 = .pointer (some ⟨w.heap.size, 0, none⟩) := (hd 27 (by kernel_rfl)).2
            rw [d27]
            clear d27
            clear hd
            refine GH.st_call (by rfl) hb.below.size (by go_simp) ((cwsize_anyB _ _ _ _ _ _ w' (Blk.below W6.out hb.below (Blk.lt W6.out))).mono ?_)
            rintro e w9 ⟨rfl, hb9⟩
            exact ⟨_, rfl, hb9, rfl⟩
          | 29, _, hd =>
            simp only [GH.mkL, List.getD_cons_succ, List.getD_cons_zero]
            have d26 : S 26 = .bool false := (hd 26 (by kernel_rfl)).2
            rw [d26]
            clear d26
            clear hd
            refine GH.st_eq (by rfl) ?_
            go_simp
            (try with_reducible rfl)
          | 30, _, hd =>
            simp only [GH.mkL, List.getD_cons_succ, List.getD_cons_zero]
            have d26 : S 26 = .bool false := (hd 26 (by kernel_rfl)).2
            rw [d26]
            clear d26
            have d29 : S 29 = .pointer (some ⟨xb, 0, none⟩) := (hd 29 (by kernel_rfl)).2
            rw [d29]
            clear d29
            clear hd
            exact GH.st_load _ (by rfl) rfl rfl (((X6.out.below hb.below X6.out.lt)).cell 0) (by kernel_rfl)
          | 31, _, hd =>
            simp only [GH.mkL, List.getD_cons_succ, List.getD_cons_zero]
            have d26 : S 26 = .bool false := (hd 26 (by kernel_rfl)).2
            rw [d26]
            clear d26
            have d30 : S 30 = .int .i64 (m : Nat) := (hd 30 (by kernel_rfl)).2
            rw [d30]
            clear d30
            clear hd
            refine GH.st_eq (by rfl) ?_
            go_simp
            (try simp only [eM, wM])
            (try with_reducible rfl)
          | 32, _, hd =>
            simp only [GH.mkL, List.getD_cons_succ, List.getD_cons_zero]
            have d26 : S 26 = .bool false := (hd 26 (by kernel_rfl)).2
            rw [d26]
            clear d26
            have d28 : S 28 = .int .i64 (s : Nat) := (hd 28 (by kernel_rfl)).2
            rw [d28]
            clear d28
            have d31 : S 31 = .int .i64 (M : Nat) := (hd 31 (by kernel_rfl)).2
            rw [d31]
            clear d31
            clear hd
            refine GH.st_eq (by rfl) ?_
            go_simp
            (try simp only [hs7d])
            (try with_reducible rfl)
          | 33, _, hd =>
            simp only [GH.mkL, List.getD_cons_succ, List.getD_cons_zero]
            have d26 : S 26 = .bool false := (hd 26 (by kernel_rfl)).2
            rw [d26]
            clear d26
            have d32 : S 32 = .bool false := (hd 32 (by kernel_rfl)).2
            rw [d32]
            clear d32
            clear hd
            refine GH.st_eq (by rfl) ?_
            go_simp
            (try with_reducible rfl)
          | nx + 34, hjx, _ => omega
        intro S w' hb hG
        simp only [GH.mkL, List.drop_succ_cons, List.drop_zero]
        have d33 : S 33 = .bool false := hG 33 (by omega)
        rw [d33]
        clear d33
        clear hG
        have W7 := Lib.hid (Blk.below W6.out hb.below (Blk.lt W6.out))
        have X7 := Lib.hid (X6.out.below hb.below X6.out.lt)
        have B7 := Lib.hid (B6.out.trans (hb.below.mono B6.out.size))
        clear hb W6 X6 B6 hs6d hs7d
        refine wpList_nil ?_
        go_wp2_with fail
        go_roundw
        case rel => exact ⟨i + 1, s, sl, p, u5, by omega, by go_num, HOK2, W7, X7, B7⟩
        case measure => simp [intOf]; omega
      have HS2 := Lib.hid fun (w' : World) (A3 : Option Addr) (c3 : Nat) (hr : Rd w' w'.heap.size 2 A3 n2 (pz l2)) => rcwacked_any m s sl p u nn A3 n2 c3 l2 w' HOK.out.1 HO.out.n.wf hr (pwf HO.out.l)
      have HLN := Lib.hid (show l2.length = n2 from HO.out.rd.pzLen)
      have HPL := Lib.hid fun (w' : World) (t : Below w.heap.size w w') => cwplain_any A2 n2 c2 w'.heap.size l2 w' ((HO.out.rd.below t).mono t.size) (Nat.le_refl _) (by omega)
      obtain ⟨u5, hu5⟩ : ∃ u5, u5 = u - bdB nn := ⟨_, rfl⟩
      rw [← hu5] at HS2
      obtain ⟨s5, hs5⟩ : ∃ s5, s5 = ackS m s sl p (bdB nn) l2 := ⟨_, rfl⟩
      obtain ⟨p5, hp5⟩ : ∃ p5, p5 = ackP m s sl p (bdB nn) l2 := ⟨_, rfl⟩
      rw [← hs5, ← hp5] at HS2
      have HOK2 := Lib.hid (show WOk m s5 sl p5 u5 ∧ u5 ≤ 1024 * (i + 1) from ⟨by rw [hu5, hs5, hp5]; exact HOK.out.1.acked, by have := HOK.out.2; omega⟩)
      unfold cwv at HS2
      go_upto_region 13 with fail
      refine GH.wp_ghl2 (M := false) 11 ((GH.SP.eq (.pointer (some ⟨w.heap.size, 0, none⟩))) :: (GH.SP.eq (.slice (some ⟨ab, ao, none⟩) n c)) :: (GH.SP.eq (.int .i64 (i : Nat))) :: (GH.SP.eq (.pointer (some ⟨ab, ao + i * 3, none⟩))) :: (GH.SP.eq (.pointer (some ⟨ab, ao + i * 3 + 1, none⟩))) :: (GH.SP.eq (.int .i64 nn)) :: (GH.SP.eq (.slice (some ⟨ab, ao, none⟩) n c)) :: (GH.SP.eq (.int .i64 (i : Nat))) :: (GH.SP.eq (.pointer (some ⟨ab, ao + i * 3, none⟩))) :: (GH.SP.eq (.pointer (some ⟨ab, ao + i * 3 + 2, none⟩))) :: (GH.SP.eq (.slice A2 n2 c2)) :: []) (none :: none :: none :: none :: none :: none :: none :: none :: none :: none :: none :: none :: none :: none :: none :: none :: none :: none :: none :: none :: none :: none :: none :: none :: none :: none :: none :: none :: none :: none :: none :: none :: none :: none :: none :: none :: none :: none :: (some 0) :: (some 1) :: (some 2) :: (some 3) :: (some 4) :: (some 5) :: (some 6) :: (some 7) :: (some 8) :: (some 9) :: (some 10) :: none :: none :: none :: none :: none :: none :: none :: none :: none :: none :: none :: none :: none :: none :: none :: none :: none :: none :: none :: none :: none :: none :: none :: none :: none :: none :: none :: none :: none :: none :: none :: none :: none :: none :: none :: none :: none :: none :: none :: none :: none :: none :: none :: none :: none :: none :: none :: none :: none :: none :: none :: none :: none :: none :: none :: none :: none :: none :: none :: none :: none :: none :: none :: none :: none :: none :: none :: none :: none :: none :: none :: none :: none :: none :: none :: none :: none :: none :: none :: none :: none :: none :: none :: none :: none :: none :: none :: none :: none :: none :: none :: none :: none :: none :: none :: none :: none :: none :: []) [38, 39, 40, 41, 42, 43, 44, 45, 46, 47, 48] (by rfl) (by kernel_rfl) (by kernel_rfl) ?_ ?_ ?_
      · intro S jx v hjx
        match jx, hjx with
        | 0, _ => rfl
        | 1, _ => rfl
        | 2, _ => rfl
        | 3, _ => rfl
        | 4, _ => rfl
        | 5, _ => rfl
        | 6, _ => rfl
        | 7, _ => rfl
        | 8, _ => rfl
        | 9, _ => rfl
        | 10, _ => rfl
        | nx + 11, hjx => omega
      · intro jx hjx S w' hb hd
        match jx, hjx, hd with
        | 0, _, hd =>
          simp only [GH.mkL, List.getD_cons_succ, List.getD_cons_zero]
          clear hd
          refine GH.st_eq (by rfl) ?_
          go_simp
          (try with_reducible rfl)
        | 1, _, hd =>
          simp only [GH.mkL, List.getD_cons_succ, List.getD_cons_zero]
          clear hd
          refine GH.st_eq (by rfl) ?_
          go_simp
          (try with_reducible rfl)
        | 2, _, hd =>
          simp only [GH.mkL, List.getD_cons_succ, List.getD_cons_zero]
          clear hd
          refine GH.st_eq (by rfl) ?_
          go_simp
          (try with_reducible rfl)
        | 3, _, hd =>
          simp only [GH.mkL, List.getD_cons_succ, List.getD_cons_zero]
          have d1 : S 1 = .slice (some ⟨ab, ao, none⟩) n c := (hd 1 (by kernel_rfl)).2
          rw [d1]
          clear d1
          have d2 : S 2 = .int .i64 (i : Nat) := (hd 2 (by kernel_rfl)).2
          rw [d2]
          clear d2
          clear hd
          refine GH.st_eq (by rfl) ?_
          go_simp
          (try with_reducible rfl)
        | 4, _, hd =>
          simp only [GH.mkL, List.getD_cons_succ, List.getD_cons_zero]
          have d3 : S 3 = .pointer (some ⟨ab, ao + i * 3, none⟩) := (hd 3 (by kernel_rfl)).2
          rw [d3]
          clear d3
          clear hd
          refine GH.st_eq (by rfl) ?_
          go_simp
          (try with_reducible rfl)
        | 5, _, hd =>
          simp only [GH.mkL, List.getD_cons_succ, List.getD_cons_zero]
          have d4 : S 4 = .pointer (some ⟨ab, ao + i * 3 + 1, none⟩) := (hd 4 (by kernel_rfl)).2
          rw [d4]
          clear d4
          clear hd
          exact GH.st_load _ (by rfl) rfl rfl (((BB.out.trans (hb.below.mono BB.out.size)).cell (p := ⟨ab, ao + i * 3 + 1, none⟩) hab).trans Z1.out) (by kernel_rfl)
        | 6, _, hd =>
          simp only [GH.mkL, List.getD_cons_succ, List.getD_cons_zero]
          clear hd
          refine GH.st_eq (by rfl) ?_
          go_simp
          (try with_reducible rfl)
        | 7, _, hd =>
          simp only [GH.mkL, List.getD_cons_succ, List.getD_cons_zero]
          clear hd
          refine GH.st_eq (by rfl) ?_
          go_simp
          (try with_reducible rfl)
        | 8, _, hd =>
          simp only [GH.mkL, List.getD_cons_succ, List.getD_cons_zero]
          have d6 : S 6 = .slice (some ⟨ab, ao, none⟩) n c := (hd 6 (by kernel_rfl)).2
          rw [d6]
          clear d6
          have d7 : S 7 = .int .i64 (i : Nat) := (hd 7 (by kernel_rfl)).2
          rw [d7]
          clear d7
          clear hd
          refine GH.st_eq (by rfl) ?_
          go_simp
          (try with_reducible rfl)
        | 9, _, hd =>
          simp only [GH.mkL, List.getD_cons_succ, List.getD_cons_zero]
          have d8 : S 8 = .pointer (some ⟨ab, ao + i * 3, none⟩) := (hd 8 (by kernel_rfl)).2
          rw [d8]
          clear d8
          clear hd
          refine GH.st_eq (by rfl) ?_
          go_simp
          (try with_reducible rfl)
        | 10, _, hd =>
          simp only [GH.mkL, List.getD_cons_succ, List.getD_cons_zero]
          have d9 : S 9 = .pointer (some ⟨ab, ao + i * 3 + 2, none⟩) := (hd 9 (by kernel_rfl)).2
          rw [d9]
          clear d9
          clear hd
          exact GH.st_load _ (by rfl) rfl rfl (((BB.out.trans (hb.below.mono BB.out.size)).cell (p := ⟨ab, ao + i * 3 + 2, none⟩) hab).trans Z2.out) (by kernel_rfl)
        | nx + 11, hjx, _ => omega
      intro S w' hb hG
      simp only [GH.mkL, List.drop_succ_cons, List.drop_zero]
      have d0 : S 0 = .pointer (some ⟨w.heap.size, 0, none⟩) := hG 0 (by omega)
      rw [d0]
      clear d0
      have d5 : S 5 = .int .i64 nn := hG 5 (by omega)
      rw [d5]
      clear d5
      have d10 : S 10 = .slice A2 n2 c2 := hG 10 (by omega)
      rw [d10]
      clear d10
      clear hG
      have hbd := hb.below
      have HWd := Lib.hid (Blk.below HW.out hbd (Blk.lt HW.out))
      have HXd := Lib.hid (HX.out.below hbd HX.out.lt)
      have BBd := Lib.hid (BB.out.trans (hbd.mono BB.out.size))
      clear hb hbd HW HX BB
      have HW := HWd
      have HX := HXd
      have BB := BBd
      clear HWd HXd BBd
      have HS1 := Lib.hid (cwacked_any w.heap.size m s sl p u nn A2 n2 c2 l2 w' HW.out HOK.out.1 HO.out.n.wf (fun w9 t => (HO.out.rd.below (BB.out.trans t.1)).mono (BB.out.trans t.1).size) HO.out.mc HO.out.cm (pwf HO.out.l))
      rw [← hu5, ← hs5, ← hp5] at HS1
      clear hu5 hs5 hp5
      go_wp2_with fail
      refine HS1.out.mono ?_
      rintro e w4 ⟨rfl, h4, t4⟩
      have W4 := Lib.hid h4
      have X4 := Lib.hid (t4.blk HX.out (Nat.ne_of_gt HGX.out))
      have B4 := Lib.hid (BB.out.trans t4.1)
      have Q1 := (B4.out.cell (p := ⟨ab, ao + i * 3 + 1, none⟩) hab).trans Z1.out
      have Q2 := (B4.out.cell (p := ⟨ab, ao + i * 3 + 2, none⟩) hab).trans Z2.out
      clear h4 t4 HS1 HW HX BB
      go_upto_region 14 with fail
      refine GH.wp_ghl (M := false) 13 ((GH.SP.eq (.agg #[.int .i64 (m : Nat), .int .i64 (s : Nat), .int .i64 (sl : Nat), .int .i64 (p : Nat), .int .i64 (u : Nat)])) :: (GH.SP.eq (.slice (some ⟨ab, ao, none⟩) n c)) :: (GH.SP.eq (.int .i64 (i : Nat))) :: (GH.SP.eq (.pointer (some ⟨ab, ao + i * 3, none⟩))) :: (GH.SP.eq (.pointer (some ⟨ab, ao + i * 3 + 1, none⟩))) :: (GH.SP.eq (.int .i64 nn)) :: (GH.SP.eq (.slice (some ⟨ab, ao, none⟩) n c)) :: (GH.SP.eq (.int .i64 (i : Nat))) :: (GH.SP.eq (.pointer (some ⟨ab, ao + i * 3, none⟩))) :: (GH.SP.eq (.pointer (some ⟨ab, ao + i * 3 + 2, none⟩))) :: (GH.SP.eq (.slice A2 n2 c2)) :: (GH.SP.rd 2 n2 (pz l2)) :: (GH.SP.eq (.agg #[.int .i64 (m : Nat), .int .i64 (s5 : Nat), .int .i64 (sl : Nat), .int .i64 (p5 : Nat), .int .i64 (u5 : Nat)])) :: []) (none :: none :: none :: none :: none :: none :: none :: none :: none :: none :: none :: none :: none :: none :: none :: none :: none :: none :: none :: none :: none :: none :: none :: none :: none :: none :: none :: none :: none :: none :: none :: none :: none :: none :: none :: none :: none :: none :: none :: none :: none :: none :: none :: none :: none :: none :: none :: none :: none :: none :: (some 0) :: (some 1) :: (some 2) :: (some 3) :: (some 4) :: (some 5) :: (some 6) :: (some 7) :: (some 8) :: (some 9) :: (some 10) :: (some 11) :: (some 12) :: none :: none :: none :: none :: none :: none :: none :: none :: none :: none :: none :: none :: none :: none :: none :: none :: none :: none :: none :: none :: none :: none :: none :: none :: none :: none :: none :: none :: none :: none :: none :: none :: none :: none :: none :: none :: none :: none :: none :: none :: none :: none :: none :: none :: none :: none :: none :: none :: none :: none :: none :: none :: none :: none :: none :: none :: none :: none :: none :: none :: none :: none :: none :: none :: none :: none :: none :: none :: none :: none :: none :: none :: none :: none :: none :: none :: none :: none :: none :: none :: none :: none :: none :: none :: []) [50, 51, 52, 53, 54, 55, 56, 57, 58, 59, 60, 61, 62] (by rfl) (by kernel_rfl) (by kernel_rfl) ?_ ?_ ?_
      · intro S jx v hjx
        match jx, hjx with
        | 0, _ => rfl
        | 1, _ => rfl
        | 2, _ => rfl
        | 3, _ => rfl
        | 4, _ => rfl
        | 5, _ => rfl
        | 6, _ => rfl
        | 7, _ => rfl
        | 8, _ => rfl
        | 9, _ => rfl
        | 10, _ => rfl
        | 11, _ => rfl
        | 12, _ => rfl
        | nx + 13, hjx => omega
      · intro jx hjx S w' hb hd
        match jx, hjx, hd with
        | 0, _, hd =>
          simp only [GH.mkL, List.getD_cons_succ, List.getD_cons_zero]
          clear hd
          exact GH.st_loads _ [.int .i64 (m : Nat), .int .i64 (s : Nat), .int .i64 (sl : Nat), .int .i64 (p : Nat), .int .i64 (u : Nat)] (by rfl) rfl rfl (((X4.out.below hb.below X4.out.lt)).loads 0 _ (by rfl)) (by kernel_rfl) (by kernel_rfl)
        | 1, _, hd =>
          simp only [GH.mkL, List.getD_cons_succ, List.getD_cons_zero]
          clear hd
          refine GH.st_eq (by rfl) ?_
          go_simp
          (try with_reducible rfl)
        | 2, _, hd =>
          simp only [GH.mkL, List.getD_cons_succ, List.getD_cons_zero]
          clear hd
          refine GH.st_eq (by rfl) ?_
          go_simp
          (try with_reducible rfl)
        | 3, _, hd =>
          simp only [GH.mkL, List.getD_cons_succ, List.getD_cons_zero]
          have d1 : S 1 = .slice (some ⟨ab, ao, none⟩) n c := (hd 1 (by kernel_rfl)).2
          rw [d1]
          clear d1
          have d2 : S 2 = .int .i64 (i : Nat) := (hd 2 (by kernel_rfl)).2
          rw [d2]
          clear d2
          clear hd
          refine GH.st_eq (by rfl) ?_
          go_simp
          (try with_reducible rfl)
        | 4, _, hd =>
          simp only [GH.mkL, List.getD_cons_succ, List.getD_cons_zero]
          have d3 : S 3 = .pointer (some ⟨ab, ao + i * 3, none⟩) := (hd 3 (by kernel_rfl)).2
          rw [d3]
          clear d3
          clear hd
          refine GH.st_eq (by rfl) ?_
          go_simp
          (try with_reducible rfl)
        | 5, _, hd =>
          simp only [GH.mkL, List.getD_cons_succ, List.getD_cons_zero]
          have d4 : S 4 = .pointer (some ⟨ab, ao + i * 3 + 1, none⟩) := (hd 4 (by kernel_rfl)).2
          rw [d4]
          clear d4
          clear hd
          exact GH.st_load _ (by rfl) rfl rfl ((hb.below.cell (p := ⟨ab, ao + i * 3 + 1, none⟩) (Nat.lt_of_lt_of_le hab B4.out.size)).trans ((B4.out.cell (p := ⟨ab, ao + i * 3 + 1, none⟩) hab).trans Z1.out)) (by kernel_rfl)
        | 6, _, hd =>
          simp only [GH.mkL, List.getD_cons_succ, List.getD_cons_zero]
          clear hd
          refine GH.st_eq (by rfl) ?_
          go_simp
          (try with_reducible rfl)
        | 7, _, hd =>
          simp only [GH.mkL, List.getD_cons_succ, List.getD_cons_zero]
          clear hd
          refine GH.st_eq (by rfl) ?_
          go_simp
          (try with_reducible rfl)
        | 8, _, hd =>
          simp only [GH.mkL, List.getD_cons_succ, List.getD_cons_zero]
          have d6 : S 6 = .slice (some ⟨ab, ao, none⟩) n c := (hd 6 (by kernel_rfl)).2
          rw [d6]
          clear d6
          have d7 : S 7 = .int .i64 (i : Nat) := (hd 7 (by kernel_rfl)).2
          rw [d7]
          clear d7
          clear hd
          refine GH.st_eq (by rfl) ?_
          go_simp
          (try with_reducible rfl)
        | 9, _, hd =>
          simp only [GH.mkL, List.getD_cons_succ, List.getD_cons_zero]
          have d8 : S 8 = .pointer (some ⟨ab, ao + i * 3, none⟩) := (hd 8 (by kernel_rfl)).2
          rw [d8]
          clear d8
          clear hd
          refine GH.st_eq (by rfl) ?_
          go_simp
          (try with_reducible rfl)
        | 10, _, hd =>
          simp only [GH.mkL, List.getD_cons_succ, List.getD_cons_zero]
          have d9 : S 9 = .pointer (some ⟨ab, ao + i * 3 + 2, none⟩) := (hd 9 (by kernel_rfl)).2
          rw [d9]
          clear d9
          clear hd
          exact GH.st_load _ (by rfl) rfl rfl ((hb.below.cell (p := ⟨ab, ao + i * 3 + 2, none⟩) (Nat.lt_of_lt_of_le hab B4.out.size)).trans ((B4.out.cell (p := ⟨ab, ao + i * 3 + 2, none⟩) hab).trans Z2.out)) (by kernel_rfl)
        | 11, _, hd =>
          simp only [GH.mkL, List.getD_cons_succ, List.getD_cons_zero]
          have d10 : S 10 = .slice A2 n2 c2 := (hd 10 (by kernel_rfl)).2
          rw [d10]
          clear d10
          clear hd
          refine GH.st_call (by rfl) hb.below.size (by go_simp) ((HPL.out w' (B4.out.trans (hb.below.mono B4.out.size))).mono ?_)
          rintro e w9 ⟨v, rfl, hv, hb9⟩
          exact ⟨_, rfl, hb9, pzs_rd hv HLN.out⟩
        | 12, _, hd =>
          simp only [GH.mkL, List.getD_cons_succ, List.getD_cons_zero]
          have d0 : S 0 = .agg #[.int .i64 (m : Nat), .int .i64 (s : Nat), .int .i64 (sl : Nat), .int .i64 (p : Nat), .int .i64 (u : Nat)] := (hd 0 (by kernel_rfl)).2
          rw [d0]
          clear d0
          have d5 : S 5 = .int .i64 nn := (hd 5 (by kernel_rfl)).2
          rw [d5]
          clear d5
          obtain ⟨A11, c11, d11, e11, H11⟩ := (hd 11 (by kernel_rfl)).2
          rw [d11]
          clear d11
          replace H11 := Lib.hid H11
          clear hd
          refine GH.st_call (by rfl) hb.below.size (by go_simp) ((HS2.out w' A11 c11 H11.out).mono ?_)
          rintro e w9 ⟨rfl, hb9⟩
          exact ⟨_, rfl, hb9, rfl⟩
        | nx + 13, hjx, _ => omega
      intro S w' hb hG
      simp only [GH.mkL, List.drop_succ_cons, List.drop_zero]
      have d12 : S 12 = .agg #[.int .i64 (m : Nat), .int .i64 (s5 : Nat), .int .i64 (sl : Nat), .int .i64 (p5 : Nat), .int .i64 (u5 : Nat)] := hG 12 (by omega)
      rw [d12]
      clear d12
      clear hG
      have KX := X4.out.below hb.below X4.out.lt
      have W5 := Lib.hid (Blk.below W4.out hb.below (Blk.lt W4.out))
      have B5 := Lib.hid (B4.out.trans (hb.below.mono B4.out.size))
      have f0 := KX.frozen 0
      have f1 := KX.frozen 1
      have f2 := KX.frozen 2
      have f3 := KX.frozen 3
      have f4 := KX.frozen 4
      obtain ⟨x0, x1, x2, x3, x4⟩ := ptc5 KX
      have X5 := Lib.hid KX
      clear KX hb W4 X4 B4
      go_upto_region 25 with fail
      have X6 := Lib.hid (show Blk (ptw5 w' xb (.int .i64 (m : Nat)) (.int .i64 (s5 : Nat)) (.int .i64 (sl : Nat)) (.int .i64 (p5 : Nat)) (.int .i64 (u5 : Nat))) xb 33 #[.int .i64 (m : Nat), .int .i64 (s5 : Nat), .int .i64 (sl : Nat), .int .i64 (p5 : Nat), .int .i64 (u5 : Nat)] from pt5 _ _ _ _ _ X5.out)
      have hs5 : Solo xb w' (ptw5 w' xb (.int .i64 (m : Nat)) (.int .i64 (s5 : Nat)) (.int .i64 (sl : Nat)) (.int .i64 (p5 : Nat)) (.int .i64 (u5 : Nat))) := pts5 _ _ _ _ _
      have W6 := Lib.hid (show Wn (ptw5 w' xb (.int .i64 (m : Nat)) (.int .i64 (s5 : Nat)) (.int .i64 (sl : Nat)) (.int .i64 (p5 : Nat)) (.int .i64 (u5 : Nat))) w.heap.size m s5 sl p5 u5 from hs5.blk W5.out (Nat.ne_of_lt HGX.out))
      have B6 := Lib.hid (B5.out.trans (hs5.1.mono (Nat.le_of_lt HGX.out)))
      clear hs5 W5 X5 B5 x0 x1 x2 x3 x4 f0 f1 f2 f3 f4
      unfold ptw5 at X6 W6 B6
      generalize (((((w'.setCell ⟨xb, 0, none⟩ (.int .i64 (m : Nat))).setCell ⟨xb, 1, none⟩ (.int .i64 (s5 : Nat))).setCell ⟨xb, 2, none⟩ (.int .i64 (sl : Nat))).setCell ⟨xb, 3, none⟩ (.int .i64 (p5 : Nat))).setCell ⟨xb, 4, none⟩ (.int .i64 (u5 : Nat))) = w6 at X6 W6 B6 ⊢
      clear Q1 Q2 HS2
      have hs6d : decide (s5 < m) = false := decide_eq_false (by have := HOK2.out.1.s1; omega)
      have hs7d : decide (M < s5) = false := decide_eq_false (by have := HOK2.out.1.s2; have := HM.out; omega)
      have HR1 := Lib.hid fun (w' : World) (h : Wn w' w.heap.size m s5 sl p5 u5) => cwroom_any _ _ _ _ _ _ w' h HOK2.out.1.s3 HOK2.out.1.u2
      have HR2 := Lib.hid fun (w' : World) => rcwroom_any m s5 sl p5 u5 w' HOK2.out.1
      unfold cwv at HR2
      obtain ⟨rm, hrm⟩ : ∃ rm, rm = s5 - u5 := ⟨_, rfl⟩
      rw [← hrm] at HR1 HR2
      clear hrm
      go_upto_region 25 with fail
      refine GH.wp_ghl (M := false) 34 ((GH.SP.eq (.pointer (some ⟨w.heap.size, 0, none⟩))) :: (GH.SP.eq (.int .i64 (s5 : Nat))) :: (GH.SP.eq (.pointer (some ⟨xb, 1, none⟩))) :: (GH.SP.eq (.int .i64 (s5 : Nat))) :: (GH.SP.eq (.bool false)) :: (GH.SP.eq (.bool false)) :: (GH.SP.eq (.pointer (some ⟨w.heap.size, 0, none⟩))) :: (GH.SP.eq (.int .i64 (u5 : Nat))) :: (GH.SP.eq (.pointer (some ⟨xb, 4, none⟩))) :: (GH.SP.eq (.int .i64 (u5 : Nat))) :: (GH.SP.eq (.bool false)) :: (GH.SP.eq (.bool false)) :: (GH.SP.eq (.bool false)) :: (GH.SP.eq (.pointer (some ⟨w.heap.size, 0, none⟩))) :: (GH.SP.eq (.int .i64 (rm : Nat))) :: (GH.SP.eq (.agg #[.int .i64 (m : Nat), .int .i64 (s5 : Nat), .int .i64 (sl : Nat), .int .i64 (p5 : Nat), .int .i64 (u5 : Nat)])) :: (GH.SP.eq (.int .i64 (rm : Nat))) :: (GH.SP.eq (.bool false)) :: (GH.SP.eq (.bool false)) :: (GH.SP.eq (.bool false)) :: (GH.SP.eq (.pointer (some ⟨w.heap.size, 0, none⟩))) :: (GH.SP.eq (.int .i64 (s5 : Nat))) :: (GH.SP.eq (.pointer (some ⟨xb, 0, none⟩))) :: (GH.SP.eq (.int .i64 (m : Nat))) :: (GH.SP.eq (.bool false)) :: (GH.SP.eq (.bool false)) :: (GH.SP.eq (.bool false)) :: (GH.SP.eq (.pointer (some ⟨w.heap.size, 0, none⟩))) :: (GH.SP.eq (.int .i64 (s5 : Nat))) :: (GH.SP.eq (.pointer (some ⟨xb, 0, none⟩))) :: (GH.SP.eq (.int .i64 (m : Nat))) :: (GH.SP.eq (.int .i64 (M : Nat))) :: (GH.SP.eq (.bool false)) :: (GH.SP.eq (.bool false)) :: []) (none :: none :: none :: none :: none :: none :: none :: none :: none :: none :: none :: none :: none :: none :: none :: none :: none :: none :: none :: none :: none :: none :: none :: none :: none :: none :: none :: none :: none :: none :: none :: none :: none :: none :: none :: none :: none :: none :: none :: none :: none :: none :: none :: none :: none :: none :: none :: none :: none :: none :: none :: none :: none :: none :: none :: none :: none :: none :: none :: none :: none :: none :: none :: none :: none :: none :: none :: none :: none :: none :: none :: none :: none :: none :: none :: none :: none :: none :: none :: none :: none :: none :: none :: none :: none :: none :: none :: none :: none :: none :: none :: none :: none :: none :: none :: none :: none :: none :: none :: none :: none :: none :: none :: none :: none :: none :: none :: none :: none :: none :: none :: none :: (some 0) :: (some 1) :: (some 2) :: (some 3) :: (some 4) :: (some 5) :: (some 6) :: (some 7) :: (some 8) :: (some 9) :: (some 10) :: (some 11) :: (some 12) :: (some 13) :: (some 14) :: (some 15) :: (some 16) :: (some 17) :: (some 18) :: (some 19) :: (some 20) :: (some 21) :: (some 22) :: (some 23) :: (some 24) :: (some 25) :: (some 26) :: (some 27) :: (some 28) :: (some 29) :: (some 30) :: (some 31) :: (some 32) :: (some 33) :: none :: []) [112, 113, 114, 115, 116, 117, 118, 119, 120, 121, 122, 123, 124, 125, 126, 127, 128, 129, 130, 131, 132, 133, 134, 135, 136, 137, 138, 139, 140, 141, 142, 143, 144, 145] (by rfl) (by kernel_rfl) (by kernel_rfl) ?_ ?_ ?_
      · intro S jx v hjx
        match jx, hjx with
        | 0, _ => rfl
        | 1, _ => rfl
        | 2, _ => rfl
        | 3, _ => rfl
        | 4, _ => rfl
        | 5, _ => rfl
        | 6, _ => rfl
        | 7, _ => rfl
        | 8, _ => rfl
        | 9, _ => rfl
        | 10, _ => rfl
        | 11, _ => rfl
        | 12, _ => rfl
        | 13, _ => rfl
        | 14, _ => rfl
        | 15, _ => rfl
        | 16, _ => rfl
        | 17, _ => rfl
        | 18, _ => rfl
        | 19, _ => rfl
        | 20, _ => rfl
        | 21, _ => rfl
        | 22, _ => rfl
        | 23, _ => rfl
        | 24, _ => rfl
        | 25, _ => rfl
        | 26, _ => rfl
        | 27, _ => rfl
        | 28, _ => rfl
        | 29, _ => rfl
        | 30, _ => rfl
        | 31, _ => rfl
        | 32, _ => rfl
        | 33, _ => rfl
        | nx + 34, hjx => omega
      · intro jx hjx S w' hb hd
        match jx, hjx, hd with
        | 0, _, hd =>
          simp only [GH.mkL, List.getD_cons_succ, List.getD_cons_zero]
          clear hd
          refine GH.st_eq (by rfl) ?_
          go_simp
          (try with_reducible rfl)
        | 1, _, hd =>
          simp only [GH.mkL, List.getD_cons_succ, List.getD_cons_zero]
          have d0 : S 0 = .pointer (some ⟨w.heap.size, 0, none⟩) := (hd 0 (by kernel_rfl)).2
          rw [d0]
          clear d0
          clear hd
          refine GH.st_call (by rfl) hb.below.size (by go_simp) ((cwsize_anyB _ _ _ _ _ _ w' (Blk.below W6.out hb.below (Blk.lt W6.out))).mono ?_)
          rintro e w9 ⟨rfl, hb9⟩
          exact ⟨_, rfl, hb9, rfl⟩
        | 2, _, hd =>
          simp only [GH.mkL, List.getD_cons_succ, List.getD_cons_zero]
          clear hd
          refine GH.st_eq (by rfl) ?_
          go_simp
          (try with_reducible rfl)
        | 3, _, hd =>
          simp only [GH.mkL, List.getD_cons_succ, List.getD_cons_zero]
          have d2 : S 2 = .pointer (some ⟨xb, 1, none⟩) := (hd 2 (by kernel_rfl)).2
          rw [d2]
          clear d2
          clear hd
          exact GH.st_load _ (by rfl) rfl rfl (((X6.out.below hb.below X6.out.lt)).cell 1) (by kernel_rfl)
        | 4, _, hd =>
          simp only [GH.mkL, List.getD_cons_succ, List.getD_cons_zero]
          have d1 : S 1 = .int .i64 (s5 : Nat) := (hd 1 (by kernel_rfl)).2
          rw [d1]
          clear d1
          have d3 : S 3 = .int .i64 (s5 : Nat) := (hd 3 (by kernel_rfl)).2
          rw [d3]
          clear d3
          clear hd
          refine GH.st_eq (by rfl) ?_
          go_simp
          (try with_reducible rfl)
        | 5, _, hd =>
          simp only [GH.mkL, List.getD_cons_succ, List.getD_cons_zero]
          have d1 : S 1 = .int .i64 (s5 : Nat) := (hd 1 (by kernel_rfl)).2
          rw [d1]
          clear d1
          have d4 : S 4 = .bool false := (hd 4 (by kernel_rfl)).2
          rw [d4]
          clear d4
          clear hd
          refine GH.st_eq (by rfl) ?_
          go_simp
          (try with_reducible rfl)
        | 6, _, hd =>
          simp only [GH.mkL, List.getD_cons_succ, List.getD_cons_zero]
          have d5 : S 5 = .bool false := (hd 5 (by kernel_rfl)).2
          rw [d5]
          clear d5
          clear hd
          refine GH.st_eq (by rfl) ?_
          go_simp
          (try with_reducible rfl)
        | 7, _, hd =>
          simp only [GH.mkL, List.getD_cons_succ, List.getD_cons_zero]
          have d5 : S 5 = .bool false := (hd 5 (by kernel_rfl)).2
          rw [d5]
          clear d5
          have d6 : S 6 = .pointer (some ⟨w.heap.size, 0, none⟩) := (hd 6 (by kernel_rfl)).2
          rw [d6]
          clear d6
          clear hd
          refine GH.st_call (by rfl) hb.below.size (by go_simp) ((cwunder_anyB _ _ _ _ _ _ w' (Blk.below W6.out hb.below (Blk.lt W6.out))).mono ?_)
          rintro e w9 ⟨rfl, hb9⟩
          exact ⟨_, rfl, hb9, rfl⟩
        | 8, _, hd =>
          simp only [GH.mkL, List.getD_cons_succ, List.getD_cons_zero]
          have d5 : S 5 = .bool false := (hd 5 (by kernel_rfl)).2
          rw [d5]
          clear d5
          clear hd
          refine GH.st_eq (by rfl) ?_
          go_simp
          (try with_reducible rfl)
        | 9, _, hd =>
          simp only [GH.mkL, List.getD_cons_succ, List.getD_cons_zero]
          have d5 : S 5 = .bool false := (hd 5 (by kernel_rfl)).2
          rw [d5]
          clear d5
          have d8 : S 8 = .pointer (some ⟨xb, 4, none⟩) := (hd 8 (by kernel_rfl)).2
          rw [d8]
          clear d8
          clear hd
          exact GH.st_load _ (by rfl) rfl rfl (((X6.out.below hb.below X6.out.lt)).cell 4) (by kernel_rfl)
        | 10, _, hd =>
          simp only [GH.mkL, List.getD_cons_succ, List.getD_cons_zero]
          have d5 : S 5 = .bool false := (hd 5 (by kernel_rfl)).2
          rw [d5]
          clear d5
          have d7 : S 7 = .int .i64 (u5 : Nat) := (hd 7 (by kernel_rfl)).2
          rw [d7]
          clear d7
          have d9 : S 9 = .int .i64 (u5 : Nat) := (hd 9 (by kernel_rfl)).2
          rw [d9]
          clear d9
          clear hd
          refine GH.st_eq (by rfl) ?_
          go_simp
          (try with_reducible rfl)
        | 11, _, hd =>
          simp only [GH.mkL, List.getD_cons_succ, List.getD_cons_zero]
          have d5 : S 5 = .bool false := (hd 5 (by kernel_rfl)).2
          rw [d5]
          clear d5
          have d10 : S 10 = .bool false := (hd 10 (by kernel_rfl)).2
          rw [d10]
          clear d10
          clear hd
          refine GH.st_eq (by rfl) ?_
          go_simp
          (try with_reducible rfl)
        | 12, _, hd =>
          simp only [GH.mkL, List.getD_cons_succ, List.getD_cons_zero]
          have d7 : S 7 = .int .i64 (u5 : Nat) := (hd 7 (by kernel_rfl)).2
          rw [d7]
          clear d7
          have d11 : S 11 = .bool false := (hd 11 (by kernel_rfl)).2
          rw [d11]
          clear d11
          clear hd
          refine GH.st_eq (by rfl) ?_
          go_simp
          (try with_reducible rfl)
        | 13, _, hd =>
          simp only [GH.mkL, List.getD_cons_succ, List.getD_cons_zero]
          have d12 : S 12 = .bool false := (hd 12 (by kernel_rfl)).2
          rw [d12]
          clear d12
          clear hd
          refine GH.st_eq (by rfl) ?_
          go_simp
          (try with_reducible rfl)
        | 14, _, hd =>
          simp only [GH.mkL, List.getD_cons_succ, List.getD_cons_zero]
          have d12 : S 12 = .bool false := (hd 12 (by kernel_rfl)).2
          rw [d12]
          clear d12
          have d13 : S 13 = .pointer (some ⟨w.heap.size, 0, none⟩) := (hd 13 (by kernel_rfl)).2
          rw [d13]
          clear d13
          clear hd
          refine GH.st_call (by rfl) hb.below.size (by go_simp) ((HR1.out w' (Blk.below W6.out hb.below (Blk.lt W6.out))).mono ?_)
          rintro e w9 ⟨rfl, hb9⟩
          exact ⟨_, rfl, hb9, rfl⟩
        | 15, _, hd =>
          simp only [GH.mkL, List.getD_cons_succ, List.getD_cons_zero]
          have d12 : S 12 = .bool false := (hd 12 (by kernel_rfl)).2
          rw [d12]
          clear d12
          clear hd
          exact GH.st_loads _ [.int .i64 (m : Nat), .int .i64 (s5 : Nat), .int .i64 (sl : Nat), .int .i64 (p5 : Nat), .int .i64 (u5 : Nat)] (by rfl) rfl rfl (((X6.out.below hb.below X6.out.lt)).loads 0 _ (by rfl)) (by kernel_rfl) (by kernel_rfl)
        | 16, _, hd =>
          simp only [GH.mkL, List.getD_cons_succ, List.getD_cons_zero]
          have d12 : S 12 = .bool false := (hd 12 (by kernel_rfl)).2
          rw [d12]
          clear d12
          have d14 : S 14 = .int .i64 (rm : Nat) := (hd 14 (by kernel_rfl)).2
          rw [d14]
          clear d14
          have d15 : S 15 = .agg #[.int .i64 (m : Nat), .int .i64 (s5 : Nat), .int .i64 (sl : Nat), .int .i64 (p5 : Nat), .int .i64 (u5 : Nat)] := (hd 15 (by kernel_rfl)).2
          rw [d15]
          clear d15
          clear hd
          refine GH.st_call (by rfl) hb.below.size (by go_simp) ((HR2.out w').mono ?_)
          rintro e w9 ⟨rfl, hb9⟩
          exact ⟨_, rfl, hb9, rfl⟩
        | 17, _, hd =>
          simp only [GH.mkL, List.getD_cons_succ, List.getD_cons_zero]
          have d12 : S 12 = .bool false := (hd 12 (by kernel_rfl)).2
          rw [d12]
          clear d12
          have d14 : S 14 = .int .i64 (rm : Nat) := (hd 14 (by kernel_rfl)).2
          rw [d14]
          clear d14
          have d16 : S 16 = .int .i64 (rm : Nat) := (hd 16 (by kernel_rfl)).2
          rw [d16]
          clear d16
          clear hd
          refine GH.st_eq (by rfl) ?_
          go_simp
          (try with_reducible rfl)
        | 18, _, hd =>
          simp only [GH.mkL, List.getD_cons_succ, List.getD_cons_zero]
          have d12 : S 12 = .bool false := (hd 12 (by kernel_rfl)).2
          rw [d12]
          clear d12
          have d17 : S 17 = .bool false := (hd 17 (by kernel_rfl)).2
          rw [d17]
          clear d17
          clear hd
          refine GH.st_eq (by rfl) ?_
          go_simp
          (try with_reducible rfl)
        | 19, _, hd =>
          simp only [GH.mkL, List.getD_cons_succ, List.getD_cons_zero]
          have d16 : S 16 = .int .i64 (rm : Nat) := (hd 16 (by kernel_rfl)).2
          rw [d16]
          clear d16
          have d18 : S 18 = .bool false := (hd 18 (by kernel_rfl)).2
          rw [d18]
          clear d18
          clear hd
          refine GH.st_eq (by rfl) ?_
          go_simp
          (try with_reducible rfl)
        | 20, _, hd =>
          simp only [GH.mkL, List.getD_cons_succ, List.getD_cons_zero]
          have d19 : S 19 = .bool false := (hd 19 (by kernel_rfl)).2
          rw [d19]
          clear d19
          clear hd
          refine GH.st_eq (by rfl) ?_
          go_simp
          (try with_reducible rfl)
        | 21, _, hd =>
          simp only [GH.mkL, List.getD_cons_succ, List.getD_cons_zero]
          have d19 : S 19 = .bool false := (hd 19 (by kernel_rfl)).2
          rw [d19]
          clear d19
          have d20 : S 20 = .pointer (some ⟨w.heap.size, 0, none⟩) := (hd 20 (by kernel_rfl)).2
          rw [d20]
          clear d20
          clear hd
          refine GH.st_call (by rfl) hb.below.size (by go_simp) ((cwsize_anyB _ _ _ _ _ _ w' (Blk.below W6.out hb.below (Blk.lt W6.out))).mono ?_)
          rintro e w9 ⟨rfl, hb9⟩
          exact ⟨_, rfl, hb9, rfl⟩
        | 22, _, hd =>
          simp only [GH.mkL, List.getD_cons_succ, List.getD_cons_zero]
          have d19 : S 19 = .bool false := (hd 19 (by kernel_rfl)).2
          rw [d19]
          clear d19
          clear hd
          refine GH.st_eq (by rfl) ?_
          go_simp
          (try with_reducible rfl)
        | 23, _, hd =>
          simp only [GH.mkL, List.getD_cons_succ, List.getD_cons_zero]
          have d19 : S 19 = .bool false := (hd 19 (by kernel_rfl)).2
          rw [d19]
          clear d19
          have d22 : S 22 = .pointer (some ⟨xb, 0, none⟩) := (hd 22 (by kernel_rfl)).2
          rw [d22]
          clear d22
          clear hd
          exact GH.st_load _ (by rfl) rfl rfl (((X6.out.below hb.below X6.out.lt)).cell 0) (by kernel_rfl)
        | 24, _, hd =>
          simp only [GH.mkL, List.getD_cons_succ, List.getD_cons_zero]
          have d19 : S 19 = .bool false := (hd 19 (by kernel_rfl)).2
          rw [d19]
          clear d19
          have d21 : S 21 = .int .i64 (s5 : Nat) := (hd 21 (by kernel_rfl)).2
          rw [d21]
          clear d21
          have d23 : S 23 = .int .i64 (m : Nat) := (hd 23 (by kernel_rfl)).2
          rw [d23]
          clear d23
          clear hd
          refine GH.st_eq (by rfl) ?_
          go_simp
          (try simp only [hs6d])
          (try with_reducible rfl)
        | 25, _, hd =>
          simp only [GH.mkL, List.getD_cons_succ, List.getD_cons_zero]
          have d19 : S 19 = .bool false := (hd 19 (by kernel_rfl)).2
          rw [d19]
          clear d19
          have d24 : S 24 = .bool false := (hd 24 (by kernel_rfl)).2
          rw [d24]
          clear d24
          clear hd
          refine GH.st_eq (by rfl) ?_
          go_simp
          (try with_reducible rfl)
        | 26, _, hd =>
          simp only [GH.mkL, List.getD_cons_succ, List.getD_cons_zero]
          have d21 : S 21 = .int .i64 (s5 : Nat) := (hd 21 (by kernel_rfl)).2
          rw [d21]
          clear d21
          have d25 : S 25 = .bool false := (hd 25 (by kernel_rfl)).2
          rw [d25]
          clear d25
          clear hd
          refine GH.st_eq (by rfl) ?_
          go_simp
          (try with_reducible rfl)
        | 27, _, hd =>
          simp only [GH.mkL, List.getD_cons_succ, List.getD_cons_zero]
          have d26 : S 26 = .bool false := (hd 26 (by kernel_rfl)).2
          rw [d26]
          clear d26
          clear hd
          refine GH.st_eq (by rfl) ?_
          go_simp
          (try with_reducible rfl)
        | 28, _, hd =>
          simp only [GH.mkL, List.getD_cons_succ, List.getD_cons_zero]
          have d26 : S 26 = .bool false := (hd 26 (by kernel_rfl)).2
          rw [d26]
          clear d26
          have d27 : S 27 = .pointer (some ⟨w.heap.size, 0, none⟩) := (hd 27 (by kernel_rfl)).2
          rw [d27]
          clear d27
          clear hd
          refine GH.st_call (by rfl) hb.below.size (by go_simp) ((cwsize_anyB _ _ _ _ _ _ w' (Blk.below W6.out hb.below (Blk.lt W6.out))).mono ?_)
          rintro e w9 ⟨rfl, hb9⟩
          exact ⟨_, rfl, hb9, rfl⟩
        | 29, _, hd =>
          simp only [GH.mkL, List.getD_cons_succ, List.getD_cons_zero]
          have d26 : S 26 = .bool false := (hd 26 (by kernel_rfl)).2
          rw [d26]
          clear d26
          clear hd
          refine GH.st_eq (by rfl) ?_
          go_simp
          (try with_reducible rfl)
        | 30, _, hd =>
          simp only [GH.mkL, List.getD_cons_succ, List.getD_cons_zero]
          have d26 : S 26 = .bool false := (hd 26 (by kernel_rfl)).2
          rw [d26]
          clear d26
          have d29 : S 29 = .pointer (some ⟨xb, 0, none⟩) := (hd 29 (by kernel_rfl)).2
          rw [d29]
          clear d29
          clear hd
          exact GH.st_load _ (by rfl) rfl rfl (((X6.out.below hb.below X6.out.lt)).cell 0) (by kernel_rfl)
        | 31, _, hd =>
          simp only [GH.mkL, List.getD_cons_succ, List.getD_cons_zero]
          have d26 : S 26 = .bool false := (hd 26 (by kernel_rfl)).2
          rw [d26]
          clear d26
          have d30 : S 30 = .int .i64 (m : Nat) := (hd 30 (by kernel_rfl)).2
          rw [d30]
          clear d30
          clear hd
          refine GH.st_eq (by rfl) ?_
          go_simp
          (try simp only [eM, wM])
          (try with_reducible rfl)
        | 32, _, hd =>
          simp only [GH.mkL, List.getD_cons_succ, List.getD_cons_zero]
          have d26 : S 26 = .bool false := (hd 26 (by kernel_rfl)).2
          rw [d26]
          clear d26
          have d28 : S 28 = .int .i64 (s5 : Nat) := (hd 28 (by kernel_rfl)).2
          rw [d28]
          clear d28
          have d31 : S 31 = .int .i64 (M : Nat) := (hd 31 (by kernel_rfl)).2
          rw [d31]
          clear d31
          clear hd
          refine GH.st_eq (by rfl) ?_
          go_simp
          (try simp only [hs7d])
          (try with_reducible rfl)
        | 33, _, hd =>
          simp only [GH.mkL, List.getD_cons_succ, List.getD_cons_zero]
          have d26 : S 26 = .bool false := (hd 26 (by kernel_rfl)).2
          rw [d26]
          clear d26
          have d32 : S 32 = .bool false := (hd 32 (by kernel_rfl)).2
          rw [d32]
          clear d32
          clear hd
          refine GH.st_eq (by rfl) ?_
          go_simp
          (try with_reducible rfl)
        | nx + 34, hjx, _ => omega
      intro S w' hb hG
      simp only [GH.mkL, List.drop_succ_cons, List.drop_zero]
      have d33 : S 33 = .bool false := hG 33 (by omega)
      rw [d33]
      clear d33
      clear hG
      have W7 := Lib.hid (Blk.below W6.out hb.below (Blk.lt W6.out))
      have X7 := Lib.hid (X6.out.below hb.below X6.out.lt)
      have B7 := Lib.hid (B6.out.trans (hb.below.mono B6.out.size))
      clear hb W6 X6 B6 hs6d hs7d
      refine wpList_nil ?_
      go_wp2_with fail
      go_roundw
      case rel => exact ⟨i + 1, s5, sl, p5, u5, by omega, by go_num, HOK2, W7, X7, B7⟩
      case measure => simp [intOf]; omega

    · obtain rfl : i = n := by omega
      go_wp2_with fail
      refine (alive13 wr).mono ?_
      rintro e w9 ⟨rfl, hb9⟩
      have B9 := Lib.hid (BB.out.trans (hb9.mono BB.out.size))
      go_wp2_with fail
      go_ret
      exact ⟨rfl, B9.out⟩
end Go.Proofs.Ytpjfheojlcahgaa
