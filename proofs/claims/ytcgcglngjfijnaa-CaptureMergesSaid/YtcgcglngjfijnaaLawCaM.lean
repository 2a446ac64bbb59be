/- Layer 34: the law CaptureMerges answers true, and nothing that was there has turned. -/
import Derived.Test.YtcgcglngjfijnaaCapJ
import Derived.Deep.Cut
namespace Go.Proofs.Ytcgcglngjfijnaa
open Go.RowKit
set_option linter.unusedVariables false
set_option linter.unusedSimpArgs false
theorem bsum_each {l : List Rcd} {p : Rcd} (h : p ∈ l) : p.2.2.2.length ≤ bsum l := by
  obtain ⟨i, hi⟩ := List.getElem?_of_mem h
  have h1 := bsum_at hi
  omega
set_option maxRecDepth 20000 in
set_option maxHeartbeats 16000000 in
theorem captureMerges_walk (A1 : Option Addr) (n1 c1 : Nat) (l1 : List Rb) (A2 : Option Addr) (n2 c2 : Nat) (l2 : List Rb) (f t : Int) (w : World) (h1 : Rs w A1 n1 c1 l1) (h2 : Rs w A2 n2 c2 l2) (hr1 : ∀ p ∈ l1, p.2.2.2.n ≤ 140737488355328) (hr2 : ∀ p ∈ l2, p.2.2.2.n ≤ 140737488355328) :
    Calls Try.prog 9 #[.slice A1 n1 c1, .slice A2 n2 c2, .agg #[.int .i64 f, .int .i64 t]] w fun e w' => e = .returned (.bool true) ∧ Below w.heap.size w w' := by
  have HO1 := Lib.hid h1; have HO2 := Lib.hid h2
  have HL1 := Lib.hid h1.len; have HL2 := Lib.hid h2.len
  have HR1 := Lib.hid (show ∀ p ∈ rsay l1, p.2.2.2.length ≤ 140737488355328 from fun p hp => by
    obtain ⟨q, hq, rfl⟩ := List.mem_map.1 hp
    have := (h1.bod q hq).1.natLen
    dsimp only
    rw [this]
    exact hr1 q hq)
  have HR2 := Lib.hid (show ∀ p ∈ rsay l2, p.2.2.2.length ≤ 140737488355328 from fun p hp => by
    obtain ⟨q, hq, rfl⟩ := List.mem_map.1 hp
    have := (h2.bod q hq).1.natLen
    dsimp only
    rw [this]
    exact hr2 q hq)
  have hc1 := h1.cap.1; have hc2 := h2.cap.1
  clear h1 h2 hr1 hr2
  go_enter Try.func9, Try.ntmps9
  go_wp2_with fail
  have X0 := Lib.hid (Blk.new w 87 #[.int .i64 f, .int .i64 t])
  have B0 := Lib.hid ((Below.refl w.heap.size w).alloc (Nat.le_refl _) (.cells #[.int .i64 f, .int .i64 t] 87))
  generalize w.alloc (.cells #[.int .i64 f, .int .i64 t] 87) = wa at X0 B0 ⊢
  refine (cgreat2_any A1 n1 c1 l1 wa (HO1.out.into B0.out)).mono ?_
  rintro e w1 ⟨⟨g1, rfl, hg1⟩, hb1⟩
  have X1 := Lib.hid (X0.out.below hb1 X0.out.lt)
  have B1 := Lib.hid (B0.out.trans (hb1.mono B0.out.size))
  clear hb1 X0 B0
  cases g1 with
  | true =>
    go_wp2_with fail
    go_ret
    exact ⟨rfl, B1.out⟩
  | false =>
  have G1 := Lib.hid (hg1 rfl)
  clear hg1
  go_wp2_with fail
  refine (cgreat2_any A2 n2 c2 l2 w1 (HO2.out.into B1.out)).mono ?_
  rintro e w2 ⟨⟨g2, rfl, hg2⟩, hb2⟩
  have X2 := Lib.hid (X1.out.below hb2 X1.out.lt)
  have B2 := Lib.hid (B1.out.trans (hb2.mono B1.out.size))
  clear hb2 X1 B1
  cases g2 with
  | true =>
    go_wp2_with fail
    go_ret
    exact ⟨rfl, B2.out⟩
  | false =>
  have G2 := Lib.hid (hg2 rfl)
  clear hg2
  by_cases hn1 : 100 < n1
  · have hn1' : (100 : Int) < (n1 : Int) := by omega
    have hn1d : decide ((100 : Int) < (n1 : Int)) = true := by simp; omega
    go_wp2_with fail
    go_ret
    exact ⟨rfl, B2.out⟩
  have hn1' : decide ((100 : Int) < (n1 : Int)) = false := by simp; omega
  by_cases hn2 : 100 < n2
  · have hn2' : decide ((100 : Int) < (n2 : Int)) = true := by simp; omega
    go_wp2_with fail
    go_ret
    exact ⟨rfl, B2.out⟩
  have hn2' : decide ((100 : Int) < (n2 : Int)) = false := by simp; omega
  have S1 := Lib.hid (show ∀ p ∈ l1, p.2.2.2.n ≤ 100000 from fun p hp => by
    have h := bsum_each (show (p.1, p.2.1, p.2.2.1, p.2.2.2.l) ∈ rsay l1 from List.mem_map.2 ⟨p, hp, rfl⟩)
    have h3 := G1.out.2 HR1.out
    have h4 := (HO1.out.bod p hp).1.natLen
    dsimp only at h
    omega)
  have S2 := Lib.hid (show ∀ p ∈ l2, p.2.2.2.n ≤ 100000 from fun p hp => by
    have h := bsum_each (show (p.1, p.2.1, p.2.2.1, p.2.2.2.l) ∈ rsay l2 from List.mem_map.2 ⟨p, hp, rfl⟩)
    have h3 := G2.out.2 HR2.out
    have h4 := (HO2.out.bod p hp).1.natLen
    dsimp only at h
    omega)
  clear G1 G2 HR1 HR2
  go_wp2_with fail
  refine (cmerge_any A1 A2 n1 c1 n2 c2 l1 l2 w2 (HO1.out.into B2.out) (HO2.out.into B2.out) (by omega) (by omega) S1.out S2.out).mono ?_
  rintro e w3 ⟨⟨A3, n3, c3, lo, rfl, hrs3, hro3⟩, hb3⟩
  have X3 := Lib.hid (X2.out.below hb3 X2.out.lt)
  have B3 := Lib.hid (B2.out.trans (hb3.mono B2.out.size))
  have R3 := Lib.hid hrs3
  have E3 := Lib.hid hro3
  have hn3 : n3 = n1 + n2 := by
    have h1 := congrArg List.length hro3
    rw [rsay_len, rsay_len, mgR_len, hrs3.len, HL1.out, HL2.out] at h1
    exact h1
  have HN3 := Lib.hid hn3
  have hn3b : n3 ≤ 100000 := by omega
  clear hb3 X2 B2 hrs3 hro3 hn3 hn1' hn2'
  go_wp2_with fail
  refine (cplain_any A3 n3 c3 lo w3 R3.out hn3b).mono ?_
  rintro e w5 ⟨v7, rfl, hO7, hb5⟩
  have X5 := Lib.hid (X3.out.below hb5 X3.out.lt)
  have B5 := Lib.hid (B3.out.trans (hb5.mono B3.out.size))
  rw [E3.out] at hO7
  obtain ⟨A7, n7, c7, rfl, hc7, hl7, hr7⟩ := hO7.out
  have RM5 := Lib.hid hr7.out
  have HN7 := Lib.hid (show n7 = n1 + n2 from by rw [← hl7.out, rsay_len, mgR_len, HL1.out, HL2.out])
  have hn7b : n7 ≤ 200 := by have := HN7.out; omega
  clear hb5 X3 B3 hO7 hl7 hr7 R3 E3 HN3 hn3b
  have HS1 := Lib.hid (HO1.out.into B5.out)
  have HS2 := Lib.hid (HO2.out.into B5.out)
  clear HO1 HO2
  go_wp2_with fail
  go_loopw [8, 9, 10] (fun iv kv nv wr => ∃ i k m : Nat, i ≤ n1 ∧ k ≤ n2 ∧ iv = .int .i64 (i : Nat) ∧ kv = .int .i64 (k : Nat) ∧ nv = .int .i64 (m : Nat) ∧ Hid (m = i + k) ∧ Hid ((mgR l1 l2).drop (i + k) = mgR (l1.drop i) (l2.drop k)) ∧ Hid (Below w5.heap.size w5 wr)) (fun _ _ nv _ => n7 - (intOf nv).toNat)
  case atStart => exact ⟨0, 0, 0, Nat.zero_le _, Nat.zero_le _, rfl, rfl, rfl, Lib.hid rfl, Lib.hid rfl, Lib.hid (Below.refl _ _)⟩
  case round =>
    obtain ⟨i, k, m, hi, hk, rfl, rfl, rfl, HM, HD, HW⟩ := hrel
    have H1 := Lib.hid (HS1.out.into HW.out)
    have H2 := Lib.hid (HS2.out.into HW.out)
    have RMM := Lib.hid (RM5.out.into HW.out)
    by_cases hlt : m < n7
    · have hltI : (m : Int) < (n7 : Int) := by omega
      have hsum : IntKind.i64.wrap ((i : Int) + (k : Int)) = (m : Nat) := by have := HM.out; rw [IntKind.wrap_i64]; omega
      obtain ⟨g7, o7, hA7, _, _⟩ := RMM.out.2 (by omega)
      subst hA7
      by_cases hke : k = n2
      · have hin : i < n1 := by have := HM.out; have := HN7.out; omega
        have e1 : ((k : Int) == (n2 : Int)) = true := by simp; omega
        have e2 : decide ((k : Int) = (n2 : Int)) = true := by simp; omega
        have e3 : ((i : Int) == (n1 : Int)) = false := by simp; omega
        have e4 : decide ((i : Int) = (n1 : Int)) = false := by simp; omega
        have hiI : (i : Int) < (n1 : Int) := by omega
        have HKE := Lib.hid hke
        clear hke
        go_wp2_with fail
        obtain ⟨b1, o1, t1, s1, p1, q1, hA1, hbb1, Y1, _, _, _, HPi, _, _, _⟩ := H1.out.at_ (i := i) (by omega)
        subst hA1
        obtain ⟨q1A, q1n, q1c, q1l⟩ := q1
        dsimp only at *
        replace Y1 := Lib.hid Y1
        have HB1 := Lib.hid hbb1
        clear hbb1
        have MP0 := mg_a HD.out HPi.out (Or.inl (List.drop_eq_nil_of_le (by rw [HL2.out, HKE.out]; exact Nat.le_refl _)))
        rw [← HM.out] at MP0
        have MP := Lib.hid (rsay_at (Lib.hid MP0.1))
        have MD := Lib.hid MP0.2
        clear MP0 HD
        refine GH.wp_ghl (M := false) 24 ((GH.SP.eq (.int .i64 (k : Nat))) :: (GH.SP.eq (.slice A2 n2 c2)) :: (GH.SP.eq (.int .i64 (n2 : Nat))) :: (GH.SP.eq (.bool true)) :: (GH.SP.eq (.bool true)) :: (GH.SP.eq (undef)) :: (GH.SP.eq (undef)) :: (GH.SP.eq (undef)) :: (GH.SP.eq (undef)) :: (GH.SP.eq (undef)) :: (GH.SP.eq (undef)) :: (GH.SP.eq (undef)) :: (GH.SP.eq (undef)) :: (GH.SP.eq (undef)) :: (GH.SP.eq (undef)) :: (GH.SP.eq (undef)) :: (GH.SP.eq (undef)) :: (GH.SP.eq (undef)) :: (GH.SP.eq (undef)) :: (GH.SP.eq (undef)) :: (GH.SP.eq (undef)) :: (GH.SP.eq (undef)) :: (GH.SP.eq (.bool true)) :: (GH.SP.eq (.bool true)) :: []) (none :: none :: none :: none :: none :: none :: none :: none :: none :: none :: none :: (some 23) :: none :: none :: none :: none :: none :: none :: none :: none :: none :: none :: none :: none :: none :: none :: none :: none :: none :: none :: none :: none :: none :: none :: none :: none :: none :: none :: none :: none :: (some 0) :: (some 1) :: (some 2) :: (some 3) :: (some 4) :: (some 5) :: (some 6) :: (some 7) :: (some 8) :: (some 9) :: (some 10) :: (some 11) :: (some 12) :: (some 13) :: (some 14) :: (some 15) :: (some 16) :: (some 17) :: (some 18) :: (some 19) :: (some 20) :: (some 21) :: (some 22) :: none :: none :: none :: none :: none :: none :: none :: none :: none :: none :: none :: none :: none :: none :: none :: none :: none :: none :: none :: none :: none :: none :: none :: none :: none :: none :: none :: none :: none :: none :: none :: none :: none :: none :: none :: none :: none :: none :: none :: none :: none :: none :: none :: none :: none :: none :: none :: none :: none :: none :: none :: none :: none :: none :: none :: none :: none :: none :: none :: none :: none :: none :: none :: none :: none :: none :: none :: none :: none :: none :: none :: none :: none :: none :: none :: none :: none :: none :: none :: none :: none :: none :: none :: none :: none :: none :: none :: none :: none :: none :: none :: none :: none :: none :: none :: none :: none :: none :: none :: none :: none :: none :: none :: none :: none :: none :: none :: none :: none :: none :: none :: none :: none :: []) [40, 41, 42, 43, 44, 45, 46, 47, 48, 49, 50, 51, 52, 53, 54, 55, 56, 57, 58, 59, 60, 61, 62, 11] (by rfl) (by kernel_rfl) (by kernel_rfl) ?_ ?_ ?_
        · intro S jx v hjx
          match jx, hjx with
          | 0, _ => rfl
          | 1, _ => rfl
          | 2, _ => rfl
          | 3, _ => rfl
          | 4, _ => rfl
          | 5, _ => rfl
          | 6, _ => rfl
          | 7, _ => rfl
          | 8, _ => rfl
          | 9, _ => rfl
          | 10, _ => rfl
          | 11, _ => rfl
          | 12, _ => rfl
          | 13, _ => rfl
          | 14, _ => rfl
          | 15, _ => rfl
          | 16, _ => rfl
          | 17, _ => rfl
          | 18, _ => rfl
          | 19, _ => rfl
          | 20, _ => rfl
          | 21, _ => rfl
          | 22, _ => rfl
          | 23, _ => rfl
          | nx + 24, hjx => omega
        · intro jx hjx S w' hb hd
          match jx, hjx, hd with
          | 0, _, hd =>
            simp only [GH.mkL, List.getD_cons_succ, List.getD_cons_zero]
            clear hd
            refine GH.st_eq (by rfl) ?_
            go_simp
            (try with_reducible rfl)
          | 1, _, hd =>
            simp only [GH.mkL, List.getD_cons_succ, List.getD_cons_zero]
            clear hd
            refine GH.st_eq (by rfl) ?_
            go_simp
            (try with_reducible rfl)
          | 2, _, hd =>
            simp only [GH.mkL, List.getD_cons_succ, List.getD_cons_zero]
            have d1 : S 1 = .slice A2 n2 c2 := (hd 1 (by kernel_rfl)).2
            rw [d1]
            clear d1
            clear hd
            refine GH.st_eq (by rfl) ?_
            go_simp
            (try with_reducible rfl)
          | 3, _, hd =>
            simp only [GH.mkL, List.getD_cons_succ, List.getD_cons_zero]
            have d0 : S 0 = .int .i64 (k : Nat) := (hd 0 (by kernel_rfl)).2
            rw [d0]
            clear d0
            have d2 : S 2 = .int .i64 (n2 : Nat) := (hd 2 (by kernel_rfl)).2
            rw [d2]
            clear d2
            clear hd
            refine GH.st_eq (by rfl) ?_
            go_simp
            (try with_reducible rfl)
          | 4, _, hd =>
            simp only [GH.mkL, List.getD_cons_succ, List.getD_cons_zero]
            have d3 : S 3 = .bool true := (hd 3 (by kernel_rfl)).2
            rw [d3]
            clear d3
            clear hd
            refine GH.st_eq (by rfl) ?_
            go_simp
            (try with_reducible rfl)
          | 5, _, hd =>
            simp only [GH.mkL, List.getD_cons_succ, List.getD_cons_zero]
            have d4 : S 4 = .bool true := (hd 4 (by kernel_rfl)).2
            rw [d4]
            clear d4
            clear hd
            exact GH.st_skip (by rfl) rfl
          | 6, _, hd =>
            simp only [GH.mkL, List.getD_cons_succ, List.getD_cons_zero]
            have d4 : S 4 = .bool true := (hd 4 (by kernel_rfl)).2
            rw [d4]
            clear d4
            clear hd
            exact GH.st_skip (by rfl) rfl
          | 7, _, hd =>
            simp only [GH.mkL, List.getD_cons_succ, List.getD_cons_zero]
            have d4 : S 4 = .bool true := (hd 4 (by kernel_rfl)).2
            rw [d4]
            clear d4
            have d6 : S 6 = undef := (hd 6 (by kernel_rfl)).2
            rw [d6]
            clear d6
            clear hd
            exact GH.st_skip (by rfl) rfl
          | 8, _, hd =>
            simp only [GH.mkL, List.getD_cons_succ, List.getD_cons_zero]
            have d4 : S 4 = .bool true := (hd 4 (by kernel_rfl)).2
            rw [d4]
            clear d4
            have d5 : S 5 = undef := (hd 5 (by kernel_rfl)).2
            rw [d5]
            clear d5
            have d7 : S 7 = undef := (hd 7 (by kernel_rfl)).2
            rw [d7]
            clear d7
            clear hd
            exact GH.st_skip (by rfl) rfl
          | 9, _, hd =>
            simp only [GH.mkL, List.getD_cons_succ, List.getD_cons_zero]
            have d4 : S 4 = .bool true := (hd 4 (by kernel_rfl)).2
            rw [d4]
            clear d4
            have d8 : S 8 = undef := (hd 8 (by kernel_rfl)).2
            rw [d8]
            clear d8
            clear hd
            exact GH.st_skip (by rfl) rfl
          | 10, _, hd =>
            simp only [GH.mkL, List.getD_cons_succ, List.getD_cons_zero]
            have d9 : S 9 = undef := (hd 9 (by kernel_rfl)).2
            rw [d9]
            clear d9
            clear hd
            exact GH.st_skip (by rfl) rfl
          | 11, _, hd =>
            simp only [GH.mkL, List.getD_cons_succ, List.getD_cons_zero]
            have d9 : S 9 = undef := (hd 9 (by kernel_rfl)).2
            rw [d9]
            clear d9
            clear hd
            exact GH.st_skip (by rfl) rfl
          | 12, _, hd =>
            simp only [GH.mkL, List.getD_cons_succ, List.getD_cons_zero]
            have d9 : S 9 = undef := (hd 9 (by kernel_rfl)).2
            rw [d9]
            clear d9
            have d10 : S 10 = undef := (hd 10 (by kernel_rfl)).2
            rw [d10]
            clear d10
            have d11 : S 11 = undef := (hd 11 (by kernel_rfl)).2
            rw [d11]
            clear d11
            clear hd
            exact GH.st_skip (by rfl) rfl
          | 13, _, hd =>
            simp only [GH.mkL, List.getD_cons_succ, List.getD_cons_zero]
            have d9 : S 9 = undef := (hd 9 (by kernel_rfl)).2
            rw [d9]
            clear d9
            have d12 : S 12 = undef := (hd 12 (by kernel_rfl)).2
            rw [d12]
            clear d12
            clear hd
            exact GH.st_skip (by rfl) rfl
          | 14, _, hd =>
            simp only [GH.mkL, List.getD_cons_succ, List.getD_cons_zero]
            have d9 : S 9 = undef := (hd 9 (by kernel_rfl)).2
            rw [d9]
            clear d9
            have d13 : S 13 = undef := (hd 13 (by kernel_rfl)).2
            rw [d13]
            clear d13
            clear hd
            exact GH.st_skip (by rfl) rfl
          | 15, _, hd =>
            simp only [GH.mkL, List.getD_cons_succ, List.getD_cons_zero]
            have d9 : S 9 = undef := (hd 9 (by kernel_rfl)).2
            rw [d9]
            clear d9
            clear hd
            exact GH.st_skip (by rfl) rfl
          | 16, _, hd =>
            simp only [GH.mkL, List.getD_cons_succ, List.getD_cons_zero]
            have d9 : S 9 = undef := (hd 9 (by kernel_rfl)).2
            rw [d9]
            clear d9
            clear hd
            exact GH.st_skip (by rfl) rfl
          | 17, _, hd =>
            simp only [GH.mkL, List.getD_cons_succ, List.getD_cons_zero]
            have d9 : S 9 = undef := (hd 9 (by kernel_rfl)).2
            rw [d9]
            clear d9
            have d15 : S 15 = undef := (hd 15 (by kernel_rfl)).2
            rw [d15]
            clear d15
            have d16 : S 16 = undef := (hd 16 (by kernel_rfl)).2
            rw [d16]
            clear d16
            clear hd
            exact GH.st_skip (by rfl) rfl
          | 18, _, hd =>
            simp only [GH.mkL, List.getD_cons_succ, List.getD_cons_zero]
            have d9 : S 9 = undef := (hd 9 (by kernel_rfl)).2
            rw [d9]
            clear d9
            have d17 : S 17 = undef := (hd 17 (by kernel_rfl)).2
            rw [d17]
            clear d17
            clear hd
            exact GH.st_skip (by rfl) rfl
          | 19, _, hd =>
            simp only [GH.mkL, List.getD_cons_succ, List.getD_cons_zero]
            have d9 : S 9 = undef := (hd 9 (by kernel_rfl)).2
            rw [d9]
            clear d9
            have d18 : S 18 = undef := (hd 18 (by kernel_rfl)).2
            rw [d18]
            clear d18
            clear hd
            exact GH.st_skip (by rfl) rfl
          | 20, _, hd =>
            simp only [GH.mkL, List.getD_cons_succ, List.getD_cons_zero]
            have d9 : S 9 = undef := (hd 9 (by kernel_rfl)).2
            rw [d9]
            clear d9
            have d14 : S 14 = undef := (hd 14 (by kernel_rfl)).2
            rw [d14]
            clear d14
            have d19 : S 19 = undef := (hd 19 (by kernel_rfl)).2
            rw [d19]
            clear d19
            clear hd
            exact GH.st_skip (by rfl) rfl
          | 21, _, hd =>
            simp only [GH.mkL, List.getD_cons_succ, List.getD_cons_zero]
            have d4 : S 4 = .bool true := (hd 4 (by kernel_rfl)).2
            rw [d4]
            clear d4
            have d9 : S 9 = undef := (hd 9 (by kernel_rfl)).2
            rw [d9]
            clear d9
            have d20 : S 20 = undef := (hd 20 (by kernel_rfl)).2
            rw [d20]
            clear d20
            clear hd
            exact GH.st_skip (by rfl) rfl
          | 22, _, hd =>
            simp only [GH.mkL, List.getD_cons_succ, List.getD_cons_zero]
            have d4 : S 4 = .bool true := (hd 4 (by kernel_rfl)).2
            rw [d4]
            clear d4
            have d21 : S 21 = undef := (hd 21 (by kernel_rfl)).2
            rw [d21]
            clear d21
            clear hd
            refine GH.st_eq (by rfl) ?_
            go_simp
            (try with_reducible rfl)
          | 23, _, hd =>
            simp only [GH.mkL, List.getD_cons_succ, List.getD_cons_zero]
            have d0 : S 0 = .int .i64 (k : Nat) := (hd 0 (by kernel_rfl)).2
            rw [d0]
            clear d0
            have d1 : S 1 = .slice A2 n2 c2 := (hd 1 (by kernel_rfl)).2
            rw [d1]
            clear d1
            have d2 : S 2 = .int .i64 (n2 : Nat) := (hd 2 (by kernel_rfl)).2
            rw [d2]
            clear d2
            have d3 : S 3 = .bool true := (hd 3 (by kernel_rfl)).2
            rw [d3]
            clear d3
            have d4 : S 4 = .bool true := (hd 4 (by kernel_rfl)).2
            rw [d4]
            clear d4
            have d5 : S 5 = undef := (hd 5 (by kernel_rfl)).2
            rw [d5]
            clear d5
            have d6 : S 6 = undef := (hd 6 (by kernel_rfl)).2
            rw [d6]
            clear d6
            have d7 : S 7 = undef := (hd 7 (by kernel_rfl)).2
            rw [d7]
            clear d7
            have d8 : S 8 = undef := (hd 8 (by kernel_rfl)).2
            rw [d8]
            clear d8
            have d9 : S 9 = undef := (hd 9 (by kernel_rfl)).2
            rw [d9]
            clear d9
            have d10 : S 10 = undef := (hd 10 (by kernel_rfl)).2
            rw [d10]
            clear d10
            have d11 : S 11 = undef := (hd 11 (by kernel_rfl)).2
            rw [d11]
            clear d11
            have d12 : S 12 = undef := (hd 12 (by kernel_rfl)).2
            rw [d12]
            clear d12
            have d13 : S 13 = undef := (hd 13 (by kernel_rfl)).2
            rw [d13]
            clear d13
            have d14 : S 14 = undef := (hd 14 (by kernel_rfl)).2
            rw [d14]
            clear d14
            have d15 : S 15 = undef := (hd 15 (by kernel_rfl)).2
            rw [d15]
            clear d15
            have d16 : S 16 = undef := (hd 16 (by kernel_rfl)).2
            rw [d16]
            clear d16
            have d17 : S 17 = undef := (hd 17 (by kernel_rfl)).2
            rw [d17]
            clear d17
            have d18 : S 18 = undef := (hd 18 (by kernel_rfl)).2
            rw [d18]
            clear d18
            have d19 : S 19 = undef := (hd 19 (by kernel_rfl)).2
            rw [d19]
            clear d19
            have d20 : S 20 = undef := (hd 20 (by kernel_rfl)).2
            rw [d20]
            clear d20
            have d21 : S 21 = undef := (hd 21 (by kernel_rfl)).2
            rw [d21]
            clear d21
            have d22 : S 22 = .bool true := (hd 22 (by kernel_rfl)).2
            rw [d22]
            clear d22
            clear hd
            refine GH.st_eq (by rfl) ?_
            go_simp
            (try with_reducible rfl)
          | nx + 24, hjx, _ => omega
        intro S w' hb hG
        simp only [GH.mkL, List.drop_succ_cons, List.drop_zero]
        have d23 : S 23 = .bool true := hG 23 (by omega)
        rw [d23]
        clear d23
        clear hG
        have B8 := Lib.hid (HW.out.trans (hb.full.mono HW.out.size))
        replace H1 := Lib.hid (H1.out.into hb.full)
        replace H2 := Lib.hid (H2.out.into hb.full)
        replace RMM := Lib.hid (RMM.out.into hb.full)
        clear hb HW
        have HW := B8
        clear B8
        refine wpList_nil ?_
        go_wp2_with fail
        have RM := Lib.hid (rcs_at RMM.out hlt MP.out)
        have HG7 := Lib.hid (show g7 < w'.heap.size from by obtain ⟨_, _, e, h, _⟩ := RMM.out.2 (by omega); injection e with e; injection e with e _; omega)
        obtain ⟨i1, hi1⟩ : ∃ z, z = i + 1 := ⟨_, rfl⟩
        have hwi : IntKind.i64.wrap ((i : Int) + 1) = ((i1 : Nat) : Int) := by rw [hi1, IntKind.wrap_i64]; omega
        have HI1 := Lib.hid hi1
        have hi1c : i1 ≤ c1 := by omega
        have hi1n : i1 ≤ n1 := by omega
        have hii : i ≤ i1 := by omega
        have hic : i < i1 := by omega
        have HS1i := Lib.hid (show i1 - i = 1 by omega)
        clear hi1
        refine GH.wp_ghl (M := false) 15 ((GH.SP.eq (.slice (some ⟨g7, o7, none⟩) n7 c7)) :: (GH.SP.eq (.int .i64 (m : Nat))) :: (GH.SP.eq (.pointer (some ⟨g7, o7 + m * 4, none⟩))) :: (GH.SP.eq (.agg #[.int .i64 t1, .int .i64 s1, .int .i64 p1, .string (strN q1l)])) :: (GH.SP.eq (.slice (some ⟨b1, o1, none⟩) n1 c1)) :: (GH.SP.eq (.int .i64 (i : Nat))) :: (GH.SP.eq (.int .i64 (i : Nat))) :: (GH.SP.eq (.int .i64 (i1 : Nat))) :: (GH.SP.eq (.int .i64 (i : Nat))) :: (GH.SP.eq (.int .i64 (i1 : Nat))) :: (GH.SP.rs [(t1, s1, p1, (⟨q1A, q1n, q1c, q1l⟩ : Body))]) :: (GH.SP.ro [(t1, s1, p1, q1l)]) :: (GH.SP.pt [.int .i64 t1, .int .i64 s1, .int .i64 p1, .string (strN q1l)]) :: (GH.SP.eq (.agg #[.int .i64 t1, .int .i64 s1, .int .i64 p1, .string (strN q1l)])) :: (GH.SP.eq (.bool false)) :: []) (none :: none :: none :: none :: none :: none :: none :: none :: none :: none :: none :: none :: none :: none :: none :: none :: none :: none :: none :: none :: none :: none :: none :: none :: none :: none :: none :: none :: none :: none :: none :: none :: none :: none :: none :: none :: none :: none :: none :: none :: none :: none :: none :: none :: none :: none :: none :: none :: none :: none :: none :: none :: none :: none :: none :: none :: none :: none :: none :: none :: none :: none :: none :: none :: none :: none :: none :: none :: none :: none :: none :: none :: none :: none :: none :: none :: none :: none :: none :: none :: none :: (some 0) :: (some 1) :: (some 2) :: (some 3) :: (some 4) :: (some 5) :: (some 6) :: (some 7) :: (some 8) :: (some 9) :: (some 10) :: (some 11) :: (some 12) :: (some 13) :: (some 14) :: none :: none :: none :: none :: none :: none :: none :: none :: none :: none :: none :: none :: none :: none :: none :: none :: none :: none :: none :: none :: none :: none :: none :: none :: none :: none :: none :: none :: none :: none :: none :: none :: none :: none :: none :: none :: none :: none :: none :: none :: none :: none :: none :: none :: none :: none :: none :: none :: none :: none :: none :: none :: none :: none :: none :: none :: none :: none :: none :: none :: none :: none :: none :: none :: none :: none :: none :: none :: none :: none :: none :: none :: none :: none :: none :: none :: none :: none :: none :: none :: []) [81, 82, 83, 84, 85, 86, 87, 88, 89, 90, 91, 92, 93, 94, 95] (by rfl) (by kernel_rfl) (by kernel_rfl) ?_ ?_ ?_
        · intro S jx v hjx
          match jx, hjx with
          | 0, _ => rfl
          | 1, _ => rfl
          | 2, _ => rfl
          | 3, _ => rfl
          | 4, _ => rfl
          | 5, _ => rfl
          | 6, _ => rfl
          | 7, _ => rfl
          | 8, _ => rfl
          | 9, _ => rfl
          | 10, _ => rfl
          | 11, _ => rfl
          | 12, _ => rfl
          | 13, _ => rfl
          | 14, _ => rfl
          | nx + 15, hjx => omega
        · intro jx hjx S w' hb hd
          match jx, hjx, hd with
          | 0, _, hd =>
            simp only [GH.mkL, List.getD_cons_succ, List.getD_cons_zero]
            clear hd
            refine GH.st_eq (by rfl) ?_
            go_simp
            (try with_reducible rfl)
          | 1, _, hd =>
            simp only [GH.mkL, List.getD_cons_succ, List.getD_cons_zero]
            clear hd
            refine GH.st_eq (by rfl) ?_
            go_simp
            (try with_reducible rfl)
          | 2, _, hd =>
            simp only [GH.mkL, List.getD_cons_succ, List.getD_cons_zero]
            have d0 : S 0 = .slice (some ⟨g7, o7, none⟩) n7 c7 := (hd 0 (by kernel_rfl)).2
            rw [d0]
            clear d0
            have d1 : S 1 = .int .i64 (m : Nat) := (hd 1 (by kernel_rfl)).2
            rw [d1]
            clear d1
            clear hd
            refine GH.st_eq (by rfl) ?_
            go_simp
            (try with_reducible rfl)
          | 3, _, hd =>
            simp only [GH.mkL, List.getD_cons_succ, List.getD_cons_zero]
            have d2 : S 2 = .pointer (some ⟨g7, o7 + m * 4, none⟩) := (hd 2 (by kernel_rfl)).2
            rw [d2]
            clear d2
            clear hd
            exact GH.st_loads _ [.int .i64 t1, .int .i64 s1, .int .i64 p1, .string (strN q1l)] (by rfl) rfl rfl (fun j x hj => (hb.cell _ _ HG7.out).trans (RM.out j x hj)) (by kernel_rfl) (by kernel_rfl)
          | 4, _, hd =>
            simp only [GH.mkL, List.getD_cons_succ, List.getD_cons_zero]
            clear hd
            refine GH.st_eq (by rfl) ?_
            go_simp
            (try with_reducible rfl)
          | 5, _, hd =>
            simp only [GH.mkL, List.getD_cons_succ, List.getD_cons_zero]
            clear hd
            refine GH.st_eq (by rfl) ?_
            go_simp
            (try with_reducible rfl)
          | 6, _, hd =>
            simp only [GH.mkL, List.getD_cons_succ, List.getD_cons_zero]
            clear hd
            refine GH.st_eq (by rfl) ?_
            go_simp
            (try with_reducible rfl)
          | 7, _, hd =>
            simp only [GH.mkL, List.getD_cons_succ, List.getD_cons_zero]
            have d6 : S 6 = .int .i64 (i : Nat) := (hd 6 (by kernel_rfl)).2
            rw [d6]
            clear d6
            clear hd
            refine GH.st_eq (by rfl) ?_
            go_simp
            (try with_reducible rfl)
          | 8, _, hd =>
            simp only [GH.mkL, List.getD_cons_succ, List.getD_cons_zero]
            clear hd
            refine GH.st_eq (by rfl) ?_
            go_simp
            (try with_reducible rfl)
          | 9, _, hd =>
            simp only [GH.mkL, List.getD_cons_succ, List.getD_cons_zero]
            have d8 : S 8 = .int .i64 (i : Nat) := (hd 8 (by kernel_rfl)).2
            rw [d8]
            clear d8
            clear hd
            refine GH.st_eq (by rfl) ?_
            go_simp
            (try with_reducible rfl)
          | 10, _, hd =>
            simp only [GH.mkL, List.getD_cons_succ, List.getD_cons_zero]
            have d4 : S 4 = .slice (some ⟨b1, o1, none⟩) n1 c1 := (hd 4 (by kernel_rfl)).2
            rw [d4]
            clear d4
            have d5 : S 5 = .int .i64 (i : Nat) := (hd 5 (by kernel_rfl)).2
            rw [d5]
            clear d5
            have d7 : S 7 = .int .i64 (i1 : Nat) := (hd 7 (by kernel_rfl)).2
            rw [d7]
            clear d7
            have d9 : S 9 = .int .i64 (i1 : Nat) := (hd 9 (by kernel_rfl)).2
            rw [d9]
            clear d9
            clear hd
            have hcut := run_cut_lhm recel (some ⟨b1, o1, none⟩) n1 c1 i i1 i1 hii (Nat.le_refl _) hi1c w'
            rw [cutA_pos hic, HS1i.out] at hcut
            refine GH.st_val (v := .slice (some ⟨b1, o1 + i * 4, none⟩) 1 1) (by rfl) (by go_simp) ⟨_, _, _, rfl, (H1.out.into hb.full).cut1 (by omega) HPi.out⟩
          | 11, _, hd =>
            simp only [GH.mkL, List.getD_cons_succ, List.getD_cons_zero]
            obtain ⟨A10, n10, c10, d10, H10⟩ := (hd 10 (by kernel_rfl)).2
            rw [d10]
            clear d10
            replace H10 := Lib.hid H10
            clear hd
            refine GH.st_call (by rfl) hb.below.size (by go_simp) ((cplain_any A10 n10 c10 [(t1, s1, p1, (⟨q1A, q1n, q1c, q1l⟩ : Body))] w' H10.out (by have := H10.out.len; simp at this; omega)).mono ?_)
            rintro e w9 ⟨v, rfl, hro, hb9⟩
            exact ⟨v, rfl, hb9, GH.ro_of hro⟩
          | 12, _, hd =>
            simp only [GH.mkL, List.getD_cons_succ, List.getD_cons_zero]
            obtain ⟨A11, n11, c11, d11, l11, e11, H11⟩ := (hd 11 (by kernel_rfl)).2
            rw [d11]
            clear d11
            replace H11 := Lib.hid H11
            clear hd
            have hn1 : n11 = 1 := by simpa using l11.symm
            subst hn1
            obtain ⟨g, og, hA, hg, hcc⟩ := H11.out.2 (by omega)
            subst hA
            have hat := rcs_at (i := 0) H11.out (by omega) (p := (t1, s1, p1, q1l)) rfl
            rw [Nat.zero_mul, Nat.add_zero] at hat
            replace hat := Lib.hid hat
            clear hcc
            refine GH.st_val (v := .pointer (some ⟨g, og, none⟩)) (by rfl) ?_ ⟨_, _, rfl, hg, hat.out⟩
            go_simp
          | 13, _, hd =>
            simp only [GH.mkL, List.getD_cons_succ, List.getD_cons_zero]
            obtain ⟨b12, o12, d12, k12, H12⟩ := (hd 12 (by kernel_rfl)).2
            rw [d12]
            clear d12
            replace H12 := Lib.hid H12
            clear hd
            exact GH.st_loads _ [.int .i64 t1, .int .i64 s1, .int .i64 p1, .string (strN q1l)] (by rfl) rfl rfl H12.out (by kernel_rfl) (by kernel_rfl)
          | 14, _, hd =>
            simp only [GH.mkL, List.getD_cons_succ, List.getD_cons_zero]
            have d3 : S 3 = .agg #[.int .i64 t1, .int .i64 s1, .int .i64 p1, .string (strN q1l)] := (hd 3 (by kernel_rfl)).2
            rw [d3]
            clear d3
            have d13 : S 13 = .agg #[.int .i64 t1, .int .i64 s1, .int .i64 p1, .string (strN q1l)] := (hd 13 (by kernel_rfl)).2
            rw [d13]
            clear d13
            clear hd
            have hne := neqR t1 s1 p1 (strN q1l) w'
            refine GH.st_eq (by rfl) ?_
            go_simp
            (try with_reducible rfl)
          | nx + 15, hjx, _ => omega
        intro S w' hb hG
        simp only [GH.mkL, List.drop_succ_cons, List.drop_zero]
        have d14 : S 14 = .bool false := hG 14 (by omega)
        rw [d14]
        clear d14
        clear hG
        have B9 := Lib.hid (HW.out.trans (hb.full.mono HW.out.size))
        clear hb HW
        refine wpList_nil ?_
        go_wp2_with fail
        go_roundw
        case rel => exact ⟨i1, k, m + 1, by omega, by omega, by go_num, rfl, by go_num, Lib.hid (by have := HM.out; have := HI1.out; omega), Lib.hid (by rw [HI1.out]; exact MD.out), B9⟩
        case measure => simp [intOf]; omega

      · have e1 : ((k : Int) == (n2 : Int)) = false := by simp; omega
        have e2 : decide ((k : Int) = (n2 : Int)) = false := by simp; omega
        have hkI : (k : Int) < (n2 : Int) := by omega
        have hkn : k < n2 := by omega
        clear hke
        by_cases hie : i = n1
        · have e3 : ((i : Int) == (n1 : Int)) = true := by simp; omega
          have e4 : decide ((i : Int) = (n1 : Int)) = true := by simp; omega
          have e5 : decide ((i : Int) < (n1 : Int)) = false := by simp; omega
          have e7 : n1 ≤ i := by omega
          have HIE := Lib.hid hie
          clear hie
          go_wp2_with fail
          obtain ⟨b2, o2, t2, s2, p2, q2, hA2, hbb2, Y2, _, _, _, HPk, _, _, _⟩ := H2.out.at_ (i := k) (by omega)
          subst hA2
          obtain ⟨q2A, q2n, q2c, q2l⟩ := q2
          dsimp only at *
          replace Y2 := Lib.hid Y2
          have HB2 := Lib.hid hbb2
          clear hbb2
          have MP0 := mg_b HD.out HPk.out (Or.inl (List.drop_eq_nil_of_le (by rw [HL1.out, HIE.out]; exact Nat.le_refl _)))
          rw [← HM.out] at MP0
          have MP := Lib.hid (rsay_at (Lib.hid MP0.1))
          have MD := Lib.hid MP0.2
          clear MP0 HD
          refine GH.wp_ghl (M := false) 24 ((GH.SP.eq (.int .i64 (k : Nat))) :: (GH.SP.eq (.slice (some ⟨b2, o2, none⟩) n2 c2)) :: (GH.SP.eq (.int .i64 (n2 : Nat))) :: (GH.SP.eq (.bool false)) :: (GH.SP.eq (.bool false)) :: (GH.SP.eq (.int .i64 (i : Nat))) :: (GH.SP.eq (.slice A1 n1 c1)) :: (GH.SP.eq (.int .i64 (n1 : Nat))) :: (GH.SP.eq (.bool false)) :: (GH.SP.eq (.bool false)) :: (GH.SP.eq (undef)) :: (GH.SP.eq (undef)) :: (GH.SP.eq (undef)) :: (GH.SP.eq (undef)) :: (GH.SP.eq (undef)) :: (GH.SP.eq (undef)) :: (GH.SP.eq (undef)) :: (GH.SP.eq (undef)) :: (GH.SP.eq (undef)) :: (GH.SP.eq (undef)) :: (GH.SP.eq (undef)) :: (GH.SP.eq (.bool false)) :: (GH.SP.eq (.bool false)) :: (GH.SP.eq (.bool false)) :: []) (none :: none :: none :: none :: none :: none :: none :: none :: none :: none :: none :: (some 23) :: none :: none :: none :: none :: none :: none :: none :: none :: none :: none :: none :: none :: none :: none :: none :: none :: none :: none :: none :: none :: none :: none :: none :: none :: none :: none :: none :: none :: (some 0) :: (some 1) :: (some 2) :: (some 3) :: (some 4) :: (some 5) :: (some 6) :: (some 7) :: (some 8) :: (some 9) :: (some 10) :: (some 11) :: (some 12) :: (some 13) :: (some 14) :: (some 15) :: (some 16) :: (some 17) :: (some 18) :: (some 19) :: (some 20) :: (some 21) :: (some 22) :: none :: none :: none :: none :: none :: none :: none :: none :: none :: none :: none :: none :: none :: none :: none :: none :: none :: none :: none :: none :: none :: none :: none :: none :: none :: none :: none :: none :: none :: none :: none :: none :: none :: none :: none :: none :: none :: none :: none :: none :: none :: none :: none :: none :: none :: none :: none :: none :: none :: none :: none :: none :: none :: none :: none :: none :: none :: none :: none :: none :: none :: none :: none :: none :: none :: none :: none :: none :: none :: none :: none :: none :: none :: none :: none :: none :: none :: none :: none :: none :: none :: none :: none :: none :: none :: none :: none :: none :: none :: none :: none :: none :: none :: none :: none :: none :: none :: none :: none :: none :: none :: none :: none :: none :: none :: none :: none :: none :: none :: none :: none :: none :: none :: []) [40, 41, 42, 43, 44, 45, 46, 47, 48, 49, 50, 51, 52, 53, 54, 55, 56, 57, 58, 59, 60, 61, 62, 11] (by rfl) (by kernel_rfl) (by kernel_rfl) ?_ ?_ ?_
          · intro S jx v hjx
            match jx, hjx with
            | 0, _ => rfl
            | 1, _ => rfl
            | 2, _ => rfl
            | 3, _ => rfl
            | 4, _ => rfl
            | 5, _ => rfl
            | 6, _ => rfl
            | 7, _ => rfl
            | 8, _ => rfl
            | 9, _ => rfl
            | 10, _ => rfl
            | 11, _ => rfl
            | 12, _ => rfl
            | 13, _ => rfl
            | 14, _ => rfl
            | 15, _ => rfl
            | 16, _ => rfl
            | 17, _ => rfl
            | 18, _ => rfl
            | 19, _ => rfl
            | 20, _ => rfl
            | 21, _ => rfl
            | 22, _ => rfl
            | 23, _ => rfl
            | nx + 24, hjx => omega
          · intro jx hjx S w' hb hd
            match jx, hjx, hd with
            | 0, _, hd =>
              simp only [GH.mkL, List.getD_cons_succ, List.getD_cons_zero]
              clear hd
              refine GH.st_eq (by rfl) ?_
              go_simp
              (try with_reducible rfl)
            | 1, _, hd =>
              simp only [GH.mkL, List.getD_cons_succ, List.getD_cons_zero]
              clear hd
              refine GH.st_eq (by rfl) ?_
              go_simp
              (try with_reducible rfl)
            | 2, _, hd =>
              simp only [GH.mkL, List.getD_cons_succ, List.getD_cons_zero]
              have d1 : S 1 = .slice (some ⟨b2, o2, none⟩) n2 c2 := (hd 1 (by kernel_rfl)).2
              rw [d1]
              clear d1
              clear hd
              refine GH.st_eq (by rfl) ?_
              go_simp
              (try with_reducible rfl)
            | 3, _, hd =>
              simp only [GH.mkL, List.getD_cons_succ, List.getD_cons_zero]
              have d0 : S 0 = .int .i64 (k : Nat) := (hd 0 (by kernel_rfl)).2
              rw [d0]
              clear d0
              have d2 : S 2 = .int .i64 (n2 : Nat) := (hd 2 (by kernel_rfl)).2
              rw [d2]
              clear d2
              clear hd
              refine GH.st_eq (by rfl) ?_
              go_simp
              (try with_reducible rfl)
            | 4, _, hd =>
              simp only [GH.mkL, List.getD_cons_succ, List.getD_cons_zero]
              have d3 : S 3 = .bool false := (hd 3 (by kernel_rfl)).2
              rw [d3]
              clear d3
              clear hd
              refine GH.st_eq (by rfl) ?_
              go_simp
              (try with_reducible rfl)
            | 5, _, hd =>
              simp only [GH.mkL, List.getD_cons_succ, List.getD_cons_zero]
              have d4 : S 4 = .bool false := (hd 4 (by kernel_rfl)).2
              rw [d4]
              clear d4
              clear hd
              refine GH.st_eq (by rfl) ?_
              go_simp
              (try with_reducible rfl)
            | 6, _, hd =>
              simp only [GH.mkL, List.getD_cons_succ, List.getD_cons_zero]
              have d4 : S 4 = .bool false := (hd 4 (by kernel_rfl)).2
              rw [d4]
              clear d4
              clear hd
              refine GH.st_eq (by rfl) ?_
              go_simp
              (try with_reducible rfl)
            | 7, _, hd =>
              simp only [GH.mkL, List.getD_cons_succ, List.getD_cons_zero]
              have d4 : S 4 = .bool false := (hd 4 (by kernel_rfl)).2
              rw [d4]
              clear d4
              have d6 : S 6 = .slice A1 n1 c1 := (hd 6 (by kernel_rfl)).2
              rw [d6]
              clear d6
              clear hd
              refine GH.st_eq (by rfl) ?_
              go_simp
              (try with_reducible rfl)
            | 8, _, hd =>
              simp only [GH.mkL, List.getD_cons_succ, List.getD_cons_zero]
              have d4 : S 4 = .bool false := (hd 4 (by kernel_rfl)).2
              rw [d4]
              clear d4
              have d5 : S 5 = .int .i64 (i : Nat) := (hd 5 (by kernel_rfl)).2
              rw [d5]
              clear d5
              have d7 : S 7 = .int .i64 (n1 : Nat) := (hd 7 (by kernel_rfl)).2
              rw [d7]
              clear d7
              clear hd
              refine GH.st_eq (by rfl) ?_
              go_simp
              (try with_reducible rfl)
            | 9, _, hd =>
              simp only [GH.mkL, List.getD_cons_succ, List.getD_cons_zero]
              have d4 : S 4 = .bool false := (hd 4 (by kernel_rfl)).2
              rw [d4]
              clear d4
              have d8 : S 8 = .bool false := (hd 8 (by kernel_rfl)).2
              rw [d8]
              clear d8
              clear hd
              refine GH.st_eq (by rfl) ?_
              go_simp
              (try with_reducible rfl)
            | 10, _, hd =>
              simp only [GH.mkL, List.getD_cons_succ, List.getD_cons_zero]
              have d9 : S 9 = .bool false := (hd 9 (by kernel_rfl)).2
              rw [d9]
              clear d9
              clear hd
              exact GH.st_skip (by rfl) rfl
            | 11, _, hd =>
              simp only [GH.mkL, List.getD_cons_succ, List.getD_cons_zero]
              have d9 : S 9 = .bool false := (hd 9 (by kernel_rfl)).2
              rw [d9]
              clear d9
              clear hd
              exact GH.st_skip (by rfl) rfl
            | 12, _, hd =>
              simp only [GH.mkL, List.getD_cons_succ, List.getD_cons_zero]
              have d9 : S 9 = .bool false := (hd 9 (by kernel_rfl)).2
              rw [d9]
              clear d9
              have d10 : S 10 = undef := (hd 10 (by kernel_rfl)).2
              rw [d10]
              clear d10
              have d11 : S 11 = undef := (hd 11 (by kernel_rfl)).2
              rw [d11]
              clear d11
              clear hd
              exact GH.st_skip (by rfl) rfl
            | 13, _, hd =>
              simp only [GH.mkL, List.getD_cons_succ, List.getD_cons_zero]
              have d9 : S 9 = .bool false := (hd 9 (by kernel_rfl)).2
              rw [d9]
              clear d9
              have d12 : S 12 = undef := (hd 12 (by kernel_rfl)).2
              rw [d12]
              clear d12
              clear hd
              exact GH.st_skip (by rfl) rfl
            | 14, _, hd =>
              simp only [GH.mkL, List.getD_cons_succ, List.getD_cons_zero]
              have d9 : S 9 = .bool false := (hd 9 (by kernel_rfl)).2
              rw [d9]
              clear d9
              have d13 : S 13 = undef := (hd 13 (by kernel_rfl)).2
              rw [d13]
              clear d13
              clear hd
              exact GH.st_skip (by rfl) rfl
            | 15, _, hd =>
              simp only [GH.mkL, List.getD_cons_succ, List.getD_cons_zero]
              have d9 : S 9 = .bool false := (hd 9 (by kernel_rfl)).2
              rw [d9]
              clear d9
              clear hd
              exact GH.st_skip (by rfl) rfl
            | 16, _, hd =>
              simp only [GH.mkL, List.getD_cons_succ, List.getD_cons_zero]
              have d9 : S 9 = .bool false := (hd 9 (by kernel_rfl)).2
              rw [d9]
              clear d9
              clear hd
              exact GH.st_skip (by rfl) rfl
            | 17, _, hd =>
              simp only [GH.mkL, List.getD_cons_succ, List.getD_cons_zero]
              have d9 : S 9 = .bool false := (hd 9 (by kernel_rfl)).2
              rw [d9]
              clear d9
              have d15 : S 15 = undef := (hd 15 (by kernel_rfl)).2
              rw [d15]
              clear d15
              have d16 : S 16 = undef := (hd 16 (by kernel_rfl)).2
              rw [d16]
              clear d16
              clear hd
              exact GH.st_skip (by rfl) rfl
            | 18, _, hd =>
              simp only [GH.mkL, List.getD_cons_succ, List.getD_cons_zero]
              have d9 : S 9 = .bool false := (hd 9 (by kernel_rfl)).2
              rw [d9]
              clear d9
              have d17 : S 17 = undef := (hd 17 (by kernel_rfl)).2
              rw [d17]
              clear d17
              clear hd
              exact GH.st_skip (by rfl) rfl
            | 19, _, hd =>
              simp only [GH.mkL, List.getD_cons_succ, List.getD_cons_zero]
              have d9 : S 9 = .bool false := (hd 9 (by kernel_rfl)).2
              rw [d9]
              clear d9
              have d18 : S 18 = undef := (hd 18 (by kernel_rfl)).2
              rw [d18]
              clear d18
              clear hd
              exact GH.st_skip (by rfl) rfl
            | 20, _, hd =>
              simp only [GH.mkL, List.getD_cons_succ, List.getD_cons_zero]
              have d9 : S 9 = .bool false := (hd 9 (by kernel_rfl)).2
              rw [d9]
              clear d9
              have d14 : S 14 = undef := (hd 14 (by kernel_rfl)).2
              rw [d14]
              clear d14
              have d19 : S 19 = undef := (hd 19 (by kernel_rfl)).2
              rw [d19]
              clear d19
              clear hd
              exact GH.st_skip (by rfl) rfl
            | 21, _, hd =>
              simp only [GH.mkL, List.getD_cons_succ, List.getD_cons_zero]
              have d4 : S 4 = .bool false := (hd 4 (by kernel_rfl)).2
              rw [d4]
              clear d4
              have d9 : S 9 = .bool false := (hd 9 (by kernel_rfl)).2
              rw [d9]
              clear d9
              have d20 : S 20 = undef := (hd 20 (by kernel_rfl)).2
              rw [d20]
              clear d20
              clear hd
              refine GH.st_eq (by rfl) ?_
              go_simp
              (try with_reducible rfl)
            | 22, _, hd =>
              simp only [GH.mkL, List.getD_cons_succ, List.getD_cons_zero]
              have d4 : S 4 = .bool false := (hd 4 (by kernel_rfl)).2
              rw [d4]
              clear d4
              have d21 : S 21 = .bool false := (hd 21 (by kernel_rfl)).2
              rw [d21]
              clear d21
              clear hd
              refine GH.st_eq (by rfl) ?_
              go_simp
              (try with_reducible rfl)
            | 23, _, hd =>
              simp only [GH.mkL, List.getD_cons_succ, List.getD_cons_zero]
              have d0 : S 0 = .int .i64 (k : Nat) := (hd 0 (by kernel_rfl)).2
              rw [d0]
              clear d0
              have d1 : S 1 = .slice (some ⟨b2, o2, none⟩) n2 c2 := (hd 1 (by kernel_rfl)).2
              rw [d1]
              clear d1
              have d2 : S 2 = .int .i64 (n2 : Nat) := (hd 2 (by kernel_rfl)).2
              rw [d2]
              clear d2
              have d3 : S 3 = .bool false := (hd 3 (by kernel_rfl)).2
              rw [d3]
              clear d3
              have d4 : S 4 = .bool false := (hd 4 (by kernel_rfl)).2
              rw [d4]
              clear d4
              have d5 : S 5 = .int .i64 (i : Nat) := (hd 5 (by kernel_rfl)).2
              rw [d5]
              clear d5
              have d6 : S 6 = .slice A1 n1 c1 := (hd 6 (by kernel_rfl)).2
              rw [d6]
              clear d6
              have d7 : S 7 = .int .i64 (n1 : Nat) := (hd 7 (by kernel_rfl)).2
              rw [d7]
              clear d7
              have d8 : S 8 = .bool false := (hd 8 (by kernel_rfl)).2
              rw [d8]
              clear d8
              have d9 : S 9 = .bool false := (hd 9 (by kernel_rfl)).2
              rw [d9]
              clear d9
              have d10 : S 10 = undef := (hd 10 (by kernel_rfl)).2
              rw [d10]
              clear d10
              have d11 : S 11 = undef := (hd 11 (by kernel_rfl)).2
              rw [d11]
              clear d11
              have d12 : S 12 = undef := (hd 12 (by kernel_rfl)).2
              rw [d12]
              clear d12
              have d13 : S 13 = undef := (hd 13 (by kernel_rfl)).2
              rw [d13]
              clear d13
              have d14 : S 14 = undef := (hd 14 (by kernel_rfl)).2
              rw [d14]
              clear d14
              have d15 : S 15 = undef := (hd 15 (by kernel_rfl)).2
              rw [d15]
              clear d15
              have d16 : S 16 = undef := (hd 16 (by kernel_rfl)).2
              rw [d16]
              clear d16
              have d17 : S 17 = undef := (hd 17 (by kernel_rfl)).2
              rw [d17]
              clear d17
              have d18 : S 18 = undef := (hd 18 (by kernel_rfl)).2
              rw [d18]
              clear d18
              have d19 : S 19 = undef := (hd 19 (by kernel_rfl)).2
              rw [d19]
              clear d19
              have d20 : S 20 = undef := (hd 20 (by kernel_rfl)).2
              rw [d20]
              clear d20
              have d21 : S 21 = .bool false := (hd 21 (by kernel_rfl)).2
              rw [d21]
              clear d21
              have d22 : S 22 = .bool false := (hd 22 (by kernel_rfl)).2
              rw [d22]
              clear d22
              clear hd
              refine GH.st_eq (by rfl) ?_
              go_simp
              (try with_reducible rfl)
            | nx + 24, hjx, _ => omega
          intro S w' hb hG
          simp only [GH.mkL, List.drop_succ_cons, List.drop_zero]
          have d23 : S 23 = .bool false := hG 23 (by omega)
          rw [d23]
          clear d23
          clear hG
          have B8 := Lib.hid (HW.out.trans (hb.full.mono HW.out.size))
          replace H1 := Lib.hid (H1.out.into hb.full)
          replace H2 := Lib.hid (H2.out.into hb.full)
          replace RMM := Lib.hid (RMM.out.into hb.full)
          clear hb HW
          have HW := B8
          clear B8
          refine wpList_nil ?_
          go_wp2_with fail
          have RM := Lib.hid (rcs_at RMM.out hlt MP.out)
          have HG7 := Lib.hid (show g7 < w'.heap.size from by obtain ⟨_, _, e, h, _⟩ := RMM.out.2 (by omega); injection e with e; injection e with e _; omega)
          obtain ⟨k1, hk1⟩ : ∃ z, z = k + 1 := ⟨_, rfl⟩
          have hwi : IntKind.i64.wrap ((k : Int) + 1) = ((k1 : Nat) : Int) := by rw [hk1, IntKind.wrap_i64]; omega
          have HI1 := Lib.hid hk1
          have hi1c : k1 ≤ c2 := by omega
          have hi1n : k1 ≤ n2 := by omega
          have hii : k ≤ k1 := by omega
          have hic : k < k1 := by omega
          have HS1i := Lib.hid (show k1 - k = 1 by omega)
          clear hk1
          refine GH.wp_ghl (M := false) 15 ((GH.SP.eq (.slice (some ⟨g7, o7, none⟩) n7 c7)) :: (GH.SP.eq (.int .i64 (m : Nat))) :: (GH.SP.eq (.pointer (some ⟨g7, o7 + m * 4, none⟩))) :: (GH.SP.eq (.agg #[.int .i64 t2, .int .i64 s2, .int .i64 p2, .string (strN q2l)])) :: (GH.SP.eq (.slice (some ⟨b2, o2, none⟩) n2 c2)) :: (GH.SP.eq (.int .i64 (k : Nat))) :: (GH.SP.eq (.int .i64 (k : Nat))) :: (GH.SP.eq (.int .i64 (k1 : Nat))) :: (GH.SP.eq (.int .i64 (k : Nat))) :: (GH.SP.eq (.int .i64 (k1 : Nat))) :: (GH.SP.rs [(t2, s2, p2, (⟨q2A, q2n, q2c, q2l⟩ : Body))]) :: (GH.SP.ro [(t2, s2, p2, q2l)]) :: (GH.SP.pt [.int .i64 t2, .int .i64 s2, .int .i64 p2, .string (strN q2l)]) :: (GH.SP.eq (.agg #[.int .i64 t2, .int .i64 s2, .int .i64 p2, .string (strN q2l)])) :: (GH.SP.eq (.bool false)) :: []) (none :: none :: none :: none :: none :: none :: none :: none :: none :: none :: none :: none :: none :: none :: none :: none :: none :: none :: none :: none :: none :: none :: none :: none :: none :: none :: none :: none :: none :: none :: none :: none :: none :: none :: none :: none :: none :: none :: none :: none :: none :: none :: none :: none :: none :: none :: none :: none :: none :: none :: none :: none :: none :: none :: none :: none :: none :: none :: none :: none :: none :: none :: none :: none :: none :: none :: none :: none :: none :: none :: none :: none :: none :: none :: none :: none :: none :: none :: none :: none :: none :: none :: none :: none :: none :: none :: none :: none :: none :: none :: none :: none :: none :: none :: none :: none :: none :: none :: (some 0) :: (some 1) :: (some 2) :: (some 3) :: (some 4) :: (some 5) :: (some 6) :: (some 7) :: (some 8) :: (some 9) :: (some 10) :: (some 11) :: (some 12) :: (some 13) :: (some 14) :: none :: none :: none :: none :: none :: none :: none :: none :: none :: none :: none :: none :: none :: none :: none :: none :: none :: none :: none :: none :: none :: none :: none :: none :: none :: none :: none :: none :: none :: none :: none :: none :: none :: none :: none :: none :: none :: none :: none :: none :: none :: none :: none :: none :: none :: none :: none :: none :: none :: none :: none :: none :: none :: none :: none :: none :: none :: none :: none :: none :: none :: none :: none :: []) [98, 99, 100, 101, 102, 103, 104, 105, 106, 107, 108, 109, 110, 111, 112] (by rfl) (by kernel_rfl) (by kernel_rfl) ?_ ?_ ?_
          · intro S jx v hjx
            match jx, hjx with
            | 0, _ => rfl
            | 1, _ => rfl
            | 2, _ => rfl
            | 3, _ => rfl
            | 4, _ => rfl
            | 5, _ => rfl
            | 6, _ => rfl
            | 7, _ => rfl
            | 8, _ => rfl
            | 9, _ => rfl
            | 10, _ => rfl
            | 11, _ => rfl
            | 12, _ => rfl
            | 13, _ => rfl
            | 14, _ => rfl
            | nx + 15, hjx => omega
          · intro jx hjx S w' hb hd
            match jx, hjx, hd with
            | 0, _, hd =>
              simp only [GH.mkL, List.getD_cons_succ, List.getD_cons_zero]
              clear hd
              refine GH.st_eq (by rfl) ?_
              go_simp
              (try with_reducible rfl)
            | 1, _, hd =>
              simp only [GH.mkL, List.getD_cons_succ, List.getD_cons_zero]
              clear hd
              refine GH.st_eq (by rfl) ?_
              go_simp
              (try with_reducible rfl)
            | 2, _, hd =>
              simp only [GH.mkL, List.getD_cons_succ, List.getD_cons_zero]
              have d0 : S 0 = .slice (some ⟨g7, o7, none⟩) n7 c7 := (hd 0 (by kernel_rfl)).2
              rw [d0]
              clear d0
              have d1 : S 1 = .int .i64 (m : Nat) := (hd 1 (by kernel_rfl)).2
              rw [d1]
              clear d1
              clear hd
              refine GH.st_eq (by rfl) ?_
              go_simp
              (try with_reducible rfl)
            | 3, _, hd =>
              simp only [GH.mkL, List.getD_cons_succ, List.getD_cons_zero]
              have d2 : S 2 = .pointer (some ⟨g7, o7 + m * 4, none⟩) := (hd 2 (by kernel_rfl)).2
              rw [d2]
              clear d2
              clear hd
              exact GH.st_loads _ [.int .i64 t2, .int .i64 s2, .int .i64 p2, .string (strN q2l)] (by rfl) rfl rfl (fun j x hj => (hb.cell _ _ HG7.out).trans (RM.out j x hj)) (by kernel_rfl) (by kernel_rfl)
            | 4, _, hd =>
              simp only [GH.mkL, List.getD_cons_succ, List.getD_cons_zero]
              clear hd
              refine GH.st_eq (by rfl) ?_
              go_simp
              (try with_reducible rfl)
            | 5, _, hd =>
              simp only [GH.mkL, List.getD_cons_succ, List.getD_cons_zero]
              clear hd
              refine GH.st_eq (by rfl) ?_
              go_simp
              (try with_reducible rfl)
            | 6, _, hd =>
              simp only [GH.mkL, List.getD_cons_succ, List.getD_cons_zero]
              clear hd
              refine GH.st_eq (by rfl) ?_
              go_simp
              (try with_reducible rfl)
            | 7, _, hd =>
              simp only [GH.mkL, List.getD_cons_succ, List.getD_cons_zero]
              have d6 : S 6 = .int .i64 (k : Nat) := (hd 6 (by kernel_rfl)).2
              rw [d6]
              clear d6
              clear hd
              refine GH.st_eq (by rfl) ?_
              go_simp
              (try with_reducible rfl)
            | 8, _, hd =>
              simp only [GH.mkL, List.getD_cons_succ, List.getD_cons_zero]
              clear hd
              refine GH.st_eq (by rfl) ?_
              go_simp
              (try with_reducible rfl)
            | 9, _, hd =>
              simp only [GH.mkL, List.getD_cons_succ, List.getD_cons_zero]
              have d8 : S 8 = .int .i64 (k : Nat) := (hd 8 (by kernel_rfl)).2
              rw [d8]
              clear d8
              clear hd
              refine GH.st_eq (by rfl) ?_
              go_simp
              (try with_reducible rfl)
            | 10, _, hd =>
              simp only [GH.mkL, List.getD_cons_succ, List.getD_cons_zero]
              have d4 : S 4 = .slice (some ⟨b2, o2, none⟩) n2 c2 := (hd 4 (by kernel_rfl)).2
              rw [d4]
              clear d4
              have d5 : S 5 = .int .i64 (k : Nat) := (hd 5 (by kernel_rfl)).2
              rw [d5]
              clear d5
              have d7 : S 7 = .int .i64 (k1 : Nat) := (hd 7 (by kernel_rfl)).2
              rw [d7]
              clear d7
              have d9 : S 9 = .int .i64 (k1 : Nat) := (hd 9 (by kernel_rfl)).2
              rw [d9]
              clear d9
              clear hd
              have hcut := run_cut_lhm recel (some ⟨b2, o2, none⟩) n2 c2 k k1 k1 hii (Nat.le_refl _) hi1c w'
              rw [cutA_pos hic, HS1i.out] at hcut
              refine GH.st_val (v := .slice (some ⟨b2, o2 + k * 4, none⟩) 1 1) (by rfl) (by go_simp) ⟨_, _, _, rfl, (H2.out.into hb.full).cut1 (by omega) HPk.out⟩
            | 11, _, hd =>
              simp only [GH.mkL, List.getD_cons_succ, List.getD_cons_zero]
              obtain ⟨A10, n10, c10, d10, H10⟩ := (hd 10 (by kernel_rfl)).2
              rw [d10]
              clear d10
              replace H10 := Lib.hid H10
              clear hd
              refine GH.st_call (by rfl) hb.below.size (by go_simp) ((cplain_any A10 n10 c10 [(t2, s2, p2, (⟨q2A, q2n, q2c, q2l⟩ : Body))] w' H10.out (by have := H10.out.len; simp at this; omega)).mono ?_)
              rintro e w9 ⟨v, rfl, hro, hb9⟩
              exact ⟨v, rfl, hb9, GH.ro_of hro⟩
            | 12, _, hd =>
              simp only [GH.mkL, List.getD_cons_succ, List.getD_cons_zero]
              obtain ⟨A11, n11, c11, d11, l11, e11, H11⟩ := (hd 11 (by kernel_rfl)).2
              rw [d11]
              clear d11
              replace H11 := Lib.hid H11
              clear hd
              have hn1 : n11 = 1 := by simpa using l11.symm
              subst hn1
              obtain ⟨g, og, hA, hg, hcc⟩ := H11.out.2 (by omega)
              subst hA
              have hat := rcs_at (i := 0) H11.out (by omega) (p := (t2, s2, p2, q2l)) rfl
              rw [Nat.zero_mul, Nat.add_zero] at hat
              replace hat := Lib.hid hat
              clear hcc
              refine GH.st_val (v := .pointer (some ⟨g, og, none⟩)) (by rfl) ?_ ⟨_, _, rfl, hg, hat.out⟩
              go_simp
            | 13, _, hd =>
              simp only [GH.mkL, List.getD_cons_succ, List.getD_cons_zero]
              obtain ⟨b12, o12, d12, k12, H12⟩ := (hd 12 (by kernel_rfl)).2
              rw [d12]
              clear d12
              replace H12 := Lib.hid H12
              clear hd
              exact GH.st_loads _ [.int .i64 t2, .int .i64 s2, .int .i64 p2, .string (strN q2l)] (by rfl) rfl rfl H12.out (by kernel_rfl) (by kernel_rfl)
            | 14, _, hd =>
              simp only [GH.mkL, List.getD_cons_succ, List.getD_cons_zero]
              have d3 : S 3 = .agg #[.int .i64 t2, .int .i64 s2, .int .i64 p2, .string (strN q2l)] := (hd 3 (by kernel_rfl)).2
              rw [d3]
              clear d3
              have d13 : S 13 = .agg #[.int .i64 t2, .int .i64 s2, .int .i64 p2, .string (strN q2l)] := (hd 13 (by kernel_rfl)).2
              rw [d13]
              clear d13
              clear hd
              have hne := neqR t2 s2 p2 (strN q2l) w'
              refine GH.st_eq (by rfl) ?_
              go_simp
              (try with_reducible rfl)
            | nx + 15, hjx, _ => omega
          intro S w' hb hG
          simp only [GH.mkL, List.drop_succ_cons, List.drop_zero]
          have d14 : S 14 = .bool false := hG 14 (by omega)
          rw [d14]
          clear d14
          clear hG
          have B9 := Lib.hid (HW.out.trans (hb.full.mono HW.out.size))
          clear hb HW
          refine wpList_nil ?_
          go_wp2_with fail
          go_roundw
          case rel => exact ⟨i, k1, m + 1, by omega, by omega, rfl, by go_num, by go_num, Lib.hid (by have := HM.out; have := HI1.out; omega), Lib.hid (by rw [HI1.out]; exact MD.out), B9⟩
          case measure => simp [intOf]; omega

        · have e3 : ((i : Int) == (n1 : Int)) = false := by simp; omega
          have e4 : decide ((i : Int) = (n1 : Int)) = false := by simp; omega
          have hin : i < n1 := by omega
          have hiI : (i : Int) < (n1 : Int) := by omega
          clear hie
          go_wp2_with fail
          obtain ⟨b1, o1, t1, s1, p1, q1, hA1, hbb1, Y1, _, _, _, HPi, _, _, _⟩ := H1.out.at_ (i := i) (by omega)
          subst hA1
          obtain ⟨q1A, q1n, q1c, q1l⟩ := q1
          dsimp only at *
          replace Y1 := Lib.hid Y1
          have HB1 := Lib.hid hbb1
          clear hbb1
          obtain ⟨b2, o2, t2, s2, p2, q2, hA2, hbb2, Y2, _, _, _, HPk, _, _, _⟩ := H2.out.at_ (i := k) (by omega)
          subst hA2
          obtain ⟨q2A, q2n, q2c, q2l⟩ := q2
          dsimp only at *
          replace Y2 := Lib.hid Y2
          have HB2 := Lib.hid hbb2
          clear hbb2
          by_cases hle : t1 ≤ t2
          · have e6 : decide (t1 ≤ t2) = true := by simp; omega
            have MP0 := mg_a HD.out HPi.out (Or.inr ⟨_, HPk.out, by dsimp only; omega⟩)
            rw [← HM.out] at MP0
            have MP := Lib.hid (rsay_at (Lib.hid MP0.1))
            have MD := Lib.hid MP0.2
            clear MP0 HD
            refine GH.wp_ghl (M := false) 24 ((GH.SP.eq (.int .i64 (k : Nat))) :: (GH.SP.eq (.slice (some ⟨b2, o2, none⟩) n2 c2)) :: (GH.SP.eq (.int .i64 (n2 : Nat))) :: (GH.SP.eq (.bool false)) :: (GH.SP.eq (.bool false)) :: (GH.SP.eq (.int .i64 (i : Nat))) :: (GH.SP.eq (.slice (some ⟨b1, o1, none⟩) n1 c1)) :: (GH.SP.eq (.int .i64 (n1 : Nat))) :: (GH.SP.eq (.bool true)) :: (GH.SP.eq (.bool true)) :: (GH.SP.eq (.slice (some ⟨b1, o1, none⟩) n1 c1)) :: (GH.SP.eq (.int .i64 (i : Nat))) :: (GH.SP.eq (.pointer (some ⟨b1, o1 + i * 4, none⟩))) :: (GH.SP.eq (.pointer (some ⟨b1, o1 + i * 4, none⟩))) :: (GH.SP.eq (.int .i64 t1)) :: (GH.SP.eq (.slice (some ⟨b2, o2, none⟩) n2 c2)) :: (GH.SP.eq (.int .i64 (k : Nat))) :: (GH.SP.eq (.pointer (some ⟨b2, o2 + k * 4, none⟩))) :: (GH.SP.eq (.pointer (some ⟨b2, o2 + k * 4, none⟩))) :: (GH.SP.eq (.int .i64 t2)) :: (GH.SP.eq (.bool true)) :: (GH.SP.eq (.bool true)) :: (GH.SP.eq (.bool true)) :: (GH.SP.eq (.bool true)) :: []) (none :: none :: none :: none :: none :: none :: none :: none :: none :: none :: none :: (some 23) :: none :: none :: none :: none :: none :: none :: none :: none :: none :: none :: none :: none :: none :: none :: none :: none :: none :: none :: none :: none :: none :: none :: none :: none :: none :: none :: none :: none :: (some 0) :: (some 1) :: (some 2) :: (some 3) :: (some 4) :: (some 5) :: (some 6) :: (some 7) :: (some 8) :: (some 9) :: (some 10) :: (some 11) :: (some 12) :: (some 13) :: (some 14) :: (some 15) :: (some 16) :: (some 17) :: (some 18) :: (some 19) :: (some 20) :: (some 21) :: (some 22) :: none :: none :: none :: none :: none :: none :: none :: none :: none :: none :: none :: none :: none :: none :: none :: none :: none :: none :: none :: none :: none :: none :: none :: none :: none :: none :: none :: none :: none :: none :: none :: none :: none :: none :: none :: none :: none :: none :: none :: none :: none :: none :: none :: none :: none :: none :: none :: none :: none :: none :: none :: none :: none :: none :: none :: none :: none :: none :: none :: none :: none :: none :: none :: none :: none :: none :: none :: none :: none :: none :: none :: none :: none :: none :: none :: none :: none :: none :: none :: none :: none :: none :: none :: none :: none :: none :: none :: none :: none :: none :: none :: none :: none :: none :: none :: none :: none :: none :: none :: none :: none :: none :: none :: none :: none :: none :: none :: none :: none :: none :: none :: none :: none :: []) [40, 41, 42, 43, 44, 45, 46, 47, 48, 49, 50, 51, 52, 53, 54, 55, 56, 57, 58, 59, 60, 61, 62, 11] (by rfl) (by kernel_rfl) (by kernel_rfl) ?_ ?_ ?_
            · intro S jx v hjx
              match jx, hjx with
              | 0, _ => rfl
              | 1, _ => rfl
              | 2, _ => rfl
              | 3, _ => rfl
              | 4, _ => rfl
              | 5, _ => rfl
              | 6, _ => rfl
              | 7, _ => rfl
              | 8, _ => rfl
              | 9, _ => rfl
              | 10, _ => rfl
              | 11, _ => rfl
              | 12, _ => rfl
              | 13, _ => rfl
              | 14, _ => rfl
              | 15, _ => rfl
              | 16, _ => rfl
              | 17, _ => rfl
              | 18, _ => rfl
              | 19, _ => rfl
              | 20, _ => rfl
              | 21, _ => rfl
              | 22, _ => rfl
              | 23, _ => rfl
              | nx + 24, hjx => omega
            · intro jx hjx S w' hb hd
              match jx, hjx, hd with
              | 0, _, hd =>
                simp only [GH.mkL, List.getD_cons_succ, List.getD_cons_zero]
                clear hd
                refine GH.st_eq (by rfl) ?_
                go_simp
                (try with_reducible rfl)
              | 1, _, hd =>
                simp only [GH.mkL, List.getD_cons_succ, List.getD_cons_zero]
                clear hd
                refine GH.st_eq (by rfl) ?_
                go_simp
                (try with_reducible rfl)
              | 2, _, hd =>
                simp only [GH.mkL, List.getD_cons_succ, List.getD_cons_zero]
                have d1 : S 1 = .slice (some ⟨b2, o2, none⟩) n2 c2 := (hd 1 (by kernel_rfl)).2
                rw [d1]
                clear d1
                clear hd
                refine GH.st_eq (by rfl) ?_
                go_simp
                (try with_reducible rfl)
              | 3, _, hd =>
                simp only [GH.mkL, List.getD_cons_succ, List.getD_cons_zero]
                have d0 : S 0 = .int .i64 (k : Nat) := (hd 0 (by kernel_rfl)).2
                rw [d0]
                clear d0
                have d2 : S 2 = .int .i64 (n2 : Nat) := (hd 2 (by kernel_rfl)).2
                rw [d2]
                clear d2
                clear hd
                refine GH.st_eq (by rfl) ?_
                go_simp
                (try with_reducible rfl)
              | 4, _, hd =>
                simp only [GH.mkL, List.getD_cons_succ, List.getD_cons_zero]
                have d3 : S 3 = .bool false := (hd 3 (by kernel_rfl)).2
                rw [d3]
                clear d3
                clear hd
                refine GH.st_eq (by rfl) ?_
                go_simp
                (try with_reducible rfl)
              | 5, _, hd =>
                simp only [GH.mkL, List.getD_cons_succ, List.getD_cons_zero]
                have d4 : S 4 = .bool false := (hd 4 (by kernel_rfl)).2
                rw [d4]
                clear d4
                clear hd
                refine GH.st_eq (by rfl) ?_
                go_simp
                (try with_reducible rfl)
              | 6, _, hd =>
                simp only [GH.mkL, List.getD_cons_succ, List.getD_cons_zero]
                have d4 : S 4 = .bool false := (hd 4 (by kernel_rfl)).2
                rw [d4]
                clear d4
                clear hd
                refine GH.st_eq (by rfl) ?_
                go_simp
                (try with_reducible rfl)
              | 7, _, hd =>
                simp only [GH.mkL, List.getD_cons_succ, List.getD_cons_zero]
                have d4 : S 4 = .bool false := (hd 4 (by kernel_rfl)).2
                rw [d4]
                clear d4
                have d6 : S 6 = .slice (some ⟨b1, o1, none⟩) n1 c1 := (hd 6 (by kernel_rfl)).2
                rw [d6]
                clear d6
                clear hd
                refine GH.st_eq (by rfl) ?_
                go_simp
                (try with_reducible rfl)
              | 8, _, hd =>
                simp only [GH.mkL, List.getD_cons_succ, List.getD_cons_zero]
                have d4 : S 4 = .bool false := (hd 4 (by kernel_rfl)).2
                rw [d4]
                clear d4
                have d5 : S 5 = .int .i64 (i : Nat) := (hd 5 (by kernel_rfl)).2
                rw [d5]
                clear d5
                have d7 : S 7 = .int .i64 (n1 : Nat) := (hd 7 (by kernel_rfl)).2
                rw [d7]
                clear d7
                clear hd
                refine GH.st_eq (by rfl) ?_
                go_simp
                (try with_reducible rfl)
              | 9, _, hd =>
                simp only [GH.mkL, List.getD_cons_succ, List.getD_cons_zero]
                have d4 : S 4 = .bool false := (hd 4 (by kernel_rfl)).2
                rw [d4]
                clear d4
                have d8 : S 8 = .bool true := (hd 8 (by kernel_rfl)).2
                rw [d8]
                clear d8
                clear hd
                refine GH.st_eq (by rfl) ?_
                go_simp
                (try with_reducible rfl)
              | 10, _, hd =>
                simp only [GH.mkL, List.getD_cons_succ, List.getD_cons_zero]
                have d9 : S 9 = .bool true := (hd 9 (by kernel_rfl)).2
                rw [d9]
                clear d9
                clear hd
                refine GH.st_eq (by rfl) ?_
                go_simp
                (try with_reducible rfl)
              | 11, _, hd =>
                simp only [GH.mkL, List.getD_cons_succ, List.getD_cons_zero]
                have d9 : S 9 = .bool true := (hd 9 (by kernel_rfl)).2
                rw [d9]
                clear d9
                clear hd
                refine GH.st_eq (by rfl) ?_
                go_simp
                (try with_reducible rfl)
              | 12, _, hd =>
                simp only [GH.mkL, List.getD_cons_succ, List.getD_cons_zero]
                have d9 : S 9 = .bool true := (hd 9 (by kernel_rfl)).2
                rw [d9]
                clear d9
                have d10 : S 10 = .slice (some ⟨b1, o1, none⟩) n1 c1 := (hd 10 (by kernel_rfl)).2
                rw [d10]
                clear d10
                have d11 : S 11 = .int .i64 (i : Nat) := (hd 11 (by kernel_rfl)).2
                rw [d11]
                clear d11
                clear hd
                refine GH.st_eq (by rfl) ?_
                go_simp
                (try with_reducible rfl)
              | 13, _, hd =>
                simp only [GH.mkL, List.getD_cons_succ, List.getD_cons_zero]
                have d9 : S 9 = .bool true := (hd 9 (by kernel_rfl)).2
                rw [d9]
                clear d9
                have d12 : S 12 = .pointer (some ⟨b1, o1 + i * 4, none⟩) := (hd 12 (by kernel_rfl)).2
                rw [d12]
                clear d12
                clear hd
                refine GH.st_eq (by rfl) ?_
                go_simp
                (try with_reducible rfl)
              | 14, _, hd =>
                simp only [GH.mkL, List.getD_cons_succ, List.getD_cons_zero]
                have d9 : S 9 = .bool true := (hd 9 (by kernel_rfl)).2
                rw [d9]
                clear d9
                have d13 : S 13 = .pointer (some ⟨b1, o1 + i * 4, none⟩) := (hd 13 (by kernel_rfl)).2
                rw [d13]
                clear d13
                clear hd
                exact GH.st_load _ (by rfl) rfl rfl ((hb.cell _ _ HB1.out).trans Y1.out) (by kernel_rfl)
              | 15, _, hd =>
                simp only [GH.mkL, List.getD_cons_succ, List.getD_cons_zero]
                have d9 : S 9 = .bool true := (hd 9 (by kernel_rfl)).2
                rw [d9]
                clear d9
                clear hd
                refine GH.st_eq (by rfl) ?_
                go_simp
                (try with_reducible rfl)
              | 16, _, hd =>
                simp only [GH.mkL, List.getD_cons_succ, List.getD_cons_zero]
                have d9 : S 9 = .bool true := (hd 9 (by kernel_rfl)).2
                rw [d9]
                clear d9
                clear hd
                refine GH.st_eq (by rfl) ?_
                go_simp
                (try with_reducible rfl)
              | 17, _, hd =>
                simp only [GH.mkL, List.getD_cons_succ, List.getD_cons_zero]
                have d9 : S 9 = .bool true := (hd 9 (by kernel_rfl)).2
                rw [d9]
                clear d9
                have d15 : S 15 = .slice (some ⟨b2, o2, none⟩) n2 c2 := (hd 15 (by kernel_rfl)).2
                rw [d15]
                clear d15
                have d16 : S 16 = .int .i64 (k : Nat) := (hd 16 (by kernel_rfl)).2
                rw [d16]
                clear d16
                clear hd
                refine GH.st_eq (by rfl) ?_
                go_simp
                (try with_reducible rfl)
              | 18, _, hd =>
                simp only [GH.mkL, List.getD_cons_succ, List.getD_cons_zero]
                have d9 : S 9 = .bool true := (hd 9 (by kernel_rfl)).2
                rw [d9]
                clear d9
                have d17 : S 17 = .pointer (some ⟨b2, o2 + k * 4, none⟩) := (hd 17 (by kernel_rfl)).2
                rw [d17]
                clear d17
                clear hd
                refine GH.st_eq (by rfl) ?_
                go_simp
                (try with_reducible rfl)
              | 19, _, hd =>
                simp only [GH.mkL, List.getD_cons_succ, List.getD_cons_zero]
                have d9 : S 9 = .bool true := (hd 9 (by kernel_rfl)).2
                rw [d9]
                clear d9
                have d18 : S 18 = .pointer (some ⟨b2, o2 + k * 4, none⟩) := (hd 18 (by kernel_rfl)).2
                rw [d18]
                clear d18
                clear hd
                exact GH.st_load _ (by rfl) rfl rfl ((hb.cell _ _ HB2.out).trans Y2.out) (by kernel_rfl)
              | 20, _, hd =>
                simp only [GH.mkL, List.getD_cons_succ, List.getD_cons_zero]
                have d9 : S 9 = .bool true := (hd 9 (by kernel_rfl)).2
                rw [d9]
                clear d9
                have d14 : S 14 = .int .i64 t1 := (hd 14 (by kernel_rfl)).2
                rw [d14]
                clear d14
                have d19 : S 19 = .int .i64 t2 := (hd 19 (by kernel_rfl)).2
                rw [d19]
                clear d19
                clear hd
                refine GH.st_eq (by rfl) ?_
                go_simp
                (try with_reducible rfl)
              | 21, _, hd =>
                simp only [GH.mkL, List.getD_cons_succ, List.getD_cons_zero]
                have d4 : S 4 = .bool false := (hd 4 (by kernel_rfl)).2
                rw [d4]
                clear d4
                have d9 : S 9 = .bool true := (hd 9 (by kernel_rfl)).2
                rw [d9]
                clear d9
                have d20 : S 20 = .bool true := (hd 20 (by kernel_rfl)).2
                rw [d20]
                clear d20
                clear hd
                refine GH.st_eq (by rfl) ?_
                go_simp
                (try with_reducible rfl)
              | 22, _, hd =>
                simp only [GH.mkL, List.getD_cons_succ, List.getD_cons_zero]
                have d4 : S 4 = .bool false := (hd 4 (by kernel_rfl)).2
                rw [d4]
                clear d4
                have d21 : S 21 = .bool true := (hd 21 (by kernel_rfl)).2
                rw [d21]
                clear d21
                clear hd
                refine GH.st_eq (by rfl) ?_
                go_simp
                (try with_reducible rfl)
              | 23, _, hd =>
                simp only [GH.mkL, List.getD_cons_succ, List.getD_cons_zero]
                have d0 : S 0 = .int .i64 (k : Nat) := (hd 0 (by kernel_rfl)).2
                rw [d0]
                clear d0
                have d1 : S 1 = .slice (some ⟨b2, o2, none⟩) n2 c2 := (hd 1 (by kernel_rfl)).2
                rw [d1]
                clear d1
                have d2 : S 2 = .int .i64 (n2 : Nat) := (hd 2 (by kernel_rfl)).2
                rw [d2]
                clear d2
                have d3 : S 3 = .bool false := (hd 3 (by kernel_rfl)).2
                rw [d3]
                clear d3
                have d4 : S 4 = .bool false := (hd 4 (by kernel_rfl)).2
                rw [d4]
                clear d4
                have d5 : S 5 = .int .i64 (i : Nat) := (hd 5 (by kernel_rfl)).2
                rw [d5]
                clear d5
                have d6 : S 6 = .slice (some ⟨b1, o1, none⟩) n1 c1 := (hd 6 (by kernel_rfl)).2
                rw [d6]
                clear d6
                have d7 : S 7 = .int .i64 (n1 : Nat) := (hd 7 (by kernel_rfl)).2
                rw [d7]
                clear d7
                have d8 : S 8 = .bool true := (hd 8 (by kernel_rfl)).2
                rw [d8]
                clear d8
                have d9 : S 9 = .bool true := (hd 9 (by kernel_rfl)).2
                rw [d9]
                clear d9
                have d10 : S 10 = .slice (some ⟨b1, o1, none⟩) n1 c1 := (hd 10 (by kernel_rfl)).2
                rw [d10]
                clear d10
                have d11 : S 11 = .int .i64 (i : Nat) := (hd 11 (by kernel_rfl)).2
                rw [d11]
                clear d11
                have d12 : S 12 = .pointer (some ⟨b1, o1 + i * 4, none⟩) := (hd 12 (by kernel_rfl)).2
                rw [d12]
                clear d12
                have d13 : S 13 = .pointer (some ⟨b1, o1 + i * 4, none⟩) := (hd 13 (by kernel_rfl)).2
                rw [d13]
                clear d13
                have d14 : S 14 = .int .i64 t1 := (hd 14 (by kernel_rfl)).2
                rw [d14]
                clear d14
                have d15 : S 15 = .slice (some ⟨b2, o2, none⟩) n2 c2 := (hd 15 (by kernel_rfl)).2
                rw [d15]
                clear d15
                have d16 : S 16 = .int .i64 (k : Nat) := (hd 16 (by kernel_rfl)).2
                rw [d16]
                clear d16
                have d17 : S 17 = .pointer (some ⟨b2, o2 + k * 4, none⟩) := (hd 17 (by kernel_rfl)).2
                rw [d17]
                clear d17
                have d18 : S 18 = .pointer (some ⟨b2, o2 + k * 4, none⟩) := (hd 18 (by kernel_rfl)).2
                rw [d18]
                clear d18
                have d19 : S 19 = .int .i64 t2 := (hd 19 (by kernel_rfl)).2
                rw [d19]
                clear d19
                have d20 : S 20 = .bool true := (hd 20 (by kernel_rfl)).2
                rw [d20]
                clear d20
                have d21 : S 21 = .bool true := (hd 21 (by kernel_rfl)).2
                rw [d21]
                clear d21
                have d22 : S 22 = .bool true := (hd 22 (by kernel_rfl)).2
                rw [d22]
                clear d22
                clear hd
                refine GH.st_eq (by rfl) ?_
                go_simp
                (try with_reducible rfl)
              | nx + 24, hjx, _ => omega
            intro S w' hb hG
            simp only [GH.mkL, List.drop_succ_cons, List.drop_zero]
            have d23 : S 23 = .bool true := hG 23 (by omega)
            rw [d23]
            clear d23
            clear hG
            have B8 := Lib.hid (HW.out.trans (hb.full.mono HW.out.size))
            replace H1 := Lib.hid (H1.out.into hb.full)
            replace H2 := Lib.hid (H2.out.into hb.full)
            replace RMM := Lib.hid (RMM.out.into hb.full)
            clear hb HW
            have HW := B8
            clear B8
            refine wpList_nil ?_
            go_wp2_with fail
            have RM := Lib.hid (rcs_at RMM.out hlt MP.out)
            have HG7 := Lib.hid (show g7 < w'.heap.size from by obtain ⟨_, _, e, h, _⟩ := RMM.out.2 (by omega); injection e with e; injection e with e _; omega)
            obtain ⟨i1, hi1⟩ : ∃ z, z = i + 1 := ⟨_, rfl⟩
            have hwi : IntKind.i64.wrap ((i : Int) + 1) = ((i1 : Nat) : Int) := by rw [hi1, IntKind.wrap_i64]; omega
            have HI1 := Lib.hid hi1
            have hi1c : i1 ≤ c1 := by omega
            have hi1n : i1 ≤ n1 := by omega
            have hii : i ≤ i1 := by omega
            have hic : i < i1 := by omega
            have HS1i := Lib.hid (show i1 - i = 1 by omega)
            clear hi1
            refine GH.wp_ghl (M := false) 15 ((GH.SP.eq (.slice (some ⟨g7, o7, none⟩) n7 c7)) :: (GH.SP.eq (.int .i64 (m : Nat))) :: (GH.SP.eq (.pointer (some ⟨g7, o7 + m * 4, none⟩))) :: (GH.SP.eq (.agg #[.int .i64 t1, .int .i64 s1, .int .i64 p1, .string (strN q1l)])) :: (GH.SP.eq (.slice (some ⟨b1, o1, none⟩) n1 c1)) :: (GH.SP.eq (.int .i64 (i : Nat))) :: (GH.SP.eq (.int .i64 (i : Nat))) :: (GH.SP.eq (.int .i64 (i1 : Nat))) :: (GH.SP.eq (.int .i64 (i : Nat))) :: (GH.SP.eq (.int .i64 (i1 : Nat))) :: (GH.SP.rs [(t1, s1, p1, (⟨q1A, q1n, q1c, q1l⟩ : Body))]) :: (GH.SP.ro [(t1, s1, p1, q1l)]) :: (GH.SP.pt [.int .i64 t1, .int .i64 s1, .int .i64 p1, .string (strN q1l)]) :: (GH.SP.eq (.agg #[.int .i64 t1, .int .i64 s1, .int .i64 p1, .string (strN q1l)])) :: (GH.SP.eq (.bool false)) :: []) (none :: none :: none :: none :: none :: none :: none :: none :: none :: none :: none :: none :: none :: none :: none :: none :: none :: none :: none :: none :: none :: none :: none :: none :: none :: none :: none :: none :: none :: none :: none :: none :: none :: none :: none :: none :: none :: none :: none :: none :: none :: none :: none :: none :: none :: none :: none :: none :: none :: none :: none :: none :: none :: none :: none :: none :: none :: none :: none :: none :: none :: none :: none :: none :: none :: none :: none :: none :: none :: none :: none :: none :: none :: none :: none :: none :: none :: none :: none :: none :: none :: (some 0) :: (some 1) :: (some 2) :: (some 3) :: (some 4) :: (some 5) :: (some 6) :: (some 7) :: (some 8) :: (some 9) :: (some 10) :: (some 11) :: (some 12) :: (some 13) :: (some 14) :: none :: none :: none :: none :: none :: none :: none :: none :: none :: none :: none :: none :: none :: none :: none :: none :: none :: none :: none :: none :: none :: none :: none :: none :: none :: none :: none :: none :: none :: none :: none :: none :: none :: none :: none :: none :: none :: none :: none :: none :: none :: none :: none :: none :: none :: none :: none :: none :: none :: none :: none :: none :: none :: none :: none :: none :: none :: none :: none :: none :: none :: none :: none :: none :: none :: none :: none :: none :: none :: none :: none :: none :: none :: none :: none :: none :: none :: none :: none :: none :: []) [81, 82, 83, 84, 85, 86, 87, 88, 89, 90, 91, 92, 93, 94, 95] (by rfl) (by kernel_rfl) (by kernel_rfl) ?_ ?_ ?_
            · intro S jx v hjx
              match jx, hjx with
              | 0, _ => rfl
              | 1, _ => rfl
              | 2, _ => rfl
              | 3, _ => rfl
              | 4, _ => rfl
              | 5, _ => rfl
              | 6, _ => rfl
              | 7, _ => rfl
              | 8, _ => rfl
              | 9, _ => rfl
              | 10, _ => rfl
              | 11, _ => rfl
              | 12, _ => rfl
              | 13, _ => rfl
              | 14, _ => rfl
              | nx + 15, hjx => omega
            · intro jx hjx S w' hb hd
              match jx, hjx, hd with
              | 0, _, hd =>
                simp only [GH.mkL, List.getD_cons_succ, List.getD_cons_zero]
                clear hd
                refine GH.st_eq (by rfl) ?_
                go_simp
                (try with_reducible rfl)
              | 1, _, hd =>
                simp only [GH.mkL, List.getD_cons_succ, List.getD_cons_zero]
                clear hd
                refine GH.st_eq (by rfl) ?_
                go_simp
                (try with_reducible rfl)
              | 2, _, hd =>
                simp only [GH.mkL, List.getD_cons_succ, List.getD_cons_zero]
                have d0 : S 0 = .slice (some ⟨g7, o7, none⟩) n7 c7 := (hd 0 (by kernel_rfl)).2
                rw [d0]
                clear d0
                have d1 : S 1 = .int .i64 (m : Nat) := (hd 1 (by kernel_rfl)).2
                rw [d1]
                clear d1
                clear hd
                refine GH.st_eq (by rfl) ?_
                go_simp
                (try with_reducible rfl)
              | 3, _, hd =>
                simp only [GH.mkL, List.getD_cons_succ, List.getD_cons_zero]
                have d2 : S 2 = .pointer (some ⟨g7, o7 + m * 4, none⟩) := (hd 2 (by kernel_rfl)).2
                rw [d2]
                clear d2
                clear hd
                exact GH.st_loads _ [.int .i64 t1, .int .i64 s1, .int .i64 p1, .string (strN q1l)] (by rfl) rfl rfl (fun j x hj => (hb.cell _ _ HG7.out).trans (RM.out j x hj)) (by kernel_rfl) (by kernel_rfl)
              | 4, _, hd =>
                simp only [GH.mkL, List.getD_cons_succ, List.getD_cons_zero]
                clear hd
                refine GH.st_eq (by rfl) ?_
                go_simp
                (try with_reducible rfl)
              | 5, _, hd =>
                simp only [GH.mkL, List.getD_cons_succ, List.getD_cons_zero]
                clear hd
                refine GH.st_eq (by rfl) ?_
                go_simp
                (try with_reducible rfl)
              | 6, _, hd =>
                simp only [GH.mkL, List.getD_cons_succ, List.getD_cons_zero]
                clear hd
                refine GH.st_eq (by rfl) ?_
                go_simp
                (try with_reducible rfl)
              | 7, _, hd =>
                simp only [GH.mkL, List.getD_cons_succ, List.getD_cons_zero]
                have d6 : S 6 = .int .i64 (i : Nat) := (hd 6 (by kernel_rfl)).2
                rw [d6]
                clear d6
                clear hd
                refine GH.st_eq (by rfl) ?_
                go_simp
                (try with_reducible rfl)
              | 8, _, hd =>
                simp only [GH.mkL, List.getD_cons_succ, List.getD_cons_zero]
                clear hd
                refine GH.st_eq (by rfl) ?_
                go_simp
                (try with_reducible rfl)
              | 9, _, hd =>
                simp only [GH.mkL, List.getD_cons_succ, List.getD_cons_zero]
                have d8 : S 8 = .int .i64 (i : Nat) := (hd 8 (by kernel_rfl)).2
                rw [d8]
                clear d8
                clear hd
                refine GH.st_eq (by rfl) ?_
                go_simp
                (try with_reducible rfl)
              | 10, _, hd =>
                simp only [GH.mkL, List.getD_cons_succ, List.getD_cons_zero]
                have d4 : S 4 = .slice (some ⟨b1, o1, none⟩) n1 c1 := (hd 4 (by kernel_rfl)).2
                rw [d4]
                clear d4
                have d5 : S 5 = .int .i64 (i : Nat) := (hd 5 (by kernel_rfl)).2
                rw [d5]
                clear d5
                have d7 : S 7 = .int .i64 (i1 : Nat) := (hd 7 (by kernel_rfl)).2
                rw [d7]
                clear d7
                have d9 : S 9 = .int .i64 (i1 : Nat) := (hd 9 (by kernel_rfl)).2
                rw [d9]
                clear d9
                clear hd
                have hcut := run_cut_lhm recel (some ⟨b1, o1, none⟩) n1 c1 i i1 i1 hii (Nat.le_refl _) hi1c w'
                rw [cutA_pos hic, HS1i.out] at hcut
                refine GH.st_val (v := .slice (some ⟨b1, o1 + i * 4, none⟩) 1 1) (by rfl) (by go_simp) ⟨_, _, _, rfl, (H1.out.into hb.full).cut1 (by omega) HPi.out⟩
              | 11, _, hd =>
                simp only [GH.mkL, List.getD_cons_succ, List.getD_cons_zero]
                obtain ⟨A10, n10, c10, d10, H10⟩ := (hd 10 (by kernel_rfl)).2
                rw [d10]
                clear d10
                replace H10 := Lib.hid H10
                clear hd
                refine GH.st_call (by rfl) hb.below.size (by go_simp) ((cplain_any A10 n10 c10 [(t1, s1, p1, (⟨q1A, q1n, q1c, q1l⟩ : Body))] w' H10.out (by have := H10.out.len; simp at this; omega)).mono ?_)
                rintro e w9 ⟨v, rfl, hro, hb9⟩
                exact ⟨v, rfl, hb9, GH.ro_of hro⟩
              | 12, _, hd =>
                simp only [GH.mkL, List.getD_cons_succ, List.getD_cons_zero]
                obtain ⟨A11, n11, c11, d11, l11, e11, H11⟩ := (hd 11 (by kernel_rfl)).2
                rw [d11]
                clear d11
                replace H11 := Lib.hid H11
                clear hd
                have hn1 : n11 = 1 := by simpa using l11.symm
                subst hn1
                obtain ⟨g, og, hA, hg, hcc⟩ := H11.out.2 (by omega)
                subst hA
                have hat := rcs_at (i := 0) H11.out (by omega) (p := (t1, s1, p1, q1l)) rfl
                rw [Nat.zero_mul, Nat.add_zero] at hat
                replace hat := Lib.hid hat
                clear hcc
                refine GH.st_val (v := .pointer (some ⟨g, og, none⟩)) (by rfl) ?_ ⟨_, _, rfl, hg, hat.out⟩
                go_simp
              | 13, _, hd =>
                simp only [GH.mkL, List.getD_cons_succ, List.getD_cons_zero]
                obtain ⟨b12, o12, d12, k12, H12⟩ := (hd 12 (by kernel_rfl)).2
                rw [d12]
                clear d12
                replace H12 := Lib.hid H12
                clear hd
                exact GH.st_loads _ [.int .i64 t1, .int .i64 s1, .int .i64 p1, .string (strN q1l)] (by rfl) rfl rfl H12.out (by kernel_rfl) (by kernel_rfl)
              | 14, _, hd =>
                simp only [GH.mkL, List.getD_cons_succ, List.getD_cons_zero]
                have d3 : S 3 = .agg #[.int .i64 t1, .int .i64 s1, .int .i64 p1, .string (strN q1l)] := (hd 3 (by kernel_rfl)).2
                rw [d3]
                clear d3
                have d13 : S 13 = .agg #[.int .i64 t1, .int .i64 s1, .int .i64 p1, .string (strN q1l)] := (hd 13 (by kernel_rfl)).2
                rw [d13]
                clear d13
                clear hd
                have hne := neqR t1 s1 p1 (strN q1l) w'
                refine GH.st_eq (by rfl) ?_
                go_simp
                (try with_reducible rfl)
              | nx + 15, hjx, _ => omega
            intro S w' hb hG
            simp only [GH.mkL, List.drop_succ_cons, List.drop_zero]
            have d14 : S 14 = .bool false := hG 14 (by omega)
            rw [d14]
            clear d14
            clear hG
            have B9 := Lib.hid (HW.out.trans (hb.full.mono HW.out.size))
            clear hb HW
            refine wpList_nil ?_
            go_wp2_with fail
            go_roundw
            case rel => exact ⟨i1, k, m + 1, by omega, by omega, by go_num, rfl, by go_num, Lib.hid (by have := HM.out; have := HI1.out; omega), Lib.hid (by rw [HI1.out]; exact MD.out), B9⟩
            case measure => simp [intOf]; omega

          · have e6 : decide (t1 ≤ t2) = false := by simp; omega
            have MP0 := mg_b HD.out HPk.out (Or.inr ⟨_, HPi.out, by dsimp only; omega⟩)
            rw [← HM.out] at MP0
            have MP := Lib.hid (rsay_at (Lib.hid MP0.1))
            have MD := Lib.hid MP0.2
            clear MP0 HD
            refine GH.wp_ghl (M := false) 24 ((GH.SP.eq (.int .i64 (k : Nat))) :: (GH.SP.eq (.slice (some ⟨b2, o2, none⟩) n2 c2)) :: (GH.SP.eq (.int .i64 (n2 : Nat))) :: (GH.SP.eq (.bool false)) :: (GH.SP.eq (.bool false)) :: (GH.SP.eq (.int .i64 (i : Nat))) :: (GH.SP.eq (.slice (some ⟨b1, o1, none⟩) n1 c1)) :: (GH.SP.eq (.int .i64 (n1 : Nat))) :: (GH.SP.eq (.bool true)) :: (GH.SP.eq (.bool true)) :: (GH.SP.eq (.slice (some ⟨b1, o1, none⟩) n1 c1)) :: (GH.SP.eq (.int .i64 (i : Nat))) :: (GH.SP.eq (.pointer (some ⟨b1, o1 + i * 4, none⟩))) :: (GH.SP.eq (.pointer (some ⟨b1, o1 + i * 4, none⟩))) :: (GH.SP.eq (.int .i64 t1)) :: (GH.SP.eq (.slice (some ⟨b2, o2, none⟩) n2 c2)) :: (GH.SP.eq (.int .i64 (k : Nat))) :: (GH.SP.eq (.pointer (some ⟨b2, o2 + k * 4, none⟩))) :: (GH.SP.eq (.pointer (some ⟨b2, o2 + k * 4, none⟩))) :: (GH.SP.eq (.int .i64 t2)) :: (GH.SP.eq (.bool false)) :: (GH.SP.eq (.bool false)) :: (GH.SP.eq (.bool false)) :: (GH.SP.eq (.bool false)) :: []) (none :: none :: none :: none :: none :: none :: none :: none :: none :: none :: none :: (some 23) :: none :: none :: none :: none :: none :: none :: none :: none :: none :: none :: none :: none :: none :: none :: none :: none :: none :: none :: none :: none :: none :: none :: none :: none :: none :: none :: none :: none :: (some 0) :: (some 1) :: (some 2) :: (some 3) :: (some 4) :: (some 5) :: (some 6) :: (some 7) :: (some 8) :: (some 9) :: (some 10) :: (some 11) :: (some 12) :: (some 13) :: (some 14) :: (some 15) :: (some 16) :: (some 17) :: (some 18) :: (some 19) :: (some 20) :: (some 21) :: (some 22) :: none :: none :: none :: none :: none :: none :: none :: none :: none :: none :: none :: none :: none :: none :: none :: none :: none :: none :: none :: none :: none :: none :: none :: none :: none :: none :: none :: none :: none :: none :: none :: none :: none :: none :: none :: none :: none :: none :: none :: none :: none :: none :: none :: none :: none :: none :: none :: none :: none :: none :: none :: none :: none :: none :: none :: none :: none :: none :: none :: none :: none :: none :: none :: none :: none :: none :: none :: none :: none :: none :: none :: none :: none :: none :: none :: none :: none :: none :: none :: none :: none :: none :: none :: none :: none :: none :: none :: none :: none :: none :: none :: none :: none :: none :: none :: none :: none :: none :: none :: none :: none :: none :: none :: none :: none :: none :: none :: none :: none :: none :: none :: none :: none :: []) [40, 41, 42, 43, 44, 45, 46, 47, 48, 49, 50, 51, 52, 53, 54, 55, 56, 57, 58, 59, 60, 61, 62, 11] (by rfl) (by kernel_rfl) (by kernel_rfl) ?_ ?_ ?_
            · intro S jx v hjx
              match jx, hjx with
              | 0, _ => rfl
              | 1, _ => rfl
              | 2, _ => rfl
              | 3, _ => rfl
              | 4, _ => rfl
              | 5, _ => rfl
              | 6, _ => rfl
              | 7, _ => rfl
              | 8, _ => rfl
              | 9, _ => rfl
              | 10, _ => rfl
              | 11, _ => rfl
              | 12, _ => rfl
              | 13, _ => rfl
              | 14, _ => rfl
              | 15, _ => rfl
              | 16, _ => rfl
              | 17, _ => rfl
              | 18, _ => rfl
              | 19, _ => rfl
              | 20, _ => rfl
              | 21, _ => rfl
              | 22, _ => rfl
              | 23, _ => rfl
              | nx + 24, hjx => omega
            · intro jx hjx S w' hb hd
              match jx, hjx, hd with
              | 0, _, hd =>
                simp only [GH.mkL, List.getD_cons_succ, List.getD_cons_zero]
                clear hd
                refine GH.st_eq (by rfl) ?_
                go_simp
                (try with_reducible rfl)
              | 1, _, hd =>
                simp only [GH.mkL, List.getD_cons_succ, List.getD_cons_zero]
                clear hd
                refine GH.st_eq (by rfl) ?_
                go_simp
                (try with_reducible rfl)
              | 2, _, hd =>
                simp only [GH.mkL, List.getD_cons_succ, List.getD_cons_zero]
                have d1 : S 1 = .slice (some ⟨b2, o2, none⟩) n2 c2 := (hd 1 (by kernel_rfl)).2
                rw [d1]
                clear d1
                clear hd
                refine GH.st_eq (by rfl) ?_
                go_simp
                (try with_reducible rfl)
              | 3, _, hd =>
                simp only [GH.mkL, List.getD_cons_succ, List.getD_cons_zero]
                have d0 : S 0 = .int .i64 (k : Nat) := (hd 0 (by kernel_rfl)).2
                rw [d0]
                clear d0
                have d2 : S 2 = .int .i64 (n2 : Nat) := (hd 2 (by kernel_rfl)).2
                rw [d2]
                clear d2
                clear hd
                refine GH.st_eq (by rfl) ?_
                go_simp
                (try with_reducible rfl)
              | 4, _, hd =>
                simp only [GH.mkL, List.getD_cons_succ, List.getD_cons_zero]
                have d3 : S 3 = .bool false := (hd 3 (by kernel_rfl)).2
                rw [d3]
                clear d3
                clear hd
                refine GH.st_eq (by rfl) ?_
                go_simp
                (try with_reducible rfl)
              | 5, _, hd =>
                simp only [GH.mkL, List.getD_cons_succ, List.getD_cons_zero]
                have d4 : S 4 = .bool false := (hd 4 (by kernel_rfl)).2
                rw [d4]
                clear d4
                clear hd
                refine GH.st_eq (by rfl) ?_
                go_simp
                (try with_reducible rfl)
              | 6, _, hd =>
                simp only [GH.mkL, List.getD_cons_succ, List.getD_cons_zero]
                have d4 : S 4 = .bool false := (hd 4 (by kernel_rfl)).2
                rw [d4]
                clear d4
                clear hd
                refine GH.st_eq (by rfl) ?_
                go_simp
                (try with_reducible rfl)
              | 7, _, hd =>
                simp only [GH.mkL, List.getD_cons_succ, List.getD_cons_zero]
                have d4 : S 4 = .bool false := (hd 4 (by kernel_rfl)).2
                rw [d4]
                clear d4
                have d6 : S 6 = .slice (some ⟨b1, o1, none⟩) n1 c1 := (hd 6 (by kernel_rfl)).2
                rw [d6]
                clear d6
                clear hd
                refine GH.st_eq (by rfl) ?_
                go_simp
                (try with_reducible rfl)
              | 8, _, hd =>
                simp only [GH.mkL, List.getD_cons_succ, List.getD_cons_zero]
                have d4 : S 4 = .bool false := (hd 4 (by kernel_rfl)).2
                rw [d4]
                clear d4
                have d5 : S 5 = .int .i64 (i : Nat) := (hd 5 (by kernel_rfl)).2
                rw [d5]
                clear d5
                have d7 : S 7 = .int .i64 (n1 : Nat) := (hd 7 (by kernel_rfl)).2
                rw [d7]
                clear d7
                clear hd
                refine GH.st_eq (by rfl) ?_
                go_simp
                (try with_reducible rfl)
              | 9, _, hd =>
                simp only [GH.mkL, List.getD_cons_succ, List.getD_cons_zero]
                have d4 : S 4 = .bool false := (hd 4 (by kernel_rfl)).2
                rw [d4]
                clear d4
                have d8 : S 8 = .bool true := (hd 8 (by kernel_rfl)).2
                rw [d8]
                clear d8
                clear hd
                refine GH.st_eq (by rfl) ?_
                go_simp
                (try with_reducible rfl)
              | 10, _, hd =>
                simp only [GH.mkL, List.getD_cons_succ, List.getD_cons_zero]
                have d9 : S 9 = .bool true := (hd 9 (by kernel_rfl)).2
                rw [d9]
                clear d9
                clear hd
                refine GH.st_eq (by rfl) ?_
                go_simp
                (try with_reducible rfl)
              | 11, _, hd =>
                simp only [GH.mkL, List.getD_cons_succ, List.getD_cons_zero]
                have d9 : S 9 = .bool true := (hd 9 (by kernel_rfl)).2
                rw [d9]
                clear d9
                clear hd
                refine GH.st_eq (by rfl) ?_
                go_simp
                (try with_reducible rfl)
              | 12, _, hd =>
                simp only [GH.mkL, List.getD_cons_succ, List.getD_cons_zero]
                have d9 : S 9 = .bool true := (hd 9 (by kernel_rfl)).2
                rw [d9]
                clear d9
                have d10 : S 10 = .slice (some ⟨b1, o1, none⟩) n1 c1 := (hd 10 (by kernel_rfl)).2
                rw [d10]
                clear d10
                have d11 : S 11 = .int .i64 (i : Nat) := (hd 11 (by kernel_rfl)).2
                rw [d11]
                clear d11
                clear hd
                refine GH.st_eq (by rfl) ?_
                go_simp
                (try with_reducible rfl)
              | 13, _, hd =>
                simp only [GH.mkL, List.getD_cons_succ, List.getD_cons_zero]
                have d9 : S 9 = .bool true := (hd 9 (by kernel_rfl)).2
                rw [d9]
                clear d9
                have d12 : S 12 = .pointer (some ⟨b1, o1 + i * 4, none⟩) := (hd 12 (by kernel_rfl)).2
                rw [d12]
                clear d12
                clear hd
                refine GH.st_eq (by rfl) ?_
                go_simp
                (try with_reducible rfl)
              | 14, _, hd =>
                simp only [GH.mkL, List.getD_cons_succ, List.getD_cons_zero]
                have d9 : S 9 = .bool true := (hd 9 (by kernel_rfl)).2
                rw [d9]
                clear d9
                have d13 : S 13 = .pointer (some ⟨b1, o1 + i * 4, none⟩) := (hd 13 (by kernel_rfl)).2
                rw [d13]
                clear d13
                clear hd
                exact GH.st_load _ (by rfl) rfl rfl ((hb.cell _ _ HB1.out).trans Y1.out) (by kernel_rfl)
              | 15, _, hd =>
                simp only [GH.mkL, List.getD_cons_succ, List.getD_cons_zero]
                have d9 : S 9 = .bool true := (hd 9 (by kernel_rfl)).2
                rw [d9]
                clear d9
                clear hd
                refine GH.st_eq (by rfl) ?_
                go_simp
                (try with_reducible rfl)
              | 16, _, hd =>
                simp only [GH.mkL, List.getD_cons_succ, List.getD_cons_zero]
                have d9 : S 9 = .bool true := (hd 9 (by kernel_rfl)).2
                rw [d9]
                clear d9
                clear hd
                refine GH.st_eq (by rfl) ?_
                go_simp
                (try with_reducible rfl)
              | 17, _, hd =>
                simp only [GH.mkL, List.getD_cons_succ, List.getD_cons_zero]
                have d9 : S 9 = .bool true := (hd 9 (by kernel_rfl)).2
                rw [d9]
                clear d9
                have d15 : S 15 = .slice (some ⟨b2, o2, none⟩) n2 c2 := (hd 15 (by kernel_rfl)).2
                rw [d15]
                clear d15
                have d16 : S 16 = .int .i64 (k : Nat) := (hd 16 (by kernel_rfl)).2
                rw [d16]
                clear d16
                clear hd
                refine GH.st_eq (by rfl) ?_
                go_simp
                (try with_reducible rfl)
              | 18, _, hd =>
                simp only [GH.mkL, List.getD_cons_succ, List.getD_cons_zero]
                have d9 : S 9 = .bool true := (hd 9 (by kernel_rfl)).2
                rw [d9]
                clear d9
                have d17 : S 17 = .pointer (some ⟨b2, o2 + k * 4, none⟩) := (hd 17 (by kernel_rfl)).2
                rw [d17]
                clear d17
                clear hd
                refine GH.st_eq (by rfl) ?_
                go_simp
                (try with_reducible rfl)
              | 19, _, hd =>
                simp only [GH.mkL, List.getD_cons_succ, List.getD_cons_zero]
                have d9 : S 9 = .bool true := (hd 9 (by kernel_rfl)).2
                rw [d9]
                clear d9
                have d18 : S 18 = .pointer (some ⟨b2, o2 + k * 4, none⟩) := (hd 18 (by kernel_rfl)).2
                rw [d18]
                clear d18
                clear hd
                exact GH.st_load _ (by rfl) rfl rfl ((hb.cell _ _ HB2.out).trans Y2.out) (by kernel_rfl)
              | 20, _, hd =>
                simp only [GH.mkL, List.getD_cons_succ, List.getD_cons_zero]
                have d9 : S 9 = .bool true := (hd 9 (by kernel_rfl)).2
                rw [d9]
                clear d9
                have d14 : S 14 = .int .i64 t1 := (hd 14 (by kernel_rfl)).2
                rw [d14]
                clear d14
                have d19 : S 19 = .int .i64 t2 := (hd 19 (by kernel_rfl)).2
                rw [d19]
                clear d19
                clear hd
                refine GH.st_eq (by rfl) ?_
                go_simp
                (try with_reducible rfl)
              | 21, _, hd =>
                simp only [GH.mkL, List.getD_cons_succ, List.getD_cons_zero]
                have d4 : S 4 = .bool false := (hd 4 (by kernel_rfl)).2
                rw [d4]
                clear d4
                have d9 : S 9 = .bool true := (hd 9 (by kernel_rfl)).2
                rw [d9]
                clear d9
                have d20 : S 20 = .bool false := (hd 20 (by kernel_rfl)).2
                rw [d20]
                clear d20
                clear hd
                refine GH.st_eq (by rfl) ?_
                go_simp
                (try with_reducible rfl)
              | 22, _, hd =>
                simp only [GH.mkL, List.getD_cons_succ, List.getD_cons_zero]
                have d4 : S 4 = .bool false := (hd 4 (by kernel_rfl)).2
                rw [d4]
                clear d4
                have d21 : S 21 = .bool false := (hd 21 (by kernel_rfl)).2
                rw [d21]
                clear d21
                clear hd
                refine GH.st_eq (by rfl) ?_
                go_simp
                (try with_reducible rfl)
              | 23, _, hd =>
                simp only [GH.mkL, List.getD_cons_succ, List.getD_cons_zero]
                have d0 : S 0 = .int .i64 (k : Nat) := (hd 0 (by kernel_rfl)).2
                rw [d0]
                clear d0
                have d1 : S 1 = .slice (some ⟨b2, o2, none⟩) n2 c2 := (hd 1 (by kernel_rfl)).2
                rw [d1]
                clear d1
                have d2 : S 2 = .int .i64 (n2 : Nat) := (hd 2 (by kernel_rfl)).2
                rw [d2]
                clear d2
                have d3 : S 3 = .bool false := (hd 3 (by kernel_rfl)).2
                rw [d3]
                clear d3
                have d4 : S 4 = .bool false := (hd 4 (by kernel_rfl)).2
                rw [d4]
                clear d4
                have d5 : S 5 = .int .i64 (i : Nat) := (hd 5 (by kernel_rfl)).2
                rw [d5]
                clear d5
                have d6 : S 6 = .slice (some ⟨b1, o1, none⟩) n1 c1 := (hd 6 (by kernel_rfl)).2
                rw [d6]
                clear d6
                have d7 : S 7 = .int .i64 (n1 : Nat) := (hd 7 (by kernel_rfl)).2
                rw [d7]
                clear d7
                have d8 : S 8 = .bool true := (hd 8 (by kernel_rfl)).2
                rw [d8]
                clear d8
                have d9 : S 9 = .bool true := (hd 9 (by kernel_rfl)).2
                rw [d9]
                clear d9
                have d10 : S 10 = .slice (some ⟨b1, o1, none⟩) n1 c1 := (hd 10 (by kernel_rfl)).2
                rw [d10]
                clear d10
                have d11 : S 11 = .int .i64 (i : Nat) := (hd 11 (by kernel_rfl)).2
                rw [d11]
                clear d11
                have d12 : S 12 = .pointer (some ⟨b1, o1 + i * 4, none⟩) := (hd 12 (by kernel_rfl)).2
                rw [d12]
                clear d12
                have d13 : S 13 = .pointer (some ⟨b1, o1 + i * 4, none⟩) := (hd 13 (by kernel_rfl)).2
                rw [d13]
                clear d13
                have d14 : S 14 = .int .i64 t1 := (hd 14 (by kernel_rfl)).2
                rw [d14]
                clear d14
                have d15 : S 15 = .slice (some ⟨b2, o2, none⟩) n2 c2 := (hd 15 (by kernel_rfl)).2
                rw [d15]
                clear d15
                have d16 : S 16 = .int .i64 (k : Nat) := (hd 16 (by kernel_rfl)).2
                rw [d16]
                clear d16
                have d17 : S 17 = .pointer (some ⟨b2, o2 + k * 4, none⟩) := (hd 17 (by kernel_rfl)).2
                rw [d17]
                clear d17
                have d18 : S 18 = .pointer (some ⟨b2, o2 + k * 4, none⟩) := (hd 18 (by kernel_rfl)).2
                rw [d18]
                clear d18
                have d19 : S 19 = .int .i64 t2 := (hd 19 (by kernel_rfl)).2
                rw [d19]
                clear d19
                have d20 : S 20 = .bool false := (hd 20 (by kernel_rfl)).2
                rw [d20]
                clear d20
                have d21 : S 21 = .bool false := (hd 21 (by kernel_rfl)).2
                rw [d21]
                clear d21
                have d22 : S 22 = .bool false := (hd 22 (by kernel_rfl)).2
                rw [d22]
                clear d22
                clear hd
                refine GH.st_eq (by rfl) ?_
                go_simp
                (try with_reducible rfl)
              | nx + 24, hjx, _ => omega
            intro S w' hb hG
            simp only [GH.mkL, List.drop_succ_cons, List.drop_zero]
            have d23 : S 23 = .bool false := hG 23 (by omega)
            rw [d23]
            clear d23
            clear hG
            have B8 := Lib.hid (HW.out.trans (hb.full.mono HW.out.size))
            replace H1 := Lib.hid (H1.out.into hb.full)
            replace H2 := Lib.hid (H2.out.into hb.full)
            replace RMM := Lib.hid (RMM.out.into hb.full)
            clear hb HW
            have HW := B8
            clear B8
            refine wpList_nil ?_
            go_wp2_with fail
            have RM := Lib.hid (rcs_at RMM.out hlt MP.out)
            have HG7 := Lib.hid (show g7 < w'.heap.size from by obtain ⟨_, _, e, h, _⟩ := RMM.out.2 (by omega); injection e with e; injection e with e _; omega)
            obtain ⟨k1, hk1⟩ : ∃ z, z = k + 1 := ⟨_, rfl⟩
            have hwi : IntKind.i64.wrap ((k : Int) + 1) = ((k1 : Nat) : Int) := by rw [hk1, IntKind.wrap_i64]; omega
            have HI1 := Lib.hid hk1
            have hi1c : k1 ≤ c2 := by omega
            have hi1n : k1 ≤ n2 := by omega
            have hii : k ≤ k1 := by omega
            have hic : k < k1 := by omega
            have HS1i := Lib.hid (show k1 - k = 1 by omega)
            clear hk1
            refine GH.wp_ghl (M := false) 15 ((GH.SP.eq (.slice (some ⟨g7, o7, none⟩) n7 c7)) :: (GH.SP.eq (.int .i64 (m : Nat))) :: (GH.SP.eq (.pointer (some ⟨g7, o7 + m * 4, none⟩))) :: (GH.SP.eq (.agg #[.int .i64 t2, .int .i64 s2, .int .i64 p2, .string (strN q2l)])) :: (GH.SP.eq (.slice (some ⟨b2, o2, none⟩) n2 c2)) :: (GH.SP.eq (.int .i64 (k : Nat))) :: (GH.SP.eq (.int .i64 (k : Nat))) :: (GH.SP.eq (.int .i64 (k1 : Nat))) :: (GH.SP.eq (.int .i64 (k : Nat))) :: (GH.SP.eq (.int .i64 (k1 : Nat))) :: (GH.SP.rs [(t2, s2, p2, (⟨q2A, q2n, q2c, q2l⟩ : Body))]) :: (GH.SP.ro [(t2, s2, p2, q2l)]) :: (GH.SP.pt [.int .i64 t2, .int .i64 s2, .int .i64 p2, .string (strN q2l)]) :: (GH.SP.eq (.agg #[.int .i64 t2, .int .i64 s2, .int .i64 p2, .string (strN q2l)])) :: (GH.SP.eq (.bool false)) :: []) (none :: none :: none :: none :: none :: none :: none :: none :: none :: none :: none :: none :: none :: none :: none :: none :: none :: none :: none :: none :: none :: none :: none :: none :: none :: none :: none :: none :: none :: none :: none :: none :: none :: none :: none :: none :: none :: none :: none :: none :: none :: none :: none :: none :: none :: none :: none :: none :: none :: none :: none :: none :: none :: none :: none :: none :: none :: none :: none :: none :: none :: none :: none :: none :: none :: none :: none :: none :: none :: none :: none :: none :: none :: none :: none :: none :: none :: none :: none :: none :: none :: none :: none :: none :: none :: none :: none :: none :: none :: none :: none :: none :: none :: none :: none :: none :: none :: none :: (some 0) :: (some 1) :: (some 2) :: (some 3) :: (some 4) :: (some 5) :: (some 6) :: (some 7) :: (some 8) :: (some 9) :: (some 10) :: (some 11) :: (some 12) :: (some 13) :: (some 14) :: none :: none :: none :: none :: none :: none :: none :: none :: none :: none :: none :: none :: none :: none :: none :: none :: none :: none :: none :: none :: none :: none :: none :: none :: none :: none :: none :: none :: none :: none :: none :: none :: none :: none :: none :: none :: none :: none :: none :: none :: none :: none :: none :: none :: none :: none :: none :: none :: none :: none :: none :: none :: none :: none :: none :: none :: none :: none :: none :: none :: none :: none :: none :: []) [98, 99, 100, 101, 102, 103, 104, 105, 106, 107, 108, 109, 110, 111, 112] (by rfl) (by kernel_rfl) (by kernel_rfl) ?_ ?_ ?_
            · intro S jx v hjx
              match jx, hjx with
              | 0, _ => rfl
              | 1, _ => rfl
              | 2, _ => rfl
              | 3, _ => rfl
              | 4, _ => rfl
              | 5, _ => rfl
              | 6, _ => rfl
              | 7, _ => rfl
              | 8, _ => rfl
              | 9, _ => rfl
              | 10, _ => rfl
              | 11, _ => rfl
              | 12, _ => rfl
              | 13, _ => rfl
              | 14, _ => rfl
              | nx + 15, hjx => omega
            · intro jx hjx S w' hb hd
              match jx, hjx, hd with
              | 0, _, hd =>
                simp only [GH.mkL, List.getD_cons_succ, List.getD_cons_zero]
                clear hd
                refine GH.st_eq (by rfl) ?_
                go_simp
                (try with_reducible rfl)
              | 1, _, hd =>
                simp only [GH.mkL, List.getD_cons_succ, List.getD_cons_zero]
                clear hd
                refine GH.st_eq (by rfl) ?_
                go_simp
                (try with_reducible rfl)
              | 2, _, hd =>
                simp only [GH.mkL, List.getD_cons_succ, List.getD_cons_zero]
                have d0 : S 0 = .slice (some ⟨g7, o7, none⟩) n7 c7 := (hd 0 (by kernel_rfl)).2
                rw [d0]
                clear d0
                have d1 : S 1 = .int .i64 (m : Nat) := (hd 1 (by kernel_rfl)).2
                rw [d1]
                clear d1
                clear hd
                refine GH.st_eq (by rfl) ?_
                go_simp
                (try with_reducible rfl)
              | 3, _, hd =>
                simp only [GH.mkL, List.getD_cons_succ, List.getD_cons_zero]
                have d2 : S 2 = .pointer (some ⟨g7, o7 + m * 4, none⟩) := (hd 2 (by kernel_rfl)).2
                rw [d2]
                clear d2
                clear hd
                exact GH.st_loads _ [.int .i64 t2, .int .i64 s2, .int .i64 p2, .string (strN q2l)] (by rfl) rfl rfl (fun j x hj => (hb.cell _ _ HG7.out).trans (RM.out j x hj)) (by kernel_rfl) (by kernel_rfl)
              | 4, _, hd =>
                simp only [GH.mkL, List.getD_cons_succ, List.getD_cons_zero]
                clear hd
                refine GH.st_eq (by rfl) ?_
                go_simp
                (try with_reducible rfl)
              | 5, _, hd =>
                simp only [GH.mkL, List.getD_cons_succ, List.getD_cons_zero]
                clear hd
                refine GH.st_eq (by rfl) ?_
                go_simp
                (try with_reducible rfl)
              | 6, _, hd =>
                simp only [GH.mkL, List.getD_cons_succ, List.getD_cons_zero]
                clear hd
                refine GH.st_eq (by rfl) ?_
                go_simp
                (try with_reducible rfl)
              | 7, _, hd =>
                simp only [GH.mkL, List.getD_cons_succ, List.getD_cons_zero]
                have d6 : S 6 = .int .i64 (k : Nat) := (hd 6 (by kernel_rfl)).2
                rw [d6]
                clear d6
                clear hd
                refine GH.st_eq (by rfl) ?_
                go_simp
                (try with_reducible rfl)
              | 8, _, hd =>
                simp only [GH.mkL, List.getD_cons_succ, List.getD_cons_zero]
                clear hd
                refine GH.st_eq (by rfl) ?_
                go_simp
                (try with_reducible rfl)
              | 9, _, hd =>
                simp only [GH.mkL, List.getD_cons_succ, List.getD_cons_zero]
                have d8 : S 8 = .int .i64 (k : Nat) := (hd 8 (by kernel_rfl)).2
                rw [d8]
                clear d8
                clear hd
                refine GH.st_eq (by rfl) ?_
                go_simp
                (try with_reducible rfl)
              | 10, _, hd =>
                simp only [GH.mkL, List.getD_cons_succ, List.getD_cons_zero]
                have d4 : S 4 = .slice (some ⟨b2, o2, none⟩) n2 c2 := (hd 4 (by kernel_rfl)).2
                rw [d4]
                clear d4
                have d5 : S 5 = .int .i64 (k : Nat) := (hd 5 (by kernel_rfl)).2
                rw [d5]
                clear d5
                have d7 : S 7 = .int .i64 (k1 : Nat) := (hd 7 (by kernel_rfl)).2
                rw [d7]
                clear d7
                have d9 : S 9 = .int .i64 (k1 : Nat) := (hd 9 (by kernel_rfl)).2
                rw [d9]
                clear d9
                clear hd
                have hcut := run_cut_lhm recel (some ⟨b2, o2, none⟩) n2 c2 k k1 k1 hii (Nat.le_refl _) hi1c w'
                rw [cutA_pos hic, HS1i.out] at hcut
                refine GH.st_val (v := .slice (some ⟨b2, o2 + k * 4, none⟩) 1 1) (by rfl) (by go_simp) ⟨_, _, _, rfl, (H2.out.into hb.full).cut1 (by omega) HPk.out⟩
              | 11, _, hd =>
                simp only [GH.mkL, List.getD_cons_succ, List.getD_cons_zero]
                obtain ⟨A10, n10, c10, d10, H10⟩ := (hd 10 (by kernel_rfl)).2
                rw [d10]
                clear d10
                replace H10 := Lib.hid H10
                clear hd
                refine GH.st_call (by rfl) hb.below.size (by go_simp) ((cplain_any A10 n10 c10 [(t2, s2, p2, (⟨q2A, q2n, q2c, q2l⟩ : Body))] w' H10.out (by have := H10.out.len; simp at this; omega)).mono ?_)
                rintro e w9 ⟨v, rfl, hro, hb9⟩
                exact ⟨v, rfl, hb9, GH.ro_of hro⟩
              | 12, _, hd =>
                simp only [GH.mkL, List.getD_cons_succ, List.getD_cons_zero]
                obtain ⟨A11, n11, c11, d11, l11, e11, H11⟩ := (hd 11 (by kernel_rfl)).2
                rw [d11]
                clear d11
                replace H11 := Lib.hid H11
                clear hd
                have hn1 : n11 = 1 := by simpa using l11.symm
                subst hn1
                obtain ⟨g, og, hA, hg, hcc⟩ := H11.out.2 (by omega)
                subst hA
                have hat := rcs_at (i := 0) H11.out (by omega) (p := (t2, s2, p2, q2l)) rfl
                rw [Nat.zero_mul, Nat.add_zero] at hat
                replace hat := Lib.hid hat
                clear hcc
                refine GH.st_val (v := .pointer (some ⟨g, og, none⟩)) (by rfl) ?_ ⟨_, _, rfl, hg, hat.out⟩
                go_simp
              | 13, _, hd =>
                simp only [GH.mkL, List.getD_cons_succ, List.getD_cons_zero]
                obtain ⟨b12, o12, d12, k12, H12⟩ := (hd 12 (by kernel_rfl)).2
                rw [d12]
                clear d12
                replace H12 := Lib.hid H12
                clear hd
                exact GH.st_loads _ [.int .i64 t2, .int .i64 s2, .int .i64 p2, .string (strN q2l)] (by rfl) rfl rfl H12.out (by kernel_rfl) (by kernel_rfl)
              | 14, _, hd =>
                simp only [GH.mkL, List.getD_cons_succ, List.getD_cons_zero]
                have d3 : S 3 = .agg #[.int .i64 t2, .int .i64 s2, .int .i64 p2, .string (strN q2l)] := (hd 3 (by kernel_rfl)).2
                rw [d3]
                clear d3
                have d13 : S 13 = .agg #[.int .i64 t2, .int .i64 s2, .int .i64 p2, .string (strN q2l)] := (hd 13 (by kernel_rfl)).2
                rw [d13]
                clear d13
                clear hd
                have hne := neqR t2 s2 p2 (strN q2l) w'
                refine GH.st_eq (by rfl) ?_
                go_simp
                (try with_reducible rfl)
              | nx + 15, hjx, _ => omega
            intro S w' hb hG
            simp only [GH.mkL, List.drop_succ_cons, List.drop_zero]
            have d14 : S 14 = .bool false := hG 14 (by omega)
            rw [d14]
            clear d14
            clear hG
            have B9 := Lib.hid (HW.out.trans (hb.full.mono HW.out.size))
            clear hb HW
            refine wpList_nil ?_
            go_wp2_with fail
            go_roundw
            case rel => exact ⟨i, k1, m + 1, by omega, by omega, rfl, by go_num, by go_num, Lib.hid (by have := HM.out; have := HI1.out; omega), Lib.hid (by rw [HI1.out]; exact MD.out), B9⟩
            case measure => simp [intOf]; omega

    · have hge : ¬ (m : Int) < (n7 : Int) := by omega
      have hge2 : n7 ≤ m := by omega
      have hin : i = n1 := by have := HM.out; have := HN7.out; omega
      have hkn : k = n2 := by have := HM.out; have := HN7.out; omega
      have a1 : ((i : Int) == (n1 : Int)) = true := by simp; omega
      have a2 : decide ((i : Int) = (n1 : Int)) = true := by simp; omega
      have a3 : ((k : Int) == (n2 : Int)) = true := by simp; omega
      have a4 : decide ((k : Int) = (n2 : Int)) = true := by simp; omega
      clear hin hkn HD HM RMM H2 hi hk
      have XR := Lib.hid (X5.out.below HW.out X5.out.lt)
      have BR := Lib.hid (B5.out.trans (HW.out.mono B5.out.size))
      have HX0 := Lib.hid X5.out.lt
      clear X5 RM5 HS1 HS2 HW B5
      have HR1 := H1
      clear H1
      go_wp2_with fail
      generalize wr = wq at HR1 XR BR ⊢
      go_loopw [12, 13] (fun wv jv ws => ∃ (j NL : Nat) (lo : List Rb), j ≤ n1 ∧ jv = .int .i64 (j : Nat) ∧ Hid (lo = btR f t (l1.take j)) ∧ Hid (lo.length = NL) ∧ NL ≤ j ∧ Hid (ws.ownsRow wq.heap.size 95 4 wv NL (rcs (rsay lo))) ∧ Hid (Below wq.heap.size wq ws)) (fun _ jv _ => n1 - (intOf jv).toNat)
      case atStart => exact ⟨0, 0, [], Nat.zero_le _, rfl, Lib.hid rfl, Lib.hid rfl, Nat.le_refl _, Lib.hid (World.ownsRow_nil _ _ _ _), Lib.hid (Below.refl _ _)⟩
      case round =>
        obtain ⟨j, n9, lo, hj, rfl, hlo, HN9, hn9, hown, HW⟩ := hrel
        obtain ⟨A9, c9, rfl, _, _, _⟩ := own_form hown.out
        have H1 := Lib.hid (HR1.out.into HW.out)
        have XS := Lib.hid (XR.out.below HW.out XR.out.lt)
        by_cases hlt : j < n1
        · have hiI : (j : Int) < (n1 : Int) := by omega
          obtain ⟨b1, o1, t1, s1, p1, q1, hA1, hbb1, Y1, _, _, _, HPj, _, _, _⟩ := H1.out.at_ (i := j) (by omega)
          subst hA1
          obtain ⟨q1A, q1n, q1c, q1l⟩ := q1
          dsimp only at *
          replace Y1 := Lib.hid Y1
          have HB1 := Lib.hid hbb1
          clear hbb1
          have HNX := Lib.hid (show btR f t (l1.take (j + 1)) = lo ++ (if inT f t (t1, s1, p1, (⟨q1A, q1n, q1c, q1l⟩ : Body)) then [(t1, s1, p1, (⟨q1A, q1n, q1c, q1l⟩ : Body))] else []) from by rw [btR_next HPj.out, hlo.out])
          clear hlo
          go_wp2_with fail
          by_cases cf : t1 < f
          · have e1 : decide (f ≤ t1) = false := by simp; omega
            have e2 : ¬ f ≤ t1 := by omega
            have hin : inT f t (t1, s1, p1, (⟨q1A, q1n, q1c, q1l⟩ : Body)) = false := by unfold inT; dsimp only; rw [decide_eq_false (by omega)]; rfl
            have HNY := Lib.hid (show lo = btR f t (l1.take (j + 1)) from by rw [HNX.out, hin]; simp)
            clear HNX hin
            refine GH.wp_ghl (M := false) 18 ((GH.SP.eq (.slice (some ⟨b1, o1, none⟩) n1 c1)) :: (GH.SP.eq (.int .i64 (j : Nat))) :: (GH.SP.eq (.pointer (some ⟨b1, o1 + j * 4, none⟩))) :: (GH.SP.eq (.pointer (some ⟨b1, o1 + j * 4, none⟩))) :: (GH.SP.eq (.int .i64 t1)) :: (GH.SP.eq (.pointer (some ⟨w.heap.size, 0, none⟩))) :: (GH.SP.eq (.int .i64 f)) :: (GH.SP.eq (.bool false)) :: (GH.SP.eq (.bool false)) :: (GH.SP.eq (undef)) :: (GH.SP.eq (undef)) :: (GH.SP.eq (undef)) :: (GH.SP.eq (undef)) :: (GH.SP.eq (undef)) :: (GH.SP.eq (undef)) :: (GH.SP.eq (undef)) :: (GH.SP.eq (undef)) :: (GH.SP.eq (.bool false)) :: []) (none :: none :: none :: none :: none :: none :: none :: none :: none :: none :: none :: none :: none :: none :: none :: none :: none :: none :: none :: none :: none :: none :: none :: none :: none :: none :: none :: none :: none :: none :: none :: none :: none :: none :: none :: none :: none :: none :: none :: none :: none :: none :: none :: none :: none :: none :: none :: none :: none :: none :: none :: none :: none :: none :: none :: none :: none :: none :: none :: none :: none :: none :: none :: none :: none :: none :: none :: none :: none :: none :: none :: none :: none :: none :: none :: none :: none :: none :: none :: none :: none :: none :: none :: none :: none :: none :: none :: none :: none :: none :: none :: none :: none :: none :: none :: none :: none :: none :: none :: none :: none :: none :: none :: none :: none :: none :: none :: none :: none :: none :: none :: none :: none :: none :: none :: none :: none :: none :: none :: none :: none :: (some 0) :: (some 1) :: (some 2) :: (some 3) :: (some 4) :: (some 5) :: (some 6) :: (some 7) :: (some 8) :: (some 9) :: (some 10) :: (some 11) :: (some 12) :: (some 13) :: (some 14) :: (some 15) :: (some 16) :: (some 17) :: none :: none :: none :: none :: none :: none :: none :: none :: none :: none :: none :: none :: none :: none :: none :: none :: none :: none :: none :: none :: none :: none :: none :: none :: none :: none :: none :: none :: none :: none :: none :: none :: none :: none :: none :: none :: none :: []) [121, 122, 123, 124, 125, 126, 127, 128, 129, 130, 131, 132, 133, 134, 135, 136, 137, 138] (by rfl) (by kernel_rfl) (by kernel_rfl) ?_ ?_ ?_
            · intro S jx v hjx
              match jx, hjx with
              | 0, _ => rfl
              | 1, _ => rfl
              | 2, _ => rfl
              | 3, _ => rfl
              | 4, _ => rfl
              | 5, _ => rfl
              | 6, _ => rfl
              | 7, _ => rfl
              | 8, _ => rfl
              | 9, _ => rfl
              | 10, _ => rfl
              | 11, _ => rfl
              | 12, _ => rfl
              | 13, _ => rfl
              | 14, _ => rfl
              | 15, _ => rfl
              | 16, _ => rfl
              | 17, _ => rfl
              | nx + 18, hjx => omega
            · intro jx hjx S w' hb hd
              match jx, hjx, hd with
              | 0, _, hd =>
                simp only [GH.mkL, List.getD_cons_succ, List.getD_cons_zero]
                clear hd
                refine GH.st_eq (by rfl) ?_
                go_simp
                (try with_reducible rfl)
              | 1, _, hd =>
                simp only [GH.mkL, List.getD_cons_succ, List.getD_cons_zero]
                clear hd
                refine GH.st_eq (by rfl) ?_
                go_simp
                (try with_reducible rfl)
              | 2, _, hd =>
                simp only [GH.mkL, List.getD_cons_succ, List.getD_cons_zero]
                have d0 : S 0 = .slice (some ⟨b1, o1, none⟩) n1 c1 := (hd 0 (by kernel_rfl)).2
                rw [d0]
                clear d0
                have d1 : S 1 = .int .i64 (j : Nat) := (hd 1 (by kernel_rfl)).2
                rw [d1]
                clear d1
                clear hd
                refine GH.st_eq (by rfl) ?_
                go_simp
                (try with_reducible rfl)
              | 3, _, hd =>
                simp only [GH.mkL, List.getD_cons_succ, List.getD_cons_zero]
                have d2 : S 2 = .pointer (some ⟨b1, o1 + j * 4, none⟩) := (hd 2 (by kernel_rfl)).2
                rw [d2]
                clear d2
                clear hd
                refine GH.st_eq (by rfl) ?_
                go_simp
                (try with_reducible rfl)
              | 4, _, hd =>
                simp only [GH.mkL, List.getD_cons_succ, List.getD_cons_zero]
                have d3 : S 3 = .pointer (some ⟨b1, o1 + j * 4, none⟩) := (hd 3 (by kernel_rfl)).2
                rw [d3]
                clear d3
                clear hd
                exact GH.st_load _ (by rfl) rfl rfl ((hb.cell _ _ HB1.out).trans Y1.out) (by kernel_rfl)
              | 5, _, hd =>
                simp only [GH.mkL, List.getD_cons_succ, List.getD_cons_zero]
                clear hd
                refine GH.st_eq (by rfl) ?_
                go_simp
                (try with_reducible rfl)
              | 6, _, hd =>
                simp only [GH.mkL, List.getD_cons_succ, List.getD_cons_zero]
                have d5 : S 5 = .pointer (some ⟨w.heap.size, 0, none⟩) := (hd 5 (by kernel_rfl)).2
                rw [d5]
                clear d5
                clear hd
                exact GH.st_load _ (by rfl) rfl rfl (((XS.out.below hb.below XS.out.lt)).cell 0) (by kernel_rfl)
              | 7, _, hd =>
                simp only [GH.mkL, List.getD_cons_succ, List.getD_cons_zero]
                have d4 : S 4 = .int .i64 t1 := (hd 4 (by kernel_rfl)).2
                rw [d4]
                clear d4
                have d6 : S 6 = .int .i64 f := (hd 6 (by kernel_rfl)).2
                rw [d6]
                clear d6
                clear hd
                refine GH.st_eq (by rfl) ?_
                go_simp
                (try with_reducible rfl)
              | 8, _, hd =>
                simp only [GH.mkL, List.getD_cons_succ, List.getD_cons_zero]
                have d7 : S 7 = .bool false := (hd 7 (by kernel_rfl)).2
                rw [d7]
                clear d7
                clear hd
                refine GH.st_eq (by rfl) ?_
                go_simp
                (try with_reducible rfl)
              | 9, _, hd =>
                simp only [GH.mkL, List.getD_cons_succ, List.getD_cons_zero]
                have d8 : S 8 = .bool false := (hd 8 (by kernel_rfl)).2
                rw [d8]
                clear d8
                clear hd
                exact GH.st_skip (by rfl) rfl
              | 10, _, hd =>
                simp only [GH.mkL, List.getD_cons_succ, List.getD_cons_zero]
                have d8 : S 8 = .bool false := (hd 8 (by kernel_rfl)).2
                rw [d8]
                clear d8
                clear hd
                exact GH.st_skip (by rfl) rfl
              | 11, _, hd =>
                simp only [GH.mkL, List.getD_cons_succ, List.getD_cons_zero]
                have d8 : S 8 = .bool false := (hd 8 (by kernel_rfl)).2
                rw [d8]
                clear d8
                have d9 : S 9 = undef := (hd 9 (by kernel_rfl)).2
                rw [d9]
                clear d9
                have d10 : S 10 = undef := (hd 10 (by kernel_rfl)).2
                rw [d10]
                clear d10
                clear hd
                exact GH.st_skip (by rfl) rfl
              | 12, _, hd =>
                simp only [GH.mkL, List.getD_cons_succ, List.getD_cons_zero]
                have d8 : S 8 = .bool false := (hd 8 (by kernel_rfl)).2
                rw [d8]
                clear d8
                have d11 : S 11 = undef := (hd 11 (by kernel_rfl)).2
                rw [d11]
                clear d11
                clear hd
                exact GH.st_skip (by rfl) rfl
              | 13, _, hd =>
                simp only [GH.mkL, List.getD_cons_succ, List.getD_cons_zero]
                have d8 : S 8 = .bool false := (hd 8 (by kernel_rfl)).2
                rw [d8]
                clear d8
                have d12 : S 12 = undef := (hd 12 (by kernel_rfl)).2
                rw [d12]
                clear d12
                clear hd
                exact GH.st_skip (by rfl) rfl
              | 14, _, hd =>
                simp only [GH.mkL, List.getD_cons_succ, List.getD_cons_zero]
                have d8 : S 8 = .bool false := (hd 8 (by kernel_rfl)).2
                rw [d8]
                clear d8
                clear hd
                exact GH.st_skip (by rfl) rfl
              | 15, _, hd =>
                simp only [GH.mkL, List.getD_cons_succ, List.getD_cons_zero]
                have d8 : S 8 = .bool false := (hd 8 (by kernel_rfl)).2
                rw [d8]
                clear d8
                have d14 : S 14 = undef := (hd 14 (by kernel_rfl)).2
                rw [d14]
                clear d14
                clear hd
                exact GH.st_skip (by rfl) rfl
              | 16, _, hd =>
                simp only [GH.mkL, List.getD_cons_succ, List.getD_cons_zero]
                have d8 : S 8 = .bool false := (hd 8 (by kernel_rfl)).2
                rw [d8]
                clear d8
                have d13 : S 13 = undef := (hd 13 (by kernel_rfl)).2
                rw [d13]
                clear d13
                have d15 : S 15 = undef := (hd 15 (by kernel_rfl)).2
                rw [d15]
                clear d15
                clear hd
                exact GH.st_skip (by rfl) rfl
              | 17, _, hd =>
                simp only [GH.mkL, List.getD_cons_succ, List.getD_cons_zero]
                have d8 : S 8 = .bool false := (hd 8 (by kernel_rfl)).2
                rw [d8]
                clear d8
                have d16 : S 16 = undef := (hd 16 (by kernel_rfl)).2
                rw [d16]
                clear d16
                clear hd
                refine GH.st_eq (by rfl) ?_
                go_simp
                (try with_reducible rfl)
              | nx + 18, hjx, _ => omega
            intro S w' hb hG
            simp only [GH.mkL, List.drop_succ_cons, List.drop_zero]
            have d17 : S 17 = .bool false := hG 17 (by omega)
            rw [d17]
            clear d17
            clear hG
            have B8 := Lib.hid (HW.out.trans (hb.full.mono HW.out.size))
            have OA := Lib.hid (own_below hown.out hb.full fun g hg => (own_lt4 hown.out g hg).2)
            replace H1 := Lib.hid (H1.out.into hb.full)
            clear hb HW hown
            have HW := B8
            clear B8
            refine wpList_nil ?_
            go_wp2_with fail

            go_roundw
            case rel => exact ⟨j + 1, n9, lo, by omega, by go_num, HNY, HN9, by omega, OA, HW⟩
            case measure => simp [intOf]; omega
          have cf' : f ≤ t1 := by omega
          have cfd : decide (f ≤ t1) = true := by simp; omega
          by_cases ct : t1 < t
          · have e2 : decide (t1 < t) = true := by simp; omega
            have hin : inT f t (t1, s1, p1, (⟨q1A, q1n, q1c, q1l⟩ : Body)) = true := by unfold inT; dsimp only; rw [decide_eq_true cf', decide_eq_true ct]; rfl
            have HNY := Lib.hid (show lo ++ [(t1, s1, p1, (⟨q1A, q1n, q1c, q1l⟩ : Body))] = btR f t (l1.take (j + 1)) from by rw [HNX.out, hin]; simp)
            clear HNX hin
            refine GH.wp_ghl (M := false) 18 ((GH.SP.eq (.slice (some ⟨b1, o1, none⟩) n1 c1)) :: (GH.SP.eq (.int .i64 (j : Nat))) :: (GH.SP.eq (.pointer (some ⟨b1, o1 + j * 4, none⟩))) :: (GH.SP.eq (.pointer (some ⟨b1, o1 + j * 4, none⟩))) :: (GH.SP.eq (.int .i64 t1)) :: (GH.SP.eq (.pointer (some ⟨w.heap.size, 0, none⟩))) :: (GH.SP.eq (.int .i64 f)) :: (GH.SP.eq (.bool true)) :: (GH.SP.eq (.bool true)) :: (GH.SP.eq (.slice (some ⟨b1, o1, none⟩) n1 c1)) :: (GH.SP.eq (.int .i64 (j : Nat))) :: (GH.SP.eq (.pointer (some ⟨b1, o1 + j * 4, none⟩))) :: (GH.SP.eq (.pointer (some ⟨b1, o1 + j * 4, none⟩))) :: (GH.SP.eq (.int .i64 t1)) :: (GH.SP.eq (.pointer (some ⟨w.heap.size, 1, none⟩))) :: (GH.SP.eq (.int .i64 t)) :: (GH.SP.eq (.bool true)) :: (GH.SP.eq (.bool true)) :: []) (none :: none :: none :: none :: none :: none :: none :: none :: none :: none :: none :: none :: none :: none :: none :: none :: none :: none :: none :: none :: none :: none :: none :: none :: none :: none :: none :: none :: none :: none :: none :: none :: none :: none :: none :: none :: none :: none :: none :: none :: none :: none :: none :: none :: none :: none :: none :: none :: none :: none :: none :: none :: none :: none :: none :: none :: none :: none :: none :: none :: none :: none :: none :: none :: none :: none :: none :: none :: none :: none :: none :: none :: none :: none :: none :: none :: none :: none :: none :: none :: none :: none :: none :: none :: none :: none :: none :: none :: none :: none :: none :: none :: none :: none :: none :: none :: none :: none :: none :: none :: none :: none :: none :: none :: none :: none :: none :: none :: none :: none :: none :: none :: none :: none :: none :: none :: none :: none :: none :: none :: none :: (some 0) :: (some 1) :: (some 2) :: (some 3) :: (some 4) :: (some 5) :: (some 6) :: (some 7) :: (some 8) :: (some 9) :: (some 10) :: (some 11) :: (some 12) :: (some 13) :: (some 14) :: (some 15) :: (some 16) :: (some 17) :: none :: none :: none :: none :: none :: none :: none :: none :: none :: none :: none :: none :: none :: none :: none :: none :: none :: none :: none :: none :: none :: none :: none :: none :: none :: none :: none :: none :: none :: none :: none :: none :: none :: none :: none :: none :: none :: []) [121, 122, 123, 124, 125, 126, 127, 128, 129, 130, 131, 132, 133, 134, 135, 136, 137, 138] (by rfl) (by kernel_rfl) (by kernel_rfl) ?_ ?_ ?_
            · intro S jx v hjx
              match jx, hjx with
              | 0, _ => rfl
              | 1, _ => rfl
              | 2, _ => rfl
              | 3, _ => rfl
              | 4, _ => rfl
              | 5, _ => rfl
              | 6, _ => rfl
              | 7, _ => rfl
              | 8, _ => rfl
              | 9, _ => rfl
              | 10, _ => rfl
              | 11, _ => rfl
              | 12, _ => rfl
              | 13, _ => rfl
              | 14, _ => rfl
              | 15, _ => rfl
              | 16, _ => rfl
              | 17, _ => rfl
              | nx + 18, hjx => omega
            · intro jx hjx S w' hb hd
              match jx, hjx, hd with
              | 0, _, hd =>
                simp only [GH.mkL, List.getD_cons_succ, List.getD_cons_zero]
                clear hd
                refine GH.st_eq (by rfl) ?_
                go_simp
                (try with_reducible rfl)
              | 1, _, hd =>
                simp only [GH.mkL, List.getD_cons_succ, List.getD_cons_zero]
                clear hd
                refine GH.st_eq (by rfl) ?_
                go_simp
                (try with_reducible rfl)
              | 2, _, hd =>
                simp only [GH.mkL, List.getD_cons_succ, List.getD_cons_zero]
                have d0 : S 0 = .slice (some ⟨b1, o1, none⟩) n1 c1 := (hd 0 (by kernel_rfl)).2
                rw [d0]
                clear d0
                have d1 : S 1 = .int .i64 (j : Nat) := (hd 1 (by kernel_rfl)).2
                rw [d1]
                clear d1
                clear hd
                refine GH.st_eq (by rfl) ?_
                go_simp
                (try with_reducible rfl)
              | 3, _, hd =>
                simp only [GH.mkL, List.getD_cons_succ, List.getD_cons_zero]
                have d2 : S 2 = .pointer (some ⟨b1, o1 + j * 4, none⟩) := (hd 2 (by kernel_rfl)).2
                rw [d2]
                clear d2
                clear hd
                refine GH.st_eq (by rfl) ?_
                go_simp
                (try with_reducible rfl)
              | 4, _, hd =>
                simp only [GH.mkL, List.getD_cons_succ, List.getD_cons_zero]
                have d3 : S 3 = .pointer (some ⟨b1, o1 + j * 4, none⟩) := (hd 3 (by kernel_rfl)).2
                rw [d3]
                clear d3
                clear hd
                exact GH.st_load _ (by rfl) rfl rfl ((hb.cell _ _ HB1.out).trans Y1.out) (by kernel_rfl)
              | 5, _, hd =>
                simp only [GH.mkL, List.getD_cons_succ, List.getD_cons_zero]
                clear hd
                refine GH.st_eq (by rfl) ?_
                go_simp
                (try with_reducible rfl)
              | 6, _, hd =>
                simp only [GH.mkL, List.getD_cons_succ, List.getD_cons_zero]
                have d5 : S 5 = .pointer (some ⟨w.heap.size, 0, none⟩) := (hd 5 (by kernel_rfl)).2
                rw [d5]
                clear d5
                clear hd
                exact GH.st_load _ (by rfl) rfl rfl (((XS.out.below hb.below XS.out.lt)).cell 0) (by kernel_rfl)
              | 7, _, hd =>
                simp only [GH.mkL, List.getD_cons_succ, List.getD_cons_zero]
                have d4 : S 4 = .int .i64 t1 := (hd 4 (by kernel_rfl)).2
                rw [d4]
                clear d4
                have d6 : S 6 = .int .i64 f := (hd 6 (by kernel_rfl)).2
                rw [d6]
                clear d6
                clear hd
                refine GH.st_eq (by rfl) ?_
                go_simp
                (try with_reducible rfl)
              | 8, _, hd =>
                simp only [GH.mkL, List.getD_cons_succ, List.getD_cons_zero]
                have d7 : S 7 = .bool true := (hd 7 (by kernel_rfl)).2
                rw [d7]
                clear d7
                clear hd
                refine GH.st_eq (by rfl) ?_
                go_simp
                (try with_reducible rfl)
              | 9, _, hd =>
                simp only [GH.mkL, List.getD_cons_succ, List.getD_cons_zero]
                have d8 : S 8 = .bool true := (hd 8 (by kernel_rfl)).2
                rw [d8]
                clear d8
                clear hd
                refine GH.st_eq (by rfl) ?_
                go_simp
                (try with_reducible rfl)
              | 10, _, hd =>
                simp only [GH.mkL, List.getD_cons_succ, List.getD_cons_zero]
                have d8 : S 8 = .bool true := (hd 8 (by kernel_rfl)).2
                rw [d8]
                clear d8
                clear hd
                refine GH.st_eq (by rfl) ?_
                go_simp
                (try with_reducible rfl)
              | 11, _, hd =>
                simp only [GH.mkL, List.getD_cons_succ, List.getD_cons_zero]
                have d8 : S 8 = .bool true := (hd 8 (by kernel_rfl)).2
                rw [d8]
                clear d8
                have d9 : S 9 = .slice (some ⟨b1, o1, none⟩) n1 c1 := (hd 9 (by kernel_rfl)).2
                rw [d9]
                clear d9
                have d10 : S 10 = .int .i64 (j : Nat) := (hd 10 (by kernel_rfl)).2
                rw [d10]
                clear d10
                clear hd
                refine GH.st_eq (by rfl) ?_
                go_simp
                (try with_reducible rfl)
              | 12, _, hd =>
                simp only [GH.mkL, List.getD_cons_succ, List.getD_cons_zero]
                have d8 : S 8 = .bool true := (hd 8 (by kernel_rfl)).2
                rw [d8]
                clear d8
                have d11 : S 11 = .pointer (some ⟨b1, o1 + j * 4, none⟩) := (hd 11 (by kernel_rfl)).2
                rw [d11]
                clear d11
                clear hd
                refine GH.st_eq (by rfl) ?_
                go_simp
                (try with_reducible rfl)
              | 13, _, hd =>
                simp only [GH.mkL, List.getD_cons_succ, List.getD_cons_zero]
                have d8 : S 8 = .bool true := (hd 8 (by kernel_rfl)).2
                rw [d8]
                clear d8
                have d12 : S 12 = .pointer (some ⟨b1, o1 + j * 4, none⟩) := (hd 12 (by kernel_rfl)).2
                rw [d12]
                clear d12
                clear hd
                exact GH.st_load _ (by rfl) rfl rfl ((hb.cell _ _ HB1.out).trans Y1.out) (by kernel_rfl)
              | 14, _, hd =>
                simp only [GH.mkL, List.getD_cons_succ, List.getD_cons_zero]
                have d8 : S 8 = .bool true := (hd 8 (by kernel_rfl)).2
                rw [d8]
                clear d8
                clear hd
                refine GH.st_eq (by rfl) ?_
                go_simp
                (try with_reducible rfl)
              | 15, _, hd =>
                simp only [GH.mkL, List.getD_cons_succ, List.getD_cons_zero]
                have d8 : S 8 = .bool true := (hd 8 (by kernel_rfl)).2
                rw [d8]
                clear d8
                have d14 : S 14 = .pointer (some ⟨w.heap.size, 1, none⟩) := (hd 14 (by kernel_rfl)).2
                rw [d14]
                clear d14
                clear hd
                exact GH.st_load _ (by rfl) rfl rfl (((XS.out.below hb.below XS.out.lt)).cell 1) (by kernel_rfl)
              | 16, _, hd =>
                simp only [GH.mkL, List.getD_cons_succ, List.getD_cons_zero]
                have d8 : S 8 = .bool true := (hd 8 (by kernel_rfl)).2
                rw [d8]
                clear d8
                have d13 : S 13 = .int .i64 t1 := (hd 13 (by kernel_rfl)).2
                rw [d13]
                clear d13
                have d15 : S 15 = .int .i64 t := (hd 15 (by kernel_rfl)).2
                rw [d15]
                clear d15
                clear hd
                refine GH.st_eq (by rfl) ?_
                go_simp
                (try with_reducible rfl)
              | 17, _, hd =>
                simp only [GH.mkL, List.getD_cons_succ, List.getD_cons_zero]
                have d8 : S 8 = .bool true := (hd 8 (by kernel_rfl)).2
                rw [d8]
                clear d8
                have d16 : S 16 = .bool true := (hd 16 (by kernel_rfl)).2
                rw [d16]
                clear d16
                clear hd
                refine GH.st_eq (by rfl) ?_
                go_simp
                (try with_reducible rfl)
              | nx + 18, hjx, _ => omega
            intro S w' hb hG
            simp only [GH.mkL, List.drop_succ_cons, List.drop_zero]
            have d17 : S 17 = .bool true := hG 17 (by omega)
            rw [d17]
            clear d17
            clear hG
            have B8 := Lib.hid (HW.out.trans (hb.full.mono HW.out.size))
            have OA := Lib.hid (own_below hown.out hb.full fun g hg => (own_lt4 hown.out g hg).2)
            replace H1 := Lib.hid (H1.out.into hb.full)
            clear hb HW hown
            have HW := B8
            clear B8
            refine wpList_nil ?_
            go_upto_region 23 with fail
            obtain ⟨j1, hj1⟩ : ∃ z, z = j + 1 := ⟨_, rfl⟩
            have hwi : IntKind.i64.wrap ((j : Int) + 1) = ((j1 : Nat) : Int) := by rw [hj1, IntKind.wrap_i64]; omega
            have HI1 := Lib.hid hj1
            have hi1c : j1 ≤ c1 := by omega
            have hi1n : j1 ≤ n1 := by omega
            have hii : j ≤ j1 := by omega
            have hic : j < j1 := by omega
            have HS1i := Lib.hid (show j1 - j = 1 by omega)
            clear hj1
            refine GH.wp_ghs (M := false) 11 ((GH.SP.eq (.slice A9 n9 c9)) :: (GH.SP.eq (.slice (some ⟨b1, o1, none⟩) n1 c1)) :: (GH.SP.eq (.int .i64 (j : Nat))) :: (GH.SP.eq (.int .i64 (j : Nat))) :: (GH.SP.eq (.int .i64 (j1 : Nat))) :: (GH.SP.eq (.int .i64 (j : Nat))) :: (GH.SP.eq (.int .i64 (j1 : Nat))) :: (GH.SP.rs [(t1, s1, p1, (⟨q1A, q1n, q1c, q1l⟩ : Body))]) :: (GH.SP.ro [(t1, s1, p1, q1l)]) :: (GH.SP.pt [.int .i64 t1, .int .i64 s1, .int .i64 p1, .string (strN q1l)]) :: (GH.SP.eq (.agg #[.int .i64 t1, .int .i64 s1, .int .i64 p1, .string (strN q1l)])) :: []) (none :: none :: none :: none :: none :: none :: none :: none :: none :: none :: none :: none :: none :: none :: none :: none :: none :: none :: none :: none :: none :: none :: none :: none :: none :: none :: none :: none :: none :: none :: none :: none :: none :: none :: none :: none :: none :: none :: none :: none :: none :: none :: none :: none :: none :: none :: none :: none :: none :: none :: none :: none :: none :: none :: none :: none :: none :: none :: none :: none :: none :: none :: none :: none :: none :: none :: none :: none :: none :: none :: none :: none :: none :: none :: none :: none :: none :: none :: none :: none :: none :: none :: none :: none :: none :: none :: none :: none :: none :: none :: none :: none :: none :: none :: none :: none :: none :: none :: none :: none :: none :: none :: none :: none :: none :: none :: none :: none :: none :: none :: none :: none :: none :: none :: none :: none :: none :: none :: none :: none :: none :: none :: none :: none :: none :: none :: none :: none :: none :: none :: none :: none :: none :: none :: none :: none :: none :: none :: none :: (some 0) :: (some 1) :: (some 2) :: (some 3) :: (some 4) :: (some 5) :: (some 6) :: (some 7) :: (some 8) :: (some 9) :: (some 10) :: none :: none :: none :: none :: none :: none :: none :: none :: none :: none :: none :: none :: none :: none :: none :: none :: none :: none :: none :: none :: none :: none :: none :: none :: none :: none :: []) [139, 140, 141, 142, 143, 144, 145, 146, 147, 148, 149] (by rfl) (by kernel_rfl) ?_ ?_ ?_
            · intro S jx v hjx
              match jx, hjx with
              | 0, _ => rfl
              | 1, _ => rfl
              | 2, _ => rfl
              | 3, _ => rfl
              | 4, _ => rfl
              | 5, _ => rfl
              | 6, _ => rfl
              | 7, _ => rfl
              | 8, _ => rfl
              | 9, _ => rfl
              | 10, _ => rfl
              | nx + 11, hjx => omega
            · intro jx hjx S w' hb hd
              match jx, hjx, hd with
              | 0, _, hd =>
                simp only [GH.mkL, List.getD_cons_succ, List.getD_cons_zero]
                clear hd
                refine GH.st_eq (by rfl) ?_
                go_simp
                (try with_reducible rfl)
              | 1, _, hd =>
                simp only [GH.mkL, List.getD_cons_succ, List.getD_cons_zero]
                clear hd
                refine GH.st_eq (by rfl) ?_
                go_simp
                (try with_reducible rfl)
              | 2, _, hd =>
                simp only [GH.mkL, List.getD_cons_succ, List.getD_cons_zero]
                clear hd
                refine GH.st_eq (by rfl) ?_
                go_simp
                (try with_reducible rfl)
              | 3, _, hd =>
                simp only [GH.mkL, List.getD_cons_succ, List.getD_cons_zero]
                clear hd
                refine GH.st_eq (by rfl) ?_
                go_simp
                (try with_reducible rfl)
              | 4, _, hd =>
                simp only [GH.mkL, List.getD_cons_succ, List.getD_cons_zero]
                have d3 : S 3 = .int .i64 (j : Nat) := (hd 3 (by kernel_rfl)).2
                rw [d3]
                clear d3
                clear hd
                refine GH.st_eq (by rfl) ?_
                go_simp
                (try with_reducible rfl)
              | 5, _, hd =>
                simp only [GH.mkL, List.getD_cons_succ, List.getD_cons_zero]
                clear hd
                refine GH.st_eq (by rfl) ?_
                go_simp
                (try with_reducible rfl)
              | 6, _, hd =>
                simp only [GH.mkL, List.getD_cons_succ, List.getD_cons_zero]
                have d5 : S 5 = .int .i64 (j : Nat) := (hd 5 (by kernel_rfl)).2
                rw [d5]
                clear d5
                clear hd
                refine GH.st_eq (by rfl) ?_
                go_simp
                (try with_reducible rfl)
              | 7, _, hd =>
                simp only [GH.mkL, List.getD_cons_succ, List.getD_cons_zero]
                have d1 : S 1 = .slice (some ⟨b1, o1, none⟩) n1 c1 := (hd 1 (by kernel_rfl)).2
                rw [d1]
                clear d1
                have d2 : S 2 = .int .i64 (j : Nat) := (hd 2 (by kernel_rfl)).2
                rw [d2]
                clear d2
                have d4 : S 4 = .int .i64 (j1 : Nat) := (hd 4 (by kernel_rfl)).2
                rw [d4]
                clear d4
                have d6 : S 6 = .int .i64 (j1 : Nat) := (hd 6 (by kernel_rfl)).2
                rw [d6]
                clear d6
                clear hd
                have hcut := run_cut_lhm recel (some ⟨b1, o1, none⟩) n1 c1 j j1 j1 hii (Nat.le_refl _) hi1c w'
                rw [cutA_pos hic, HS1i.out] at hcut
                refine GH.st_val (v := .slice (some ⟨b1, o1 + j * 4, none⟩) 1 1) (by rfl) (by go_simp) ⟨_, _, _, rfl, (H1.out.into hb.full).cut1 (by omega) HPj.out⟩
              | 8, _, hd =>
                simp only [GH.mkL, List.getD_cons_succ, List.getD_cons_zero]
                obtain ⟨A7, n7, c7, d7, H7⟩ := (hd 7 (by kernel_rfl)).2
                rw [d7]
                clear d7
                replace H7 := Lib.hid H7
                clear hd
                refine GH.st_call (by rfl) hb.below.size (by go_simp) ((cplain_any A7 n7 c7 [(t1, s1, p1, (⟨q1A, q1n, q1c, q1l⟩ : Body))] w' H7.out (by have := H7.out.len; simp at this; omega)).mono ?_)
                rintro e w9 ⟨v, rfl, hro, hb9⟩
                exact ⟨v, rfl, hb9, GH.ro_of hro⟩
              | 9, _, hd =>
                simp only [GH.mkL, List.getD_cons_succ, List.getD_cons_zero]
                obtain ⟨A8, n8, c8, d8, l8, e8, H8⟩ := (hd 8 (by kernel_rfl)).2
                rw [d8]
                clear d8
                replace H8 := Lib.hid H8
                clear hd
                have hn1 : n8 = 1 := by simpa using l8.symm
                subst hn1
                obtain ⟨g, og, hA, hg, hcc⟩ := H8.out.2 (by omega)
                subst hA
                have hat := rcs_at (i := 0) H8.out (by omega) (p := (t1, s1, p1, q1l)) rfl
                rw [Nat.zero_mul, Nat.add_zero] at hat
                replace hat := Lib.hid hat
                clear hcc
                refine GH.st_val (v := .pointer (some ⟨g, og, none⟩)) (by rfl) ?_ ⟨_, _, rfl, hg, hat.out⟩
                go_simp
              | 10, _, hd =>
                simp only [GH.mkL, List.getD_cons_succ, List.getD_cons_zero]
                obtain ⟨b9, o9, d9, k9, H9⟩ := (hd 9 (by kernel_rfl)).2
                rw [d9]
                clear d9
                replace H9 := Lib.hid H9
                clear hd
                exact GH.st_loads _ [.int .i64 t1, .int .i64 s1, .int .i64 p1, .string (strN q1l)] (by rfl) rfl rfl H9.out (by kernel_rfl) (by kernel_rfl)
              | nx + 11, hjx, _ => omega
            intro S w' hb hG
            simp only [GH.mkL, List.drop_succ_cons, List.drop_zero]
            have d0 : S 0 = .slice A9 n9 c9 := hG 0 (by omega)
            rw [d0]
            clear d0
            have d10 : S 10 = .agg #[.int .i64 t1, .int .i64 s1, .int .i64 p1, .string (strN q1l)] := hG 10 (by omega)
            rw [d10]
            clear d10
            clear hG
            have OB := Lib.hid (own_below OA.out hb.full fun g hg => (own_lt4 OA.out g hg).2)
            have B9 := Lib.hid (HW.out.trans (hb.full.mono HW.out.size))
            clear hb HW OA
            have hA : ∀ w9 : World, Below w9.heap.size w9 (w9.alloc (.cells #[.int .i64 t1, .int .i64 s1, .int .i64 p1, .string (strN q1l)] 95)) := fun w9 => (Below.refl _ _).alloc (Nat.le_refl _) _
            have HA := Lib.hid hA
            clear hA
            go_wp2_with (at_builtin; go_must (refine appZ relR #[.int .i64 t1, .int .i64 s1, .int .i64 p1, .string (strN q1l)] rfl (rcs_one [(t1, s1, p1, q1l)]) rfl _ _ rfl rfl OB.out rfl (by first | rfl | simp) (room_ge (by omega)) B9.out.size ?_))
            intro v3 w3 ho3 _ hb3
            have O3 := Lib.hid (show w3.ownsRow wq.heap.size 95 4 v3 (n9 + 1) (rcs (rsay (lo ++ [(t1, s1, p1, (⟨q1A, q1n, q1c, q1l⟩ : Body))]))) from by
              have e : rsay (lo ++ [(t1, s1, p1, (⟨q1A, q1n, q1c, q1l⟩ : Body))]) = rsay lo ++ [(t1, s1, p1, q1l)] := by simp [rsay]
              rw [e, rcs_append]; exact ho3)
            have HN8 := Lib.hid (show (lo ++ [(t1, s1, p1, (⟨q1A, q1n, q1c, q1l⟩ : Body))]).length = n9 + 1 from by rw [List.length_append, HN9.out]; rfl)
            have B10 := Lib.hid (B9.out.trans hb3)
            obtain ⟨A8, c8, rfl, _, _, _⟩ := own_form O3.out
            clear ho3 hb3 OB B9
            go_wp2_with fail
            go_roundw
            case rel => exact ⟨j1, n9 + 1, _, by omega, rfl, Lib.hid (by rw [HI1.out]; exact HNY.out), HN8, by omega, O3, B10⟩
            case measure => simp [intOf]; omega
          · have e2 : decide (t1 < t) = false := by simp; omega
            have e3 : t ≤ t1 := by omega
            have hin : inT f t (t1, s1, p1, (⟨q1A, q1n, q1c, q1l⟩ : Body)) = false := by unfold inT; dsimp only; rw [decide_eq_false ct, Bool.and_false]
            have HNY := Lib.hid (show lo = btR f t (l1.take (j + 1)) from by rw [HNX.out, hin]; simp)
            clear HNX hin
            refine GH.wp_ghl (M := false) 18 ((GH.SP.eq (.slice (some ⟨b1, o1, none⟩) n1 c1)) :: (GH.SP.eq (.int .i64 (j : Nat))) :: (GH.SP.eq (.pointer (some ⟨b1, o1 + j * 4, none⟩))) :: (GH.SP.eq (.pointer (some ⟨b1, o1 + j * 4, none⟩))) :: (GH.SP.eq (.int .i64 t1)) :: (GH.SP.eq (.pointer (some ⟨w.heap.size, 0, none⟩))) :: (GH.SP.eq (.int .i64 f)) :: (GH.SP.eq (.bool true)) :: (GH.SP.eq (.bool true)) :: (GH.SP.eq (.slice (some ⟨b1, o1, none⟩) n1 c1)) :: (GH.SP.eq (.int .i64 (j : Nat))) :: (GH.SP.eq (.pointer (some ⟨b1, o1 + j * 4, none⟩))) :: (GH.SP.eq (.pointer (some ⟨b1, o1 + j * 4, none⟩))) :: (GH.SP.eq (.int .i64 t1)) :: (GH.SP.eq (.pointer (some ⟨w.heap.size, 1, none⟩))) :: (GH.SP.eq (.int .i64 t)) :: (GH.SP.eq (.bool false)) :: (GH.SP.eq (.bool false)) :: []) (none :: none :: none :: none :: none :: none :: none :: none :: none :: none :: none :: none :: none :: none :: none :: none :: none :: none :: none :: none :: none :: none :: none :: none :: none :: none :: none :: none :: none :: none :: none :: none :: none :: none :: none :: none :: none :: none :: none :: none :: none :: none :: none :: none :: none :: none :: none :: none :: none :: none :: none :: none :: none :: none :: none :: none :: none :: none :: none :: none :: none :: none :: none :: none :: none :: none :: none :: none :: none :: none :: none :: none :: none :: none :: none :: none :: none :: none :: none :: none :: none :: none :: none :: none :: none :: none :: none :: none :: none :: none :: none :: none :: none :: none :: none :: none :: none :: none :: none :: none :: none :: none :: none :: none :: none :: none :: none :: none :: none :: none :: none :: none :: none :: none :: none :: none :: none :: none :: none :: none :: none :: (some 0) :: (some 1) :: (some 2) :: (some 3) :: (some 4) :: (some 5) :: (some 6) :: (some 7) :: (some 8) :: (some 9) :: (some 10) :: (some 11) :: (some 12) :: (some 13) :: (some 14) :: (some 15) :: (some 16) :: (some 17) :: none :: none :: none :: none :: none :: none :: none :: none :: none :: none :: none :: none :: none :: none :: none :: none :: none :: none :: none :: none :: none :: none :: none :: none :: none :: none :: none :: none :: none :: none :: none :: none :: none :: none :: none :: none :: none :: []) [121, 122, 123, 124, 125, 126, 127, 128, 129, 130, 131, 132, 133, 134, 135, 136, 137, 138] (by rfl) (by kernel_rfl) (by kernel_rfl) ?_ ?_ ?_
            · intro S jx v hjx
              match jx, hjx with
              | 0, _ => rfl
              | 1, _ => rfl
              | 2, _ => rfl
              | 3, _ => rfl
              | 4, _ => rfl
              | 5, _ => rfl
              | 6, _ => rfl
              | 7, _ => rfl
              | 8, _ => rfl
              | 9, _ => rfl
              | 10, _ => rfl
              | 11, _ => rfl
              | 12, _ => rfl
              | 13, _ => rfl
              | 14, _ => rfl
              | 15, _ => rfl
              | 16, _ => rfl
              | 17, _ => rfl
              | nx + 18, hjx => omega
            · intro jx hjx S w' hb hd
              match jx, hjx, hd with
              | 0, _, hd =>
                simp only [GH.mkL, List.getD_cons_succ, List.getD_cons_zero]
                clear hd
                refine GH.st_eq (by rfl) ?_
                go_simp
                (try with_reducible rfl)
              | 1, _, hd =>
                simp only [GH.mkL, List.getD_cons_succ, List.getD_cons_zero]
                clear hd
                refine GH.st_eq (by rfl) ?_
                go_simp
                (try with_reducible rfl)
              | 2, _, hd =>
                simp only [GH.mkL, List.getD_cons_succ, List.getD_cons_zero]
                have d0 : S 0 = .slice (some ⟨b1, o1, none⟩) n1 c1 := (hd 0 (by kernel_rfl)).2
                rw [d0]
                clear d0
                have d1 : S 1 = .int .i64 (j : Nat) := (hd 1 (by kernel_rfl)).2
                rw [d1]
                clear d1
                clear hd
                refine GH.st_eq (by rfl) ?_
                go_simp
                (try with_reducible rfl)
              | 3, _, hd =>
                simp only [GH.mkL, List.getD_cons_succ, List.getD_cons_zero]
                have d2 : S 2 = .pointer (some ⟨b1, o1 + j * 4, none⟩) := (hd 2 (by kernel_rfl)).2
                rw [d2]
                clear d2
                clear hd
                refine GH.st_eq (by rfl) ?_
                go_simp
                (try with_reducible rfl)
              | 4, _, hd =>
                simp only [GH.mkL, List.getD_cons_succ, List.getD_cons_zero]
                have d3 : S 3 = .pointer (some ⟨b1, o1 + j * 4, none⟩) := (hd 3 (by kernel_rfl)).2
                rw [d3]
                clear d3
                clear hd
                exact GH.st_load _ (by rfl) rfl rfl ((hb.cell _ _ HB1.out).trans Y1.out) (by kernel_rfl)
              | 5, _, hd =>
                simp only [GH.mkL, List.getD_cons_succ, List.getD_cons_zero]
                clear hd
                refine GH.st_eq (by rfl) ?_
                go_simp
                (try with_reducible rfl)
              | 6, _, hd =>
                simp only [GH.mkL, List.getD_cons_succ, List.getD_cons_zero]
                have d5 : S 5 = .pointer (some ⟨w.heap.size, 0, none⟩) := (hd 5 (by kernel_rfl)).2
                rw [d5]
                clear d5
                clear hd
                exact GH.st_load _ (by rfl) rfl rfl (((XS.out.below hb.below XS.out.lt)).cell 0) (by kernel_rfl)
              | 7, _, hd =>
                simp only [GH.mkL, List.getD_cons_succ, List.getD_cons_zero]
                have d4 : S 4 = .int .i64 t1 := (hd 4 (by kernel_rfl)).2
                rw [d4]
                clear d4
                have d6 : S 6 = .int .i64 f := (hd 6 (by kernel_rfl)).2
                rw [d6]
                clear d6
                clear hd
                refine GH.st_eq (by rfl) ?_
                go_simp
                (try with_reducible rfl)
              | 8, _, hd =>
                simp only [GH.mkL, List.getD_cons_succ, List.getD_cons_zero]
                have d7 : S 7 = .bool true := (hd 7 (by kernel_rfl)).2
                rw [d7]
                clear d7
                clear hd
                refine GH.st_eq (by rfl) ?_
                go_simp
                (try with_reducible rfl)
              | 9, _, hd =>
                simp only [GH.mkL, List.getD_cons_succ, List.getD_cons_zero]
                have d8 : S 8 = .bool true := (hd 8 (by kernel_rfl)).2
                rw [d8]
                clear d8
                clear hd
                refine GH.st_eq (by rfl) ?_
                go_simp
                (try with_reducible rfl)
              | 10, _, hd =>
                simp only [GH.mkL, List.getD_cons_succ, List.getD_cons_zero]
                have d8 : S 8 = .bool true := (hd 8 (by kernel_rfl)).2
                rw [d8]
                clear d8
                clear hd
                refine GH.st_eq (by rfl) ?_
                go_simp
                (try with_reducible rfl)
              | 11, _, hd =>
                simp only [GH.mkL, List.getD_cons_succ, List.getD_cons_zero]
                have d8 : S 8 = .bool true := (hd 8 (by kernel_rfl)).2
                rw [d8]
                clear d8
                have d9 : S 9 = .slice (some ⟨b1, o1, none⟩) n1 c1 := (hd 9 (by kernel_rfl)).2
                rw [d9]
                clear d9
                have d10 : S 10 = .int .i64 (j : Nat) := (hd 10 (by kernel_rfl)).2
                rw [d10]
                clear d10
                clear hd
                refine GH.st_eq (by rfl) ?_
                go_simp
                (try with_reducible rfl)
              | 12, _, hd =>
                simp only [GH.mkL, List.getD_cons_succ, List.getD_cons_zero]
                have d8 : S 8 = .bool true := (hd 8 (by kernel_rfl)).2
                rw [d8]
                clear d8
                have d11 : S 11 = .pointer (some ⟨b1, o1 + j * 4, none⟩) := (hd 11 (by kernel_rfl)).2
                rw [d11]
                clear d11
                clear hd
                refine GH.st_eq (by rfl) ?_
                go_simp
                (try with_reducible rfl)
              | 13, _, hd =>
                simp only [GH.mkL, List.getD_cons_succ, List.getD_cons_zero]
                have d8 : S 8 = .bool true := (hd 8 (by kernel_rfl)).2
                rw [d8]
                clear d8
                have d12 : S 12 = .pointer (some ⟨b1, o1 + j * 4, none⟩) := (hd 12 (by kernel_rfl)).2
                rw [d12]
                clear d12
                clear hd
                exact GH.st_load _ (by rfl) rfl rfl ((hb.cell _ _ HB1.out).trans Y1.out) (by kernel_rfl)
              | 14, _, hd =>
                simp only [GH.mkL, List.getD_cons_succ, List.getD_cons_zero]
                have d8 : S 8 = .bool true := (hd 8 (by kernel_rfl)).2
                rw [d8]
                clear d8
                clear hd
                refine GH.st_eq (by rfl) ?_
                go_simp
                (try with_reducible rfl)
              | 15, _, hd =>
                simp only [GH.mkL, List.getD_cons_succ, List.getD_cons_zero]
                have d8 : S 8 = .bool true := (hd 8 (by kernel_rfl)).2
                rw [d8]
                clear d8
                have d14 : S 14 = .pointer (some ⟨w.heap.size, 1, none⟩) := (hd 14 (by kernel_rfl)).2
                rw [d14]
                clear d14
                clear hd
                exact GH.st_load _ (by rfl) rfl rfl (((XS.out.below hb.below XS.out.lt)).cell 1) (by kernel_rfl)
              | 16, _, hd =>
                simp only [GH.mkL, List.getD_cons_succ, List.getD_cons_zero]
                have d8 : S 8 = .bool true := (hd 8 (by kernel_rfl)).2
                rw [d8]
                clear d8
                have d13 : S 13 = .int .i64 t1 := (hd 13 (by kernel_rfl)).2
                rw [d13]
                clear d13
                have d15 : S 15 = .int .i64 t := (hd 15 (by kernel_rfl)).2
                rw [d15]
                clear d15
                clear hd
                refine GH.st_eq (by rfl) ?_
                go_simp
                (try with_reducible rfl)
              | 17, _, hd =>
                simp only [GH.mkL, List.getD_cons_succ, List.getD_cons_zero]
                have d8 : S 8 = .bool true := (hd 8 (by kernel_rfl)).2
                rw [d8]
                clear d8
                have d16 : S 16 = .bool false := (hd 16 (by kernel_rfl)).2
                rw [d16]
                clear d16
                clear hd
                refine GH.st_eq (by rfl) ?_
                go_simp
                (try with_reducible rfl)
              | nx + 18, hjx, _ => omega
            intro S w' hb hG
            simp only [GH.mkL, List.drop_succ_cons, List.drop_zero]
            have d17 : S 17 = .bool false := hG 17 (by omega)
            rw [d17]
            clear d17
            clear hG
            have B8 := Lib.hid (HW.out.trans (hb.full.mono HW.out.size))
            have OA := Lib.hid (own_below hown.out hb.full fun g hg => (own_lt4 hown.out g hg).2)
            replace H1 := Lib.hid (H1.out.into hb.full)
            clear hb HW hown
            have HW := B8
            clear B8
            refine wpList_nil ?_
            go_wp2_with fail

            go_roundw
            case rel => exact ⟨j + 1, n9, lo, by omega, by go_num, HNY, HN9, by omega, OA, HW⟩
            case measure => simp [intOf]; omega
        · have hge : ¬ (j : Int) < (n1 : Int) := by omega
          have hlo2 := hlo.out
          rw [List.take_of_length_le (by rw [HL1.out]; omega)] at hlo2
          subst hlo2
          have x0 : wr.cell? ⟨w.heap.size, 0, none⟩ = some (.int .i64 f) := XS.out.cell 0
          have x1 : wr.cell? ⟨w.heap.size, 1, none⟩ = some (.int .i64 t) := XS.out.cell 1
          go_wp2_with fail
          refine (cbetween_any A1 n1 c1 f t l1 wr H1.out (by omega) S1.out).mono ?_
          rintro e w3 ⟨⟨A3, n3, c3, lo, rfl, hrs3, hro3⟩, hb3⟩
          have R3 := Lib.hid hrs3
          have E3 := Lib.hid hro3
          have O3 := Lib.hid (own_below hown.out hb3 fun g hg => (own_lt4 hown.out g hg).2)
          have B3 := Lib.hid (HW.out.trans (hb3.mono HW.out.size))
          have hn3 : n3 = n9 := by
            have h1 := congrArg List.length hro3
            rw [rsay_len, rsay_len, hrs3.len, HN9.out] at h1
            exact h1
          have hn9b : n9 ≤ 100000 := by omega
          have hn3b : n3 ≤ 100000 := by omega
          clear hb3 hrs3 hro3 hown HW x0 x1 hn3
          go_wp2_with fail
          refine (cplain_any A3 n3 c3 lo w3 R3.out hn3b).mono ?_
          rintro e w4 ⟨v4, rfl, hO4, hb4⟩
          rw [E3.out] at hO4
          obtain ⟨A4, n4, c4, rfl, hc4, hl4, hr4⟩ := hO4.out
          have R4 := Lib.hid hr4.out
          have O4 := Lib.hid (own_below O3.out hb4 fun g hg => (own_lt4 O3.out g hg).2)
          have B4 := Lib.hid (B3.out.trans (hb4.mono B3.out.size))
          have hn4 : n4 = n9 := by rw [← hl4.out, rsay_len]; exact HN9.out
          clear hb4 hO4 hl4 hr4 O3 B3 R3 E3
          obtain ⟨_, _, e4, _, _, hw4⟩ := own_form O4.out
          injection e4 with e4 e5 e6
          subst e4; subst e6
          subst hn4
          have W4 := Lib.hid hw4
          clear hw4 e5
          go_wp2_with fail
          refine (csame_true A4 A9 n4 c4 c9 _ w4 R4.out W4.out hn9b).mono ?_
          rintro e w6 ⟨rfl, hb6⟩
          have B6 := Lib.hid (B4.out.trans (hb6.mono B4.out.size))
          clear hb6 B4 O4 R4 W4
          go_wp2_with fail
          refine (calive_any w6).mono ?_
          rintro e w8 ⟨rfl, hb8⟩
          have B8 := Lib.hid (B6.out.trans (hb8.mono B6.out.size))
          clear hb8 B6
          go_wp2_with fail
          go_ret
          exact ⟨rfl, BR.out.trans (B8.out.mono BR.out.size)⟩
end Go.Proofs.Ytcgcglngjfijnaa
