/- Layer 39: alive; the law QuotaBounds answers true, and nothing that was there has turned. -/
import Derived.Test.YtonindjpbegdgaaQu3
import Derived.Test.YtonindjpbegdgaaQuad
import Derived.Test.YtonindjpbegdgaaHiM
namespace Go.Proofs.Ytonindjpbegdgaa
open Go.RowKit
set_option linter.unusedVariables false
set_option linter.unusedSimpArgs false
def IR (M : Nat) (L : Ql) : Prop := ∀ p ∈ L, ∃ o : Nat, o < M ∧ p.1 = (o : Int)
theorem IR.nil (M : Nat) : IR M [] := fun p h => by cases h
theorem IR.set {M : Nat} {L : Ql} (h : IR M L) {o : Nat} (ho : o < M) (n : Nat) : IR M (setQ L (o : Int) n) := by
  intro p hp
  unfold setQ at hp
  rcases List.mem_append.1 hp with hp | hp
  · exact h p (rmQ_mem hp).1
  · split at hp
    · simp at hp; subst hp; exact ⟨o, ho, rfl⟩
    · cases hp
theorem IR.take {M all each : Nat} {L : Ql} (h : IR M L) {o : Nat} (ho : o < M) (n : Int) : IR M (tkL all each L (o : Int) n) := by unfold tkL; split; exact h.set ho _; exact h
def sumO (L : Ql) (k : Nat) : Nat := upTo (fun o => ofQ L (o : Int)) k
theorem sumO_all {M : Nat} {L : Ql} (hd : QD L) (h : IR M L) : sumO L M = usedQ L := by
  induction L with
  | nil =>
    show upTo (fun _ => 0) M = 0
    have := upTo_one 0 0 M
    have e : (fun r : Nat => if 0 = r then 0 else 0) = fun _ => 0 := by funext r; split <;> rfl
    rw [e] at this
    rw [this]; split <;> rfl
  | cons p L ih =>
    obtain ⟨o, ho, hp⟩ := h p (by simp)
    have h0 : ofQ L (o : Int) = 0 := ofQ_not fun q hq e => hd.head q hq (by rw [e, hp])
    have e : (fun k : Nat => ofQ (p :: L) (k : Int)) = fun k => (if o = k then p.2 else 0) + ofQ L (k : Int) := by
      funext k
      rw [ofQ, hp]
      by_cases e : o = k
      · subst e; rw [if_pos rfl, if_pos rfl, h0]; omega
      · rw [if_neg (by omega), if_neg e]; omega
    unfold sumO
    rw [e, upTo_add, upTo_one, if_pos ho, usedQ_cons]
    have := ih hd.tail fun q hq => h q (by simp [hq])
    unfold sumO at this
    omega
theorem gone {M : Nat} {L : Ql} (hd : QD L) (h : IR M L) (h0 : ∀ o : Nat, o < M → ofQ L (o : Int) = 0) : L = [] := by
  cases L with
  | nil => rfl
  | cons p L =>
    obtain ⟨o, ho, hp⟩ := h p (by simp)
    have := h0 o ho
    rw [ofQ, if_pos hp] at this
    have := hd.pos p (by simp)
    omega
theorem drop_eq (L : Ql) (id : Int) : gvL L id (ofQ L id : Nat) = setQ L id 0 := by
  unfold gvL gvN
  rw [clN_of (Nat.zero_le _) (Nat.le_refl _), Nat.sub_self]
theorem len_set0 {L : Ql} (hd : QD L) (id : Int) : (setQ L id 0).length ≤ L.length := by have := len_setQ hd id 0; split at this <;> simp at this <;> omega
set_option maxRecDepth 20000 in
set_option maxHeartbeats 4000000 in
theorem alive39 (w : World) : Calls Try.prog 20 #[] w fun e w' => e = .returned (.bool true) ∧ Below w.heap.size w w' := by
  go_enter Try.func20, Try.ntmps20
  go_wp2_with fail
  refine (qu_new 10 6 w (by decide) (by decide)).mono ?_
  rintro e w1 ⟨rfl, h1, b1⟩
  have hq0 : QB 10 6 [] := ⟨by omega, by omega, by decide, fun _ => by simp [ofQ], by simp⟩
  have H1 := Lib.hid (show PoolW w1 (w.heap.size + 1) w.heap.size 10 6 [] from h1)
  have B1 := Lib.hid b1
  clear h1 b1
  go_wp2_with fail
  refine (qu_take (w.heap.size + 1) w.heap.size 10 6 [] 1 6 w1 H1.out hq0 ⟨by omega, by omega⟩ ⟨by omega, by omega⟩).mono ?_
  rw [show tkOK 10 6 [] 1 6 = true by decide, show tkL 10 6 [] 1 6 = [(1, 6)] by decide]
  rintro e w2 ⟨rfl, h2, t2⟩
  have hq1 : QB 10 6 [(1, 6)] := ⟨by omega, by omega, by decide, fun id => by simp only [ofQ]; split <;> omega, by decide⟩
  have H2 := Lib.hid h2
  have B2 := Lib.hid (B1.out.trans (t2.below (by have := H1.out.blk.lt; omega) (by omega) (by omega)))
  clear h2 t2 B1
  go_wp2_with fail
  refine (qu_take (w.heap.size + 1) w.heap.size 10 6 [(1, 6)] 2 5 w2 H2.out hq1 ⟨by omega, by omega⟩ ⟨by omega, by omega⟩).mono ?_
  rw [show tkOK 10 6 [(1, 6)] 2 5 = false by decide, show tkL 10 6 [(1, 6)] 2 5 = [(1, 6)] by decide]
  rintro e w3 ⟨rfl, h3, t3⟩
  have H3 := Lib.hid h3
  have B3 := Lib.hid (B2.out.trans (t3.below (by have := H2.out.blk.lt; omega) (by omega) (by omega)))
  clear h3 t3 B2 H1
  go_wp2_with fail
  refine (qu_take (w.heap.size + 1) w.heap.size 10 6 [(1, 6)] 2 4 w3 H3.out hq1 ⟨by omega, by omega⟩ ⟨by omega, by omega⟩).mono ?_
  rw [show tkOK 10 6 [(1, 6)] 2 4 = true by decide, show tkL 10 6 [(1, 6)] 2 4 = [(1, 6), (2, 4)] by decide]
  rintro e w4 ⟨rfl, h4, t4⟩
  have hq4 : QB 10 6 [(1, 6), (2, 4)] := ⟨by omega, by omega, by decide, fun id => by simp only [ofQ]; split <;> (try split) <;> omega, by decide⟩
  have H4 := Lib.hid h4
  have B4 := Lib.hid (B3.out.trans (t4.below (by have := H3.out.blk.lt; omega) (by omega) (by omega)))
  clear h4 t4 B3 H2
  go_wp2_with fail
  refine (qu_used (w.heap.size + 1) w.heap.size 10 6 _ w4 H4.out).mono ?_
  rw [show usedQ [(1, 6), (2, 4)] = 10 by decide]
  rintro e w5 ⟨rfl, rfl⟩
  go_wp2_with fail
  refine (qu_owners (w.heap.size + 1) w.heap.size 10 6 _ _ H4.out).mono ?_
  rintro e w6 ⟨rfl, rfl⟩
  go_wp2_with fail
  refine (qu_fair (w.heap.size + 1) w.heap.size 10 6 _ 3 _ H4.out hq4 ⟨by omega, by omega⟩).mono ?_
  rw [show frN 10 6 3 = 3 by decide]
  rintro e w7 ⟨rfl, b7⟩
  have B7 := Lib.hid (B4.out.trans (b7.mono B4.out.size))
  clear b7
  go_wp2_with fail
  go_ret
  exact ⟨rfl, B7.out⟩
set_option maxRecDepth 20000 in
set_option maxHeartbeats 4000000 in
theorem quotaBounds_walk (a b m : Int) (A : Option Addr) (n c : Nat) (l : List Op4) (w : World) (ha : (Lit.int .i64 a).wf = true) (hb : (Lit.int .i64 b).wf = true) (hm : I64 m) (hr : Rd w w.heap.size 4 A n (op4s l)) (hnc : n ≤ c) (hc : c ≤ maxLen) (hl : ∀ p ∈ l, I64 p.k ∧ I64 p.a ∧ I64 p.b ∧ I64 p.n) :
    Calls Try.prog 4 #[.int .i64 a, .int .i64 b, .agg #[.int .i64 m, .slice A n c]] w fun e w' => e = .returned (.bool true) ∧ Below w.heap.size w w' := by
  have HR := Lib.hid hr
  have HL := Lib.hid hl
  unfold maxLen at hc
  clear hr hl
  by_cases h0 : a < 0
  · go_enter Try.func4, Try.ntmps4
    go_wp2_with fail
    go_ret
    exact ⟨rfl, (Below.refl _ _).alloc (Nat.le_refl _) _⟩
  by_cases h1 : 1000000 < a
  · go_enter Try.func4, Try.ntmps4
    go_wp2_with fail
    go_ret
    exact ⟨rfl, (Below.refl _ _).alloc (Nat.le_refl _) _⟩
  by_cases h2 : b < 0
  · go_enter Try.func4, Try.ntmps4
    go_wp2_with fail
    go_ret
    exact ⟨rfl, (Below.refl _ _).alloc (Nat.le_refl _) _⟩
  by_cases h3 : 1000000 < b
  · go_enter Try.func4, Try.ntmps4
    go_wp2_with fail
    go_ret
    exact ⟨rfl, (Below.refl _ _).alloc (Nat.le_refl _) _⟩
  by_cases h4 : m < 1
  · go_enter Try.func4, Try.ntmps4
    go_wp2_with fail
    go_ret
    exact ⟨rfl, (Below.refl _ _).alloc (Nat.le_refl _) _⟩
  by_cases h5 : 40 < m
  · go_enter Try.func4, Try.ntmps4
    go_wp2_with fail
    go_ret
    exact ⟨rfl, (Below.refl _ _).alloc (Nat.le_refl _) _⟩
  by_cases h6 : 100 < n
  · have h6' : (100 : Int) < (n : Int) := by omega
    go_enter Try.func4, Try.ntmps4
    go_wp2_with fail
    go_ret
    exact ⟨rfl, (Below.refl _ _).alloc (Nat.le_refl _) _⟩
  obtain ⟨all, rfl⟩ : ∃ k : Nat, a = (k : Int) := ⟨a.toNat, by omega⟩
  obtain ⟨each, rfl⟩ : ∃ k : Nat, b = (k : Int) := ⟨b.toNat, by omega⟩
  obtain ⟨M, rfl⟩ : ∃ k : Nat, m = (k : Int) := ⟨m.toNat, by omega⟩
  have g6 : ¬ (100 : Int) < (n : Int) := by omega
  have hall : all ≤ 1000000 := by omega
  have heach : each ≤ 1000000 := by omega
  have hM1 : 1 ≤ M := by omega
  have hM40 : M ≤ 40 := by omega
  have hn : n ≤ 100 := by omega
  have HNW := Lib.hid (fun w' => qu_new all each w' ha hb)
  rw [clN_of (Nat.zero_le _) (by omega), clN_of (Nat.zero_le _) (by omega)] at HNW
  clear ha hb hm
  go_enter Try.func4, Try.ntmps4
  go_wp2_with fail
  have K0 := Lib.hid (Blk.new w 46 #[.int .i64 (M : Nat), .slice A n c])
  have B0 := Lib.hid ((Below.refl w.heap.size w).alloc (Nat.le_refl _) (.cells #[.int .i64 (M : Nat), .slice A n c] 46))
  have hsz : (w.alloc (.cells #[.int .i64 (M : Nat), .slice A n c] 46)).heap.size = w.heap.size + 1 := by simp
  have HSZ := Lib.hid hsz
  clear hsz h0 h1 h2 h3 h4 h5 h6 g6
  generalize w.alloc (.cells #[.int .i64 (M : Nat), .slice A n c] 46) = w1 at K0 B0 HSZ ⊢
  refine (HNW.out w1).mono ?_
  rw [HSZ.out]
  rintro e w2 ⟨rfl, h2, b2⟩
  have P2 := Lib.hid h2
  have K2 := Lib.hid (Blk.below K0.out b2 (by omega))
  have B2 := Lib.hid (B0.out.trans (b2.mono (by omega)))
  clear h2 b2 K0 B0 HNW
  go_wp2_with fail
  go_loopw [8, 9, 10] (fun iv sv ov wr => ∃ (i : Nat) (L : Ql), i ≤ n ∧ iv = .int .i64 (i : Nat) ∧ Hid (PoolW wr (w.heap.size + 1 + 1) (w.heap.size + 1) all each L) ∧ Hid (QB all each L) ∧ Hid (IR M L) ∧ Hid (L.length ≤ i) ∧ Hid (Blk wr w.heap.size 46 #[.int .i64 (M : Nat), .slice A n c]) ∧ Hid (Below w.heap.size w wr)) (fun iv _ _ _ => n - (intOf iv).toNat)
  case atStart => exact ⟨0, [], Nat.zero_le _, rfl, P2, Lib.hid ⟨by omega, by omega, Nat.zero_le _, fun _ => Nat.zero_le _, by simp⟩, Lib.hid (IR.nil M), Lib.hid (by simp), K2, B2⟩
  case round =>
    clear P2 K2 B2
    obtain ⟨i, L, hi, rfl, HP, HQ, HI, HLEN, HK, BB⟩ := hrel
    have hin : i ≤ 100 := by omega
    by_cases hlt : i < n
    · have hlt' : (i : Int) < (n : Int) := by omega
      obtain ⟨ab, ao, xk, x, xb, y, hA, hab, p0, p1, p2, p3, hp⟩ := HR.out.op4 hlt
      subst hA
      have hxy := HL.out _ (List.mem_of_getElem? hp.out)
      have HX := Lib.hid hxy.2.1
      have HY := Lib.hid hxy.2.2.2
      have P1 := Lib.hid ((BB.out.cell (p := ⟨ab, ao + i * 4 + 1, none⟩) hab).trans p1)
      have P3 := Lib.hid ((BB.out.cell (p := ⟨ab, ao + i * 4 + 3, none⟩) hab).trans p3)
      have AB := Lib.hid (Nat.lt_of_lt_of_le hab BB.out.size)
      have hi0 : ¬ (i : Int) < 0 := by omega
      have hxb := HX.out
      unfold I64 at hxb
      have hMz : (M : Int) ≠ 0 := by omega
      have hMz' : ¬ (M : Int) = 0 := by omega
      have hMz'' : ¬ M = 0 := by omega
      obtain ⟨r1, hr1⟩ : ∃ r1 : Int, x.tmod (M : Int) = r1 := ⟨_, rfl⟩
      have hr1a : r1 < (M : Int) := by rw [← hr1]; exact Int.tmod_lt_of_pos x (by omega)
      have hr1b : -(M : Int) < r1 := by rw [← hr1]; have := Int.lt_tmod_of_pos x (show (0 : Int) < M by omega); omega
      obtain ⟨s, hs⟩ : ∃ s : Nat, r1 + (M : Int) = (s : Nat) := ⟨(r1 + M).toNat, by omega⟩
      obtain ⟨o, ho⟩ : ∃ o, o = s % M := ⟨_, rfl⟩
      have hoM : o < M := by rw [ho]; exact Nat.mod_lt _ (by omega)
      have hoi : (s : Int) % (M : Int) = (o : Nat) := by rw [ho]; push_cast; rfl
      have hot : (s : Int).tmod (M : Int) = (o : Nat) := by rw [Int.tmod_eq_emod_of_nonneg (by omega)]; exact hoi
      have hwr : IntKind.i64.wrap r1 = r1 := by rw [IntKind.wrap_i64]; omega
      have hws : IntKind.i64.wrap (s : Int) = (s : Nat) := by rw [IntKind.wrap_i64]; omega
      have hwo : IntKind.i64.wrap (o : Int) = (o : Nat) := by rw [IntKind.wrap_i64]; omega
      have CT := Lib.hid (fun w' (hb : Below wr.heap.size wr w') => qu_take (w.heap.size + 1 + 1) (w.heap.size + 1) all each L (o : Int) y w' (HP.out.into hb) HQ.out ⟨by omega, by omega⟩ HY.out)
      have hqd := HP.out.qd
      have hl8 : L.length < 8000 := by have := HLEN.out; omega
      have Q4 := Lib.hid (HQ.out.take hqd (o : Int) y hl8)
      have I4 := Lib.hid (HI.out.take (all := all) (each := each) hoM y)
      have L4 := Lib.hid (show (tkL all each L (o : Int) y).length ≤ i + 1 by have := len_take (all := all) (each := each) hqd (o : Int) y; have := HLEN.out; omega)
      obtain ⟨L2, hL2⟩ : ∃ L2, L2 = tkL all each L (o : Int) y := ⟨_, rfl⟩
      rw [← hL2] at CT Q4 I4 L4
      clear hp p0 p1 p2 p3 hab hxy hxb hr1a hr1b ho hqd hl8 hL2 HX HY
      obtain ⟨kM, kL⟩ := ptc2 HK.out
      go_upto_region 9 with fail
      clear kM kL
      refine GH.wp_ghl2 (M := false) 22 ((GH.SP.eq (.pointer (some ⟨w.heap.size + 1 + 1, 0, none⟩))) :: (GH.SP.eq (.pointer (some ⟨w.heap.size, 1, none⟩))) :: (GH.SP.eq (.slice (some ⟨ab, ao, none⟩) n c)) :: (GH.SP.eq (.int .i64 (i : Nat))) :: (GH.SP.eq (.pointer (some ⟨ab, ao + i * 4, none⟩))) :: (GH.SP.eq (.pointer (some ⟨ab, ao + i * 4 + 1, none⟩))) :: (GH.SP.eq (.int .i64 x)) :: (GH.SP.eq (.pointer (some ⟨w.heap.size, 0, none⟩))) :: (GH.SP.eq (.int .i64 (M : Nat))) :: (GH.SP.eq (.int .i64 r1)) :: (GH.SP.eq (.pointer (some ⟨w.heap.size, 0, none⟩))) :: (GH.SP.eq (.int .i64 (M : Nat))) :: (GH.SP.eq (.int .i64 (s : Nat))) :: (GH.SP.eq (.pointer (some ⟨w.heap.size, 0, none⟩))) :: (GH.SP.eq (.int .i64 (M : Nat))) :: (GH.SP.eq (.int .i64 (o : Nat))) :: (GH.SP.eq (.pointer (some ⟨w.heap.size, 1, none⟩))) :: (GH.SP.eq (.slice (some ⟨ab, ao, none⟩) n c)) :: (GH.SP.eq (.int .i64 (i : Nat))) :: (GH.SP.eq (.pointer (some ⟨ab, ao + i * 4, none⟩))) :: (GH.SP.eq (.pointer (some ⟨ab, ao + i * 4 + 3, none⟩))) :: (GH.SP.eq (.int .i64 y)) :: []) (none :: none :: none :: none :: none :: none :: none :: none :: none :: none :: none :: none :: none :: none :: none :: none :: none :: none :: none :: none :: none :: none :: none :: none :: none :: none :: none :: none :: none :: none :: none :: none :: none :: none :: none :: none :: none :: none :: none :: none :: none :: none :: none :: none :: none :: none :: none :: none :: none :: none :: none :: none :: none :: none :: none :: (some 0) :: (some 1) :: (some 2) :: (some 3) :: (some 4) :: (some 5) :: (some 6) :: (some 7) :: (some 8) :: (some 9) :: (some 10) :: (some 11) :: (some 12) :: (some 13) :: (some 14) :: (some 15) :: (some 16) :: (some 17) :: (some 18) :: (some 19) :: (some 20) :: (some 21) :: none :: none :: none :: none :: none :: none :: none :: none :: none :: none :: none :: none :: none :: none :: none :: none :: none :: none :: none :: none :: none :: none :: none :: none :: none :: none :: none :: none :: none :: none :: none :: none :: none :: none :: none :: none :: none :: none :: none :: none :: none :: none :: none :: none :: none :: none :: none :: none :: none :: none :: none :: none :: none :: none :: none :: none :: none :: none :: none :: none :: none :: none :: []) [55, 56, 57, 58, 59, 60, 61, 62, 63, 64, 65, 66, 67, 68, 69, 70, 71, 72, 73, 74, 75, 76] (by rfl) (by kernel_rfl) (by kernel_rfl) ?_ ?_ ?_
      · intro S jx v hjx
        match jx, hjx with
        | 0, _ => rfl
        | 1, _ => rfl
        | 2, _ => rfl
        | 3, _ => rfl
        | 4, _ => rfl
        | 5, _ => rfl
        | 6, _ => rfl
        | 7, _ => rfl
        | 8, _ => rfl
        | 9, _ => rfl
        | 10, _ => rfl
        | 11, _ => rfl
        | 12, _ => rfl
        | 13, _ => rfl
        | 14, _ => rfl
        | 15, _ => rfl
        | 16, _ => rfl
        | 17, _ => rfl
        | 18, _ => rfl
        | 19, _ => rfl
        | 20, _ => rfl
        | 21, _ => rfl
        | nx + 22, hjx => omega
      · intro jx hjx S w' hb hd
        match jx, hjx, hd with
        | 0, _, hd =>
          simp only [GH.mkL, List.getD_cons_succ, List.getD_cons_zero]
          clear hd
          refine GH.st_eq (by rfl) ?_
          go_simp
          (try with_reducible rfl)
        | 1, _, hd =>
          simp only [GH.mkL, List.getD_cons_succ, List.getD_cons_zero]
          clear hd
          refine GH.st_eq (by rfl) ?_
          go_simp
          (try with_reducible rfl)
        | 2, _, hd =>
          simp only [GH.mkL, List.getD_cons_succ, List.getD_cons_zero]
          have d1 : S 1 = .pointer (some ⟨w.heap.size, 1, none⟩) := (hd 1 (by kernel_rfl)).2
          rw [d1]
          clear d1
          clear hd
          exact GH.st_load _ (by rfl) rfl rfl (((HK.out.below hb.below HK.out.lt)).cell 1) (by kernel_rfl)
        | 3, _, hd =>
          simp only [GH.mkL, List.getD_cons_succ, List.getD_cons_zero]
          clear hd
          refine GH.st_eq (by rfl) ?_
          go_simp
          (try with_reducible rfl)
        | 4, _, hd =>
          simp only [GH.mkL, List.getD_cons_succ, List.getD_cons_zero]
          have d2 : S 2 = .slice (some ⟨ab, ao, none⟩) n c := (hd 2 (by kernel_rfl)).2
          rw [d2]
          clear d2
          have d3 : S 3 = .int .i64 (i : Nat) := (hd 3 (by kernel_rfl)).2
          rw [d3]
          clear d3
          clear hd
          refine GH.st_eq (by rfl) ?_
          go_simp
          (try with_reducible rfl)
        | 5, _, hd =>
          simp only [GH.mkL, List.getD_cons_succ, List.getD_cons_zero]
          have d4 : S 4 = .pointer (some ⟨ab, ao + i * 4, none⟩) := (hd 4 (by kernel_rfl)).2
          rw [d4]
          clear d4
          clear hd
          refine GH.st_eq (by rfl) ?_
          go_simp
          (try with_reducible rfl)
        | 6, _, hd =>
          simp only [GH.mkL, List.getD_cons_succ, List.getD_cons_zero]
          have d5 : S 5 = .pointer (some ⟨ab, ao + i * 4 + 1, none⟩) := (hd 5 (by kernel_rfl)).2
          rw [d5]
          clear d5
          clear hd
          exact GH.st_load _ (by rfl) rfl rfl ((hb.below.cell (p := ⟨ab, ao + i * 4 + 1, none⟩) AB.out).trans P1.out) (by kernel_rfl)
        | 7, _, hd =>
          simp only [GH.mkL, List.getD_cons_succ, List.getD_cons_zero]
          clear hd
          refine GH.st_eq (by rfl) ?_
          go_simp
          (try with_reducible rfl)
        | 8, _, hd =>
          simp only [GH.mkL, List.getD_cons_succ, List.getD_cons_zero]
          have d7 : S 7 = .pointer (some ⟨w.heap.size, 0, none⟩) := (hd 7 (by kernel_rfl)).2
          rw [d7]
          clear d7
          clear hd
          exact GH.st_load _ (by rfl) rfl rfl (((HK.out.below hb.below HK.out.lt)).cell 0) (by kernel_rfl)
        | 9, _, hd =>
          simp only [GH.mkL, List.getD_cons_succ, List.getD_cons_zero]
          have d6 : S 6 = .int .i64 x := (hd 6 (by kernel_rfl)).2
          rw [d6]
          clear d6
          have d8 : S 8 = .int .i64 (M : Nat) := (hd 8 (by kernel_rfl)).2
          rw [d8]
          clear d8
          clear hd
          refine GH.st_eq (by rfl) ?_
          go_simp
          (try simp only [hr1, hwr])
          (try with_reducible rfl)
        | 10, _, hd =>
          simp only [GH.mkL, List.getD_cons_succ, List.getD_cons_zero]
          clear hd
          refine GH.st_eq (by rfl) ?_
          go_simp
          (try with_reducible rfl)
        | 11, _, hd =>
          simp only [GH.mkL, List.getD_cons_succ, List.getD_cons_zero]
          have d10 : S 10 = .pointer (some ⟨w.heap.size, 0, none⟩) := (hd 10 (by kernel_rfl)).2
          rw [d10]
          clear d10
          clear hd
          exact GH.st_load _ (by rfl) rfl rfl (((HK.out.below hb.below HK.out.lt)).cell 0) (by kernel_rfl)
        | 12, _, hd =>
          simp only [GH.mkL, List.getD_cons_succ, List.getD_cons_zero]
          have d9 : S 9 = .int .i64 r1 := (hd 9 (by kernel_rfl)).2
          rw [d9]
          clear d9
          have d11 : S 11 = .int .i64 (M : Nat) := (hd 11 (by kernel_rfl)).2
          rw [d11]
          clear d11
          clear hd
          refine GH.st_eq (by rfl) ?_
          go_simp
          (try simp only [hs, hws])
          (try with_reducible rfl)
        | 13, _, hd =>
          simp only [GH.mkL, List.getD_cons_succ, List.getD_cons_zero]
          clear hd
          refine GH.st_eq (by rfl) ?_
          go_simp
          (try with_reducible rfl)
        | 14, _, hd =>
          simp only [GH.mkL, List.getD_cons_succ, List.getD_cons_zero]
          have d13 : S 13 = .pointer (some ⟨w.heap.size, 0, none⟩) := (hd 13 (by kernel_rfl)).2
          rw [d13]
          clear d13
          clear hd
          exact GH.st_load _ (by rfl) rfl rfl (((HK.out.below hb.below HK.out.lt)).cell 0) (by kernel_rfl)
        | 15, _, hd =>
          simp only [GH.mkL, List.getD_cons_succ, List.getD_cons_zero]
          have d12 : S 12 = .int .i64 (s : Nat) := (hd 12 (by kernel_rfl)).2
          rw [d12]
          clear d12
          have d14 : S 14 = .int .i64 (M : Nat) := (hd 14 (by kernel_rfl)).2
          rw [d14]
          clear d14
          clear hd
          refine GH.st_eq (by rfl) ?_
          go_simp
          (try simp only [hoi, hot, hwo])
          (try with_reducible rfl)
        | 16, _, hd =>
          simp only [GH.mkL, List.getD_cons_succ, List.getD_cons_zero]
          clear hd
          refine GH.st_eq (by rfl) ?_
          go_simp
          (try with_reducible rfl)
        | 17, _, hd =>
          simp only [GH.mkL, List.getD_cons_succ, List.getD_cons_zero]
          have d16 : S 16 = .pointer (some ⟨w.heap.size, 1, none⟩) := (hd 16 (by kernel_rfl)).2
          rw [d16]
          clear d16
          clear hd
          exact GH.st_load _ (by rfl) rfl rfl (((HK.out.below hb.below HK.out.lt)).cell 1) (by kernel_rfl)
        | 18, _, hd =>
          simp only [GH.mkL, List.getD_cons_succ, List.getD_cons_zero]
          clear hd
          refine GH.st_eq (by rfl) ?_
          go_simp
          (try with_reducible rfl)
        | 19, _, hd =>
          simp only [GH.mkL, List.getD_cons_succ, List.getD_cons_zero]
          have d17 : S 17 = .slice (some ⟨ab, ao, none⟩) n c := (hd 17 (by kernel_rfl)).2
          rw [d17]
          clear d17
          have d18 : S 18 = .int .i64 (i : Nat) := (hd 18 (by kernel_rfl)).2
          rw [d18]
          clear d18
          clear hd
          refine GH.st_eq (by rfl) ?_
          go_simp
          (try with_reducible rfl)
        | 20, _, hd =>
          simp only [GH.mkL, List.getD_cons_succ, List.getD_cons_zero]
          have d19 : S 19 = .pointer (some ⟨ab, ao + i * 4, none⟩) := (hd 19 (by kernel_rfl)).2
          rw [d19]
          clear d19
          clear hd
          refine GH.st_eq (by rfl) ?_
          go_simp
          (try with_reducible rfl)
        | 21, _, hd =>
          simp only [GH.mkL, List.getD_cons_succ, List.getD_cons_zero]
          have d20 : S 20 = .pointer (some ⟨ab, ao + i * 4 + 3, none⟩) := (hd 20 (by kernel_rfl)).2
          rw [d20]
          clear d20
          clear hd
          exact GH.st_load _ (by rfl) rfl rfl ((hb.below.cell (p := ⟨ab, ao + i * 4 + 3, none⟩) AB.out).trans P3.out) (by kernel_rfl)
        | nx + 22, hjx, _ => omega
      intro S w' hb hG
      simp only [GH.mkL, List.drop_succ_cons, List.drop_zero]
      have d0 : S 0 = .pointer (some ⟨w.heap.size + 1 + 1, 0, none⟩) := hG 0 (by omega)
      rw [d0]
      clear d0
      have d15 : S 15 = .int .i64 (o : Nat) := hG 15 (by omega)
      rw [d15]
      clear d15
      have d21 : S 21 = .int .i64 y := hG 21 (by omega)
      rw [d21]
      clear d21
      clear hG
      have K3 := Lib.hid (Blk.below HK.out hb.below HK.out.lt)
      have B3 := Lib.hid hb.below
      clear hb
      go_wp2_with fail
      refine (CT.out _ B3.out).mono ?_
      rintro e w4 ⟨rfl, h4, t4⟩
      have K4 := Lib.hid (t4.blk K3.out (by omega) (by omega))
      have P4 := Lib.hid h4
      have B4 := Lib.hid ((BB.out.trans (B3.out.mono BB.out.size)).trans (t4.below (Nat.le_trans BB.out.size B3.out.size) (by omega) (by omega)))
      clear h4 t4 K3 B3 HK BB HP CT HQ HI HLEN P1 P3 AB hr1 hs hoi hot hwr hws hwo
      obtain ⟨kM, kL⟩ := ptc2 K4.out
      go_wp2_with fail
      go_loopw [9, 10] (fun sv ov wk => ∃ (k s : Nat), k ≤ M ∧ ov = .int .i64 (k : Nat) ∧ sv = .int .i64 (s : Nat) ∧ Hid (s = sumO L2 k) ∧ s ≤ k * 1000000 ∧ wk = w4) (fun _ ov _ => M - (intOf ov).toNat)
      case atStart => exact ⟨0, 0, Nat.zero_le _, rfl, rfl, Lib.hid rfl, Nat.zero_le _, rfl⟩
      case round =>
        obtain ⟨k, s, hk, rfl, rfl, hs, hsb, hwk⟩ := hrel
        subst hwk
        by_cases hkM : k < M
        · have hkM' : (k : Int) < (M : Int) := by omega
          have CO := Lib.hid (qu_of (w.heap.size + 1 + 1) (w.heap.size + 1) all each L2 (k : Int) _ P4.out ⟨by omega, by omega⟩)
          have hve := Q4.out.own (k : Int)
          obtain ⟨v, hv⟩ : ∃ v, v = ofQ L2 (k : Int) := ⟨_, rfl⟩
          rw [← hv] at CO hve
          obtain ⟨s2, hs2⟩ : ∃ s2, s2 = s + v := ⟨_, rfl⟩
          have S2 := Lib.hid (show s2 = sumO L2 (k + 1) by rw [hs2, hv, hs.out]; exact (upTo_succ _ _).symm)
          have hs2b : s2 ≤ (k + 1) * 1000000 := by omega
          have hsi : (s : Int) + (v : Int) = (s2 : Nat) := by omega
          have hve' : ¬ (each : Int) < (v : Int) := by omega
          have hs2c : s2 ≤ 41000000 := by omega
          clear hv hs2 hs hve
          go_wp2_with fail
          refine CO.out.mono ?_
          rintro e w5 ⟨rfl, rfl⟩
          go_wp2_with fail
          refine CO.out.mono ?_
          rintro e w5 ⟨rfl, rfl⟩
          go_wp2_with fail
          refine CO.out.mono ?_
          rintro e w5 ⟨rfl, rfl⟩
          go_wp2_with fail
          go_roundw
          case rel => exact ⟨k + 1, s2, by omega, by go_num, by go_num, S2, hs2b, trivial⟩
          case measure => simp [intOf]; omega
        · obtain rfl : k = M := by omega
          have hsu : s = usedQ L2 := by rw [hs.out]; exact sumO_all P4.out.qd I4.out
          have CU := Lib.hid (qu_used (w.heap.size + 1 + 1) (w.heap.size + 1) all each L2 _ P4.out)
          rw [← hsu] at CU
          have hle : ¬ (all : Int) < (s : Int) := by have := Q4.out.used; omega
          clear hs hsu hkM
          go_wp2_with fail
          refine CU.out.mono ?_
          rintro e w5 ⟨rfl, rfl⟩
          go_wp2_with fail
          go_roundw
          case rel => exact ⟨i + 1, L2, by omega, by go_num, P4, Q4, I4, L4, K4, B4⟩
          case measure => simp [intOf]; omega
    · obtain rfl : n = i := by omega
      obtain ⟨kM, kL⟩ := ptc2 HK.out
      have L0 := Lib.hid (show L.length ≤ 100 by have := HLEN.out; omega)
      clear hlt
      go_wp2_with fail
      go_loopw [11] (fun kv wr => ∃ (k : Nat) (L : Ql), k ≤ M ∧ kv = .int .i64 (k : Nat) ∧ Hid (PoolW wr (w.heap.size + 1 + 1) (w.heap.size + 1) all each L) ∧ Hid (QB all each L) ∧ Hid (IR M L) ∧ Hid (L.length ≤ 100) ∧ Hid (∀ o : Nat, o < k → ofQ L (o : Int) = 0) ∧ Hid (Blk wr w.heap.size 46 #[.int .i64 (M : Nat), .slice A n c]) ∧ Hid (Below w.heap.size w wr)) (fun kv _ => M - (intOf kv).toNat)
      case atStart => exact ⟨0, L, Nat.zero_le _, rfl, HP, HQ, HI, L0, Lib.hid (fun o ho => absurd ho (Nat.not_lt_zero o)), HK, BB⟩
      case round =>
        clear HP HQ HI L0 HK BB HLEN kM kL
        obtain ⟨k, L, hk, rfl, HP, HQ, HI, HLEN, HZ, HK, BB⟩ := hrel
        obtain ⟨kM, kL⟩ := ptc2 HK.out
        by_cases hkM : k < M
        · have hkM' : (k : Int) < (M : Int) := by omega
          have hqd := HP.out.qd
          have CD := Lib.hid (qu_drop (w.heap.size + 1 + 1) (w.heap.size + 1) all each L (k : Int) wr HP.out HQ.out ⟨by omega, by omega⟩)
          rw [drop_eq] at CD
          have Q4 := Lib.hid (HQ.out.set_ hqd (k : Int) 0 (Nat.zero_le _) (by have := HQ.out.used; omega) (by have := HLEN.out; omega))
          have I4 := Lib.hid (HI.out.set hkM 0)
          have L4 := Lib.hid (show (setQ L (k : Int) 0).length ≤ 100 by have := len_set0 hqd (k : Int); have := HLEN.out; omega)
          have Z4 := Lib.hid (show ∀ o : Nat, o < k + 1 → ofQ (setQ L (k : Int) 0) (o : Int) = 0 from fun o ho => by
            rw [ofQ_setQ]
            by_cases e : o = k
            · rw [if_pos (by omega)]
            · rw [if_neg (by omega)]; exact HZ.out o (by omega))
          obtain ⟨L2, hL2⟩ : ∃ L2, L2 = setQ L (k : Int) 0 := ⟨_, rfl⟩
          rw [← hL2] at CD Q4 I4 L4 Z4
          clear hqd hL2
          go_wp2_with fail
          refine CD.out.mono ?_
          rintro e w4 ⟨rfl, h4, t4⟩
          have K4 := Lib.hid (t4.blk HK.out (by omega) (by omega))
          have P4 := Lib.hid h4
          have B4 := Lib.hid (BB.out.trans (t4.below BB.out.size (by omega) (by omega)))
          clear h4 t4 HK BB HP CD HQ HI HLEN HZ kM kL
          go_wp2_with fail
          go_roundw
          case rel => exact ⟨k + 1, L2, by omega, by go_num, P4, Q4, I4, L4, Z4, K4, B4⟩
          case measure => simp [intOf]; omega
        · obtain rfl : k = M := by omega
          have hnil : L = [] := gone HP.out.qd HI.out HZ.out
          subst hnil
          obtain ⟨f, hf⟩ : ∃ f, f = frN all each (k : Int) := ⟨_, rfl⟩
          have hfe : f = min (all / k) each := by rw [hf]; unfold frN; rw [if_neg (by omega), Int.toNat_natCast]
          have FA := Lib.hid (show f ≤ each by omega)
          have FB := Lib.hid (show k * f ≤ all by
            have h1 : f ≤ all / k := by omega
            have h2 := Nat.mul_le_mul_left k h1
            have h3 := Nat.mul_div_le all k
            omega)
          have HF := Lib.hid hf
          have hfb : f ≤ 1000000 := by omega
          clear HI HZ hf hfe hkM HLEN
          go_wp2_with fail
          go_loopw [12] (fun jv wr => ∃ (j : Nat) (L : Ql), j ≤ k ∧ jv = .int .i64 (j : Nat) ∧ Hid (PoolW wr (w.heap.size + 1 + 1) (w.heap.size + 1) all each L) ∧ Hid (QB all each L) ∧ Hid (L.length ≤ j) ∧ Hid (usedQ L = j * f) ∧ Hid (∀ o : Nat, j ≤ o → ofQ L (o : Int) = 0) ∧ Hid (Blk wr w.heap.size 46 #[.int .i64 (k : Nat), .slice A n c]) ∧ Hid (Below w.heap.size w wr)) (fun jv _ => k - (intOf jv).toNat)
          case atStart => exact ⟨0, [], Nat.zero_le _, rfl, HP, HQ, Lib.hid (Nat.zero_le _), Lib.hid (by rw [Nat.zero_mul]; rfl), Lib.hid (fun o _ => rfl), HK, BB⟩
          case round =>
            clear HP HQ HK BB kM kL
            obtain ⟨j, L, hj, rfl, HP, HQ, HLEN, HU, HZ, HK, BB⟩ := hrel
            obtain ⟨kM, kL⟩ := ptc2 HK.out
            by_cases hjk : j < k
            · have hjk' : (j : Int) < (k : Int) := by omega
              have hqd := HP.out.qd
              have CF := Lib.hid (qu_fair (w.heap.size + 1 + 1) (w.heap.size + 1) all each L (k : Int) wr HP.out HQ.out ⟨by omega, by omega⟩)
              rw [← HF.out] at CF
              have CT := Lib.hid (fun w' (hb : Below wr.heap.size wr w') => qu_take (w.heap.size + 1 + 1) (w.heap.size + 1) all each L (j : Int) (f : Int) w' (HP.out.into hb) HQ.out ⟨by omega, by omega⟩ ⟨by omega, by omega⟩)
              have hz := HZ.out j (Nat.le_refl _)
              have huj : usedQ L + f ≤ all := by
                have h1 : (j + 1) * f ≤ k * f := Nat.mul_le_mul_right f hjk
                have h2 := FB.out
                rw [HU.out]
                rw [Nat.add_mul] at h1
                omega
              have hok : tkOK all each L (j : Int) (f : Int) = true := decide_eq_true (by rw [hz]; have := FA.out; omega)
              have htk : tkL all each L (j : Int) (f : Int) = setQ L (j : Int) f := by unfold tkL; rw [hok, if_pos rfl, hz]; simp
              have Q4 := HQ.out.take hqd (j : Int) (f : Int) (by have := HLEN.out; omega)
              rw [htk] at Q4
              rw [hok, htk] at CT
              have Q4 := Lib.hid Q4
              have L4 := Lib.hid (show (setQ L (j : Int) f).length ≤ j + 1 by have := len_set_le hqd (j : Int) f; have := HLEN.out; omega)
              have U4 := Lib.hid (show usedQ (setQ L (j : Int) f) = (j + 1) * f by have := usedQ_setQ hqd (j : Int) f; rw [hz, HU.out] at this; rw [Nat.add_mul]; omega)
              have Z4 := Lib.hid (show ∀ o : Nat, j + 1 ≤ o → ofQ (setQ L (j : Int) f) (o : Int) = 0 from fun o ho => by rw [ofQ_setQ, if_neg (by omega)]; exact HZ.out o (by omega))
              obtain ⟨L2, hL2⟩ : ∃ L2, L2 = setQ L (j : Int) f := ⟨_, rfl⟩
              rw [← hL2] at CT Q4 L4 U4 Z4
              clear hqd hL2 hz huj hok htk
              go_wp2_with fail
              refine CF.out.mono ?_
              rintro e w3 ⟨rfl, hb3⟩
              have B3 := Lib.hid hb3
              have K3 := Lib.hid (Blk.below HK.out hb3 HK.out.lt)
              clear hb3
              go_wp2_with fail
              refine (CT.out _ B3.out).mono ?_
              rintro e w4 ⟨rfl, h4, t4⟩
              have K4 := Lib.hid (t4.blk K3.out (by omega) (by omega))
              have P4 := Lib.hid h4
              have B4 := Lib.hid ((BB.out.trans (B3.out.mono BB.out.size)).trans (t4.below (Nat.le_trans BB.out.size B3.out.size) (by omega) (by omega)))
              clear h4 t4 HK BB HP CT CF HQ HLEN HZ HU kM kL K3 B3
              go_wp2_with fail
              go_roundw
              case rel => exact ⟨j + 1, L2, by omega, by go_num, P4, Q4, L4, U4, Z4, K4, B4⟩
              case measure => simp [intOf]; omega
            · obtain rfl : j = k := by omega
              have CU := Lib.hid (qu_used (w.heap.size + 1 + 1) (w.heap.size + 1) all each L wr HP.out)
              have hus := HQ.out.used
              obtain ⟨u, hu⟩ : ∃ u, u = usedQ L := ⟨_, rfl⟩
              rw [← hu] at CU hus
              have hus' : (u : Int) ≤ (all : Int) := by omega
              clear hu HU hjk
              go_wp2_with fail
              refine CU.out.mono ?_
              rintro e w3 ⟨rfl, rfl⟩
              go_wp2_with fail
              refine (alive39 _).mono ?_
              rintro e w9 ⟨rfl, hb9⟩
              have B9 := Lib.hid (BB.out.trans (hb9.mono BB.out.size))
              go_wp2_with fail
              go_ret
              exact ⟨rfl, B9.out⟩
end Go.Proofs.Ytonindjpbegdgaa
