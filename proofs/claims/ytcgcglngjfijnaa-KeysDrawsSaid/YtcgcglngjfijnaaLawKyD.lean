/- Layer 9: the law KeysDraws answers true, and nothing that was there has turned. -/
import Derived.Test.YtcgcglngjfijnaaKy5
import Derived.Test.YtcgcglngjfijnaaSipLt
namespace Go.Proofs.Ytcgcglngjfijnaa
open Go.RowKit
set_option linter.unusedVariables false
set_option linter.unusedSimpArgs false
theorem mod64 (f k : Nat) : IntKind.u64.wrap ((f : Int) + (k : Int)) = (((f + k) % 18446744073709551616 : Nat) : Int) := by rw [IntKind.wrap_u64]; omega
set_option maxRecDepth 20000 in
set_option maxHeartbeats 4000000 in
theorem keysDraws_core (D : Nat → Nat) (p q k0 k1 f : Nat) (many : Int) (id : Nat) (w : World) (hf : f < 18446744073709551616) (hi : id < 256)
    (hRD : Hid (∀ (m : Nat) (w : World), m < 18446744073709551616 → Calls Try.prog 22 #[.agg #[.int .u64 (k0 : Nat), .int .u64 (k1 : Nat)], .int .u64 (m : Nat)] w fun e w' => e = .returned (.int .u64 (D m : Nat)) ∧ Below w.heap.size w w'))
    (hDD : Hid (∀ (m : Nat) (w : World), m < 18446744073709551616 → Calls Try.prog 23 #[.agg #[.int .u64 (k0 : Nat), .int .u64 (k1 : Nat)], .int .u64 (m : Nat)] w fun e w' => e = .returned (.int .u64 (D m : Nat)) ∧ Below w.heap.size w w'))
    (hDr : Hid (∀ (g m : Nat) (w : World), Blk w g 45 #[.int .u64 (k0 : Nat), .int .u64 (k1 : Nat), .int .u64 (m : Nat)] → m < 18446744073709551616 → Calls Try.prog 24 #[.pointer (some ⟨g, 0, none⟩)] w fun e w' => e = .returned (.int .u64 (D m : Nat)) ∧ Blk w' g 45 #[.int .u64 (k0 : Nat), .int .u64 (k1 : Nat), .int .u64 ((m + 1) % 18446744073709551616 : Nat)] ∧ Tou g w w'))
    (hF1 : Hid (∀ w : World, Calls Try.prog 25 #[.agg #[.int .u64 (k0 : Nat), .int .u64 (k1 : Nat)], .int .u8 (id : Nat)] w fun e w' => e = .returned (.agg #[.int .u64 (p : Nat), .int .u64 (q : Nat)]) ∧ Below w.heap.size w w'))
    (hF2 : Hid (∀ w : World, Calls Try.prog 26 #[.agg #[.int .u64 (k0 : Nat), .int .u64 (k1 : Nat)], .int .u8 (id : Nat)] w fun e w' => e = .returned (.agg #[.int .u64 (p : Nat), .int .u64 (q : Nat)]) ∧ Below w.heap.size w w')) :
    Calls Try.prog 5 #[.agg #[.int .u64 (k0 : Nat), .int .u64 (k1 : Nat)], .agg #[.int .u64 (f : Nat), .int .i64 many], .int .u8 id] w fun e w' => e = .returned (.bool true) ∧ Below w.heap.size w w' := by
  have HF := Lib.hid hf
  clear hf
  go_enter Try.func5, Try.ntmps5
  go_wp2_with fail
  have hk0 : Hid (Blk (w.alloc (.cells #[.int .u64 (k0 : Nat), .int .u64 (k1 : Nat)] 27)) (w.heap.size) 27 #[.int .u64 (k0 : Nat), .int .u64 (k1 : Nat)]) := Lib.hid ((Blk.new w 27 #[.int .u64 (k0 : Nat), .int .u64 (k1 : Nat)]))
  replace hk0 : Hid (Blk ((w.alloc (.cells #[.int .u64 (k0 : Nat), .int .u64 (k1 : Nat)] 27)).alloc (.cells #[.int .u64 (f : Nat), .int .i64 many] 43)) (w.heap.size) 27 #[.int .u64 (k0 : Nat), .int .u64 (k1 : Nat)]) := Lib.hid (hk0.out.alloc _)
  have hk1 : Hid (Blk ((w.alloc (.cells #[.int .u64 (k0 : Nat), .int .u64 (k1 : Nat)] 27)).alloc (.cells #[.int .u64 (f : Nat), .int .i64 many] 43)) (w.heap.size + 1) 43 #[.int .u64 (f : Nat), .int .i64 many]) := Lib.hid ((Blk.new (w.alloc (.cells #[.int .u64 (k0 : Nat), .int .u64 (k1 : Nat)] 27)) 43 #[.int .u64 (f : Nat), .int .i64 many]) |> fun h => by simpa using h)
  have b1 : Hid (Below w.heap.size w ((w.alloc (.cells #[.int .u64 (k0 : Nat), .int .u64 (k1 : Nat)] 27)).alloc (.cells #[.int .u64 (f : Nat), .int .i64 many] 43))) := Lib.hid (((Below.refl w.heap.size w).alloc (Nat.le_refl _) (.cells #[.int .u64 (k0 : Nat), .int .u64 (k1 : Nat)] 27)).alloc (by simp) (.cells #[.int .u64 (f : Nat), .int .i64 many] 43))
  have hz : ((w.alloc (.cells #[.int .u64 (k0 : Nat), .int .u64 (k1 : Nat)] 27)).alloc (.cells #[.int .u64 (f : Nat), .int .i64 many] 43)).heap.size = w.heap.size + 2 := by simp
  generalize ((w.alloc (.cells #[.int .u64 (k0 : Nat), .int .u64 (k1 : Nat)] 27)).alloc (.cells #[.int .u64 (f : Nat), .int .i64 many] 43)) = w2 at hk0 hk1 b1 hz ⊢
  have HZ := Lib.hid hz
  clear hz
  refine GH.wp_ghl (M := false) 6 ((GH.SP.eq (.pointer (some ⟨w.heap.size + 1, 0, none⟩))) :: (GH.SP.eq (.int .u64 (f : Nat))) :: (GH.SP.eq (.pointer (some ⟨w.heap.size + 1, 1, none⟩))) :: (GH.SP.eq (.int .i64 many)) :: (GH.SP.eq (.int .u64 (f : Nat))) :: (GH.SP.eq (.int .i64 many)) :: []) (none :: none :: none :: none :: none :: none :: none :: (some 4) :: (some 5) :: none :: none :: none :: none :: (some 0) :: (some 1) :: (some 2) :: (some 3) :: none :: none :: none :: none :: none :: none :: none :: none :: none :: none :: none :: none :: none :: none :: none :: none :: none :: none :: none :: none :: none :: none :: none :: none :: none :: none :: none :: none :: none :: none :: none :: none :: none :: none :: none :: none :: none :: none :: none :: none :: none :: none :: none :: none :: none :: none :: none :: none :: []) [13, 14, 15, 16, 7, 8] (by rfl) (by kernel_rfl) (by kernel_rfl) ?_ ?_ ?_
  · intro S j v hj
    match j, hj with
    | 0, _ => rfl
    | 1, _ => rfl
    | 2, _ => rfl
    | 3, _ => rfl
    | 4, _ => rfl
    | 5, _ => rfl
    | n + 6, hj => omega
  · intro j hj S w' hb hd
    match j, hj, hd with
    | 0, _, hd =>
      simp only [GH.mkL, List.getD_cons_succ, List.getD_cons_zero]
      clear hd
      refine GH.st_eq (by rfl) ?_
      go_simp
      (try with_reducible rfl)
    | 1, _, hd =>
      simp only [GH.mkL, List.getD_cons_succ, List.getD_cons_zero]
      have d0 : S 0 = .pointer (some ⟨w.heap.size + 1, 0, none⟩) := (hd 0 (by kernel_rfl)).2
      rw [d0]
      clear d0
      clear hd
      exact GH.st_load _ (by rfl) rfl rfl (((hk1.out.below hb.below hk1.out.lt)).cell 0) (by kernel_rfl)
    | 2, _, hd =>
      simp only [GH.mkL, List.getD_cons_succ, List.getD_cons_zero]
      clear hd
      refine GH.st_eq (by rfl) ?_
      go_simp
      (try with_reducible rfl)
    | 3, _, hd =>
      simp only [GH.mkL, List.getD_cons_succ, List.getD_cons_zero]
      have d2 : S 2 = .pointer (some ⟨w.heap.size + 1, 1, none⟩) := (hd 2 (by kernel_rfl)).2
      rw [d2]
      clear d2
      clear hd
      exact GH.st_load _ (by rfl) rfl rfl (((hk1.out.below hb.below hk1.out.lt)).cell 1) (by kernel_rfl)
    | 4, _, hd =>
      simp only [GH.mkL, List.getD_cons_succ, List.getD_cons_zero]
      have d0 : S 0 = .pointer (some ⟨w.heap.size + 1, 0, none⟩) := (hd 0 (by kernel_rfl)).2
      rw [d0]
      clear d0
      have d1 : S 1 = .int .u64 (f : Nat) := (hd 1 (by kernel_rfl)).2
      rw [d1]
      clear d1
      clear hd
      refine GH.st_eq (by rfl) ?_
      go_simp
      (try with_reducible rfl)
    | 5, _, hd =>
      simp only [GH.mkL, List.getD_cons_succ, List.getD_cons_zero]
      have d0 : S 0 = .pointer (some ⟨w.heap.size + 1, 0, none⟩) := (hd 0 (by kernel_rfl)).2
      rw [d0]
      clear d0
      have d1 : S 1 = .int .u64 (f : Nat) := (hd 1 (by kernel_rfl)).2
      rw [d1]
      clear d1
      have d2 : S 2 = .pointer (some ⟨w.heap.size + 1, 1, none⟩) := (hd 2 (by kernel_rfl)).2
      rw [d2]
      clear d2
      have d3 : S 3 = .int .i64 many := (hd 3 (by kernel_rfl)).2
      rw [d3]
      clear d3
      have d4 : S 4 = .int .u64 (f : Nat) := (hd 4 (by kernel_rfl)).2
      rw [d4]
      clear d4
      clear hd
      refine GH.st_eq (by rfl) ?_
      go_simp
      (try with_reducible rfl)
    | n + 6, hj, _ => omega
  intro S w' hb hG
  simp only [GH.mkL, List.drop_succ_cons, List.drop_zero]
  have d4 : S 4 = .int .u64 (f : Nat) := hG 4 (by omega)
  rw [d4]
  clear d4
  have d5 : S 5 = .int .i64 many := hG 5 (by omega)
  rw [d5]
  clear d5
  clear hG
  have KS := Lib.hid (hk0.out.below hb.below hk0.out.lt)
  have BF := Lib.hid (b1.out.trans (hb.below.mono b1.out.size))
  have HZ2 := Lib.hid (show w.heap.size + 2 ≤ w'.heap.size from by have := HZ.out; have := hb.below.size; omega)
  clear hk0 hk1 b1 hb HZ
  refine wpList_nil ?_
  by_cases hneg : many < 0
  · have d1 : decide (many < 0) = true := by simp; omega
    go_wp2_with fail
    go_ret
    exact ⟨rfl, BF.out⟩
  have d1 : decide (many < 0) = false := by simp; omega
  by_cases hbig : 100 < many
  · have d2 : decide (100 < many) = true := by simp; omega
    go_wp2_with fail
    go_ret
    exact ⟨rfl, BF.out⟩
  have d2 : decide (100 < many) = false := by simp; omega
  obtain ⟨n, hn⟩ : ∃ n : Nat, (n : Int) = many := ⟨many.toNat, by omega⟩
  subst hn
  have hn100 : n ≤ 100 := by omega
  clear hneg hbig
  have q0 : w'.cell? ⟨w.heap.size, 0, none⟩ = some (.int .u64 (k0 : Nat)) := KS.out.cell 0
  have q1 : w'.cell? ⟨w.heap.size, 1, none⟩ = some (.int .u64 (k1 : Nat)) := KS.out.cell 1
  go_wp2_with fail
  have HS0 := Lib.hid (Blk.new w' 45 #[.int .u64 (k0 : Nat), .int .u64 (k1 : Nat), .int .u64 (f : Nat)])
  have KS0 := Lib.hid (KS.out.alloc (.cells #[.int .u64 (k0 : Nat), .int .u64 (k1 : Nat), .int .u64 (f : Nat)] 45))
  have BF0 := Lib.hid (BF.out.alloc BF.out.size (.cells #[.int .u64 (k0 : Nat), .int .u64 (k1 : Nat), .int .u64 (f : Nat)] 45))
  clear q0 q1 KS BF d1 d2
  generalize w'.alloc (.cells #[.int .u64 (k0 : Nat), .int .u64 (k1 : Nat), .int .u64 (f : Nat)] 45) = w3 at HS0 KS0 BF0 ⊢
  generalize w'.heap.size = U at HS0 HZ2 ⊢
  have HU := Lib.hid (show (f + 0) % 18446744073709551616 = f from by have := HF.out; omega)
  go_loopw [10] (fun iv wr => ∃ k : Nat, k ≤ n ∧ iv = .int .i64 (k : Nat) ∧ Hid (Blk wr U 45 #[.int .u64 (k0 : Nat), .int .u64 (k1 : Nat), .int .u64 (((f + k) % 18446744073709551616 : Nat) : Int)]) ∧ Hid (Blk wr w.heap.size 27 #[.int .u64 (k0 : Nat), .int .u64 (k1 : Nat)]) ∧ Hid (Below w.heap.size w wr)) (fun iv _ => n - (intOf iv).toNat)
  case atStart => exact ⟨0, Nat.zero_le _, rfl, Lib.hid (by rw [HU.out]; exact HS0.out), KS0, BF0⟩
  case round =>
    obtain ⟨k, hk, rfl, HS, HK, HB⟩ := hrel
    by_cases hlt : k < n
    · have e1 : IntKind.u64.wrap (k : Int) = (k : Int) := by rw [IntKind.wrap_u64]; omega
      obtain ⟨m, hm⟩ : ∃ m, m = (f + k) % 18446744073709551616 := ⟨_, rfl⟩
      have e2 : IntKind.u64.wrap ((f : Int) + (k : Int)) = (m : Nat) := by rw [hm]; exact mod64 f k
      rw [← hm] at HS
      obtain ⟨m1, hm1⟩ : ∃ m1, m1 = (m + 1) % 18446744073709551616 := ⟨_, rfl⟩
      have e3 : IntKind.u64.wrap ((m : Int) + 1) = (m1 : Nat) := by rw [hm1]; exact mod64 m 1
      have HM := Lib.hid (show m < 18446744073709551616 from by omega)
      have HM1 := Lib.hid hm1
      have HMM := Lib.hid hm
      clear hm hm1
      have q0 : wr.cell? ⟨w.heap.size, 0, none⟩ = some (.int .u64 (k0 : Nat)) := HK.out.cell 0
      have q1 : wr.cell? ⟨w.heap.size, 1, none⟩ = some (.int .u64 (k1 : Nat)) := HK.out.cell 1
      go_wp2_with fail
      refine (hRD.out m wr HM.out).mono ?_
      rintro e w4 ⟨rfl, hb4⟩
      have HK4 := Lib.hid (HK.out.below hb4 HK.out.lt)
      have HS4 := Lib.hid (HS.out.below hb4 HS.out.lt)
      have HB4 := Lib.hid (HB.out.trans (hb4.mono HB.out.size))
      clear hb4 q0 q1 HK HS HB
      have q0 : w4.cell? ⟨w.heap.size, 0, none⟩ = some (.int .u64 (k0 : Nat)) := HK4.out.cell 0
      have q1 : w4.cell? ⟨w.heap.size, 1, none⟩ = some (.int .u64 (k1 : Nat)) := HK4.out.cell 1
      obtain ⟨y, hy⟩ : ∃ y, y = D m := ⟨_, rfl⟩
      rw [← hy]
      go_wp2_with fail
      refine (hDD.out m w4 HM.out).mono ?_
      rintro e w5 ⟨rfl, hb5⟩
      have HK5 := Lib.hid (HK4.out.below hb5 HK4.out.lt)
      have HS5 := Lib.hid (HS4.out.below hb5 HS4.out.lt)
      have HB5 := Lib.hid (HB4.out.trans (hb5.mono HB4.out.size))
      clear hb5 q0 q1 HK4 HS4 HB4
      rw [← hy]
      have HY := Lib.hid hy
      clear hy
      go_wp2_with fail
      refine (hDr.out U m w5 HS5.out HM.out).mono ?_
      rintro e w6 ⟨rfl, hs6, ht6⟩
      rw [← HY.out]
      rw [← HM1.out] at hs6
      have HK6 := Lib.hid (ht6.blk HK5.out (by have := HZ2.out; omega))
      have HB6 := Lib.hid (Tou.below HB5.out ht6 (by have := HZ2.out; omega))
      have q2 : w6.cell? ⟨U, 2, none⟩ = some (.int .u64 (m1 : Nat)) := hs6.cell 2
      have HS6 := Lib.hid hs6
      clear hs6 ht6 HK5 HB5
      go_wp2_with fail
      go_roundw
      case rel => exact ⟨k + 1, by omega, by go_num, Lib.hid (by rw [show (f + (k + 1)) % 18446744073709551616 = m1 from by have := HM1.out; have := HMM.out; omega]; exact HS6.out), HK6, HB6⟩
      case measure => simp [intOf]; omega
    · obtain rfl : k = n := by omega
      go_wp2_with fail
      refine GH.wp_ghl (M := false) 11 ((GH.SP.eq (.agg #[.int .u64 (k0 : Nat), .int .u64 (k1 : Nat)])) :: (GH.SP.eq (.int .u8 (id : Nat))) :: (GH.SP.eq (.agg #[.int .u64 (p : Nat), .int .u64 (q : Nat)])) :: (GH.SP.eq (.agg #[.int .u64 (k0 : Nat), .int .u64 (k1 : Nat)])) :: (GH.SP.eq (.int .u8 (id : Nat))) :: (GH.SP.eq (.agg #[.int .u64 (p : Nat), .int .u64 (q : Nat)])) :: (GH.SP.eq (.bool true)) :: (GH.SP.eq (.bool true)) :: (GH.SP.eq (.bool true)) :: (GH.SP.eq (.bool true)) :: (GH.SP.eq (.bool true)) :: []) (none :: none :: none :: none :: none :: none :: (some 10) :: none :: none :: none :: none :: none :: none :: none :: none :: none :: none :: none :: none :: none :: none :: none :: none :: none :: none :: none :: none :: none :: none :: none :: none :: none :: none :: none :: none :: none :: none :: none :: none :: none :: none :: none :: none :: none :: none :: none :: none :: none :: none :: none :: none :: none :: none :: none :: none :: (some 0) :: (some 1) :: (some 2) :: (some 3) :: (some 4) :: (some 5) :: (some 6) :: (some 7) :: (some 8) :: (some 9) :: []) [55, 56, 57, 58, 59, 60, 61, 62, 63, 64, 6] (by rfl) (by kernel_rfl) (by kernel_rfl) ?_ ?_ ?_
      · intro S j v hj
        match j, hj with
        | 0, _ => rfl
        | 1, _ => rfl
        | 2, _ => rfl
        | 3, _ => rfl
        | 4, _ => rfl
        | 5, _ => rfl
        | 6, _ => rfl
        | 7, _ => rfl
        | 8, _ => rfl
        | 9, _ => rfl
        | 10, _ => rfl
        | n + 11, hj => omega
      · intro j hj S w' hb hd
        match j, hj, hd with
        | 0, _, hd =>
          simp only [GH.mkL, List.getD_cons_succ, List.getD_cons_zero]
          clear hd
          exact GH.st_loads _ [.int .u64 (k0 : Nat), .int .u64 (k1 : Nat)] (by rfl) rfl rfl (((HK.out.below hb.below HK.out.lt)).loads 0 _ (by rfl)) (by kernel_rfl) (by kernel_rfl)
        | 1, _, hd =>
          simp only [GH.mkL, List.getD_cons_succ, List.getD_cons_zero]
          clear hd
          refine GH.st_eq (by rfl) ?_
          go_simp
          (try with_reducible rfl)
        | 2, _, hd =>
          simp only [GH.mkL, List.getD_cons_succ, List.getD_cons_zero]
          have d0 : S 0 = .agg #[.int .u64 (k0 : Nat), .int .u64 (k1 : Nat)] := (hd 0 (by kernel_rfl)).2
          rw [d0]
          clear d0
          have d1 : S 1 = .int .u8 (id : Nat) := (hd 1 (by kernel_rfl)).2
          rw [d1]
          clear d1
          clear hd
          refine GH.st_call (by rfl) hb.below.size (by go_simp) ((hF1.out w').mono ?_)
          rintro e w9 ⟨rfl, hb9⟩
          exact ⟨_, rfl, hb9, rfl⟩
        | 3, _, hd =>
          simp only [GH.mkL, List.getD_cons_succ, List.getD_cons_zero]
          clear hd
          exact GH.st_loads _ [.int .u64 (k0 : Nat), .int .u64 (k1 : Nat)] (by rfl) rfl rfl (((HK.out.below hb.below HK.out.lt)).loads 0 _ (by rfl)) (by kernel_rfl) (by kernel_rfl)
        | 4, _, hd =>
          simp only [GH.mkL, List.getD_cons_succ, List.getD_cons_zero]
          clear hd
          refine GH.st_eq (by rfl) ?_
          go_simp
          (try with_reducible rfl)
        | 5, _, hd =>
          simp only [GH.mkL, List.getD_cons_succ, List.getD_cons_zero]
          have d2 : S 2 = .agg #[.int .u64 (p : Nat), .int .u64 (q : Nat)] := (hd 2 (by kernel_rfl)).2
          rw [d2]
          clear d2
          have d3 : S 3 = .agg #[.int .u64 (k0 : Nat), .int .u64 (k1 : Nat)] := (hd 3 (by kernel_rfl)).2
          rw [d3]
          clear d3
          have d4 : S 4 = .int .u8 (id : Nat) := (hd 4 (by kernel_rfl)).2
          rw [d4]
          clear d4
          clear hd
          refine GH.st_call (by rfl) hb.below.size (by go_simp) ((hF2.out w').mono ?_)
          rintro e w9 ⟨rfl, hb9⟩
          exact ⟨_, rfl, hb9, rfl⟩
        | 6, _, hd =>
          simp only [GH.mkL, List.getD_cons_succ, List.getD_cons_zero]
          have d2 : S 2 = .agg #[.int .u64 (p : Nat), .int .u64 (q : Nat)] := (hd 2 (by kernel_rfl)).2
          rw [d2]
          clear d2
          have d5 : S 5 = .agg #[.int .u64 (p : Nat), .int .u64 (q : Nat)] := (hd 5 (by kernel_rfl)).2
          rw [d5]
          clear d5
          clear hd
          refine GH.st_eq (by rfl) ?_
          go_simp
          (try with_reducible rfl)
        | 7, _, hd =>
          simp only [GH.mkL, List.getD_cons_succ, List.getD_cons_zero]
          have d5 : S 5 = .agg #[.int .u64 (p : Nat), .int .u64 (q : Nat)] := (hd 5 (by kernel_rfl)).2
          rw [d5]
          clear d5
          have d6 : S 6 = .bool true := (hd 6 (by kernel_rfl)).2
          rw [d6]
          clear d6
          clear hd
          refine GH.st_eq (by rfl) ?_
          go_simp
          (try with_reducible rfl)
        | 8, _, hd =>
          simp only [GH.mkL, List.getD_cons_succ, List.getD_cons_zero]
          have d7 : S 7 = .bool true := (hd 7 (by kernel_rfl)).2
          rw [d7]
          clear d7
          clear hd
          refine GH.st_call (by rfl) hb.below.size (by go_simp) ((alive09_any w').mono ?_)
          rintro e w9 ⟨rfl, hb9⟩
          exact ⟨_, rfl, hb9, rfl⟩
        | 9, _, hd =>
          simp only [GH.mkL, List.getD_cons_succ, List.getD_cons_zero]
          have d7 : S 7 = .bool true := (hd 7 (by kernel_rfl)).2
          rw [d7]
          clear d7
          have d8 : S 8 = .bool true := (hd 8 (by kernel_rfl)).2
          rw [d8]
          clear d8
          clear hd
          refine GH.st_eq (by rfl) ?_
          go_simp
          (try with_reducible rfl)
        | 10, _, hd =>
          simp only [GH.mkL, List.getD_cons_succ, List.getD_cons_zero]
          have d0 : S 0 = .agg #[.int .u64 (k0 : Nat), .int .u64 (k1 : Nat)] := (hd 0 (by kernel_rfl)).2
          rw [d0]
          clear d0
          have d1 : S 1 = .int .u8 (id : Nat) := (hd 1 (by kernel_rfl)).2
          rw [d1]
          clear d1
          have d2 : S 2 = .agg #[.int .u64 (p : Nat), .int .u64 (q : Nat)] := (hd 2 (by kernel_rfl)).2
          rw [d2]
          clear d2
          have d3 : S 3 = .agg #[.int .u64 (k0 : Nat), .int .u64 (k1 : Nat)] := (hd 3 (by kernel_rfl)).2
          rw [d3]
          clear d3
          have d4 : S 4 = .int .u8 (id : Nat) := (hd 4 (by kernel_rfl)).2
          rw [d4]
          clear d4
          have d5 : S 5 = .agg #[.int .u64 (p : Nat), .int .u64 (q : Nat)] := (hd 5 (by kernel_rfl)).2
          rw [d5]
          clear d5
          have d6 : S 6 = .bool true := (hd 6 (by kernel_rfl)).2
          rw [d6]
          clear d6
          have d7 : S 7 = .bool true := (hd 7 (by kernel_rfl)).2
          rw [d7]
          clear d7
          have d8 : S 8 = .bool true := (hd 8 (by kernel_rfl)).2
          rw [d8]
          clear d8
          have d9 : S 9 = .bool true := (hd 9 (by kernel_rfl)).2
          rw [d9]
          clear d9
          clear hd
          refine GH.st_eq (by rfl) ?_
          go_simp
          (try with_reducible rfl)
        | n + 11, hj, _ => omega
      intro S w' hb hG
      simp only [GH.mkL, List.drop_succ_cons, List.drop_zero]
      have d10 : S 10 = .bool true := hG 10 (by omega)
      rw [d10]
      clear d10
      clear hG
      have BF := Lib.hid (HB.out.trans (hb.below.mono HB.out.size))
      clear HB hb
      refine wpList_nil ?_
      go_wp2_with fail
      go_ret
      exact ⟨rfl, BF.out⟩
theorem keysDraws_walk (k0 k1 f : Nat) (many : Int) (id : Nat) (w : World) (h0 : k0 < 18446744073709551616) (h1 : k1 < 18446744073709551616) (hf : f < 18446744073709551616) (hi : id < 256) :
    Calls Try.prog 5 #[.agg #[.int .u64 (k0 : Nat), .int .u64 (k1 : Nat)], .agg #[.int .u64 (f : Nat), .int .i64 many], .int .u8 id] w fun e w' => e = .returned (.bool true) ∧ Below w.heap.size w w' :=
  keysDraws_core (fun m => sumB k0 k1 (be m 8)) (kvA k0 k1 [102, id]) (kvB k0 k1 [102, id]) k0 k1 f many id w hf hi
    (Lib.hid fun m w hm => rdrawn_any k0 k1 m w h0 h1 hm) (Lib.hid fun m w hm => drawn_any k0 k1 m w h0 h1 hm) (Lib.hid fun g m w hb hm => draw_any g k0 k1 m w hb h0 h1 hm)
    (Lib.hid fun w => flow_any k0 k1 id w h0 h1 hi) (Lib.hid fun w => rflow_any k0 k1 id w h0 h1 hi)
end Go.Proofs.Ytcgcglngjfijnaa
