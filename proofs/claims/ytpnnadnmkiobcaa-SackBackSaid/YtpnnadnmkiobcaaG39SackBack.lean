/- Package sack: a board; New, Wait, Blocks, join. -/
import Derived.Test.YtpnnadnmkiobcaaG32SackBack
import Derived.Test.YtpnnadnmkiobcaaG33SackBack
import Derived.Test.YtpnnadnmkiobcaaG25SackBack
import Derived.Test.YtpnnadnmkiobcaaG35SackBack
import Derived.Test.YtpnnadnmkiobcaaUnd
import Derived.Test.YtpnnadnmkiobcaaG10SackBack
import Derived.Test.YtpnnadnmkiobcaaG36SackBack
import Derived.Test.YtpnnadnmkiobcaaG38SackBack
import Derived.Deep.Cut

namespace Go.Proofs.Ytpnnadnmkiobcaa
open Go.RowKit
set_option linter.unusedVariables false
set_option linter.unusedSimpArgs false
/-- A board: what is waited for, how many pieces at most, the pieces as distances. -/
structure BdI (w : World) (g B : Nat) (W : Int) (most : Nat) (v : Value) (l : List Sp) : Prop where
  blk : Blk w g 79 #[.int .u32 W, .int .i64 (most : Int), v]
  own : w.ownsRow B 44 2 v l.length (bks (bdL W l))
  ok : BOk l
  len : l.length ≤ most
  ms : most ≤ 64
  u : U32 W
  bg : B ≤ g
section
variable {w w' : World} {g B most : Nat} {W : Int} {v : Value} {l : List Sp}
theorem BdI.cells (h : BdI w g B W most v l) : w.cell? ⟨g, 0, none⟩ = some (.int .u32 W) ∧ w.cell? ⟨g, 1, none⟩ = some (.int .i64 (most : Int)) ∧ w.cell? ⟨g, 2, none⟩ = some v := ptc3 h.blk
theorem BdI.lt (h : BdI w g B W most v l) : g < w.heap.size := h.blk.lt
theorem BdI.below {B' : Nat} (h : BdI w g B W most v l) (hb : Below B' w w') (hB : w.heap.size ≤ B') : BdI w' g B W most v l :=
  ⟨h.blk.below hb (Nat.lt_of_lt_of_le h.lt hB), own_below h.own hb fun g hg => Nat.lt_of_lt_of_le (h.own.lt g hg).2 hB, h.ok, h.len, h.ms, h.u, h.bg⟩
theorem BdI.into (h : BdI w g B W most v l) (hb : Below w.heap.size w w') : BdI w' g B W most v l := h.below hb (Nat.le_refl _)
theorem BdI.alloc (h : BdI w g B W most v l) (o : Obj) : BdI (w.alloc o) g B W most v l := h.into ((Below.refl _ _).alloc (Nat.le_refl _) _)
theorem BdI.solo {T : Nat} (h : BdI w g B W most v l) (hs : Solo T w w') (hg : g ≠ T) (hv : ∀ k, v.ownBlock = some k → k ≠ T) : BdI w' g B W most v l :=
  ⟨hs.blk h.blk hg, own_kept h.own fun k hk => hs.2.2 k (hv k hk), h.ok, h.len, h.ms, h.u, h.bg⟩
/-- The pieces of it. -/
theorem BdI.rd (h : BdI w g B W most v l) : ∃ A c, v = .slice A l.length c ∧ l.length ≤ c ∧ c ≤ maxLen ∧ Rd w w.heap.size 2 A l.length (bks (bdL W l)) := own_form h.own
end
theorem bnew_any (W m : Int) (w : World) (hW : U32 W) :
    Calls Try.prog 24 #[.int .u32 W, .int .i64 m] w fun e w' => e = .returned (.pointer (some ⟨w.heap.size, 0, none⟩)) ∧ BdI w' w.heap.size w.heap.size W (mostN m) (.slice none 0 0) [] ∧ Below w.heap.size w w' := by
  have fin : ∀ k : Nat, k ≤ 64 → BdI (w.alloc (.cells #[.int .u32 W, .int .i64 (k : Int), .slice none 0 0] 79)) w.heap.size w.heap.size W k (.slice none 0 0) [] := fun k hk =>
    ⟨Blk.new _ _ _, World.ownsRow_nil _ _ _ _, BOk.nil, Nat.zero_le _, hk, hW, Nat.le_refl _⟩
  have hb : ∀ o, Below w.heap.size w (w.alloc o) := fun o => (Below.refl _ _).alloc (Nat.le_refl _) _
  have FIN := Lib.hid fin
  have HB := Lib.hid hb
  unfold mostN
  clear fin hb
  by_cases h1 : m < 1
  · rw [if_pos h1]
    have h2 : max m 1 = 1 := by omega
    go_enter Try.func24, Try.ntmps24
    go_wp2_with fail
    go_ret
    exact ⟨rfl, FIN.out 1 (by omega), HB.out _⟩
  · rw [if_neg h1]
    by_cases h2 : 64 < m
    · rw [if_pos h2]
      go_enter Try.func24, Try.ntmps24
      go_wp2_with fail
      go_ret
      exact ⟨rfl, FIN.out 64 (by omega), HB.out _⟩
    · rw [if_neg h2]
      obtain ⟨k, rfl⟩ : ∃ k : Nat, m = (k : Int) := ⟨m.toNat, by omega⟩
      have hk : k ≤ 64 := by omega
      have hk1 : (1 : Int) ≤ k := by omega
      have hk2 : (k : Int) ≤ 64 := by omega
      clear h1 h2
      go_enter Try.func24, Try.ntmps24
      go_wp2_with fail
      go_ret
      exact ⟨rfl, FIN.out k hk, HB.out _⟩
theorem bwait_any (g B : Nat) (W : Int) (most : Nat) (v : Value) (l : List Sp) (w : World) (h : BdI w g B W most v l) :
    Calls Try.prog 27 #[.pointer (some ⟨g, 0, none⟩)] w fun e w' => e = .returned (.int .u32 W) ∧ w' = w := by
  obtain ⟨c0, c1, c2⟩ := h.cells
  clear h
  go_enter Try.func27, Try.ntmps27
  go_wp2_with fail
  go_ret
  exact ⟨rfl, rfl⟩
theorem bblocks_any (g B : Nat) (W : Int) (most : Nat) (v : Value) (l : List Sp) (w : World) (h : BdI w g B W most v l) :
    Calls Try.prog 26 #[.pointer (some ⟨g, 0, none⟩)] w fun e w' => (∃ v', e = .returned v' ∧ w'.ownsRow w.heap.size 44 2 v' l.length (bks (bdL W l))) ∧ Below w.heap.size w w' := by
  obtain ⟨c0, c1, c2⟩ := h.cells
  obtain ⟨A, c, rfl, hnc, hcm, hr⟩ := h.rd
  have hn : l.length ≤ 64 := Nat.le_trans h.len h.ms
  obtain ⟨n, hn9⟩ : ∃ n, n = l.length := ⟨_, rfl⟩
  rw [← hn9] at hr hn hnc c2 ⊢
  have HR := Lib.hid hr
  clear h hr hn9
  go_enter Try.func26, Try.ntmps26
  go_wp2_with fail
  refine (sckClone A n c w.heap.size _ w HR.out (Nat.le_refl _) (bks_one _) (by omega)).mono ?_
  rintro e w1 ⟨v', rfl, ho, hb⟩
  have HO := Lib.hid ho
  have HB := Lib.hid hb
  clear ho hb c0 c1 c2
  go_wp2_with fail
  go_ret
  exact ⟨⟨_, rfl, HO.out⟩, HB.out⟩
/-- Two pieces as one. -/
theorem sjoin_any (W : Int) (a b p q : Nat) (w : World) (ha : a ≤ 2000000000) (hb : b ≤ 2000000000) (hp : p ≤ 2000000000) (hq : q ≤ 2000000000) :
    Calls Try.prog 43 #[.agg #[.int .u32 (pl W a), .int .u32 (pl W b)], .agg #[.int .u32 (pl W p), .int .u32 (pl W q)]] w fun e w' => e = .returned (.agg #[.int .u32 (pl W (min a p)), .int .u32 (pl W (max b q))]) ∧ Below w.heap.size w w' := by
  have h1 : sd (pl W a) (pl W p) = (a : Int) - (p : Int) := sd_pl W ha hp
  have hm : mx (pl W b) (pl W q) = pl W (max b q) := by
    unfold mx
    rw [sd_pl W hb hq]
    by_cases h : (b : Int) - (q : Int) < 0
    · rw [if_pos h, show max b q = q by omega]
    · rw [if_neg h, show max b q = b by omega]
  obtain ⟨r, hr⟩ : ∃ r, r = pl W (max b q) := ⟨_, rfl⟩
  obtain ⟨x, hx⟩ : ∃ x, x = pl W a := ⟨_, rfl⟩
  obtain ⟨y, hy⟩ : ∃ y, y = pl W b := ⟨_, rfl⟩
  obtain ⟨z, hz⟩ : ∃ z, z = pl W p := ⟨_, rfl⟩
  obtain ⟨u, hu⟩ : ∃ u, u = pl W q := ⟨_, rfl⟩
  rw [← hy, ← hu, ← hr] at hm
  rw [← hx, ← hz] at h1
  have HMX : Hid (∀ w', Calls Try.prog 37 #[.int .u32 y, .int .u32 u] w' fun e w'' => e = .returned (.int .u32 r) ∧ Below w'.heap.size w' w'') := Lib.hid (fun w' => by
    rw [← hm]
    exact (max_any y u w').mono (by rintro e w'' ⟨rfl, rfl⟩; exact ⟨rfl, Below.refl _ _⟩))
  rw [← hy, ← hu, ← hr, ← hx, ← hz]
  have HS1 := Lib.hid h1
  have HZ1 : Hid (pl W (min a p) = if p < a then z else x) := Lib.hid (by
    by_cases h : p < a
    · rw [if_pos h, hz, show min a p = p by omega]
    · rw [if_neg h, hx, show min a p = a by omega])
  rw [HZ1.out]
  clear h1 hm hx hy hz hu hr HZ1
  go_enter Try.func43, Try.ntmps43
  go_upto_region 1 with fail
  have hk0 : Hid (Blk (w.alloc (.cells #[.int .u32 x, .int .u32 y] 44)) (w.heap.size) 44 #[.int .u32 x, .int .u32 y]) := Lib.hid ((Blk.new w 44 #[.int .u32 x, .int .u32 y]))
  replace hk0 : Hid (Blk ((w.alloc (.cells #[.int .u32 x, .int .u32 y] 44)).alloc (.cells #[.int .u32 z, .int .u32 u] 44)) (w.heap.size) 44 #[.int .u32 x, .int .u32 y]) := Lib.hid (hk0.out.alloc _)
  replace hk0 : Hid (Blk (((w.alloc (.cells #[.int .u32 x, .int .u32 y] 44)).alloc (.cells #[.int .u32 z, .int .u32 u] 44)).alloc (.cells #[.int .u32 0, .int .u32 0] 44)) (w.heap.size) 44 #[.int .u32 x, .int .u32 y]) := Lib.hid (hk0.out.alloc _)
  have hk1 : Hid (Blk ((w.alloc (.cells #[.int .u32 x, .int .u32 y] 44)).alloc (.cells #[.int .u32 z, .int .u32 u] 44)) (w.heap.size + 1) 44 #[.int .u32 z, .int .u32 u]) := Lib.hid ((Blk.new (w.alloc (.cells #[.int .u32 x, .int .u32 y] 44)) 44 #[.int .u32 z, .int .u32 u]) |> fun h => by simpa using h)
  replace hk1 : Hid (Blk (((w.alloc (.cells #[.int .u32 x, .int .u32 y] 44)).alloc (.cells #[.int .u32 z, .int .u32 u] 44)).alloc (.cells #[.int .u32 0, .int .u32 0] 44)) (w.heap.size + 1) 44 #[.int .u32 z, .int .u32 u]) := Lib.hid (hk1.out.alloc _)
  have hk2 : Hid (Blk (((w.alloc (.cells #[.int .u32 x, .int .u32 y] 44)).alloc (.cells #[.int .u32 z, .int .u32 u] 44)).alloc (.cells #[.int .u32 0, .int .u32 0] 44)) (w.heap.size + 2) 44 #[.int .u32 0, .int .u32 0]) := Lib.hid ((Blk.new ((w.alloc (.cells #[.int .u32 x, .int .u32 y] 44)).alloc (.cells #[.int .u32 z, .int .u32 u] 44)) 44 #[.int .u32 0, .int .u32 0]) |> fun h => by simpa using h)
  have b1 : Hid (Below w.heap.size w (((w.alloc (.cells #[.int .u32 x, .int .u32 y] 44)).alloc (.cells #[.int .u32 z, .int .u32 u] 44)).alloc (.cells #[.int .u32 0, .int .u32 0] 44))) := Lib.hid ((((Below.refl w.heap.size w).alloc (Nat.le_refl _) (.cells #[.int .u32 x, .int .u32 y] 44)).alloc (by simp <;> omega) (.cells #[.int .u32 z, .int .u32 u] 44)).alloc (by simp <;> omega) (.cells #[.int .u32 0, .int .u32 0] 44))
  have hz : (((w.alloc (.cells #[.int .u32 x, .int .u32 y] 44)).alloc (.cells #[.int .u32 z, .int .u32 u] 44)).alloc (.cells #[.int .u32 0, .int .u32 0] 44)).heap.size = w.heap.size + 3 := by simp
  generalize (((w.alloc (.cells #[.int .u32 x, .int .u32 y] 44)).alloc (.cells #[.int .u32 z, .int .u32 u] 44)).alloc (.cells #[.int .u32 0, .int .u32 0] 44)) = w2 at hk0 hk1 hk2 b1 hz ⊢
  have HZ := Lib.hid hz
  clear hz
  have KA := hk0
  have KB := hk1
  have KC := hk2
  clear hk0 hk1 hk2 HZ
  obtain ⟨a0, a1⟩ := ptc2 KA.out
  obtain ⟨b0, b1'⟩ := ptc2 KB.out
  go_wp2_with fail
  refine (sahead_any x z w2).mono ?_
  rintro e w3 ⟨rfl, rfl⟩
  rw [HS1.out]
  by_cases hpa : p < a
  · have hd : (0 : Int) < (a : Int) - (p : Int) := by omega
    have HZ2 := Lib.hid (if_pos hpa : (if p < a then z else x) = z)
    have fa := KA.out.frozen 0
    go_upto_region 3 with fail
    clear a0 a1 b0 b1' fa
    have hs : Solo w.heap.size w3 (w3.setCell ⟨w.heap.size, 0, none⟩ (.int .u32 z)) := Solo.refl.setCell 0 _
    have KA2 : Hid (Blk (w3.setCell ⟨w.heap.size, 0, none⟩ (.int .u32 z)) w.heap.size 44 #[.int .u32 z, .int .u32 y]) := Lib.hid (KA.out.set 0 _)
    replace KB := Lib.hid (hs.blk KB.out (by omega))
    replace KC := Lib.hid (hs.blk KC.out (by omega))
    replace b1 := Lib.hid (b1.out.trans hs.1)
    clear hs KA
    generalize w3.setCell ⟨w.heap.size, 0, none⟩ (.int .u32 z) = w4 at *
    refine GH.wp_ghl2 (M := false) 8 ((GH.SP.eq (.pointer (some ⟨w.heap.size, 0, none⟩))) :: (GH.SP.eq (.int .u32 z)) :: (GH.SP.eq (.pointer (some ⟨w.heap.size, 1, none⟩))) :: (GH.SP.eq (.int .u32 y)) :: (GH.SP.eq (.pointer (some ⟨w.heap.size + 1, 1, none⟩))) :: (GH.SP.eq (.int .u32 u)) :: (GH.SP.eq (.int .u32 r)) :: (GH.SP.eq (.agg #[.int .u32 z, .int .u32 r])) :: []) (none :: none :: none :: none :: none :: none :: none :: none :: none :: none :: none :: none :: none :: (some 0) :: (some 1) :: (some 2) :: (some 3) :: (some 4) :: (some 5) :: (some 6) :: (some 7) :: []) [13, 14, 15, 16, 17, 18, 19, 20] (by rfl) (by kernel_rfl) (by kernel_rfl) ?_ ?_ ?_
    · intro S jx v hjx
      match jx, hjx with
      | 0, _ => rfl
      | 1, _ => rfl
      | 2, _ => rfl
      | 3, _ => rfl
      | 4, _ => rfl
      | 5, _ => rfl
      | 6, _ => rfl
      | 7, _ => rfl
      | nx + 8, hjx => omega
    · intro jx hjx S w' hb hd
      match jx, hjx, hd with
      | 0, _, hd =>
        simp only [GH.mkL, List.getD_cons_succ, List.getD_cons_zero]
        clear hd
        refine GH.st_eq (by rfl) ?_
        go_simp
        (try with_reducible rfl)
      | 1, _, hd =>
        simp only [GH.mkL, List.getD_cons_succ, List.getD_cons_zero]
        have d0 : S 0 = .pointer (some ⟨w.heap.size, 0, none⟩) := (hd 0 (by kernel_rfl)).2
        rw [d0]
        clear d0
        clear hd
        exact GH.st_load _ (by rfl) rfl rfl (((KA2.out.below hb.below KA2.out.lt)).cell 0) (by kernel_rfl)
      | 2, _, hd =>
        simp only [GH.mkL, List.getD_cons_succ, List.getD_cons_zero]
        clear hd
        refine GH.st_eq (by rfl) ?_
        go_simp
        (try with_reducible rfl)
      | 3, _, hd =>
        simp only [GH.mkL, List.getD_cons_succ, List.getD_cons_zero]
        have d2 : S 2 = .pointer (some ⟨w.heap.size, 1, none⟩) := (hd 2 (by kernel_rfl)).2
        rw [d2]
        clear d2
        clear hd
        exact GH.st_load _ (by rfl) rfl rfl (((KA2.out.below hb.below KA2.out.lt)).cell 1) (by kernel_rfl)
      | 4, _, hd =>
        simp only [GH.mkL, List.getD_cons_succ, List.getD_cons_zero]
        clear hd
        refine GH.st_eq (by rfl) ?_
        go_simp
        (try with_reducible rfl)
      | 5, _, hd =>
        simp only [GH.mkL, List.getD_cons_succ, List.getD_cons_zero]
        have d4 : S 4 = .pointer (some ⟨w.heap.size + 1, 1, none⟩) := (hd 4 (by kernel_rfl)).2
        rw [d4]
        clear d4
        clear hd
        exact GH.st_load _ (by rfl) rfl rfl (((KB.out.below hb.below KB.out.lt)).cell 1) (by kernel_rfl)
      | 6, _, hd =>
        simp only [GH.mkL, List.getD_cons_succ, List.getD_cons_zero]
        have d3 : S 3 = .int .u32 y := (hd 3 (by kernel_rfl)).2
        rw [d3]
        clear d3
        have d5 : S 5 = .int .u32 u := (hd 5 (by kernel_rfl)).2
        rw [d5]
        clear d5
        clear hd
        refine GH.st_call (by rfl) hb.below.size (by go_simp) ((HMX.out w').mono ?_)
        rintro e w9 ⟨rfl, hb9⟩
        exact ⟨_, rfl, hb9, rfl⟩
      | 7, _, hd =>
        simp only [GH.mkL, List.getD_cons_succ, List.getD_cons_zero]
        have d1 : S 1 = .int .u32 z := (hd 1 (by kernel_rfl)).2
        rw [d1]
        clear d1
        have d6 : S 6 = .int .u32 r := (hd 6 (by kernel_rfl)).2
        rw [d6]
        clear d6
        clear hd
        refine GH.st_eq (by rfl) ?_
        go_simp
        (try with_reducible rfl)
      | nx + 8, hjx, _ => omega
    intro S w' hb hG
    simp only [GH.mkL, List.drop_succ_cons, List.drop_zero]
    have d7 : S 7 = .agg #[.int .u32 z, .int .u32 r] := hG 7 (by omega)
    rw [d7]
    clear d7
    clear hG
    have BF := Lib.hid (b1.out.trans (hb.below.mono b1.out.size))
    have KCr := Lib.hid (KC.out.below hb.below KC.out.lt)
    clear hb KA2 KB KC
    have fc0 := KCr.out.frozen 0
    have fc1 := KCr.out.frozen 1
    obtain ⟨z0, z1⟩ := ptc2 KCr.out
    go_wp2_with fail
    have k2 := Lib.hid ((KCr.out.set 0 (.int .u32 z)).set 1 (.int .u32 r))
    have hs : Solo (w.heap.size + 2) w' ((w'.setCell ⟨w.heap.size + 2, 0, none⟩ (.int .u32 z)).setCell ⟨w.heap.size + 2, 1, none⟩ (.int .u32 r)) := (Solo.refl.setCell 0 _).setCell 1 _
    exact bodyPost_ret (results_agg Try.results43 k2.out (by rfl) (by kernel_rfl) (by kernel_rfl)) rfl ⟨by first | rfl | (rw [HZ2.out]; rfl), BF.out.trans (hs.1.mono (by omega))⟩
  · have hd : ¬ (0 : Int) < (a : Int) - (p : Int) := by omega
    have HZ2 := Lib.hid (if_neg hpa : (if p < a then z else x) = x)
    go_upto_region 3 with fail
    clear a0 a1 b0 b1'
    refine GH.wp_ghl2 (M := false) 8 ((GH.SP.eq (.pointer (some ⟨w.heap.size, 0, none⟩))) :: (GH.SP.eq (.int .u32 x)) :: (GH.SP.eq (.pointer (some ⟨w.heap.size, 1, none⟩))) :: (GH.SP.eq (.int .u32 y)) :: (GH.SP.eq (.pointer (some ⟨w.heap.size + 1, 1, none⟩))) :: (GH.SP.eq (.int .u32 u)) :: (GH.SP.eq (.int .u32 r)) :: (GH.SP.eq (.agg #[.int .u32 x, .int .u32 r])) :: []) (none :: none :: none :: none :: none :: none :: none :: none :: none :: none :: none :: none :: none :: (some 0) :: (some 1) :: (some 2) :: (some 3) :: (some 4) :: (some 5) :: (some 6) :: (some 7) :: []) [13, 14, 15, 16, 17, 18, 19, 20] (by rfl) (by kernel_rfl) (by kernel_rfl) ?_ ?_ ?_
    · intro S jx v hjx
      match jx, hjx with
      | 0, _ => rfl
      | 1, _ => rfl
      | 2, _ => rfl
      | 3, _ => rfl
      | 4, _ => rfl
      | 5, _ => rfl
      | 6, _ => rfl
      | 7, _ => rfl
      | nx + 8, hjx => omega
    · intro jx hjx S w' hb hd
      match jx, hjx, hd with
      | 0, _, hd =>
        simp only [GH.mkL, List.getD_cons_succ, List.getD_cons_zero]
        clear hd
        refine GH.st_eq (by rfl) ?_
        go_simp
        (try with_reducible rfl)
      | 1, _, hd =>
        simp only [GH.mkL, List.getD_cons_succ, List.getD_cons_zero]
        have d0 : S 0 = .pointer (some ⟨w.heap.size, 0, none⟩) := (hd 0 (by kernel_rfl)).2
        rw [d0]
        clear d0
        clear hd
        exact GH.st_load _ (by rfl) rfl rfl (((KA.out.below hb.below KA.out.lt)).cell 0) (by kernel_rfl)
      | 2, _, hd =>
        simp only [GH.mkL, List.getD_cons_succ, List.getD_cons_zero]
        clear hd
        refine GH.st_eq (by rfl) ?_
        go_simp
        (try with_reducible rfl)
      | 3, _, hd =>
        simp only [GH.mkL, List.getD_cons_succ, List.getD_cons_zero]
        have d2 : S 2 = .pointer (some ⟨w.heap.size, 1, none⟩) := (hd 2 (by kernel_rfl)).2
        rw [d2]
        clear d2
        clear hd
        exact GH.st_load _ (by rfl) rfl rfl (((KA.out.below hb.below KA.out.lt)).cell 1) (by kernel_rfl)
      | 4, _, hd =>
        simp only [GH.mkL, List.getD_cons_succ, List.getD_cons_zero]
        clear hd
        refine GH.st_eq (by rfl) ?_
        go_simp
        (try with_reducible rfl)
      | 5, _, hd =>
        simp only [GH.mkL, List.getD_cons_succ, List.getD_cons_zero]
        have d4 : S 4 = .pointer (some ⟨w.heap.size + 1, 1, none⟩) := (hd 4 (by kernel_rfl)).2
        rw [d4]
        clear d4
        clear hd
        exact GH.st_load _ (by rfl) rfl rfl (((KB.out.below hb.below KB.out.lt)).cell 1) (by kernel_rfl)
      | 6, _, hd =>
        simp only [GH.mkL, List.getD_cons_succ, List.getD_cons_zero]
        have d3 : S 3 = .int .u32 y := (hd 3 (by kernel_rfl)).2
        rw [d3]
        clear d3
        have d5 : S 5 = .int .u32 u := (hd 5 (by kernel_rfl)).2
        rw [d5]
        clear d5
        clear hd
        refine GH.st_call (by rfl) hb.below.size (by go_simp) ((HMX.out w').mono ?_)
        rintro e w9 ⟨rfl, hb9⟩
        exact ⟨_, rfl, hb9, rfl⟩
      | 7, _, hd =>
        simp only [GH.mkL, List.getD_cons_succ, List.getD_cons_zero]
        have d1 : S 1 = .int .u32 x := (hd 1 (by kernel_rfl)).2
        rw [d1]
        clear d1
        have d6 : S 6 = .int .u32 r := (hd 6 (by kernel_rfl)).2
        rw [d6]
        clear d6
        clear hd
        refine GH.st_eq (by rfl) ?_
        go_simp
        (try with_reducible rfl)
      | nx + 8, hjx, _ => omega
    intro S w' hb hG
    simp only [GH.mkL, List.drop_succ_cons, List.drop_zero]
    have d7 : S 7 = .agg #[.int .u32 x, .int .u32 r] := hG 7 (by omega)
    rw [d7]
    clear d7
    clear hG
    have BF := Lib.hid (b1.out.trans (hb.below.mono b1.out.size))
    have KCr := Lib.hid (KC.out.below hb.below KC.out.lt)
    clear hb KA KB KC
    have fc0 := KCr.out.frozen 0
    have fc1 := KCr.out.frozen 1
    obtain ⟨z0, z1⟩ := ptc2 KCr.out
    go_wp2_with fail
    have k2 := Lib.hid ((KCr.out.set 0 (.int .u32 x)).set 1 (.int .u32 r))
    have hs : Solo (w.heap.size + 2) w' ((w'.setCell ⟨w.heap.size + 2, 0, none⟩ (.int .u32 x)).setCell ⟨w.heap.size + 2, 1, none⟩ (.int .u32 r)) := (Solo.refl.setCell 0 _).setCell 1 _
    exact bodyPost_ret (results_agg Try.results43 k2.out (by rfl) (by kernel_rfl) (by kernel_rfl)) rfl ⟨by first | rfl | (rw [HZ2.out]; rfl), BF.out.trans (hs.1.mono (by omega))⟩
end Go.Proofs.Ytpnnadnmkiobcaa
