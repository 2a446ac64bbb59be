/- Layer 30: Check, where it answers that it is right. -/
import Derived.Test.YtbiimgfocgbdaaaDoorCk2
import Derived.Test.YtbiimgfocgbdaaaDoorUnd
import Derived.Deep.Cut
import Derived.Laws.Closers25
namespace Go.Proofs.YtbiimgfocgbdaaaDoor
open Go.RowKit
set_option linter.unusedVariables false
set_option linter.unusedSimpArgs false
/-- What a cookie is checked as. -/
def ckOk (k0 k1 : Nat) (p : Int) (lo re fi : Nat) (t : Int) (x : Nat) : Prop :=
  ckSay k0 k1 p lo re fi (ckEp t) (x / 16777216 % 8) = x ∨ (64 ≤ t ∧ ckSay k0 k1 p lo re fi (ckEp (t - 64)) (x / 16777216 % 8) = x)
theorem ckEp_eq {t : Int} (h0 : 0 ≤ t) (h1 : t < 274877906944) : (ckEp t : Int) = t / 64 := by
  unfold ckEp
  rw [show max t 0 = t by omega]
  omega
theorem ck_back (k0 k1 : Nat) (p : Int) (lo re fi : Nat) (t l m : Int) (h0 : 0 ≤ t) (h1 : t < 2147483648) (h2 : 0 ≤ l) (h3 : l ≤ 64) :
    ckOk k0 k1 p lo re fi (t + l) (ckSay k0 k1 p lo re fi (ckEp t) (ckNum m)) := by
  have hn : ckSay k0 k1 p lo re fi (ckEp t) (ckNum m) / 16777216 % 8 = ckNum m := ckMk_size (by have := ckNum_le m; omega)
  unfold ckOk
  rw [hn]
  have a1 := ckEp_eq h0 (by omega)
  have a2 := ckEp_eq (t := t + l) (by omega) (by omega)
  by_cases h : ckEp (t + l) = ckEp t
  · exact .inl (by rw [h])
  · have h64 : 64 ≤ t + l := by omega
    have a3 := ckEp_eq (t := t + l - 64) (by omega) (by omega)
    exact .inr ⟨h64, by rw [show ckEp (t + l - 64) = ckEp t by omega]⟩
set_option maxRecDepth 20000 in
set_option maxHeartbeats 4000000 in
theorem check_yes (k0 k1 : Nat) (p : Int) (lo re fi : Nat) (t : Int) (x : Nat) (w : World) (h0 : k0 < 18446744073709551616) (h1 : k1 < 18446744073709551616) (hlo : lo < 65536) (hre : re < 65536) (hfi : fi < 4294967296) (ht0 : -9223372036854775808 ≤ t) (ht1 : t < 9223372036854775808) (hx : x < 4294967296) (hT : Tz w) (hok : ckOk k0 k1 p lo re fi t x) :
    Calls Tryd.prog 4 #[.agg #[.int .u64 (k0 : Nat), .int .u64 (k1 : Nat)], .agg #[.int .i64 p, .int .u16 (lo : Nat), .int .u16 (re : Nat), .int .u32 (fi : Nat)], .int .i64 t, .int .u32 (x : Nat)] w fun e' w' => e' = .returned (.tuple #[.int .i64 (ckSz (x / 16777216 % 8) : Nat), .bool true]) ∧ Below w.heap.size w w' := by
  unfold ckOk at hok
  obtain ⟨n, hn⟩ : ∃ n, n = x / 16777216 % 8 := ⟨_, rfl⟩
  rw [← hn] at hok ⊢
  have hnl : n < 8 := by omega
  have hnv : (x : Int) / 16777216 % 8 = (n : Nat) := by omega
  obtain ⟨z, hz⟩ : ∃ z, z = ckSz n := ⟨_, rfl⟩
  obtain ⟨e1, he1⟩ : ∃ e, e = ckEp t := ⟨_, rfl⟩
  obtain ⟨e2, he2⟩ : ∃ e, e = ckEp (t - 64) := ⟨_, rfl⟩
  rw [← he1, ← he2] at hok
  have l1 : e1 < 4294967296 := by rw [he1]; exact ckEp_lt t
  have l2 : e2 < 4294967296 := by rw [he2]; exact ckEp_lt _
  have HE1 : Hid (∀ w', Calls Tryd.prog 9 #[.int .i64 t] w' fun e' w'' => e' = .returned (.int .u32 (e1 : Nat)) ∧ Below w'.heap.size w' w'') := Lib.hid (fun w' => by
    rw [he1]
    exact (epoch_any t w' ht0 ht1).mono (by rintro e' w'' ⟨rfl, rfl⟩; exact ⟨rfl, Below.refl _ _⟩))
  have HE2 : Hid (64 ≤ t → ∀ w', Calls Tryd.prog 9 #[.int .i64 (t - 64)] w' fun e' w'' => e' = .returned (.int .u32 (e2 : Nat)) ∧ Below w'.heap.size w' w'') := Lib.hid (fun h w' => by
    rw [he2]
    exact (epoch_any (t - 64) w' (by omega) (by omega)).mono (by rintro e' w'' ⟨rfl, rfl⟩; exact ⟨rfl, Below.refl _ _⟩))
  obtain ⟨x1, hx1⟩ : ∃ y, y = ckSay k0 k1 p lo re fi e1 n := ⟨_, rfl⟩
  have HX1 : Hid (∀ w', Calls Tryd.prog 8 #[.agg #[.int .u64 (k0 : Nat), .int .u64 (k1 : Nat)], .agg #[.int .i64 p, .int .u16 (lo : Nat), .int .u16 (re : Nat), .int .u32 (fi : Nat)], .int .u32 (e1 : Nat), .int .u32 (n : Nat)] w' fun e' w'' => e' = .returned (.int .u32 (x1 : Nat)) ∧ Below w'.heap.size w' w'') := Lib.hid (fun w' => by
    rw [hx1]
    exact say_any k0 k1 p lo re fi e1 n w' h0 h1 hlo hre hfi l1 hnl)
  have HX2 : Hid (ckSay k0 k1 p lo re fi e2 n = x → ∀ w', Calls Tryd.prog 8 #[.agg #[.int .u64 (k0 : Nat), .int .u64 (k1 : Nat)], .agg #[.int .i64 p, .int .u16 (lo : Nat), .int .u16 (re : Nat), .int .u32 (fi : Nat)], .int .u32 (e2 : Nat), .int .u32 (n : Nat)] w' fun e' w'' => e' = .returned (.int .u32 (x : Nat)) ∧ Below w'.heap.size w' w'') := Lib.hid (fun h w' => by
    have := say_any k0 k1 p lo re fi e2 n w' h0 h1 hlo hre hfi l2 hnl
    rw [h] at this
    exact this)
  rw [← hx1] at hok
  rw [← hz]
  have HOK := Lib.hid hok
  have HZ := Lib.hid hz
  clear hok hz hn he1 he2 hx1
  go_enter Tryd.func4, Tryd.ntmps4
  go_upto_region 1 with fail
  have hk0 : Hid (Blk (w.alloc (.cells #[.int .u64 (k0 : Nat), .int .u64 (k1 : Nat)] 24)) (w.heap.size) 24 #[.int .u64 (k0 : Nat), .int .u64 (k1 : Nat)]) := Lib.hid ((Blk.new w 24 #[.int .u64 (k0 : Nat), .int .u64 (k1 : Nat)]))
  replace hk0 : Hid (Blk ((w.alloc (.cells #[.int .u64 (k0 : Nat), .int .u64 (k1 : Nat)] 24)).alloc (.cells #[.int .i64 p, .int .u16 (lo : Nat), .int .u16 (re : Nat), .int .u32 (fi : Nat)] 28)) (w.heap.size) 24 #[.int .u64 (k0 : Nat), .int .u64 (k1 : Nat)]) := Lib.hid (hk0.out.alloc _)
  have hk1 : Hid (Blk ((w.alloc (.cells #[.int .u64 (k0 : Nat), .int .u64 (k1 : Nat)] 24)).alloc (.cells #[.int .i64 p, .int .u16 (lo : Nat), .int .u16 (re : Nat), .int .u32 (fi : Nat)] 28)) (w.heap.size + 1) 28 #[.int .i64 p, .int .u16 (lo : Nat), .int .u16 (re : Nat), .int .u32 (fi : Nat)]) := Lib.hid ((Blk.new (w.alloc (.cells #[.int .u64 (k0 : Nat), .int .u64 (k1 : Nat)] 24)) 28 #[.int .i64 p, .int .u16 (lo : Nat), .int .u16 (re : Nat), .int .u32 (fi : Nat)]) |> fun h => by simpa using h)
  have b1 : Hid (Below w.heap.size w ((w.alloc (.cells #[.int .u64 (k0 : Nat), .int .u64 (k1 : Nat)] 24)).alloc (.cells #[.int .i64 p, .int .u16 (lo : Nat), .int .u16 (re : Nat), .int .u32 (fi : Nat)] 28))) := Lib.hid (((Below.refl w.heap.size w).alloc (Nat.le_refl _) (.cells #[.int .u64 (k0 : Nat), .int .u64 (k1 : Nat)] 24)).alloc (by simp <;> omega) (.cells #[.int .i64 p, .int .u16 (lo : Nat), .int .u16 (re : Nat), .int .u32 (fi : Nat)] 28))
  have hz : ((w.alloc (.cells #[.int .u64 (k0 : Nat), .int .u64 (k1 : Nat)] 24)).alloc (.cells #[.int .i64 p, .int .u16 (lo : Nat), .int .u16 (re : Nat), .int .u32 (fi : Nat)] 28)).heap.size = w.heap.size + 2 := by simp
  generalize ((w.alloc (.cells #[.int .u64 (k0 : Nat), .int .u64 (k1 : Nat)] 24)).alloc (.cells #[.int .i64 p, .int .u16 (lo : Nat), .int .u16 (re : Nat), .int .u32 (fi : Nat)] 28)) = w2 at hk0 hk1 b1 hz ⊢
  have HZ9 := Lib.hid hz
  clear hz
  have HT := Lib.hid (hT.below b1.out)
  have KB := hk0
  have KA := hk1
  clear hk0 hk1 hT
  by_cases hq : x1 = x
  · have HQ := Lib.hid (show ((x1 : Int) == (x : Int)) = true from by rw [hq]; simp)
    clear hq HOK HE2 HX2
    go_upto_region 2 with fail
    refine GH.wp_ghl (M := false) 8 ((GH.SP.eq (.agg #[.int .u64 (k0 : Nat), .int .u64 (k1 : Nat)])) :: (GH.SP.eq (.agg #[.int .i64 p, .int .u16 (lo : Nat), .int .u16 (re : Nat), .int .u32 (fi : Nat)])) :: (GH.SP.eq (.int .i64 t)) :: (GH.SP.eq (.int .u32 (e1 : Nat))) :: (GH.SP.eq (.int .u32 (n : Nat))) :: (GH.SP.eq (.int .u32 (x1 : Nat))) :: (GH.SP.eq (.int .u32 (x : Nat))) :: (GH.SP.eq (.bool true)) :: []) (none :: none :: none :: none :: none :: none :: none :: none :: none :: none :: none :: none :: none :: none :: (some 0) :: (some 1) :: (some 2) :: (some 3) :: (some 4) :: (some 5) :: (some 6) :: (some 7) :: none :: none :: none :: none :: none :: none :: none :: none :: none :: none :: none :: none :: none :: none :: none :: none :: none :: none :: none :: []) [14, 15, 16, 17, 18, 19, 20, 21] (by rfl) (by kernel_rfl) (by kernel_rfl) ?_ ?_ ?_
    · intro S jx v hjx
      match jx, hjx with
      | 0, _ => rfl
      | 1, _ => rfl
      | 2, _ => rfl
      | 3, _ => rfl
      | 4, _ => rfl
      | 5, _ => rfl
      | 6, _ => rfl
      | 7, _ => rfl
      | nx + 8, hjx => omega
    · intro jx hjx S w' hb hd
      match jx, hjx, hd with
      | 0, _, hd =>
        simp only [GH.mkL, List.getD_cons_succ, List.getD_cons_zero]
        clear hd
        exact GH.st_loads _ [.int .u64 (k0 : Nat), .int .u64 (k1 : Nat)] (by rfl) rfl rfl (((KB.out.below hb.below KB.out.lt)).loads 0 _ (by rfl)) (by kernel_rfl) (by kernel_rfl)
      | 1, _, hd =>
        simp only [GH.mkL, List.getD_cons_succ, List.getD_cons_zero]
        clear hd
        exact GH.st_loads _ [.int .i64 p, .int .u16 (lo : Nat), .int .u16 (re : Nat), .int .u32 (fi : Nat)] (by rfl) rfl rfl (((KA.out.below hb.below KA.out.lt)).loads 0 _ (by rfl)) (by kernel_rfl) (by kernel_rfl)
      | 2, _, hd =>
        simp only [GH.mkL, List.getD_cons_succ, List.getD_cons_zero]
        clear hd
        refine GH.st_eq (by rfl) ?_
        go_simp
        (try with_reducible rfl)
      | 3, _, hd =>
        simp only [GH.mkL, List.getD_cons_succ, List.getD_cons_zero]
        have d2 : S 2 = .int .i64 t := (hd 2 (by kernel_rfl)).2
        rw [d2]
        clear d2
        clear hd
        refine GH.st_call (by rfl) hb.below.size (by go_simp) ((HE1.out w').mono ?_)
        rintro e w9 ⟨rfl, hb9⟩
        exact ⟨_, rfl, hb9, rfl⟩
      | 4, _, hd =>
        simp only [GH.mkL, List.getD_cons_succ, List.getD_cons_zero]
        clear hd
        refine GH.st_eq (by rfl) ?_
        go_simp
        (try with_reducible rfl)
      | 5, _, hd =>
        simp only [GH.mkL, List.getD_cons_succ, List.getD_cons_zero]
        have d0 : S 0 = .agg #[.int .u64 (k0 : Nat), .int .u64 (k1 : Nat)] := (hd 0 (by kernel_rfl)).2
        rw [d0]
        clear d0
        have d1 : S 1 = .agg #[.int .i64 p, .int .u16 (lo : Nat), .int .u16 (re : Nat), .int .u32 (fi : Nat)] := (hd 1 (by kernel_rfl)).2
        rw [d1]
        clear d1
        have d3 : S 3 = .int .u32 (e1 : Nat) := (hd 3 (by kernel_rfl)).2
        rw [d3]
        clear d3
        have d4 : S 4 = .int .u32 (n : Nat) := (hd 4 (by kernel_rfl)).2
        rw [d4]
        clear d4
        clear hd
        refine GH.st_call (by rfl) hb.below.size (by go_simp) ((HX1.out w').mono ?_)
        rintro e w9 ⟨rfl, hb9⟩
        exact ⟨_, rfl, hb9, rfl⟩
      | 6, _, hd =>
        simp only [GH.mkL, List.getD_cons_succ, List.getD_cons_zero]
        clear hd
        refine GH.st_eq (by rfl) ?_
        go_simp
        (try with_reducible rfl)
      | 7, _, hd =>
        simp only [GH.mkL, List.getD_cons_succ, List.getD_cons_zero]
        have d5 : S 5 = .int .u32 (x1 : Nat) := (hd 5 (by kernel_rfl)).2
        rw [d5]
        clear d5
        have d6 : S 6 = .int .u32 (x : Nat) := (hd 6 (by kernel_rfl)).2
        rw [d6]
        clear d6
        clear hd
        refine GH.st_eq (by rfl) ?_
        have hqd := HQ.out
        go_simp
        (try with_reducible rfl)
      | nx + 8, hjx, _ => omega
    intro S w' hb hG
    simp only [GH.mkL, List.drop_succ_cons, List.drop_zero]
    have d7 : S 7 = .bool true := hG 7 (by omega)
    rw [d7]
    clear d7
    clear hG
    have BF := Lib.hid (b1.out.trans (hb.below.mono b1.out.size))
    have hc := (HT.out.gr hb) n hnl
    rw [← HZ.out] at hc
    clear hb KB KA HE1 HX1 HT HQ
    go_wp2_with fail
    go_ret2
    exact ⟨by rfl, BF.out⟩
  · have hq2 : 64 ≤ t ∧ ckSay k0 k1 p lo re fi e2 n = x := HOK.out.resolve_left hq
    have HQ := Lib.hid (show ((x1 : Int) == (x : Int)) = false from by simp; omega)
    replace HE2 := Lib.hid (HE2.out hq2.1)
    replace HX2 := Lib.hid (HX2.out hq2.2)
    have h64 := hq2.1
    have H64 := Lib.hid h64
    have hw64 : IntKind.i64.wrap (t - 64) = t - 64 := by
      have := wrap_i64_ediv (t - 64) 1 (by omega) (by omega) (by omega)
      rwa [Int.ediv_one] at this
    clear hq hq2 HOK
    go_upto_region 2 with fail
    refine GH.wp_ghl (M := false) 8 ((GH.SP.eq (.agg #[.int .u64 (k0 : Nat), .int .u64 (k1 : Nat)])) :: (GH.SP.eq (.agg #[.int .i64 p, .int .u16 (lo : Nat), .int .u16 (re : Nat), .int .u32 (fi : Nat)])) :: (GH.SP.eq (.int .i64 t)) :: (GH.SP.eq (.int .u32 (e1 : Nat))) :: (GH.SP.eq (.int .u32 (n : Nat))) :: (GH.SP.eq (.int .u32 (x1 : Nat))) :: (GH.SP.eq (.int .u32 (x : Nat))) :: (GH.SP.eq (.bool false)) :: []) (none :: none :: none :: none :: none :: none :: none :: none :: none :: none :: none :: none :: none :: none :: (some 0) :: (some 1) :: (some 2) :: (some 3) :: (some 4) :: (some 5) :: (some 6) :: (some 7) :: none :: none :: none :: none :: none :: none :: none :: none :: none :: none :: none :: none :: none :: none :: none :: none :: none :: none :: none :: []) [14, 15, 16, 17, 18, 19, 20, 21] (by rfl) (by kernel_rfl) (by kernel_rfl) ?_ ?_ ?_
    · intro S jx v hjx
      match jx, hjx with
      | 0, _ => rfl
      | 1, _ => rfl
      | 2, _ => rfl
      | 3, _ => rfl
      | 4, _ => rfl
      | 5, _ => rfl
      | 6, _ => rfl
      | 7, _ => rfl
      | nx + 8, hjx => omega
    · intro jx hjx S w' hb hd
      match jx, hjx, hd with
      | 0, _, hd =>
        simp only [GH.mkL, List.getD_cons_succ, List.getD_cons_zero]
        clear hd
        exact GH.st_loads _ [.int .u64 (k0 : Nat), .int .u64 (k1 : Nat)] (by rfl) rfl rfl (((KB.out.below hb.below KB.out.lt)).loads 0 _ (by rfl)) (by kernel_rfl) (by kernel_rfl)
      | 1, _, hd =>
        simp only [GH.mkL, List.getD_cons_succ, List.getD_cons_zero]
        clear hd
        exact GH.st_loads _ [.int .i64 p, .int .u16 (lo : Nat), .int .u16 (re : Nat), .int .u32 (fi : Nat)] (by rfl) rfl rfl (((KA.out.below hb.below KA.out.lt)).loads 0 _ (by rfl)) (by kernel_rfl) (by kernel_rfl)
      | 2, _, hd =>
        simp only [GH.mkL, List.getD_cons_succ, List.getD_cons_zero]
        clear hd
        refine GH.st_eq (by rfl) ?_
        go_simp
        (try with_reducible rfl)
      | 3, _, hd =>
        simp only [GH.mkL, List.getD_cons_succ, List.getD_cons_zero]
        have d2 : S 2 = .int .i64 t := (hd 2 (by kernel_rfl)).2
        rw [d2]
        clear d2
        clear hd
        refine GH.st_call (by rfl) hb.below.size (by go_simp) ((HE1.out w').mono ?_)
        rintro e w9 ⟨rfl, hb9⟩
        exact ⟨_, rfl, hb9, rfl⟩
      | 4, _, hd =>
        simp only [GH.mkL, List.getD_cons_succ, List.getD_cons_zero]
        clear hd
        refine GH.st_eq (by rfl) ?_
        go_simp
        (try with_reducible rfl)
      | 5, _, hd =>
        simp only [GH.mkL, List.getD_cons_succ, List.getD_cons_zero]
        have d0 : S 0 = .agg #[.int .u64 (k0 : Nat), .int .u64 (k1 : Nat)] := (hd 0 (by kernel_rfl)).2
        rw [d0]
        clear d0
        have d1 : S 1 = .agg #[.int .i64 p, .int .u16 (lo : Nat), .int .u16 (re : Nat), .int .u32 (fi : Nat)] := (hd 1 (by kernel_rfl)).2
        rw [d1]
        clear d1
        have d3 : S 3 = .int .u32 (e1 : Nat) := (hd 3 (by kernel_rfl)).2
        rw [d3]
        clear d3
        have d4 : S 4 = .int .u32 (n : Nat) := (hd 4 (by kernel_rfl)).2
        rw [d4]
        clear d4
        clear hd
        refine GH.st_call (by rfl) hb.below.size (by go_simp) ((HX1.out w').mono ?_)
        rintro e w9 ⟨rfl, hb9⟩
        exact ⟨_, rfl, hb9, rfl⟩
      | 6, _, hd =>
        simp only [GH.mkL, List.getD_cons_succ, List.getD_cons_zero]
        clear hd
        refine GH.st_eq (by rfl) ?_
        go_simp
        (try with_reducible rfl)
      | 7, _, hd =>
        simp only [GH.mkL, List.getD_cons_succ, List.getD_cons_zero]
        have d5 : S 5 = .int .u32 (x1 : Nat) := (hd 5 (by kernel_rfl)).2
        rw [d5]
        clear d5
        have d6 : S 6 = .int .u32 (x : Nat) := (hd 6 (by kernel_rfl)).2
        rw [d6]
        clear d6
        clear hd
        refine GH.st_eq (by rfl) ?_
        have hqd := HQ.out
        go_simp
        (try with_reducible rfl)
      | nx + 8, hjx, _ => omega
    intro S w' hb hG
    simp only [GH.mkL, List.drop_succ_cons, List.drop_zero]
    have d7 : S 7 = .bool false := hG 7 (by omega)
    rw [d7]
    clear d7
    clear hG
    have KB3 := Lib.hid (KB.out.below hb.below KB.out.lt)
    have KA3 := Lib.hid (KA.out.below hb.below KA.out.lt)
    replace HT := Lib.hid (HT.out.gr hb)
    have B3 := Lib.hid (b1.out.trans (hb.below.mono b1.out.size))
    clear hb KB KA HE1 HX1 HQ b1
    generalize w' = w3 at *
    go_upto_region 4 with fail
    refine GH.wp_ghl (M := false) 13 ((GH.SP.eq (.int .i64 t)) :: (GH.SP.eq (.bool true)) :: (GH.SP.eq (.bool true)) :: (GH.SP.eq (.agg #[.int .u64 (k0 : Nat), .int .u64 (k1 : Nat)])) :: (GH.SP.eq (.agg #[.int .i64 p, .int .u16 (lo : Nat), .int .u16 (re : Nat), .int .u32 (fi : Nat)])) :: (GH.SP.eq (.int .i64 t)) :: (GH.SP.eq (.int .i64 (t - 64))) :: (GH.SP.eq (.int .u32 (e2 : Nat))) :: (GH.SP.eq (.int .u32 (n : Nat))) :: (GH.SP.eq (.int .u32 (x : Nat))) :: (GH.SP.eq (.int .u32 (x : Nat))) :: (GH.SP.eq (.bool true)) :: (GH.SP.eq (.bool true)) :: []) (none :: none :: none :: none :: none :: none :: none :: none :: none :: none :: none :: none :: none :: none :: none :: none :: none :: none :: none :: none :: none :: none :: none :: none :: none :: (some 0) :: (some 1) :: (some 2) :: (some 3) :: (some 4) :: (some 5) :: (some 6) :: (some 7) :: (some 8) :: (some 9) :: (some 10) :: (some 11) :: (some 12) :: none :: none :: none :: []) [25, 26, 27, 28, 29, 30, 31, 32, 33, 34, 35, 36, 37] (by rfl) (by kernel_rfl) (by kernel_rfl) ?_ ?_ ?_
    · intro S jx v hjx
      match jx, hjx with
      | 0, _ => rfl
      | 1, _ => rfl
      | 2, _ => rfl
      | 3, _ => rfl
      | 4, _ => rfl
      | 5, _ => rfl
      | 6, _ => rfl
      | 7, _ => rfl
      | 8, _ => rfl
      | 9, _ => rfl
      | 10, _ => rfl
      | 11, _ => rfl
      | 12, _ => rfl
      | nx + 13, hjx => omega
    · intro jx hjx S w' hb hd
      match jx, hjx, hd with
      | 0, _, hd =>
        simp only [GH.mkL, List.getD_cons_succ, List.getD_cons_zero]
        clear hd
        refine GH.st_eq (by rfl) ?_
        go_simp
        (try with_reducible rfl)
      | 1, _, hd =>
        simp only [GH.mkL, List.getD_cons_succ, List.getD_cons_zero]
        have d0 : S 0 = .int .i64 t := (hd 0 (by kernel_rfl)).2
        rw [d0]
        clear d0
        clear hd
        refine GH.st_eq (by rfl) ?_
        have hqd := H64.out
        go_simp
        (try with_reducible rfl)
      | 2, _, hd =>
        simp only [GH.mkL, List.getD_cons_succ, List.getD_cons_zero]
        have d1 : S 1 = .bool true := (hd 1 (by kernel_rfl)).2
        rw [d1]
        clear d1
        clear hd
        refine GH.st_eq (by rfl) ?_
        go_simp
        (try with_reducible rfl)
      | 3, _, hd =>
        simp only [GH.mkL, List.getD_cons_succ, List.getD_cons_zero]
        have d2 : S 2 = .bool true := (hd 2 (by kernel_rfl)).2
        rw [d2]
        clear d2
        clear hd
        exact GH.st_loads _ [.int .u64 (k0 : Nat), .int .u64 (k1 : Nat)] (by rfl) rfl rfl (((KB3.out.below hb.below KB3.out.lt)).loads 0 _ (by rfl)) (by kernel_rfl) (by kernel_rfl)
      | 4, _, hd =>
        simp only [GH.mkL, List.getD_cons_succ, List.getD_cons_zero]
        have d2 : S 2 = .bool true := (hd 2 (by kernel_rfl)).2
        rw [d2]
        clear d2
        clear hd
        exact GH.st_loads _ [.int .i64 p, .int .u16 (lo : Nat), .int .u16 (re : Nat), .int .u32 (fi : Nat)] (by rfl) rfl rfl (((KA3.out.below hb.below KA3.out.lt)).loads 0 _ (by rfl)) (by kernel_rfl) (by kernel_rfl)
      | 5, _, hd =>
        simp only [GH.mkL, List.getD_cons_succ, List.getD_cons_zero]
        have d2 : S 2 = .bool true := (hd 2 (by kernel_rfl)).2
        rw [d2]
        clear d2
        clear hd
        refine GH.st_eq (by rfl) ?_
        go_simp
        (try with_reducible rfl)
      | 6, _, hd =>
        simp only [GH.mkL, List.getD_cons_succ, List.getD_cons_zero]
        have d2 : S 2 = .bool true := (hd 2 (by kernel_rfl)).2
        rw [d2]
        clear d2
        have d5 : S 5 = .int .i64 t := (hd 5 (by kernel_rfl)).2
        rw [d5]
        clear d5
        clear hd
        refine GH.st_eq (by rfl) ?_
        go_simp
        (try with_reducible rfl)
      | 7, _, hd =>
        simp only [GH.mkL, List.getD_cons_succ, List.getD_cons_zero]
        have d2 : S 2 = .bool true := (hd 2 (by kernel_rfl)).2
        rw [d2]
        clear d2
        have d6 : S 6 = .int .i64 (t - 64) := (hd 6 (by kernel_rfl)).2
        rw [d6]
        clear d6
        clear hd
        refine GH.st_call (by rfl) hb.below.size (by go_simp) ((HE2.out w').mono ?_)
        rintro e w9 ⟨rfl, hb9⟩
        exact ⟨_, rfl, hb9, rfl⟩
      | 8, _, hd =>
        simp only [GH.mkL, List.getD_cons_succ, List.getD_cons_zero]
        have d2 : S 2 = .bool true := (hd 2 (by kernel_rfl)).2
        rw [d2]
        clear d2
        clear hd
        refine GH.st_eq (by rfl) ?_
        go_simp
        (try with_reducible rfl)
      | 9, _, hd =>
        simp only [GH.mkL, List.getD_cons_succ, List.getD_cons_zero]
        have d2 : S 2 = .bool true := (hd 2 (by kernel_rfl)).2
        rw [d2]
        clear d2
        have d3 : S 3 = .agg #[.int .u64 (k0 : Nat), .int .u64 (k1 : Nat)] := (hd 3 (by kernel_rfl)).2
        rw [d3]
        clear d3
        have d4 : S 4 = .agg #[.int .i64 p, .int .u16 (lo : Nat), .int .u16 (re : Nat), .int .u32 (fi : Nat)] := (hd 4 (by kernel_rfl)).2
        rw [d4]
        clear d4
        have d7 : S 7 = .int .u32 (e2 : Nat) := (hd 7 (by kernel_rfl)).2
        rw [d7]
        clear d7
        have d8 : S 8 = .int .u32 (n : Nat) := (hd 8 (by kernel_rfl)).2
        rw [d8]
        clear d8
        clear hd
        refine GH.st_call (by rfl) hb.below.size (by go_simp) ((HX2.out w').mono ?_)
        rintro e w9 ⟨rfl, hb9⟩
        exact ⟨_, rfl, hb9, rfl⟩
      | 10, _, hd =>
        simp only [GH.mkL, List.getD_cons_succ, List.getD_cons_zero]
        have d2 : S 2 = .bool true := (hd 2 (by kernel_rfl)).2
        rw [d2]
        clear d2
        clear hd
        refine GH.st_eq (by rfl) ?_
        go_simp
        (try with_reducible rfl)
      | 11, _, hd =>
        simp only [GH.mkL, List.getD_cons_succ, List.getD_cons_zero]
        have d2 : S 2 = .bool true := (hd 2 (by kernel_rfl)).2
        rw [d2]
        clear d2
        have d9 : S 9 = .int .u32 (x : Nat) := (hd 9 (by kernel_rfl)).2
        rw [d9]
        clear d9
        have d10 : S 10 = .int .u32 (x : Nat) := (hd 10 (by kernel_rfl)).2
        rw [d10]
        clear d10
        clear hd
        refine GH.st_eq (by rfl) ?_
        go_simp
        (try with_reducible rfl)
      | 12, _, hd =>
        simp only [GH.mkL, List.getD_cons_succ, List.getD_cons_zero]
        have d2 : S 2 = .bool true := (hd 2 (by kernel_rfl)).2
        rw [d2]
        clear d2
        have d11 : S 11 = .bool true := (hd 11 (by kernel_rfl)).2
        rw [d11]
        clear d11
        clear hd
        refine GH.st_eq (by rfl) ?_
        go_simp
        (try with_reducible rfl)
      | nx + 13, hjx, _ => omega
    intro S w' hb hG
    simp only [GH.mkL, List.drop_succ_cons, List.drop_zero]
    have d12 : S 12 = .bool true := hG 12 (by omega)
    rw [d12]
    clear d12
    clear hG
    have BF := Lib.hid (B3.out.trans (hb.below.mono B3.out.size))
    have hc := (HT.out.gr hb) n hnl
    rw [← HZ.out] at hc
    clear hb KB3 KA3 HE2 HX2 HT
    go_wp2_with fail
    go_ret2
    exact ⟨by rfl, BF.out⟩
end Go.Proofs.YtbiimgfocgbdaaaDoor
