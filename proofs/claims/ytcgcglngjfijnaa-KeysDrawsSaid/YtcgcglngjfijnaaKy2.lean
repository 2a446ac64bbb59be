/- Package keys: handshakes, further paths, draws; the document's. -/
import Derived.Test.YtcgcglngjfijnaaKy1
import Derived.Test.YtcgcglngjfijnaaSip11
import Derived.Test.YtcgcglngjfijnaaPk2
import Derived.Test.YtcgcglngjfijnaaPkQ
import Derived.Test.YtcgcglngjfijnaaPk6
import Derived.Deep.Cut
namespace Go.Proofs.Ytcgcglngjfijnaa
open Go.RowKit
set_option linter.unusedVariables false
set_option linter.unusedSimpArgs false
/-- pack.Put of no bytes. -/
theorem put_nil (n c : Nat) (A : Option Addr) (l : List (Int × Nat)) (w : World) (hs : Rd w w.heap.size 2 A n (fs l)) (hn : n ≤ 100) (h64 : ∀ p ∈ l, p.2 < 18446744073709551616) :
    Calls Try.prog 69 #[.slice none 0 0, .slice A n c] w fun e w' => ∃ v, e = .returned v ∧ Below w.heap.size w w' ∧ ∀ M, (GH.SP.ns (M := M) .u8 (fbs l)).G v w' := by
  refine (pput_any none A 0 n 0 c [] l w (Rd.nil _ _ _ _) hs (by omega) h64).mono ?_
  rintro e w' ⟨v, rfl, h1, h2⟩
  exact ⟨v, rfl, h2, fun M => GH.ns_of_own h1⟩
theorem fbs_q (a : Nat) : fbs [(8, a)] = be a 8 := by simp [fbs, okS]
def pathL (a b : Nat) : List Nat := be a 4 ++ be b 4
theorem fbs_ww (a b : Nat) : fbs [(4, a), (4, b)] = pathL a b := by simp [fbs, okS, pathL]
theorem pathL_byte (a b : Nat) : ∀ x ∈ pathL a b, x < 256 := fun x hx => by
  unfold pathL at hx
  rcases List.mem_append.1 hx with h | h <;> exact be_byte _ _ x h
theorem pathL_len (a b : Nat) : (pathL a b).length = 8 := by simp [pathL, be_len]
/-- One byte row under a key. -/
theorem pair_row (k0 k1 n c : Nat) (A : Option Addr) (l : List Nat) (w : World) (h0 : k0 < 18446744073709551616) (h1 : k1 < 18446744073709551616) (hp : Pts w w.heap.size A n [l]) (hnc : n ≤ c) (hn : [l].length = n) (hb : ∀ x ∈ l, x < 256) (hl : l.length ≤ 1000) :
    Calls Try.prog 65 #[.agg #[.int .u64 k0, .int .u64 k1], .slice A n c] w fun e w' => e = .returned (.agg #[.int .u64 (kvA k0 k1 l : Nat), .int .u64 (kvB k0 k1 l : Nat)]) ∧ Below w.heap.size w w' :=
  pair_one k0 k1 n c A l w h0 h1 hp hnc hn (by simpa using hb) hl
theorem sum_row (k0 k1 n c : Nat) (A : Option Addr) (l : List Nat) (w : World) (h0 : k0 < 18446744073709551616) (h1 : k1 < 18446744073709551616) (hp : Pts w w.heap.size A n [l]) (hnc : n ≤ c) (hn : [l].length = n) (hb : ∀ x ∈ l, x < 256) (hl : l.length ≤ 1000) :
    Calls Try.prog 66 #[.agg #[.int .u64 k0, .int .u64 k1], .slice A n c] w fun e w' => e = .returned (.int .u64 (sumB k0 k1 l : Nat)) ∧ Below w.heap.size w w' :=
  sum_one k0 k1 n c A l w h0 h1 hp hnc hn (by simpa using hb) hl
theorem rpair_row (k0 k1 n c : Nat) (A : Option Addr) (l : List Nat) (w : World) (h0 : k0 < 18446744073709551616) (h1 : k1 < 18446744073709551616) (hr : Rd w w.heap.size 1 A n (ns .u8 l)) (hnc : n ≤ c) (hn : l.length = n) (hb : ∀ x ∈ l, x < 256) (hl : l.length ≤ 1000) :
    Calls Try.prog 67 #[.agg #[.int .u64 k0, .int .u64 k1], .slice A n c] w fun e w' => e = .returned (.agg #[.int .u64 (kvA k0 k1 l : Nat), .int .u64 (kvB k0 k1 l : Nat)]) ∧ Below w.heap.size w w' :=
  rpair_any k0 k1 n c A l w h0 h1 hr hnc (by omega) hb
theorem rsum_row (k0 k1 n c : Nat) (A : Option Addr) (l : List Nat) (w : World) (h0 : k0 < 18446744073709551616) (h1 : k1 < 18446744073709551616) (hr : Rd w w.heap.size 1 A n (ns .u8 l)) (hnc : n ≤ c) (hn : l.length = n) (hb : ∀ x ∈ l, x < 256) (hl : l.length ≤ 1000) :
    Calls Try.prog 68 #[.agg #[.int .u64 k0, .int .u64 k1], .slice A n c] w fun e w' => e = .returned (.int .u64 (sumB k0 k1 l : Nat)) ∧ Below w.heap.size w w' :=
  rsum_any k0 k1 n c A l w h0 h1 hr hnc (by omega) hb
set_option maxRecDepth 20000 in
set_option maxHeartbeats 4000000 in
theorem handshake_any (c s : Nat) (w : World) (h0 : c < 18446744073709551616) (h1 : s < 18446744073709551616) :
    Calls Try.prog 15 #[.int .u64 c, .int .u64 s] w fun e w' => e = .returned (.agg #[.int .u64 (kvA c s [97, 110, 115, 119, 101, 114] : Nat), .int .u64 (kvB c s [97, 110, 115, 119, 101, 114] : Nat)]) ∧ Below w.heap.size w w' := by
  go_enter Try.func15, Try.ntmps15
  go_upto_region 1 with fail
  have k1 := Lib.hid (Blk.new w 27 #[.int .u64 0, .int .u64 0])
  have b1 := Lib.hid ((Below.refl w.heap.size w).alloc (Nat.le_refl _) (.cells #[.int .u64 0, .int .u64 0] 27))
  generalize w.alloc (.cells #[.int .u64 0, .int .u64 0] 27) = w2 at k1 b1 ⊢
  refine GH.wp_ghs (M := true) 7 ((GH.SP.eq (.int .u64 (c : Nat))) :: (GH.SP.eq (.int .u64 (s : Nat))) :: (GH.SP.eq (.agg #[.int .u64 (c : Nat), .int .u64 (s : Nat)])) :: (GH.SP.lit w2.heap.size .u8 ([97, 110, 115, 119, 101, 114])) :: (GH.SP.lit w2.heap.size .u8 ([97, 110, 115, 119, 101, 114])) :: (GH.SP.pts [[97, 110, 115, 119, 101, 114]]) :: (GH.SP.eq (.agg #[.int .u64 (kvA c s ([97, 110, 115, 119, 101, 114]) : Nat), .int .u64 (kvB c s ([97, 110, 115, 119, 101, 114]) : Nat)])) :: []) (none :: none :: none :: none :: none :: (some 0) :: (some 1) :: (some 2) :: (some 3) :: (some 4) :: (some 5) :: (some 6) :: []) [5, 6, 7, 8, 9, 10, 11] (by rfl) (by kernel_rfl) ?_ ?_ ?_
  · intro S j v hj
    match j, hj with
    | 0, _ => rfl
    | 1, _ => rfl
    | 2, _ => rfl
    | 3, _ => rfl
    | 4, _ => rfl
    | 5, _ => rfl
    | 6, _ => rfl
    | n + 7, hj => omega
  · intro j hj S w' hb hd
    match j, hj, hd with
    | 0, _, hd =>
      simp only [GH.mkL, List.getD_cons_succ, List.getD_cons_zero]
      clear hd
      refine GH.st_eq (by rfl) ?_
      go_simp
      (try with_reducible rfl)
    | 1, _, hd =>
      simp only [GH.mkL, List.getD_cons_succ, List.getD_cons_zero]
      clear hd
      refine GH.st_eq (by rfl) ?_
      go_simp
      (try with_reducible rfl)
    | 2, _, hd =>
      simp only [GH.mkL, List.getD_cons_succ, List.getD_cons_zero]
      have d0 : S 0 = .int .u64 (c : Nat) := (hd 0 (by kernel_rfl)).2
      rw [d0]
      clear d0
      have d1 : S 1 = .int .u64 (s : Nat) := (hd 1 (by kernel_rfl)).2
      rw [d1]
      clear d1
      clear hd
      refine GH.st_call (by rfl) hb.below.size (by go_simp) ((both_any c s w').mono ?_)
      rintro e w9 ⟨rfl, hb9⟩
      exact ⟨_, rfl, hb9, rfl⟩
    | 3, _, hd =>
      simp only [GH.mkL, List.getD_cons_succ, List.getD_cons_zero]
      clear hd
      refine ⟨fun K hK => ?_⟩
      go_wp2_with fail
      exact hK _ _ (GH.Gr.of ((Below.refl _ _).alloc (Nat.le_refl _) _) hb.below.size) (GH.lit_lit .u8 _ _ hb.below.size rfl rfl)
    | 4, _, hd =>
      simp only [GH.mkL, List.getD_cons_succ, List.getD_cons_zero]
      obtain ⟨A3, d3, e3, H3⟩ := (hd 3 (by kernel_rfl)).2
      rw [d3]
      clear d3
      replace H3 := Lib.hid H3
      replace e3 := Lib.hid e3
      clear hd
      exact GH.st_mark _ Try.underlying51 Try.underlying5 (by rfl) rfl ⟨_, rfl, e3.out, H3.out⟩
    | 5, _, hd =>
      simp only [GH.mkL, List.getD_cons_succ, List.getD_cons_zero]
      obtain ⟨A4, d4, e4, H4⟩ := (hd 4 (by kernel_rfl)).2
      rw [d4]
      clear d4
      replace H4 := Lib.hid H4
      replace e4 := Lib.hid e4
      clear hd
      refine ⟨fun K hK => ?_⟩
      go_wp2_with fail
      exact hK _ _ (GH.Gr.of ((Below.refl _ _).alloc (Nat.le_refl _) _) hb.below.size) (GH.pts_lit _ H4.out (Nat.le_refl _))
    | 6, _, hd =>
      simp only [GH.mkL, List.getD_cons_succ, List.getD_cons_zero]
      have d2 : S 2 = .agg #[.int .u64 (c : Nat), .int .u64 (s : Nat)] := (hd 2 (by kernel_rfl)).2
      rw [d2]
      clear d2
      obtain ⟨A5, n5, c5, d5, e5, l5, H5⟩ := (hd 5 (by kernel_rfl)).2
      rw [d5]
      clear d5
      replace H5 := Lib.hid H5
      replace l5 := Lib.hid l5
      clear hd
      refine GH.st_call (by rfl) hb.below.size (by go_simp) ((pair_row c s n5 c5 A5 ([97, 110, 115, 119, 101, 114]) w' h0 h1 H5.out e5 l5.out (by decide) (by decide)).mono ?_)
      rintro e w9 ⟨rfl, hb9⟩
      exact ⟨_, rfl, hb9, rfl⟩
    | n + 7, hj, _ => omega
  intro S w' hb hG
  simp only [GH.mkL, List.drop_succ_cons, List.drop_zero]
  have d6 : S 6 = .agg #[.int .u64 (kvA c s ([97, 110, 115, 119, 101, 114]) : Nat), .int .u64 (kvB c s ([97, 110, 115, 119, 101, 114]) : Nat)] := hG 6 (by omega)
  rw [d6]
  clear d6
  clear hG
  have KF := Lib.hid (k1.out.below hb.below k1.out.lt)
  have BF := Lib.hid (b1.out.trans (hb.below.mono b1.out.size))
  clear k1 b1 hb
  refine stm_store (cs' := #[.int .u64 (kvA c s [97, 110, 115, 119, 101, 114] : Nat), .int .u64 (kvB c s [97, 110, 115, 119, 101, 114] : Nat)]) KF.out rfl _ _ rfl rfl rfl (by simp) (by kernel_rfl) (by simp [Value.oneCell']) (by simp [setL]) fun w9 hk hs => ?_
  refine wpList_nil ?_
  go_wp2_with fail
  exact bodyPost_ret (results_agg Try.results15 hk (by rfl) (by kernel_rfl) (by kernel_rfl)) rfl ⟨rfl, BF.out.trans (hs.1)⟩
set_option maxRecDepth 20000 in
set_option maxHeartbeats 4000000 in
theorem path_any (x0 x1 x2 x3 x4 x5 x6 x7 x8 a b : Nat) (w : World) (h0 : x6 < 18446744073709551616) (h1 : x7 < 18446744073709551616) (ha : a < 4294967296) (hbb : b < 4294967296) :
    Calls Try.prog 16 #[.agg #[.int .u64 (x0 : Nat), .int .u64 (x1 : Nat), .int .u64 (x2 : Nat), .int .u64 (x3 : Nat), .int .u64 (x4 : Nat), .int .u64 (x5 : Nat), .int .u64 (x6 : Nat), .int .u64 (x7 : Nat), .int .u32 (x8 : Nat)], .int .u32 a, .int .u32 b] w fun e w' => e = .returned (.agg #[.int .u64 (kvA x6 x7 (pathL a b) : Nat), .int .u64 (kvB x6 x7 (pathL a b) : Nat)]) ∧ Below w.heap.size w w' := by
  go_enter Try.func16, Try.ntmps16
  go_upto_region 1 with fail
  have hk0 : Hid (Blk (w.alloc (.cells #[.int .u64 (x0 : Nat), .int .u64 (x1 : Nat), .int .u64 (x2 : Nat), .int .u64 (x3 : Nat), .int .u64 (x4 : Nat), .int .u64 (x5 : Nat), .int .u64 (x6 : Nat), .int .u64 (x7 : Nat), .int .u32 (x8 : Nat)] 29)) (w.heap.size) 29 #[.int .u64 (x0 : Nat), .int .u64 (x1 : Nat), .int .u64 (x2 : Nat), .int .u64 (x3 : Nat), .int .u64 (x4 : Nat), .int .u64 (x5 : Nat), .int .u64 (x6 : Nat), .int .u64 (x7 : Nat), .int .u32 (x8 : Nat)]) := Lib.hid ((Blk.new w 29 #[.int .u64 (x0 : Nat), .int .u64 (x1 : Nat), .int .u64 (x2 : Nat), .int .u64 (x3 : Nat), .int .u64 (x4 : Nat), .int .u64 (x5 : Nat), .int .u64 (x6 : Nat), .int .u64 (x7 : Nat), .int .u32 (x8 : Nat)]))
  replace hk0 : Hid (Blk ((w.alloc (.cells #[.int .u64 (x0 : Nat), .int .u64 (x1 : Nat), .int .u64 (x2 : Nat), .int .u64 (x3 : Nat), .int .u64 (x4 : Nat), .int .u64 (x5 : Nat), .int .u64 (x6 : Nat), .int .u64 (x7 : Nat), .int .u32 (x8 : Nat)] 29)).alloc (.cells #[.int .u64 0, .int .u64 0] 27)) (w.heap.size) 29 #[.int .u64 (x0 : Nat), .int .u64 (x1 : Nat), .int .u64 (x2 : Nat), .int .u64 (x3 : Nat), .int .u64 (x4 : Nat), .int .u64 (x5 : Nat), .int .u64 (x6 : Nat), .int .u64 (x7 : Nat), .int .u32 (x8 : Nat)]) := Lib.hid (hk0.out.alloc _)
  have hk1 : Hid (Blk ((w.alloc (.cells #[.int .u64 (x0 : Nat), .int .u64 (x1 : Nat), .int .u64 (x2 : Nat), .int .u64 (x3 : Nat), .int .u64 (x4 : Nat), .int .u64 (x5 : Nat), .int .u64 (x6 : Nat), .int .u64 (x7 : Nat), .int .u32 (x8 : Nat)] 29)).alloc (.cells #[.int .u64 0, .int .u64 0] 27)) (w.heap.size + 1) 27 #[.int .u64 0, .int .u64 0]) := Lib.hid ((Blk.new (w.alloc (.cells #[.int .u64 (x0 : Nat), .int .u64 (x1 : Nat), .int .u64 (x2 : Nat), .int .u64 (x3 : Nat), .int .u64 (x4 : Nat), .int .u64 (x5 : Nat), .int .u64 (x6 : Nat), .int .u64 (x7 : Nat), .int .u32 (x8 : Nat)] 29)) 27 #[.int .u64 0, .int .u64 0]) |> fun h => by simpa using h)
  have b1 : Hid (Below w.heap.size w ((w.alloc (.cells #[.int .u64 (x0 : Nat), .int .u64 (x1 : Nat), .int .u64 (x2 : Nat), .int .u64 (x3 : Nat), .int .u64 (x4 : Nat), .int .u64 (x5 : Nat), .int .u64 (x6 : Nat), .int .u64 (x7 : Nat), .int .u32 (x8 : Nat)] 29)).alloc (.cells #[.int .u64 0, .int .u64 0] 27))) := Lib.hid (((Below.refl w.heap.size w).alloc (Nat.le_refl _) (.cells #[.int .u64 (x0 : Nat), .int .u64 (x1 : Nat), .int .u64 (x2 : Nat), .int .u64 (x3 : Nat), .int .u64 (x4 : Nat), .int .u64 (x5 : Nat), .int .u64 (x6 : Nat), .int .u64 (x7 : Nat), .int .u32 (x8 : Nat)] 29)).alloc (by simp) (.cells #[.int .u64 0, .int .u64 0] 27))
  have hz : ((w.alloc (.cells #[.int .u64 (x0 : Nat), .int .u64 (x1 : Nat), .int .u64 (x2 : Nat), .int .u64 (x3 : Nat), .int .u64 (x4 : Nat), .int .u64 (x5 : Nat), .int .u64 (x6 : Nat), .int .u64 (x7 : Nat), .int .u32 (x8 : Nat)] 29)).alloc (.cells #[.int .u64 0, .int .u64 0] 27)).heap.size = w.heap.size + 2 := by simp
  generalize ((w.alloc (.cells #[.int .u64 (x0 : Nat), .int .u64 (x1 : Nat), .int .u64 (x2 : Nat), .int .u64 (x3 : Nat), .int .u64 (x4 : Nat), .int .u64 (x5 : Nat), .int .u64 (x6 : Nat), .int .u64 (x7 : Nat), .int .u32 (x8 : Nat)] 29)).alloc (.cells #[.int .u64 0, .int .u64 0] 27)) = w2 at hk0 hk1 b1 hz ⊢
  have HZ := Lib.hid hz
  clear hz
  refine GH.wp_ghl (M := false) 10 ((GH.SP.eq (.pointer (some ⟨w.heap.size, 6, none⟩))) :: (GH.SP.eq (.agg #[.int .u64 (x6 : Nat), .int .u64 (x7 : Nat)])) :: (GH.SP.eq (.int .u32 (a : Nat))) :: (GH.SP.eq (.agg #[.int .i64 4, .int .u64 (a : Nat)])) :: (GH.SP.eq (.int .u32 (b : Nat))) :: (GH.SP.eq (.agg #[.int .i64 4, .int .u64 (b : Nat)])) :: (GH.SP.rd 2 2 (fs [(4, a), (4, b)])) :: (GH.SP.ns .u8 (pathL a b)) :: (GH.SP.pts [pathL a b]) :: (GH.SP.eq (.agg #[.int .u64 (kvA x6 x7 (pathL a b) : Nat), .int .u64 (kvB x6 x7 (pathL a b) : Nat)])) :: []) (none :: none :: none :: none :: none :: none :: none :: (some 0) :: (some 1) :: (some 2) :: (some 3) :: (some 4) :: (some 5) :: (some 6) :: (some 7) :: (some 8) :: (some 9) :: []) [7, 8, 9, 10, 11, 12, 13, 14, 15, 16] (by rfl) (by kernel_rfl) (by kernel_rfl) ?_ ?_ ?_
  · intro S j v hj
    match j, hj with
    | 0, _ => rfl
    | 1, _ => rfl
    | 2, _ => rfl
    | 3, _ => rfl
    | 4, _ => rfl
    | 5, _ => rfl
    | 6, _ => rfl
    | 7, _ => rfl
    | 8, _ => rfl
    | 9, _ => rfl
    | n + 10, hj => omega
  · intro j hj S w' hb hd
    match j, hj, hd with
    | 0, _, hd =>
      simp only [GH.mkL, List.getD_cons_succ, List.getD_cons_zero]
      clear hd
      refine GH.st_eq (by rfl) ?_
      go_simp
      (try with_reducible rfl)
    | 1, _, hd =>
      simp only [GH.mkL, List.getD_cons_succ, List.getD_cons_zero]
      have d0 : S 0 = .pointer (some ⟨w.heap.size, 6, none⟩) := (hd 0 (by kernel_rfl)).2
      rw [d0]
      clear d0
      clear hd
      exact GH.st_loads _ [.int .u64 (x6 : Nat), .int .u64 (x7 : Nat)] (by rfl) rfl rfl (((hk0.out.below hb.below hk0.out.lt)).loads 6 _ (by rfl)) (by kernel_rfl) (by kernel_rfl)
    | 2, _, hd =>
      simp only [GH.mkL, List.getD_cons_succ, List.getD_cons_zero]
      clear hd
      refine GH.st_eq (by rfl) ?_
      go_simp
      (try with_reducible rfl)
    | 3, _, hd =>
      simp only [GH.mkL, List.getD_cons_succ, List.getD_cons_zero]
      have d2 : S 2 = .int .u32 (a : Nat) := (hd 2 (by kernel_rfl)).2
      rw [d2]
      clear d2
      clear hd
      refine GH.st_call (by rfl) hb.below.size (by go_simp) ((pW_any (a : Nat) w' (by omega) (by omega)).mono ?_)
      rintro e w9 ⟨rfl, hb9⟩
      exact ⟨_, rfl, hb9, rfl⟩
    | 4, _, hd =>
      simp only [GH.mkL, List.getD_cons_succ, List.getD_cons_zero]
      clear hd
      refine GH.st_eq (by rfl) ?_
      go_simp
      (try with_reducible rfl)
    | 5, _, hd =>
      simp only [GH.mkL, List.getD_cons_succ, List.getD_cons_zero]
      have d3 : S 3 = .agg #[.int .i64 4, .int .u64 (a : Nat)] := (hd 3 (by kernel_rfl)).2
      rw [d3]
      clear d3
      have d4 : S 4 = .int .u32 (b : Nat) := (hd 4 (by kernel_rfl)).2
      rw [d4]
      clear d4
      clear hd
      refine GH.st_call (by rfl) hb.below.size (by go_simp) ((pW_any (b : Nat) w' (by omega) (by omega)).mono ?_)
      rintro e w9 ⟨rfl, hb9⟩
      exact ⟨_, rfl, hb9, rfl⟩
    | 6, _, hd =>
      simp only [GH.mkL, List.getD_cons_succ, List.getD_cons_zero]
      have d3 : S 3 = .agg #[.int .i64 4, .int .u64 (a : Nat)] := (hd 3 (by kernel_rfl)).2
      rw [d3]
      clear d3
      have d5 : S 5 = .agg #[.int .i64 4, .int .u64 (b : Nat)] := (hd 5 (by kernel_rfl)).2
      rw [d5]
      clear d5
      clear hd
      refine ⟨fun K hK => ?_⟩
      go_wp2_with fail
      exact hK _ _ (GH.Gr.of ((Below.refl _ _).alloc (Nat.le_refl _) _) hb.below.size) (GH.rd_lit rfl rfl)
    | 7, _, hd =>
      simp only [GH.mkL, List.getD_cons_succ, List.getD_cons_zero]
      have d5 : S 5 = .agg #[.int .i64 4, .int .u64 (b : Nat)] := (hd 5 (by kernel_rfl)).2
      rw [d5]
      clear d5
      obtain ⟨A6, c6, d6, e6, H6⟩ := (hd 6 (by kernel_rfl)).2
      rw [d6]
      clear d6
      replace H6 := Lib.hid H6
      clear hd
      refine GH.st_call (by rfl) hb.below.size (by go_simp) ((put_nil 2 c6 A6 [(4, a), (4, b)] w' H6.out (by omega) (by intro p hp; simp at hp; rcases hp with rfl | rfl <;> simp <;> omega)).mono ?_)
      rintro e w9 ⟨v, rfl, hb9, hq⟩
      exact ⟨_, rfl, hb9, (by rw [← fbs_ww]; exact hq _)⟩
    | 8, _, hd =>
      simp only [GH.mkL, List.getD_cons_succ, List.getD_cons_zero]
      obtain ⟨A7, n7, c7, d7, e7, l7, H7⟩ := (hd 7 (by kernel_rfl)).2
      rw [d7]
      clear d7
      replace H7 := Lib.hid H7
      replace l7 := Lib.hid l7
      clear hd
      refine ⟨fun K hK => ?_⟩
      go_wp2_with fail
      exact hK _ _ (GH.Gr.of ((Below.refl _ _).alloc (Nat.le_refl _) _) hb.below.size) (GH.pts_lit _ H7.out e7)
    | 9, _, hd =>
      simp only [GH.mkL, List.getD_cons_succ, List.getD_cons_zero]
      have d1 : S 1 = .agg #[.int .u64 (x6 : Nat), .int .u64 (x7 : Nat)] := (hd 1 (by kernel_rfl)).2
      rw [d1]
      clear d1
      obtain ⟨A7, n7, c7, d7, e7, l7, H7⟩ := (hd 7 (by kernel_rfl)).2
      rw [d7]
      clear d7
      replace H7 := Lib.hid H7
      replace l7 := Lib.hid l7
      obtain ⟨A8, n8, c8, d8, e8, l8, H8⟩ := (hd 8 (by kernel_rfl)).2
      rw [d8]
      clear d8
      replace H8 := Lib.hid H8
      replace l8 := Lib.hid l8
      clear hd
      refine GH.st_call (by rfl) hb.below.size (by go_simp) ((pair_row x6 x7 n8 c8 A8 (pathL a b) w' h0 h1 H8.out e8 l8.out (pathL_byte a b) (by rw [pathL_len]; decide)).mono ?_)
      rintro e w9 ⟨rfl, hb9⟩
      exact ⟨_, rfl, hb9, rfl⟩
    | n + 10, hj, _ => omega
  intro S w' hb hG
  simp only [GH.mkL, List.drop_succ_cons, List.drop_zero]
  have d9 : S 9 = .agg #[.int .u64 (kvA x6 x7 (pathL a b) : Nat), .int .u64 (kvB x6 x7 (pathL a b) : Nat)] := hG 9 (by omega)
  rw [d9]
  clear d9
  clear hG
  have KF := Lib.hid (hk1.out.below hb.below hk1.out.lt)
  have BF := Lib.hid (b1.out.trans (hb.below.mono b1.out.size))
  clear b1 hb
  refine stm_store (cs' := #[.int .u64 (kvA x6 x7 (pathL a b) : Nat), .int .u64 (kvB x6 x7 (pathL a b) : Nat)]) KF.out rfl _ _ rfl rfl rfl (by simp) (by kernel_rfl) (by simp [Value.oneCell']) (by simp [setL]) fun w9 hk hs => ?_
  refine wpList_nil ?_
  go_wp2_with fail
  exact bodyPost_ret (results_agg Try.results16 hk (by rfl) (by kernel_rfl) (by kernel_rfl)) rfl ⟨rfl, BF.out.trans (hs.1.mono (by simp))⟩
set_option maxRecDepth 20000 in
set_option maxHeartbeats 4000000 in
theorem flow_any (k0 k1 id : Nat) (w : World) (h0 : k0 < 18446744073709551616) (h1 : k1 < 18446744073709551616) (hi : id < 256) :
    Calls Try.prog 25 #[.agg #[.int .u64 (k0 : Nat), .int .u64 (k1 : Nat)], .int .u8 id] w fun e w' => e = .returned (.agg #[.int .u64 (kvA k0 k1 [102, id] : Nat), .int .u64 (kvB k0 k1 [102, id] : Nat)]) ∧ Below w.heap.size w w' := by
  go_enter Try.func25, Try.ntmps25
  go_upto_region 1 with fail
  have hk0 : Hid (Blk (w.alloc (.cells #[.int .u64 (k0 : Nat), .int .u64 (k1 : Nat)] 27)) (w.heap.size) 27 #[.int .u64 (k0 : Nat), .int .u64 (k1 : Nat)]) := Lib.hid ((Blk.new w 27 #[.int .u64 (k0 : Nat), .int .u64 (k1 : Nat)]))
  replace hk0 : Hid (Blk ((w.alloc (.cells #[.int .u64 (k0 : Nat), .int .u64 (k1 : Nat)] 27)).alloc (.cells #[.int .u64 0, .int .u64 0] 27)) (w.heap.size) 27 #[.int .u64 (k0 : Nat), .int .u64 (k1 : Nat)]) := Lib.hid (hk0.out.alloc _)
  have hk1 : Hid (Blk ((w.alloc (.cells #[.int .u64 (k0 : Nat), .int .u64 (k1 : Nat)] 27)).alloc (.cells #[.int .u64 0, .int .u64 0] 27)) (w.heap.size + 1) 27 #[.int .u64 0, .int .u64 0]) := Lib.hid ((Blk.new (w.alloc (.cells #[.int .u64 (k0 : Nat), .int .u64 (k1 : Nat)] 27)) 27 #[.int .u64 0, .int .u64 0]) |> fun h => by simpa using h)
  have b1 : Hid (Below w.heap.size w ((w.alloc (.cells #[.int .u64 (k0 : Nat), .int .u64 (k1 : Nat)] 27)).alloc (.cells #[.int .u64 0, .int .u64 0] 27))) := Lib.hid (((Below.refl w.heap.size w).alloc (Nat.le_refl _) (.cells #[.int .u64 (k0 : Nat), .int .u64 (k1 : Nat)] 27)).alloc (by simp) (.cells #[.int .u64 0, .int .u64 0] 27))
  have hz : ((w.alloc (.cells #[.int .u64 (k0 : Nat), .int .u64 (k1 : Nat)] 27)).alloc (.cells #[.int .u64 0, .int .u64 0] 27)).heap.size = w.heap.size + 2 := by simp
  generalize ((w.alloc (.cells #[.int .u64 (k0 : Nat), .int .u64 (k1 : Nat)] 27)).alloc (.cells #[.int .u64 0, .int .u64 0] 27)) = w2 at hk0 hk1 b1 hz ⊢
  have HZ := Lib.hid hz
  clear hz
  refine GH.wp_ghs (M := false) 5 ((GH.SP.eq (.agg #[.int .u64 (k0 : Nat), .int .u64 (k1 : Nat)])) :: (GH.SP.eq (.int .u8 (id : Nat))) :: (GH.SP.ns .u8 ([102, id])) :: (GH.SP.pts [[102, id]]) :: (GH.SP.eq (.agg #[.int .u64 (kvA k0 k1 ([102, id]) : Nat), .int .u64 (kvB k0 k1 ([102, id]) : Nat)])) :: []) (none :: none :: none :: none :: none :: (some 0) :: (some 1) :: (some 2) :: (some 3) :: (some 4) :: []) [5, 6, 7, 8, 9] (by rfl) (by kernel_rfl) ?_ ?_ ?_
  · intro S j v hj
    match j, hj with
    | 0, _ => rfl
    | 1, _ => rfl
    | 2, _ => rfl
    | 3, _ => rfl
    | 4, _ => rfl
    | n + 5, hj => omega
  · intro j hj S w' hb hd
    match j, hj, hd with
    | 0, _, hd =>
      simp only [GH.mkL, List.getD_cons_succ, List.getD_cons_zero]
      clear hd
      exact GH.st_loads _ [.int .u64 (k0 : Nat), .int .u64 (k1 : Nat)] (by rfl) rfl rfl (((hk0.out.below hb.below hk0.out.lt)).loads 0 _ (by rfl)) (by kernel_rfl) (by kernel_rfl)
    | 1, _, hd =>
      simp only [GH.mkL, List.getD_cons_succ, List.getD_cons_zero]
      clear hd
      refine GH.st_eq (by rfl) ?_
      go_simp
      (try with_reducible rfl)
    | 2, _, hd =>
      simp only [GH.mkL, List.getD_cons_succ, List.getD_cons_zero]
      have d1 : S 1 = .int .u8 (id : Nat) := (hd 1 (by kernel_rfl)).2
      rw [d1]
      clear d1
      clear hd
      refine ⟨fun K hK => ?_⟩
      go_wp2_with fail
      exact hK _ _ (GH.Gr.of ((Below.refl _ _).alloc (Nat.le_refl _) _) hb.below.size) (GH.ns_lit .u8 _ _ rfl rfl)
    | 3, _, hd =>
      simp only [GH.mkL, List.getD_cons_succ, List.getD_cons_zero]
      obtain ⟨A2, n2, c2, d2, e2, l2, H2⟩ := (hd 2 (by kernel_rfl)).2
      rw [d2]
      clear d2
      replace H2 := Lib.hid H2
      replace l2 := Lib.hid l2
      clear hd
      refine ⟨fun K hK => ?_⟩
      go_wp2_with fail
      exact hK _ _ (GH.Gr.of ((Below.refl _ _).alloc (Nat.le_refl _) _) hb.below.size) (GH.pts_lit _ H2.out e2)
    | 4, _, hd =>
      simp only [GH.mkL, List.getD_cons_succ, List.getD_cons_zero]
      have d0 : S 0 = .agg #[.int .u64 (k0 : Nat), .int .u64 (k1 : Nat)] := (hd 0 (by kernel_rfl)).2
      rw [d0]
      clear d0
      obtain ⟨A3, n3, c3, d3, e3, l3, H3⟩ := (hd 3 (by kernel_rfl)).2
      rw [d3]
      clear d3
      replace H3 := Lib.hid H3
      replace l3 := Lib.hid l3
      clear hd
      refine GH.st_call (by rfl) hb.below.size (by go_simp) ((pair_row k0 k1 n3 c3 A3 ([102, id]) w' h0 h1 H3.out e3 l3.out (by intro x hx; simp at hx; omega) (by simp)).mono ?_)
      rintro e w9 ⟨rfl, hb9⟩
      exact ⟨_, rfl, hb9, rfl⟩
    | n + 5, hj, _ => omega
  intro S w' hb hG
  simp only [GH.mkL, List.drop_succ_cons, List.drop_zero]
  have d4 : S 4 = .agg #[.int .u64 (kvA k0 k1 ([102, id]) : Nat), .int .u64 (kvB k0 k1 ([102, id]) : Nat)] := hG 4 (by omega)
  rw [d4]
  clear d4
  clear hG
  have KF := Lib.hid (hk1.out.below hb.below hk1.out.lt)
  have BF := Lib.hid (b1.out.trans (hb.below.mono b1.out.size))
  clear b1 hb
  refine stm_store (cs' := #[.int .u64 (kvA k0 k1 [102, id] : Nat), .int .u64 (kvB k0 k1 [102, id] : Nat)]) KF.out rfl _ _ rfl rfl rfl (by simp) (by kernel_rfl) (by simp [Value.oneCell']) (by simp [setL]) fun w9 hk hs => ?_
  refine wpList_nil ?_
  go_wp2_with fail
  exact bodyPost_ret (results_agg Try.results25 hk (by rfl) (by kernel_rfl) (by kernel_rfl)) rfl ⟨rfl, BF.out.trans (hs.1.mono (by simp))⟩
set_option maxRecDepth 20000 in
set_option maxHeartbeats 4000000 in
theorem drawn_any (k0 k1 n : Nat) (w : World) (h0 : k0 < 18446744073709551616) (h1 : k1 < 18446744073709551616) (hn : n < 18446744073709551616) :
    Calls Try.prog 23 #[.agg #[.int .u64 (k0 : Nat), .int .u64 (k1 : Nat)], .int .u64 n] w fun e w' => e = .returned (.int .u64 (sumB k0 k1 (be n 8) : Nat)) ∧ Below w.heap.size w w' := by
  go_enter Try.func23, Try.ntmps23
  go_upto_region 1 with fail
  have hk0 : Hid (Blk (w.alloc (.cells #[.int .u64 (k0 : Nat), .int .u64 (k1 : Nat)] 27)) (w.heap.size) 27 #[.int .u64 (k0 : Nat), .int .u64 (k1 : Nat)]) := Lib.hid ((Blk.new w 27 #[.int .u64 (k0 : Nat), .int .u64 (k1 : Nat)]))
  have b1 : Hid (Below w.heap.size w (w.alloc (.cells #[.int .u64 (k0 : Nat), .int .u64 (k1 : Nat)] 27))) := Lib.hid ((Below.refl w.heap.size w).alloc (Nat.le_refl _) (.cells #[.int .u64 (k0 : Nat), .int .u64 (k1 : Nat)] 27))
  have hz : (w.alloc (.cells #[.int .u64 (k0 : Nat), .int .u64 (k1 : Nat)] 27)).heap.size = w.heap.size + 1 := by simp
  generalize (w.alloc (.cells #[.int .u64 (k0 : Nat), .int .u64 (k1 : Nat)] 27)) = w2 at hk0 b1 hz ⊢
  have HZ := Lib.hid hz
  clear hz
  refine GH.wp_ghl (M := false) 8 ((GH.SP.eq (.agg #[.int .u64 (k0 : Nat), .int .u64 (k1 : Nat)])) :: (GH.SP.eq (.int .u64 (n : Nat))) :: (GH.SP.eq (.agg #[.int .i64 8, .int .u64 (n : Nat)])) :: (GH.SP.rd 2 1 (fs [(8, n)])) :: (GH.SP.ns .u8 (be n 8)) :: (GH.SP.pts [be n 8]) :: (GH.SP.eq (.int .u64 (sumB k0 k1 (be n 8) : Nat))) :: (GH.SP.eq (.int .u64 (sumB k0 k1 (be n 8) : Nat))) :: []) (none :: none :: none :: none :: (some 7) :: (some 0) :: (some 1) :: (some 2) :: (some 3) :: (some 4) :: (some 5) :: (some 6) :: []) [5, 6, 7, 8, 9, 10, 11, 4] (by rfl) (by kernel_rfl) (by kernel_rfl) ?_ ?_ ?_
  · intro S j v hj
    match j, hj with
    | 0, _ => rfl
    | 1, _ => rfl
    | 2, _ => rfl
    | 3, _ => rfl
    | 4, _ => rfl
    | 5, _ => rfl
    | 6, _ => rfl
    | 7, _ => rfl
    | n + 8, hj => omega
  · intro j hj S w' hb hd
    match j, hj, hd with
    | 0, _, hd =>
      simp only [GH.mkL, List.getD_cons_succ, List.getD_cons_zero]
      clear hd
      exact GH.st_loads _ [.int .u64 (k0 : Nat), .int .u64 (k1 : Nat)] (by rfl) rfl rfl (((hk0.out.below hb.below hk0.out.lt)).loads 0 _ (by rfl)) (by kernel_rfl) (by kernel_rfl)
    | 1, _, hd =>
      simp only [GH.mkL, List.getD_cons_succ, List.getD_cons_zero]
      clear hd
      refine GH.st_eq (by rfl) ?_
      go_simp
      (try with_reducible rfl)
    | 2, _, hd =>
      simp only [GH.mkL, List.getD_cons_succ, List.getD_cons_zero]
      have d1 : S 1 = .int .u64 (n : Nat) := (hd 1 (by kernel_rfl)).2
      rw [d1]
      clear d1
      clear hd
      refine GH.st_call (by rfl) hb.below.size (by go_simp) ((pQ_any (n : Nat) w' (by omega) (by omega)).mono ?_)
      rintro e w9 ⟨rfl, hb9⟩
      exact ⟨_, rfl, hb9, rfl⟩
    | 3, _, hd =>
      simp only [GH.mkL, List.getD_cons_succ, List.getD_cons_zero]
      have d2 : S 2 = .agg #[.int .i64 8, .int .u64 (n : Nat)] := (hd 2 (by kernel_rfl)).2
      rw [d2]
      clear d2
      clear hd
      refine ⟨fun K hK => ?_⟩
      go_wp2_with fail
      exact hK _ _ (GH.Gr.of ((Below.refl _ _).alloc (Nat.le_refl _) _) hb.below.size) (GH.rd_lit rfl rfl)
    | 4, _, hd =>
      simp only [GH.mkL, List.getD_cons_succ, List.getD_cons_zero]
      have d2 : S 2 = .agg #[.int .i64 8, .int .u64 (n : Nat)] := (hd 2 (by kernel_rfl)).2
      rw [d2]
      clear d2
      obtain ⟨A3, c3, d3, e3, H3⟩ := (hd 3 (by kernel_rfl)).2
      rw [d3]
      clear d3
      replace H3 := Lib.hid H3
      clear hd
      refine GH.st_call (by rfl) hb.below.size (by go_simp) ((put_nil 1 c3 A3 [(8, n)] w' H3.out (by omega) (by intro p hp; simp at hp; subst hp; simp; omega)).mono ?_)
      rintro e w9 ⟨v, rfl, hb9, hq⟩
      exact ⟨_, rfl, hb9, (by rw [← fbs_q]; exact hq _)⟩
    | 5, _, hd =>
      simp only [GH.mkL, List.getD_cons_succ, List.getD_cons_zero]
      obtain ⟨A4, n4, c4, d4, e4, l4, H4⟩ := (hd 4 (by kernel_rfl)).2
      rw [d4]
      clear d4
      replace H4 := Lib.hid H4
      replace l4 := Lib.hid l4
      clear hd
      refine ⟨fun K hK => ?_⟩
      go_wp2_with fail
      exact hK _ _ (GH.Gr.of ((Below.refl _ _).alloc (Nat.le_refl _) _) hb.below.size) (GH.pts_lit _ H4.out e4)
    | 6, _, hd =>
      simp only [GH.mkL, List.getD_cons_succ, List.getD_cons_zero]
      have d0 : S 0 = .agg #[.int .u64 (k0 : Nat), .int .u64 (k1 : Nat)] := (hd 0 (by kernel_rfl)).2
      rw [d0]
      clear d0
      obtain ⟨A4, n4, c4, d4, e4, l4, H4⟩ := (hd 4 (by kernel_rfl)).2
      rw [d4]
      clear d4
      replace H4 := Lib.hid H4
      replace l4 := Lib.hid l4
      obtain ⟨A5, n5, c5, d5, e5, l5, H5⟩ := (hd 5 (by kernel_rfl)).2
      rw [d5]
      clear d5
      replace H5 := Lib.hid H5
      replace l5 := Lib.hid l5
      clear hd
      refine GH.st_call (by rfl) hb.below.size (by go_simp) ((sum_row k0 k1 n5 c5 A5 (be n 8) w' h0 h1 H5.out e5 l5.out (be_byte 8 n) (by rw [be_len]; decide)).mono ?_)
      rintro e w9 ⟨rfl, hb9⟩
      exact ⟨_, rfl, hb9, rfl⟩
    | 7, _, hd =>
      simp only [GH.mkL, List.getD_cons_succ, List.getD_cons_zero]
      have d0 : S 0 = .agg #[.int .u64 (k0 : Nat), .int .u64 (k1 : Nat)] := (hd 0 (by kernel_rfl)).2
      rw [d0]
      clear d0
      have d1 : S 1 = .int .u64 (n : Nat) := (hd 1 (by kernel_rfl)).2
      rw [d1]
      clear d1
      have d2 : S 2 = .agg #[.int .i64 8, .int .u64 (n : Nat)] := (hd 2 (by kernel_rfl)).2
      rw [d2]
      clear d2
      obtain ⟨A3, c3, d3, e3, H3⟩ := (hd 3 (by kernel_rfl)).2
      rw [d3]
      clear d3
      replace H3 := Lib.hid H3
      obtain ⟨A4, n4, c4, d4, e4, l4, H4⟩ := (hd 4 (by kernel_rfl)).2
      rw [d4]
      clear d4
      replace H4 := Lib.hid H4
      replace l4 := Lib.hid l4
      obtain ⟨A5, n5, c5, d5, e5, l5, H5⟩ := (hd 5 (by kernel_rfl)).2
      rw [d5]
      clear d5
      replace H5 := Lib.hid H5
      replace l5 := Lib.hid l5
      have d6 : S 6 = .int .u64 (sumB k0 k1 (be n 8) : Nat) := (hd 6 (by kernel_rfl)).2
      rw [d6]
      clear d6
      clear hd
      refine GH.st_eq (by rfl) ?_
      go_simp
      (try with_reducible rfl)
    | n + 8, hj, _ => omega
  intro S w' hb hG
  simp only [GH.mkL, List.drop_succ_cons, List.drop_zero]
  have d7 : S 7 = .int .u64 (sumB k0 k1 (be n 8) : Nat) := hG 7 (by omega)
  rw [d7]
  clear d7
  clear hG
  have BF := Lib.hid (b1.out.trans (hb.below.mono b1.out.size))
  clear b1 hb
  refine wpList_nil ?_
  go_wp2_with fail
  go_ret
  exact ⟨rfl, BF.out⟩
end Go.Proofs.Ytcgcglngjfijnaa
