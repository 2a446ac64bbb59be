/- Package keys: a source draws; the document's keys. -/
import Derived.Test.YtcgcglngjfijnaaKy2
namespace Go.Proofs.Ytcgcglngjfijnaa
open Go.RowKit
set_option linter.unusedVariables false
set_option linter.unusedSimpArgs false
/-- Of what was there nothing has turned but this block. -/
def Tou (g : Nat) (w w' : World) : Prop := Below g w w' ∧ ∀ k, k < w.heap.size → k ≠ g → w'.heap[k]? = w.heap[k]?
theorem Tou.of {g : Nat} {w w' : World} (h : Below w.heap.size w w') (hg : g ≤ w.heap.size) : Tou g w w' := ⟨h.mono hg, fun k hk _ => h.block k hk⟩
theorem Tou.solo {g : Nat} {w w' w2 : World} (h : Tou g w w') (k : Solo g w' w2) : Tou g w w2 :=
  ⟨h.1.trans k.1, fun i hi hne => (k.2.2 i hne).trans (h.2 i hi hne)⟩
theorem Tou.below {g B : Nat} {w0 w w' : World} (h0 : Below B w0 w) (h : Tou g w w') (hB : B ≤ g) : Below B w0 w' := h0.trans (h.1.mono hB)
theorem Tou.blk {g k : Nat} {t : TypeId} {cs : Array Value} {w w' : World} (h : Tou g w w') (hb : Blk w k t cs) (hk : k ≠ g) : Blk w' k t cs := (h.2 k hb.lt hk).trans hb
set_option maxRecDepth 20000 in
set_option maxHeartbeats 4000000 in
theorem draw_any (g k0 k1 n : Nat) (w : World) (hg : Blk w g 45 #[.int .u64 (k0 : Nat), .int .u64 (k1 : Nat), .int .u64 (n : Nat)]) (h0 : k0 < 18446744073709551616) (h1 : k1 < 18446744073709551616) (hn : n < 18446744073709551616) :
    Calls Try.prog 24 #[.pointer (some ⟨g, 0, none⟩)] w fun e w' => e = .returned (.int .u64 (sumB k0 k1 (be n 8) : Nat)) ∧ Blk w' g 45 #[.int .u64 (k0 : Nat), .int .u64 (k1 : Nat), .int .u64 ((n + 1) % 18446744073709551616 : Nat)] ∧ Tou g w w' := by
  have HG := Lib.hid hg
  clear hg
  go_enter Try.func24, Try.ntmps24
  go_upto_region 1 with fail
  refine GH.wp_ghl (M := false) 10 ((GH.SP.eq (.pointer (some ⟨g, 0, none⟩))) :: (GH.SP.eq (.pointer (some ⟨g, 0, none⟩))) :: (GH.SP.eq (.pointer (some ⟨g, 0, none⟩))) :: (GH.SP.eq (.agg #[.int .u64 (k0 : Nat), .int .u64 (k1 : Nat)])) :: (GH.SP.eq (.pointer (some ⟨g, 0, none⟩))) :: (GH.SP.eq (.pointer (some ⟨g, 0, none⟩))) :: (GH.SP.eq (.pointer (some ⟨g, 2, none⟩))) :: (GH.SP.eq (.int .u64 (n : Nat))) :: (GH.SP.eq (.int .u64 (sumB k0 k1 (be n 8) : Nat))) :: (GH.SP.eq (.int .u64 (sumB k0 k1 (be n 8) : Nat))) :: []) (none :: none :: none :: (some 9) :: (some 0) :: (some 1) :: (some 2) :: (some 3) :: (some 4) :: (some 5) :: (some 6) :: (some 7) :: (some 8) :: none :: none :: none :: none :: none :: none :: none :: none :: []) [4, 5, 6, 7, 8, 9, 10, 11, 12, 3] (by rfl) (by kernel_rfl) (by kernel_rfl) ?_ ?_ ?_
  · intro S j v hj
    match j, hj with
    | 0, _ => rfl
    | 1, _ => rfl
    | 2, _ => rfl
    | 3, _ => rfl
    | 4, _ => rfl
    | 5, _ => rfl
    | 6, _ => rfl
    | 7, _ => rfl
    | 8, _ => rfl
    | 9, _ => rfl
    | n + 10, hj => omega
  · intro j hj S w' hb hd
    match j, hj, hd with
    | 0, _, hd =>
      simp only [GH.mkL, List.getD_cons_succ, List.getD_cons_zero]
      clear hd
      refine GH.st_eq (by rfl) ?_
      go_simp
      (try with_reducible rfl)
    | 1, _, hd =>
      simp only [GH.mkL, List.getD_cons_succ, List.getD_cons_zero]
      have d0 : S 0 = .pointer (some ⟨g, 0, none⟩) := (hd 0 (by kernel_rfl)).2
      rw [d0]
      clear d0
      clear hd
      refine GH.st_eq (by rfl) ?_
      go_simp
      (try with_reducible rfl)
    | 2, _, hd =>
      simp only [GH.mkL, List.getD_cons_succ, List.getD_cons_zero]
      have d1 : S 1 = .pointer (some ⟨g, 0, none⟩) := (hd 1 (by kernel_rfl)).2
      rw [d1]
      clear d1
      clear hd
      refine GH.st_eq (by rfl) ?_
      go_simp
      (try with_reducible rfl)
    | 3, _, hd =>
      simp only [GH.mkL, List.getD_cons_succ, List.getD_cons_zero]
      have d2 : S 2 = .pointer (some ⟨g, 0, none⟩) := (hd 2 (by kernel_rfl)).2
      rw [d2]
      clear d2
      clear hd
      exact GH.st_loads _ [.int .u64 (k0 : Nat), .int .u64 (k1 : Nat)] (by rfl) rfl rfl (((HG.out.below hb.below HG.out.lt)).loads 0 _ (by rfl)) (by kernel_rfl) (by kernel_rfl)
    | 4, _, hd =>
      simp only [GH.mkL, List.getD_cons_succ, List.getD_cons_zero]
      clear hd
      refine GH.st_eq (by rfl) ?_
      go_simp
      (try with_reducible rfl)
    | 5, _, hd =>
      simp only [GH.mkL, List.getD_cons_succ, List.getD_cons_zero]
      have d4 : S 4 = .pointer (some ⟨g, 0, none⟩) := (hd 4 (by kernel_rfl)).2
      rw [d4]
      clear d4
      clear hd
      refine GH.st_eq (by rfl) ?_
      go_simp
      (try with_reducible rfl)
    | 6, _, hd =>
      simp only [GH.mkL, List.getD_cons_succ, List.getD_cons_zero]
      have d5 : S 5 = .pointer (some ⟨g, 0, none⟩) := (hd 5 (by kernel_rfl)).2
      rw [d5]
      clear d5
      clear hd
      refine GH.st_eq (by rfl) ?_
      go_simp
      (try with_reducible rfl)
    | 7, _, hd =>
      simp only [GH.mkL, List.getD_cons_succ, List.getD_cons_zero]
      have d6 : S 6 = .pointer (some ⟨g, 2, none⟩) := (hd 6 (by kernel_rfl)).2
      rw [d6]
      clear d6
      clear hd
      exact GH.st_load _ (by rfl) rfl rfl (((HG.out.below hb.below HG.out.lt)).cell 2) (by kernel_rfl)
    | 8, _, hd =>
      simp only [GH.mkL, List.getD_cons_succ, List.getD_cons_zero]
      have d3 : S 3 = .agg #[.int .u64 (k0 : Nat), .int .u64 (k1 : Nat)] := (hd 3 (by kernel_rfl)).2
      rw [d3]
      clear d3
      have d7 : S 7 = .int .u64 (n : Nat) := (hd 7 (by kernel_rfl)).2
      rw [d7]
      clear d7
      clear hd
      refine GH.st_call (by rfl) hb.below.size (by go_simp) ((drawn_any k0 k1 n w' h0 h1 hn).mono ?_)
      rintro e w9 ⟨rfl, hb9⟩
      exact ⟨_, rfl, hb9, rfl⟩
    | 9, _, hd =>
      simp only [GH.mkL, List.getD_cons_succ, List.getD_cons_zero]
      have d0 : S 0 = .pointer (some ⟨g, 0, none⟩) := (hd 0 (by kernel_rfl)).2
      rw [d0]
      clear d0
      have d1 : S 1 = .pointer (some ⟨g, 0, none⟩) := (hd 1 (by kernel_rfl)).2
      rw [d1]
      clear d1
      have d2 : S 2 = .pointer (some ⟨g, 0, none⟩) := (hd 2 (by kernel_rfl)).2
      rw [d2]
      clear d2
      have d3 : S 3 = .agg #[.int .u64 (k0 : Nat), .int .u64 (k1 : Nat)] := (hd 3 (by kernel_rfl)).2
      rw [d3]
      clear d3
      have d4 : S 4 = .pointer (some ⟨g, 0, none⟩) := (hd 4 (by kernel_rfl)).2
      rw [d4]
      clear d4
      have d5 : S 5 = .pointer (some ⟨g, 0, none⟩) := (hd 5 (by kernel_rfl)).2
      rw [d5]
      clear d5
      have d6 : S 6 = .pointer (some ⟨g, 2, none⟩) := (hd 6 (by kernel_rfl)).2
      rw [d6]
      clear d6
      have d7 : S 7 = .int .u64 (n : Nat) := (hd 7 (by kernel_rfl)).2
      rw [d7]
      clear d7
      have d8 : S 8 = .int .u64 (sumB k0 k1 (be n 8) : Nat) := (hd 8 (by kernel_rfl)).2
      rw [d8]
      clear d8
      clear hd
      refine GH.st_eq (by rfl) ?_
      go_simp
      (try with_reducible rfl)
    | n + 10, hj, _ => omega
  intro S w' hb hG
  simp only [GH.mkL, List.drop_succ_cons, List.drop_zero]
  have d9 : S 9 = .int .u64 (sumB k0 k1 (be n 8) : Nat) := hG 9 (by omega)
  rw [d9]
  clear d9
  clear hG
  have HG2 := Lib.hid (HG.out.below hb.below HG.out.lt)
  have TT := Lib.hid (Tou.of hb.below (Nat.le_of_lt HG.out.lt))
  have c2 : w'.cell? ⟨g, 2, none⟩ = some (.int .u64 (n : Nat)) := HG2.out.cell 2
  have f2 := HG2.out.frozen 2
  obtain ⟨m, hm⟩ : ∃ m, m = (n + 1) % 18446744073709551616 := ⟨_, rfl⟩
  have hv : IntKind.u64.wrap ((n : Int) + 1) = (m : Nat) := by rw [hm, IntKind.wrap_u64]; omega
  have HM := Lib.hid hm
  clear hb HG hm
  refine wpList_nil ?_
  go_wp2_with fail
  go_ret
  refine ⟨rfl, ?_, TT.out.solo (Solo.refl.setCell 2 _)⟩
  rw [← HM.out]
  exact HG2.out.set 2 (.int .u64 (m : Nat))
set_option maxRecDepth 20000 in
set_option maxHeartbeats 4000000 in
theorem made_any (c s : Nat) (l : List Nat) (w : World) (h0 : c < 18446744073709551616) (h1 : s < 18446744073709551616) (hb8 : ∀ x ∈ l, x < 256) (hl : l.length ≤ 1000) :
    Calls Try.prog 13 #[.int .u64 c, .int .u64 s, .string (strN l)] w fun e w' => e = .returned (.agg #[.int .u64 (kvA c s l : Nat), .int .u64 (kvB c s l : Nat)]) ∧ Below w.heap.size w w' := by
  go_enter Try.func13, Try.ntmps13
  go_upto_region 1 with fail
  have hk0 : Hid (Blk (w.alloc (.cells #[.int .u64 0, .int .u64 0] 27)) (w.heap.size) 27 #[.int .u64 0, .int .u64 0]) := Lib.hid ((Blk.new w 27 #[.int .u64 0, .int .u64 0]))
  have b1 : Hid (Below w.heap.size w (w.alloc (.cells #[.int .u64 0, .int .u64 0] 27))) := Lib.hid ((Below.refl w.heap.size w).alloc (Nat.le_refl _) (.cells #[.int .u64 0, .int .u64 0] 27))
  have hz : (w.alloc (.cells #[.int .u64 0, .int .u64 0] 27)).heap.size = w.heap.size + 1 := by simp
  generalize (w.alloc (.cells #[.int .u64 0, .int .u64 0] 27)) = w2 at hk0 b1 hz ⊢
  have HZ := Lib.hid hz
  clear hz
  refine GH.wp_ghs (M := false) 6 ((GH.SP.eq (.int .u64 (c : Nat))) :: (GH.SP.eq (.int .u64 (s : Nat))) :: (GH.SP.eq (.agg #[.int .u64 (c : Nat), .int .u64 (s : Nat)])) :: (GH.SP.eq (.string (strN (l)))) :: (GH.SP.ns .u8 (l)) :: (GH.SP.eq (.agg #[.int .u64 (kvA c s (l) : Nat), .int .u64 (kvB c s (l) : Nat)])) :: []) (none :: none :: none :: none :: none :: none :: none :: (some 0) :: (some 1) :: (some 2) :: (some 3) :: (some 4) :: (some 5) :: []) [7, 8, 9, 10, 11, 12] (by rfl) (by kernel_rfl) ?_ ?_ ?_
  · intro S j v hj
    match j, hj with
    | 0, _ => rfl
    | 1, _ => rfl
    | 2, _ => rfl
    | 3, _ => rfl
    | 4, _ => rfl
    | 5, _ => rfl
    | n + 6, hj => omega
  · intro j hj S w' hb hd
    match j, hj, hd with
    | 0, _, hd =>
      simp only [GH.mkL, List.getD_cons_succ, List.getD_cons_zero]
      clear hd
      refine GH.st_eq (by rfl) ?_
      go_simp
      (try with_reducible rfl)
    | 1, _, hd =>
      simp only [GH.mkL, List.getD_cons_succ, List.getD_cons_zero]
      clear hd
      refine GH.st_eq (by rfl) ?_
      go_simp
      (try with_reducible rfl)
    | 2, _, hd =>
      simp only [GH.mkL, List.getD_cons_succ, List.getD_cons_zero]
      have d0 : S 0 = .int .u64 (c : Nat) := (hd 0 (by kernel_rfl)).2
      rw [d0]
      clear d0
      have d1 : S 1 = .int .u64 (s : Nat) := (hd 1 (by kernel_rfl)).2
      rw [d1]
      clear d1
      clear hd
      refine GH.st_eq (by rfl) ?_
      go_simp
      (try with_reducible rfl)
    | 3, _, hd =>
      simp only [GH.mkL, List.getD_cons_succ, List.getD_cons_zero]
      clear hd
      refine GH.st_eq (by rfl) ?_
      go_simp
      (try with_reducible rfl)
    | 4, _, hd =>
      simp only [GH.mkL, List.getD_cons_succ, List.getD_cons_zero]
      have d3 : S 3 = .string (strN (l)) := (hd 3 (by kernel_rfl)).2
      rw [d3]
      clear d3
      clear hd
      exact GH.st_str _ Try.underlying9 Try.underlying51 Try.underlying5 (by rfl) hb.below.size rfl rfl (hb8)
    | 5, _, hd =>
      simp only [GH.mkL, List.getD_cons_succ, List.getD_cons_zero]
      have d2 : S 2 = .agg #[.int .u64 (c : Nat), .int .u64 (s : Nat)] := (hd 2 (by kernel_rfl)).2
      rw [d2]
      clear d2
      obtain ⟨A4, n4, c4, d4, e4, l4, H4⟩ := (hd 4 (by kernel_rfl)).2
      rw [d4]
      clear d4
      replace H4 := Lib.hid H4
      replace l4 := Lib.hid l4
      clear hd
      refine GH.st_call (by rfl) hb.below.size (by go_simp) ((rpair_row c s n4 c4 A4 (l) w' h0 h1 H4.out e4 l4.out hb8 hl).mono ?_)
      rintro e w9 ⟨rfl, hb9⟩
      exact ⟨_, rfl, hb9, rfl⟩
    | n + 6, hj, _ => omega
  intro S w' hb hG
  simp only [GH.mkL, List.drop_succ_cons, List.drop_zero]
  have d5 : S 5 = .agg #[.int .u64 (kvA c s (l) : Nat), .int .u64 (kvB c s (l) : Nat)] := hG 5 (by omega)
  rw [d5]
  clear d5
  clear hG
  have KF := Lib.hid (hk0.out.below hb.below hk0.out.lt)
  have BF := Lib.hid (b1.out.trans (hb.below.mono b1.out.size))
  clear b1 hb
  refine stm_store (cs' := #[.int .u64 (kvA c s l : Nat), .int .u64 (kvB c s l : Nat)]) KF.out rfl _ _ rfl rfl rfl (by simp) (by kernel_rfl) (by simp [Value.oneCell']) (by simp [setL]) fun w9 hk hs => ?_
  refine wpList_nil ?_
  go_wp2_with fail
  exact bodyPost_ret (results_agg Try.results13 hk (by rfl) (by kernel_rfl) (by kernel_rfl)) rfl ⟨rfl, BF.out.trans (hs.1.mono (by simp))⟩
set_option maxRecDepth 20000 in
set_option maxHeartbeats 4000000 in
theorem token_any (c s : Nat) (w : World) (h0 : c < 18446744073709551616) (h1 : s < 18446744073709551616) :
    Calls Try.prog 14 #[.int .u64 c, .int .u64 s] w fun e w' => e = .returned (.int .u32 (tkn c s : Nat)) ∧ Below w.heap.size w w' := by
  have hR : (sumB c s [116, 111, 107, 101, 110] : Int).tmod 4294967296 = (tkn c s : Nat) := by rw [Int.tmod_eq_emod_of_nonneg (by omega)]; unfold tkn; omega
  have hU : IntKind.u32.wrap (tkn c s : Nat) = (tkn c s : Nat) := by unfold tkn; rw [IntKind.wrap_u32]; omega
  go_enter Try.func14, Try.ntmps14
  go_upto_region 1 with fail
  have b1 := Lib.hid (Below.refl w.heap.size w)
  refine GH.wp_ghs (M := true) 9 ((GH.SP.eq (.int .u64 (c : Nat))) :: (GH.SP.eq (.int .u64 (s : Nat))) :: (GH.SP.eq (.agg #[.int .u64 (c : Nat), .int .u64 (s : Nat)])) :: (GH.SP.lit w.heap.size .u8 ([116, 111, 107, 101, 110])) :: (GH.SP.lit w.heap.size .u8 ([116, 111, 107, 101, 110])) :: (GH.SP.eq (.int .u64 (sumB c s ([116, 111, 107, 101, 110]) : Nat))) :: (GH.SP.eq (.int .u64 (tkn c s : Nat))) :: (GH.SP.eq (.int .u32 (tkn c s : Nat))) :: (GH.SP.eq (.int .u32 (tkn c s : Nat))) :: []) (none :: none :: none :: none :: (some 8) :: (some 0) :: (some 1) :: (some 2) :: (some 3) :: (some 4) :: (some 5) :: (some 6) :: (some 7) :: []) [5, 6, 7, 8, 9, 10, 11, 12, 4] (by rfl) (by kernel_rfl) ?_ ?_ ?_
  · intro S j v hj
    match j, hj with
    | 0, _ => rfl
    | 1, _ => rfl
    | 2, _ => rfl
    | 3, _ => rfl
    | 4, _ => rfl
    | 5, _ => rfl
    | 6, _ => rfl
    | 7, _ => rfl
    | 8, _ => rfl
    | n + 9, hj => omega
  · intro j hj S w' hb hd
    match j, hj, hd with
    | 0, _, hd =>
      simp only [GH.mkL, List.getD_cons_succ, List.getD_cons_zero]
      clear hd
      refine GH.st_eq (by rfl) ?_
      go_simp
      (try with_reducible rfl)
    | 1, _, hd =>
      simp only [GH.mkL, List.getD_cons_succ, List.getD_cons_zero]
      clear hd
      refine GH.st_eq (by rfl) ?_
      go_simp
      (try with_reducible rfl)
    | 2, _, hd =>
      simp only [GH.mkL, List.getD_cons_succ, List.getD_cons_zero]
      have d0 : S 0 = .int .u64 (c : Nat) := (hd 0 (by kernel_rfl)).2
      rw [d0]
      clear d0
      have d1 : S 1 = .int .u64 (s : Nat) := (hd 1 (by kernel_rfl)).2
      rw [d1]
      clear d1
      clear hd
      refine GH.st_eq (by rfl) ?_
      go_simp
      (try with_reducible rfl)
    | 3, _, hd =>
      simp only [GH.mkL, List.getD_cons_succ, List.getD_cons_zero]
      clear hd
      refine ⟨fun K hK => ?_⟩
      go_wp2_with fail
      exact hK _ _ (GH.Gr.of ((Below.refl _ _).alloc (Nat.le_refl _) _) hb.below.size) (GH.lit_lit .u8 _ _ hb.below.size rfl rfl)
    | 4, _, hd =>
      simp only [GH.mkL, List.getD_cons_succ, List.getD_cons_zero]
      obtain ⟨A3, d3, e3, H3⟩ := (hd 3 (by kernel_rfl)).2
      rw [d3]
      clear d3
      replace H3 := Lib.hid H3
      replace e3 := Lib.hid e3
      clear hd
      exact GH.st_mark _ Try.underlying51 Try.underlying5 (by rfl) rfl ⟨_, rfl, e3.out, H3.out⟩
    | 5, _, hd =>
      simp only [GH.mkL, List.getD_cons_succ, List.getD_cons_zero]
      have d2 : S 2 = .agg #[.int .u64 (c : Nat), .int .u64 (s : Nat)] := (hd 2 (by kernel_rfl)).2
      rw [d2]
      clear d2
      obtain ⟨A4, d4, e4, H4⟩ := (hd 4 (by kernel_rfl)).2
      rw [d4]
      clear d4
      replace H4 := Lib.hid H4
      replace e4 := Lib.hid e4
      clear hd
      refine GH.st_call (by rfl) hb.below.size (by go_simp) ((rsum_row c s ([116, 111, 107, 101, 110]).length ([116, 111, 107, 101, 110]).length (some ⟨A4, 0, none⟩) ([116, 111, 107, 101, 110]) w' h0 h1 H4.out (Nat.le_refl _) rfl (by decide) (by decide)).mono ?_)
      rintro e w9 ⟨rfl, hb9⟩
      exact ⟨_, rfl, hb9, rfl⟩
    | 6, _, hd =>
      simp only [GH.mkL, List.getD_cons_succ, List.getD_cons_zero]
      have d5 : S 5 = .int .u64 (sumB c s ([116, 111, 107, 101, 110]) : Nat) := (hd 5 (by kernel_rfl)).2
      rw [d5]
      clear d5
      clear hd
      refine GH.st_eq (by rfl) ?_
      go_simp
      (try with_reducible rfl)
    | 7, _, hd =>
      simp only [GH.mkL, List.getD_cons_succ, List.getD_cons_zero]
      have d6 : S 6 = .int .u64 (tkn c s : Nat) := (hd 6 (by kernel_rfl)).2
      rw [d6]
      clear d6
      clear hd
      refine GH.st_eq (by rfl) ?_
      go_simp
      (try with_reducible rfl)
    | 8, _, hd =>
      simp only [GH.mkL, List.getD_cons_succ, List.getD_cons_zero]
      have d0 : S 0 = .int .u64 (c : Nat) := (hd 0 (by kernel_rfl)).2
      rw [d0]
      clear d0
      have d1 : S 1 = .int .u64 (s : Nat) := (hd 1 (by kernel_rfl)).2
      rw [d1]
      clear d1
      have d2 : S 2 = .agg #[.int .u64 (c : Nat), .int .u64 (s : Nat)] := (hd 2 (by kernel_rfl)).2
      rw [d2]
      clear d2
      obtain ⟨A3, d3, e3, H3⟩ := (hd 3 (by kernel_rfl)).2
      rw [d3]
      clear d3
      replace H3 := Lib.hid H3
      replace e3 := Lib.hid e3
      obtain ⟨A4, d4, e4, H4⟩ := (hd 4 (by kernel_rfl)).2
      rw [d4]
      clear d4
      replace H4 := Lib.hid H4
      replace e4 := Lib.hid e4
      have d5 : S 5 = .int .u64 (sumB c s ([116, 111, 107, 101, 110]) : Nat) := (hd 5 (by kernel_rfl)).2
      rw [d5]
      clear d5
      have d6 : S 6 = .int .u64 (tkn c s : Nat) := (hd 6 (by kernel_rfl)).2
      rw [d6]
      clear d6
      have d7 : S 7 = .int .u32 (tkn c s : Nat) := (hd 7 (by kernel_rfl)).2
      rw [d7]
      clear d7
      clear hd
      refine GH.st_eq (by rfl) ?_
      go_simp
      (try with_reducible rfl)
    | n + 9, hj, _ => omega
  intro S w' hb hG
  simp only [GH.mkL, List.drop_succ_cons, List.drop_zero]
  have d8 : S 8 = .int .u32 (tkn c s : Nat) := hG 8 (by omega)
  rw [d8]
  clear d8
  clear hG
  have BF := Lib.hid (b1.out.trans (hb.below.mono b1.out.size))
  clear b1 hb
  refine wpList_nil ?_
  go_wp2_with fail
  go_ret
  exact ⟨rfl, BF.out⟩
end Go.Proofs.Ytcgcglngjfijnaa
