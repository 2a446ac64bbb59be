/- Layer 10: the document's Open. -/
import Derived.Test.YtbiimgfocgbdaaaG40MacOpens
import Derived.Test.YtbiimgfocgbdaaaG45MacOpens
import Derived.Test.YtbiimgfocgbdaaaG37MacOpens

namespace Go.Proofs.Ytbiimgfocgbdaaa
open Go.RowKit
set_option linter.unusedVariables false
set_option linter.unusedSimpArgs false
set_option maxRecDepth 20000 in
set_option maxHeartbeats 4000000 in
theorem ropen_any (k0 k1 : Nat) (sv : Value) (g : Sg) (w : World) (h0 : k0 < 18446744073709551616) (h1 : k1 < 18446744073709551616) (hsv : SegV w sv g) (hg : g.bd) (hs : g.small) :
    Calls Try.prog 28 #[.agg #[.int .u64 (k0 : Nat), .int .u64 (k1 : Nat)], sv] w fun e w' => (∃ (f p : Bool) (sq ak wn t : Nat) (ok : Bool), e = .returned (.tuple #[.agg #[.bool f, .bool p, .int .u64 (sq : Int), .int .u64 (ak : Int), .int .u32 (wn : Int), .int .u64 (t : Int)], .bool ok]) ∧ OpenR k0 k1 g f p sq ak wn t ok) ∧ Below w.heap.size w w' := by
  have HS := Lib.hid hsv
  have HG := Lib.hid hg
  have HM := Lib.hid hs
  clear hg hs
  obtain ⟨A1, n1, c1, D, m, d, lo, rfl, hO, ho, hD, hmd, hdm⟩ := hsv
  clear hO ho hD hdm
  unfold segCs at *
  go_enter Try.func28, Try.ntmps28
  go_wp2_with fail
  have hk0 : Hid (Blk (w.alloc (.cells #[.int .u64 (k0 : Nat), .int .u64 (k1 : Nat)] 24)) (w.heap.size) 24 #[.int .u64 (k0 : Nat), .int .u64 (k1 : Nat)]) := Lib.hid ((Blk.new w 24 #[.int .u64 (k0 : Nat), .int .u64 (k1 : Nat)]))
  replace hk0 : Hid (Blk ((w.alloc (.cells #[.int .u64 (k0 : Nat), .int .u64 (k1 : Nat)] 24)).alloc (.cells #[.int .u16 (g.src : Int), .int .u16 (g.dst : Int), .int .u32 (g.seq : Int), .int .u32 (g.ack : Int), .int .u8 (g.flags : Int), .slice A1 n1 c1, .slice D m d] 30)) (w.heap.size) 24 #[.int .u64 (k0 : Nat), .int .u64 (k1 : Nat)]) := Lib.hid (hk0.out.alloc _)
  replace hk0 : Hid (Blk (((w.alloc (.cells #[.int .u64 (k0 : Nat), .int .u64 (k1 : Nat)] 24)).alloc (.cells #[.int .u16 (g.src : Int), .int .u16 (g.dst : Int), .int .u32 (g.seq : Int), .int .u32 (g.ack : Int), .int .u8 (g.flags : Int), .slice A1 n1 c1, .slice D m d] 30)).alloc (.cells #[.bool false, .bool false, .int .u64 0, .int .u64 0, .int .u32 0, .int .u64 0] 58)) (w.heap.size) 24 #[.int .u64 (k0 : Nat), .int .u64 (k1 : Nat)]) := Lib.hid (hk0.out.alloc _)
  have hk1 : Hid (Blk ((w.alloc (.cells #[.int .u64 (k0 : Nat), .int .u64 (k1 : Nat)] 24)).alloc (.cells #[.int .u16 (g.src : Int), .int .u16 (g.dst : Int), .int .u32 (g.seq : Int), .int .u32 (g.ack : Int), .int .u8 (g.flags : Int), .slice A1 n1 c1, .slice D m d] 30)) (w.heap.size + 1) 30 #[.int .u16 (g.src : Int), .int .u16 (g.dst : Int), .int .u32 (g.seq : Int), .int .u32 (g.ack : Int), .int .u8 (g.flags : Int), .slice A1 n1 c1, .slice D m d]) := Lib.hid ((Blk.new (w.alloc (.cells #[.int .u64 (k0 : Nat), .int .u64 (k1 : Nat)] 24)) 30 #[.int .u16 (g.src : Int), .int .u16 (g.dst : Int), .int .u32 (g.seq : Int), .int .u32 (g.ack : Int), .int .u8 (g.flags : Int), .slice A1 n1 c1, .slice D m d]) |> fun h => by simpa using h)
  replace hk1 : Hid (Blk (((w.alloc (.cells #[.int .u64 (k0 : Nat), .int .u64 (k1 : Nat)] 24)).alloc (.cells #[.int .u16 (g.src : Int), .int .u16 (g.dst : Int), .int .u32 (g.seq : Int), .int .u32 (g.ack : Int), .int .u8 (g.flags : Int), .slice A1 n1 c1, .slice D m d] 30)).alloc (.cells #[.bool false, .bool false, .int .u64 0, .int .u64 0, .int .u32 0, .int .u64 0] 58)) (w.heap.size + 1) 30 #[.int .u16 (g.src : Int), .int .u16 (g.dst : Int), .int .u32 (g.seq : Int), .int .u32 (g.ack : Int), .int .u8 (g.flags : Int), .slice A1 n1 c1, .slice D m d]) := Lib.hid (hk1.out.alloc _)
  have hk2 : Hid (Blk (((w.alloc (.cells #[.int .u64 (k0 : Nat), .int .u64 (k1 : Nat)] 24)).alloc (.cells #[.int .u16 (g.src : Int), .int .u16 (g.dst : Int), .int .u32 (g.seq : Int), .int .u32 (g.ack : Int), .int .u8 (g.flags : Int), .slice A1 n1 c1, .slice D m d] 30)).alloc (.cells #[.bool false, .bool false, .int .u64 0, .int .u64 0, .int .u32 0, .int .u64 0] 58)) (w.heap.size + 2) 58 #[.bool false, .bool false, .int .u64 0, .int .u64 0, .int .u32 0, .int .u64 0]) := Lib.hid ((Blk.new ((w.alloc (.cells #[.int .u64 (k0 : Nat), .int .u64 (k1 : Nat)] 24)).alloc (.cells #[.int .u16 (g.src : Int), .int .u16 (g.dst : Int), .int .u32 (g.seq : Int), .int .u32 (g.ack : Int), .int .u8 (g.flags : Int), .slice A1 n1 c1, .slice D m d] 30)) 58 #[.bool false, .bool false, .int .u64 0, .int .u64 0, .int .u32 0, .int .u64 0]) |> fun h => by simpa using h)
  have b1 : Hid (Below w.heap.size w (((w.alloc (.cells #[.int .u64 (k0 : Nat), .int .u64 (k1 : Nat)] 24)).alloc (.cells #[.int .u16 (g.src : Int), .int .u16 (g.dst : Int), .int .u32 (g.seq : Int), .int .u32 (g.ack : Int), .int .u8 (g.flags : Int), .slice A1 n1 c1, .slice D m d] 30)).alloc (.cells #[.bool false, .bool false, .int .u64 0, .int .u64 0, .int .u32 0, .int .u64 0] 58))) := Lib.hid ((((Below.refl w.heap.size w).alloc (Nat.le_refl _) (.cells #[.int .u64 (k0 : Nat), .int .u64 (k1 : Nat)] 24)).alloc (by simp <;> omega) (.cells #[.int .u16 (g.src : Int), .int .u16 (g.dst : Int), .int .u32 (g.seq : Int), .int .u32 (g.ack : Int), .int .u8 (g.flags : Int), .slice A1 n1 c1, .slice D m d] 30)).alloc (by simp <;> omega) (.cells #[.bool false, .bool false, .int .u64 0, .int .u64 0, .int .u32 0, .int .u64 0] 58))
  have hz : (((w.alloc (.cells #[.int .u64 (k0 : Nat), .int .u64 (k1 : Nat)] 24)).alloc (.cells #[.int .u16 (g.src : Int), .int .u16 (g.dst : Int), .int .u32 (g.seq : Int), .int .u32 (g.ack : Int), .int .u8 (g.flags : Int), .slice A1 n1 c1, .slice D m d] 30)).alloc (.cells #[.bool false, .bool false, .int .u64 0, .int .u64 0, .int .u32 0, .int .u64 0] 58)).heap.size = w.heap.size + 3 := by simp
  generalize (((w.alloc (.cells #[.int .u64 (k0 : Nat), .int .u64 (k1 : Nat)] 24)).alloc (.cells #[.int .u16 (g.src : Int), .int .u16 (g.dst : Int), .int .u32 (g.seq : Int), .int .u32 (g.ack : Int), .int .u8 (g.flags : Int), .slice A1 n1 c1, .slice D m d] 30)).alloc (.cells #[.bool false, .bool false, .int .u64 0, .int .u64 0, .int .u32 0, .int .u64 0] 58)) = w2 at hk0 hk1 hk2 b1 hz ⊢
  have HZ := Lib.hid hz
  clear hz
  replace HS := Lib.hid (HS.out.into b1.out)
  obtain ⟨T, hT⟩ : ∃ T, T = w.heap.size := ⟨_, rfl⟩
  rw [← hT] at hk0 hk1 hk2 ⊢
  have HT := Lib.hid hT
  clear hT HZ
  refine (rone_any _ g 3 w2 HS.out HM.out).mono ?_
  rintro e w3 ⟨⟨kd3, A3, n3, c3, b3, is3, rfl, hc3, hr3, ho3⟩, hb3⟩
  have HO3 := Lib.hid ho3
  cases is3 with
  | false =>
    have hbA : Below w3.heap.size w3 (w3.alloc (.cells #[.int .u8 (kd3 : Int), .slice A3 n3 c3] 45)) := (Below.refl _ _).alloc (Nat.le_refl _) _
    have hb4 := hb3.trans (hbA.mono hb3.size)
    have K4 := Lib.hid (hk2.out.below hb4 hk2.out.lt)
    have B4 := Lib.hid (b1.out.trans (hb4.mono b1.out.size))
    have HNO := Lib.hid (OpenR.no (k0 := k0) (k1 := k1) (g := g) fun f p sq ak wn t h => by
      obtain ⟨lb, e1, _⟩ := h
      rw [HO3.out] at e1
      injection e1 with _ e1
      injection e1 with _ e1
      cases e1)
    clear hbA hb4 hb3 hk0 hk1 hk2 b1 HS hr3 ho3
    obtain ⟨t0, t1, t2, t3, t4, t5⟩ := ptc6 K4.out
    have f0 := K4.out.frozen 0
    have f1 := K4.out.frozen 1
    have f2 := K4.out.frozen 2
    have f3 := K4.out.frozen 3
    have f4 := K4.out.frozen 4
    have f5 := K4.out.frozen 5
    go_wp2_with fail
    have hkz := pt6 (.bool false) (.bool false) (.int .u64 0) (.int .u64 0) (.int .u32 0) (.int .u64 0) K4.out
    have hbz := ptb6 (.bool false) (.bool false) (.int .u64 0) (.int .u64 0) (.int .u32 0) (.int .u64 0) B4.out (show w.heap.size ≤ T + 2 by rw [← HT.out]; omega)
    unfold ptw6 at hkz hbz
    generalize ((((((w3.alloc (.cells #[.int .u8 (kd3 : Int), .slice A3 n3 c3] 45)).setCell ⟨T + 2, 0, none⟩ (.bool false)).setCell ⟨T + 2, 1, none⟩ (.bool false)).setCell ⟨T + 2, 2, none⟩ (.int .u64 0)).setCell ⟨T + 2, 3, none⟩ (.int .u64 0)).setCell ⟨T + 2, 4, none⟩ (.int .u32 0)).setCell ⟨T + 2, 5, none⟩ (.int .u64 0) = wz at *
    clear t0 t1 t2 t3 t4 t5 f0 f1 f2 f3 f4 f5
    obtain ⟨z0, z1, z2, z3, z4, z5⟩ := ptc6 hkz
    exact bodyPost_ret (v := .tuple #[.agg #[.bool false, .bool false, .int .u64 0, .int .u64 0, .int .u32 0, .int .u64 0], .bool false]) (by simp [results, Try.results28, go_sem, z0, z1, z2, z3, z4, z5]) rfl ⟨⟨_, _, _, _, _, _, _, rfl, HNO.out⟩, hbz⟩
  | true =>
    obtain ⟨hkd, hmem⟩ := oneS_true ho3
    subst hkd
    have hby := HG.out.bodies _ hmem
    have hln := HM.out.bodies _ hmem
    dsimp only at hby hln
    have hn3 : n3 ≤ 10000 := by rw [← hr3.natLen]; exact hln
    have hbA : Below w3.heap.size w3 (w3.alloc (.cells #[.int .u8 3, .slice A3 n3 c3] 45)) := (Below.refl _ _).alloc (Nat.le_refl _) _
    have KO := Lib.hid (Blk.new w3 45 #[.int .u8 3, .slice A3 n3 c3])
    have hb4 := hb3.trans (hbA.mono hb3.size)
    have K0 := Lib.hid (hk0.out.below hb4 hk0.out.lt)
    have K1 := Lib.hid (hk1.out.below hb4 hk1.out.lt)
    have K2 := Lib.hid (hk2.out.below hb4 hk2.out.lt)
    have B4 := Lib.hid (b1.out.trans (hb4.mono b1.out.size))
    have HC := Lib.hid (CovV.mk (kd := 3) (HS.out.into hb4) HG.out (hr3.into hbA) hc3 hn3 (by decide) HM.out.data hby)
    obtain ⟨o, hO⟩ : ∃ o, o = w3.heap.size := ⟨_, rfl⟩
    have hTo : T + 2 < o := by rw [hO]; exact Nat.lt_of_lt_of_le hk2.out.lt hb3.size
    clear hbA hb4 hb3 hk0 hk1 hk2 b1 HS hr3 ho3 hmem hby hln
    go_wp2_with fail
    rw [← hO] at KO ⊢
    clear hO
    generalize w3.alloc (.cells #[.int .u8 3, .slice A3 n3 c3] 45) = w4 at *
    refine (rparseData_any 3 A3 n3 c3 b3 w4 HC.out.row HC.out.cap HC.out.bytes hn3).mono ?_
    rintro e w5 ⟨hp, hb5⟩
    obtain ⟨f, p, sq, ak, wn, t, ok, rfl, hR⟩ := rdataPost_r hp
    have HR := Lib.hid hR
    clear hp hR
    cases ok with
    | false =>
      have hb6 : Below w4.heap.size w4 (w5.alloc (.cells #[.bool f, .bool p, .int .u64 (sq : Int), .int .u64 (ak : Int), .int .u32 (wn : Int), .int .u64 (t : Int) ] 58)) := hb5.trans (((Below.refl w5.heap.size w5).alloc (Nat.le_refl _) _).mono hb5.size)
      have K6 := Lib.hid (K2.out.below hb6 K2.out.lt)
      have B6 := Lib.hid (B4.out.trans (hb6.mono B4.out.size))
      have HNO := Lib.hid (OpenR.no (k0 := k0) (k1 := k1) (g := g) fun f' p' sq' ak' wn' t' h => by
        obtain ⟨lb, e1, e2, _⟩ := h
        rw [HO3.out] at e1
        injection e1 with _ e1
        injection e1 with e1 _
        subst e1
        rcases HR.out with ⟨h, _⟩ | ⟨_, _, h⟩
        · cases h
        · exact h _ _ _ _ _ _ e2)
      clear hb6 hb5 K0 K1 K2 KO B4 HC
      go_upto_region 5 with fail
      generalize w5.alloc (.cells #[.bool f, .bool p, .int .u64 (sq : Int), .int .u64 (ak : Int), .int .u32 (wn : Int), .int .u64 (t : Int)] 58) = w6 at *
      refine GH.wp_ghl (M := false) 12 ((GH.SP.eq (.bool false)) :: (GH.SP.eq (.bool true)) :: (GH.SP.eq (.bool true)) :: (GH.SP.eq (undef)) :: (GH.SP.eq (undef)) :: (GH.SP.eq (undef)) :: (GH.SP.eq (undef)) :: (GH.SP.eq (undef)) :: (GH.SP.eq (undef)) :: (GH.SP.eq (undef)) :: (GH.SP.eq (undef)) :: (GH.SP.eq (.bool true)) :: []) (none :: none :: none :: none :: none :: none :: none :: none :: none :: none :: none :: none :: none :: none :: none :: none :: none :: none :: none :: none :: none :: none :: none :: (some 0) :: (some 1) :: (some 2) :: (some 3) :: (some 4) :: (some 5) :: (some 6) :: (some 7) :: (some 8) :: (some 9) :: (some 10) :: (some 11) :: none :: none :: []) [23, 24, 25, 26, 27, 28, 29, 30, 31, 32, 33, 34] (by rfl) (by kernel_rfl) (by kernel_rfl) ?_ ?_ ?_
      · intro S jx v hjx
        match jx, hjx with
        | 0, _ => rfl
        | 1, _ => rfl
        | 2, _ => rfl
        | 3, _ => rfl
        | 4, _ => rfl
        | 5, _ => rfl
        | 6, _ => rfl
        | 7, _ => rfl
        | 8, _ => rfl
        | 9, _ => rfl
        | 10, _ => rfl
        | 11, _ => rfl
        | nx + 12, hjx => omega
      · intro jx hjx S w' hb hd
        match jx, hjx, hd with
        | 0, _, hd =>
          simp only [GH.mkL, List.getD_cons_succ, List.getD_cons_zero]
          clear hd
          refine GH.st_eq (by rfl) ?_
          go_simp
          (try with_reducible rfl)
        | 1, _, hd =>
          simp only [GH.mkL, List.getD_cons_succ, List.getD_cons_zero]
          have d0 : S 0 = .bool false := (hd 0 (by kernel_rfl)).2
          rw [d0]
          clear d0
          clear hd
          refine GH.st_eq (by rfl) ?_
          go_simp
          (try with_reducible rfl)
        | 2, _, hd =>
          simp only [GH.mkL, List.getD_cons_succ, List.getD_cons_zero]
          have d1 : S 1 = .bool true := (hd 1 (by kernel_rfl)).2
          rw [d1]
          clear d1
          clear hd
          refine GH.st_eq (by rfl) ?_
          go_simp
          (try with_reducible rfl)
        | 3, _, hd =>
          simp only [GH.mkL, List.getD_cons_succ, List.getD_cons_zero]
          have d2 : S 2 = .bool true := (hd 2 (by kernel_rfl)).2
          rw [d2]
          clear d2
          clear hd
          exact GH.st_skip (by rfl) rfl
        | 4, _, hd =>
          simp only [GH.mkL, List.getD_cons_succ, List.getD_cons_zero]
          have d2 : S 2 = .bool true := (hd 2 (by kernel_rfl)).2
          rw [d2]
          clear d2
          have d3 : S 3 = undef := (hd 3 (by kernel_rfl)).2
          rw [d3]
          clear d3
          clear hd
          exact GH.st_skip (by rfl) rfl
        | 5, _, hd =>
          simp only [GH.mkL, List.getD_cons_succ, List.getD_cons_zero]
          have d2 : S 2 = .bool true := (hd 2 (by kernel_rfl)).2
          rw [d2]
          clear d2
          clear hd
          exact GH.st_skip (by rfl) rfl
        | 6, _, hd =>
          simp only [GH.mkL, List.getD_cons_succ, List.getD_cons_zero]
          have d2 : S 2 = .bool true := (hd 2 (by kernel_rfl)).2
          rw [d2]
          clear d2
          clear hd
          exact GH.st_skip (by rfl) rfl
        | 7, _, hd =>
          simp only [GH.mkL, List.getD_cons_succ, List.getD_cons_zero]
          have d2 : S 2 = .bool true := (hd 2 (by kernel_rfl)).2
          rw [d2]
          clear d2
          clear hd
          exact GH.st_skip (by rfl) rfl
        | 8, _, hd =>
          simp only [GH.mkL, List.getD_cons_succ, List.getD_cons_zero]
          have d2 : S 2 = .bool true := (hd 2 (by kernel_rfl)).2
          rw [d2]
          clear d2
          have d7 : S 7 = undef := (hd 7 (by kernel_rfl)).2
          rw [d7]
          clear d7
          clear hd
          exact GH.st_skip (by rfl) rfl
        | 9, _, hd =>
          simp only [GH.mkL, List.getD_cons_succ, List.getD_cons_zero]
          have d2 : S 2 = .bool true := (hd 2 (by kernel_rfl)).2
          rw [d2]
          clear d2
          have d5 : S 5 = undef := (hd 5 (by kernel_rfl)).2
          rw [d5]
          clear d5
          have d6 : S 6 = undef := (hd 6 (by kernel_rfl)).2
          rw [d6]
          clear d6
          have d8 : S 8 = undef := (hd 8 (by kernel_rfl)).2
          rw [d8]
          clear d8
          clear hd
          exact GH.st_skip (by rfl) rfl
        | 10, _, hd =>
          simp only [GH.mkL, List.getD_cons_succ, List.getD_cons_zero]
          have d2 : S 2 = .bool true := (hd 2 (by kernel_rfl)).2
          rw [d2]
          clear d2
          have d4 : S 4 = undef := (hd 4 (by kernel_rfl)).2
          rw [d4]
          clear d4
          have d9 : S 9 = undef := (hd 9 (by kernel_rfl)).2
          rw [d9]
          clear d9
          clear hd
          exact GH.st_skip (by rfl) rfl
        | 11, _, hd =>
          simp only [GH.mkL, List.getD_cons_succ, List.getD_cons_zero]
          have d2 : S 2 = .bool true := (hd 2 (by kernel_rfl)).2
          rw [d2]
          clear d2
          have d10 : S 10 = undef := (hd 10 (by kernel_rfl)).2
          rw [d10]
          clear d10
          clear hd
          refine GH.st_eq (by rfl) ?_
          go_simp
          (try with_reducible rfl)
        | nx + 12, hjx, _ => omega
      intro S w' hb hG
      simp only [GH.mkL, List.drop_succ_cons, List.drop_zero]
      have d11 : S 11 = .bool true := hG 11 (by omega)
      rw [d11]
      clear d11
      clear hG
      have hb7 : Below w6.heap.size w6 w' := hb.below
      have K7 := Lib.hid (K6.out.below hb7 K6.out.lt)
      have B7 := Lib.hid (B6.out.trans (hb7.mono B6.out.size))
      clear K6 B6 hb7 hb
      generalize w' = w7 at *
      refine wpList_nil ?_
      obtain ⟨t0, t1, t2, t3, t4, t5⟩ := ptc6 K7.out
      have f0 := K7.out.frozen 0
      have f1 := K7.out.frozen 1
      have f2 := K7.out.frozen 2
      have f3 := K7.out.frozen 3
      have f4 := K7.out.frozen 4
      have f5 := K7.out.frozen 5
      go_wp2_with fail
      have hkz := pt6 (.bool false) (.bool false) (.int .u64 0) (.int .u64 0) (.int .u32 0) (.int .u64 0) K7.out
      have hbz := ptb6 (.bool false) (.bool false) (.int .u64 0) (.int .u64 0) (.int .u32 0) (.int .u64 0) B7.out (show w.heap.size ≤ T + 2 by rw [← HT.out]; omega)
      unfold ptw6 at hkz hbz
      generalize (((((w7.setCell ⟨T + 2, 0, none⟩ (.bool false)).setCell ⟨T + 2, 1, none⟩ (.bool false)).setCell ⟨T + 2, 2, none⟩ (.int .u64 0)).setCell ⟨T + 2, 3, none⟩ (.int .u64 0)).setCell ⟨T + 2, 4, none⟩ (.int .u32 0)).setCell ⟨T + 2, 5, none⟩ (.int .u64 0) = wz at *
      clear t0 t1 t2 t3 t4 t5 f0 f1 f2 f3 f4 f5
      obtain ⟨z0, z1, z2, z3, z4, z5⟩ := ptc6 hkz
      exact bodyPost_ret (v := .tuple #[.agg #[.bool false, .bool false, .int .u64 0, .int .u64 0, .int .u32 0, .int .u64 0], .bool false]) (by simp [results, Try.results28, go_sem, z0, z1, z2, z3, z4, z5]) rfl ⟨⟨_, _, _, _, _, _, _, rfl, HNO.out⟩, hbz⟩
    | true =>
      have HDI := Lib.hid (show DataIs 3 b3 f p sq ak wn t from by
        rcases HR.out with ⟨_, h⟩ | ⟨h, _⟩
        · exact h
        · cases h)
      have hbD : Below w5.heap.size w5 (w5.alloc (.cells #[.bool f, .bool p, .int .u64 (sq : Int), .int .u64 (ak : Int), .int .u32 (wn : Int), .int .u64 (t : Int) ] 58)) := (Below.refl w5.heap.size w5).alloc (Nat.le_refl _) _
      have KD := Lib.hid (Blk.new w5 58 #[.bool f, .bool p, .int .u64 (sq : Int), .int .u64 (ak : Int), .int .u32 (wn : Int), .int .u64 (t : Int)])
      have hb6 := hb5.trans (hbD.mono hb5.size)
      have K06 := Lib.hid (K0.out.below hb6 K0.out.lt)
      have K16 := Lib.hid (K1.out.below hb6 K1.out.lt)
      have K26 := Lib.hid (K2.out.below hb6 K2.out.lt)
      have KO6 := Lib.hid (KO.out.below hb6 KO.out.lt)
      have HC6 := Lib.hid (HC.out.into hb6)
      have B6 := Lib.hid (B4.out.trans (hb6.mono B4.out.size))
      obtain ⟨x, hX⟩ : ∃ x, x = w5.heap.size := ⟨_, rfl⟩
      have hox : o < x := by rw [hX]; exact Nat.lt_of_lt_of_le KO.out.lt hb5.size
      clear hbD hb6 hb5 K0 K1 K2 KO B4 HC HR
      obtain ⟨tg, htg⟩ : ∃ tg, tg = tagN k0 k1 g 3 b3 := ⟨_, rfl⟩
      have HTG := Lib.hid htg
      clear htg
      rw [← hX] at KD
      have HTAG : Hid (∀ w', CovV w' (.agg #[.int .u16 (g.src : Int), .int .u16 (g.dst : Int), .int .u32 (g.seq : Int), .int .u32 (g.ack : Int), .int .u8 (g.flags : Int), .slice A1 n1 c1, .slice D m d]) g A3 n3 c3 3 b3 → Calls Try.prog 14 #[.agg #[.int .u64 (k0 : Nat), .int .u64 (k1 : Nat)], .agg #[.int .u16 (g.src : Int), .int .u16 (g.dst : Int), .int .u32 (g.seq : Int), .int .u32 (g.ack : Int), .int .u8 (g.flags : Int), .slice A1 n1 c1, .slice D m d], .int .u8 3, .slice A3 n3 c3] w' fun e w'' => e = .returned (.int .u64 (tg : Nat)) ∧ Below w'.heap.size w' w'') := Lib.hid (fun w' h => by rw [HTG.out]; exact rtag_any k0 k1 _ g A3 n3 c3 3 b3 w' h0 h1 h)
      go_upto_region 5 with fail
      rw [← hX]
      clear hX
      generalize w5.alloc (.cells #[.bool f, .bool p, .int .u64 (sq : Int), .int .u64 (ak : Int), .int .u32 (wn : Int), .int .u64 (t : Int)] 58) = w6 at *
      by_cases hq : t = tg
      · have HQD := Lib.hid (show ((t : Int) != (tg : Int)) = false from by rw [hq]; simp)
        have HYY := Lib.hid (show OpenR k0 k1 g f p sq ak wn t true from .inl ⟨rfl, b3, HO3.out, HDI.out, hq.trans HTG.out⟩)
        clear hq HDI HO3 HTG
        refine GH.wp_ghl (M := false) 12 ((GH.SP.eq (.bool true)) :: (GH.SP.eq (.bool false)) :: (GH.SP.eq (.bool false)) :: (GH.SP.eq (.pointer (some ⟨x, 5, none⟩))) :: (GH.SP.eq (.int .u64 (t : Int))) :: (GH.SP.eq (.agg #[.int .u64 (k0 : Nat), .int .u64 (k1 : Nat)])) :: (GH.SP.eq (.agg #[.int .u16 (g.src : Int), .int .u16 (g.dst : Int), .int .u32 (g.seq : Int), .int .u32 (g.ack : Int), .int .u8 (g.flags : Int), .slice A1 n1 c1, .slice D m d])) :: (GH.SP.eq (.pointer (some ⟨o, 1, none⟩))) :: (GH.SP.eq (.slice A3 n3 c3)) :: (GH.SP.eq (.int .u64 (tg : Nat))) :: (GH.SP.eq (.bool false)) :: (GH.SP.eq (.bool false)) :: []) (none :: none :: none :: none :: none :: none :: none :: none :: none :: none :: none :: none :: none :: none :: none :: none :: none :: none :: none :: none :: none :: none :: none :: (some 0) :: (some 1) :: (some 2) :: (some 3) :: (some 4) :: (some 5) :: (some 6) :: (some 7) :: (some 8) :: (some 9) :: (some 10) :: (some 11) :: none :: none :: []) [23, 24, 25, 26, 27, 28, 29, 30, 31, 32, 33, 34] (by rfl) (by kernel_rfl) (by kernel_rfl) ?_ ?_ ?_
        · intro S jx v hjx
          match jx, hjx with
          | 0, _ => rfl
          | 1, _ => rfl
          | 2, _ => rfl
          | 3, _ => rfl
          | 4, _ => rfl
          | 5, _ => rfl
          | 6, _ => rfl
          | 7, _ => rfl
          | 8, _ => rfl
          | 9, _ => rfl
          | 10, _ => rfl
          | 11, _ => rfl
          | nx + 12, hjx => omega
        · intro jx hjx S w' hb hd
          match jx, hjx, hd with
          | 0, _, hd =>
            simp only [GH.mkL, List.getD_cons_succ, List.getD_cons_zero]
            clear hd
            refine GH.st_eq (by rfl) ?_
            go_simp
            (try with_reducible rfl)
          | 1, _, hd =>
            simp only [GH.mkL, List.getD_cons_succ, List.getD_cons_zero]
            have d0 : S 0 = .bool true := (hd 0 (by kernel_rfl)).2
            rw [d0]
            clear d0
            clear hd
            refine GH.st_eq (by rfl) ?_
            go_simp
            (try with_reducible rfl)
          | 2, _, hd =>
            simp only [GH.mkL, List.getD_cons_succ, List.getD_cons_zero]
            have d1 : S 1 = .bool false := (hd 1 (by kernel_rfl)).2
            rw [d1]
            clear d1
            clear hd
            refine GH.st_eq (by rfl) ?_
            go_simp
            (try with_reducible rfl)
          | 3, _, hd =>
            simp only [GH.mkL, List.getD_cons_succ, List.getD_cons_zero]
            have d2 : S 2 = .bool false := (hd 2 (by kernel_rfl)).2
            rw [d2]
            clear d2
            clear hd
            refine GH.st_eq (by rfl) ?_
            go_simp
            (try with_reducible rfl)
          | 4, _, hd =>
            simp only [GH.mkL, List.getD_cons_succ, List.getD_cons_zero]
            have d2 : S 2 = .bool false := (hd 2 (by kernel_rfl)).2
            rw [d2]
            clear d2
            have d3 : S 3 = .pointer (some ⟨x, 5, none⟩) := (hd 3 (by kernel_rfl)).2
            rw [d3]
            clear d3
            clear hd
            exact GH.st_load _ (by rfl) rfl rfl (((KD.out.below hb.below KD.out.lt)).cell 5) (by kernel_rfl)
          | 5, _, hd =>
            simp only [GH.mkL, List.getD_cons_succ, List.getD_cons_zero]
            have d2 : S 2 = .bool false := (hd 2 (by kernel_rfl)).2
            rw [d2]
            clear d2
            clear hd
            exact GH.st_loads _ [.int .u64 (k0 : Nat), .int .u64 (k1 : Nat)] (by rfl) rfl rfl (((K06.out.below hb.below K06.out.lt)).loads 0 _ (by rfl)) (by kernel_rfl) (by kernel_rfl)
          | 6, _, hd =>
            simp only [GH.mkL, List.getD_cons_succ, List.getD_cons_zero]
            have d2 : S 2 = .bool false := (hd 2 (by kernel_rfl)).2
            rw [d2]
            clear d2
            clear hd
            exact GH.st_loads _ [.int .u16 (g.src : Int), .int .u16 (g.dst : Int), .int .u32 (g.seq : Int), .int .u32 (g.ack : Int), .int .u8 (g.flags : Int), .slice A1 n1 c1, .slice D m d] (by rfl) rfl rfl (((K16.out.below hb.below K16.out.lt)).loads 0 _ (by rfl)) (by kernel_rfl) (by kernel_rfl)
          | 7, _, hd =>
            simp only [GH.mkL, List.getD_cons_succ, List.getD_cons_zero]
            have d2 : S 2 = .bool false := (hd 2 (by kernel_rfl)).2
            rw [d2]
            clear d2
            clear hd
            refine GH.st_eq (by rfl) ?_
            go_simp
            (try with_reducible rfl)
          | 8, _, hd =>
            simp only [GH.mkL, List.getD_cons_succ, List.getD_cons_zero]
            have d2 : S 2 = .bool false := (hd 2 (by kernel_rfl)).2
            rw [d2]
            clear d2
            have d7 : S 7 = .pointer (some ⟨o, 1, none⟩) := (hd 7 (by kernel_rfl)).2
            rw [d7]
            clear d7
            clear hd
            exact GH.st_load _ (by rfl) rfl rfl (((KO6.out.below hb.below KO6.out.lt)).cell 1) (by kernel_rfl)
          | 9, _, hd =>
            simp only [GH.mkL, List.getD_cons_succ, List.getD_cons_zero]
            have d2 : S 2 = .bool false := (hd 2 (by kernel_rfl)).2
            rw [d2]
            clear d2
            have d5 : S 5 = .agg #[.int .u64 (k0 : Nat), .int .u64 (k1 : Nat)] := (hd 5 (by kernel_rfl)).2
            rw [d5]
            clear d5
            have d6 : S 6 = .agg #[.int .u16 (g.src : Int), .int .u16 (g.dst : Int), .int .u32 (g.seq : Int), .int .u32 (g.ack : Int), .int .u8 (g.flags : Int), .slice A1 n1 c1, .slice D m d] := (hd 6 (by kernel_rfl)).2
            rw [d6]
            clear d6
            have d8 : S 8 = .slice A3 n3 c3 := (hd 8 (by kernel_rfl)).2
            rw [d8]
            clear d8
            clear hd
            refine GH.st_call (by rfl) hb.below.size (by go_simp) ((HTAG.out w' (HC6.out.gr hb)).mono ?_)
            rintro e w9 ⟨rfl, hb9⟩
            exact ⟨_, rfl, hb9, rfl⟩
          | 10, _, hd =>
            simp only [GH.mkL, List.getD_cons_succ, List.getD_cons_zero]
            have d2 : S 2 = .bool false := (hd 2 (by kernel_rfl)).2
            rw [d2]
            clear d2
            have d4 : S 4 = .int .u64 (t : Int) := (hd 4 (by kernel_rfl)).2
            rw [d4]
            clear d4
            have d9 : S 9 = .int .u64 (tg : Nat) := (hd 9 (by kernel_rfl)).2
            rw [d9]
            clear d9
            clear hd
            refine GH.st_eq (by rfl) ?_
            have hqd := HQD.out
            go_simp
            (try with_reducible rfl)
          | 11, _, hd =>
            simp only [GH.mkL, List.getD_cons_succ, List.getD_cons_zero]
            have d2 : S 2 = .bool false := (hd 2 (by kernel_rfl)).2
            rw [d2]
            clear d2
            have d10 : S 10 = .bool false := (hd 10 (by kernel_rfl)).2
            rw [d10]
            clear d10
            clear hd
            refine GH.st_eq (by rfl) ?_
            go_simp
            (try with_reducible rfl)
          | nx + 12, hjx, _ => omega
        intro S w' hb hG
        simp only [GH.mkL, List.drop_succ_cons, List.drop_zero]
        have d11 : S 11 = .bool false := hG 11 (by omega)
        rw [d11]
        clear d11
        clear hG
        have hb7 : Below w6.heap.size w6 w' := hb.below
        have K7 := Lib.hid (K26.out.below hb7 K26.out.lt)
        have KD7 := Lib.hid (KD.out.below hb7 KD.out.lt)
        have B7 := Lib.hid (B6.out.trans (hb7.mono B6.out.size))
        clear K26 KD B6 hb7 K06 K16 KO6 HC6 hb
        generalize w' = w7 at *
        refine wpList_nil ?_
        obtain ⟨t0, t1, t2, t3, t4, t5⟩ := ptc6 K7.out
        have f0 := K7.out.frozen 0
        have f1 := K7.out.frozen 1
        have f2 := K7.out.frozen 2
        have f3 := K7.out.frozen 3
        have f4 := K7.out.frozen 4
        have f5 := K7.out.frozen 5
        obtain ⟨x0, x1, x2, x3, x4, x5⟩ := ptc6 KD7.out
        go_wp2_with fail
        have hkz := pt6 (.bool f) (.bool p) (.int .u64 (sq : Int)) (.int .u64 (ak : Int)) (.int .u32 (wn : Int)) (.int .u64 (t : Int)) K7.out
        have hbz := ptb6 (.bool f) (.bool p) (.int .u64 (sq : Int)) (.int .u64 (ak : Int)) (.int .u32 (wn : Int)) (.int .u64 (t : Int)) B7.out (show w.heap.size ≤ T + 2 by rw [← HT.out]; omega)
        unfold ptw6 at hkz hbz
        generalize (((((w7.setCell ⟨T + 2, 0, none⟩ (.bool f)).setCell ⟨T + 2, 1, none⟩ (.bool p)).setCell ⟨T + 2, 2, none⟩ (.int .u64 (sq : Int))).setCell ⟨T + 2, 3, none⟩ (.int .u64 (ak : Int))).setCell ⟨T + 2, 4, none⟩ (.int .u32 (wn : Int))).setCell ⟨T + 2, 5, none⟩ (.int .u64 (t : Int)) = wz at *
        clear t0 t1 t2 t3 t4 t5 f0 f1 f2 f3 f4 f5
        obtain ⟨z0, z1, z2, z3, z4, z5⟩ := ptc6 hkz
        exact bodyPost_ret (v := .tuple #[.agg #[.bool f, .bool p, .int .u64 (sq : Int), .int .u64 (ak : Int), .int .u32 (wn : Int), .int .u64 (t : Int)], .bool true]) (by simp [results, Try.results28, go_sem, z0, z1, z2, z3, z4, z5]) rfl ⟨⟨_, _, _, _, _, _, _, rfl, HYY.out⟩, hbz⟩
      · have HQD := Lib.hid (show ((t : Int) != (tg : Int)) = true from by simp; omega)
        have HNO := Lib.hid (OpenR.no (k0 := k0) (k1 := k1) (g := g) fun f' p' sq' ak' wn' t' h => by
          obtain ⟨lb, e1, e2, e3⟩ := h
          rw [HO3.out] at e1
          injection e1 with _ e1
          injection e1 with e1 _
          subst e1
          have e4 := (e2.one HDI.out).2.2.2.2.2
          exact hq (by rw [← e4, e3, HTG.out]))
        clear hq HDI HO3 HTG
        refine GH.wp_ghl (M := false) 12 ((GH.SP.eq (.bool true)) :: (GH.SP.eq (.bool false)) :: (GH.SP.eq (.bool false)) :: (GH.SP.eq (.pointer (some ⟨x, 5, none⟩))) :: (GH.SP.eq (.int .u64 (t : Int))) :: (GH.SP.eq (.agg #[.int .u64 (k0 : Nat), .int .u64 (k1 : Nat)])) :: (GH.SP.eq (.agg #[.int .u16 (g.src : Int), .int .u16 (g.dst : Int), .int .u32 (g.seq : Int), .int .u32 (g.ack : Int), .int .u8 (g.flags : Int), .slice A1 n1 c1, .slice D m d])) :: (GH.SP.eq (.pointer (some ⟨o, 1, none⟩))) :: (GH.SP.eq (.slice A3 n3 c3)) :: (GH.SP.eq (.int .u64 (tg : Nat))) :: (GH.SP.eq (.bool true)) :: (GH.SP.eq (.bool true)) :: []) (none :: none :: none :: none :: none :: none :: none :: none :: none :: none :: none :: none :: none :: none :: none :: none :: none :: none :: none :: none :: none :: none :: none :: (some 0) :: (some 1) :: (some 2) :: (some 3) :: (some 4) :: (some 5) :: (some 6) :: (some 7) :: (some 8) :: (some 9) :: (some 10) :: (some 11) :: none :: none :: []) [23, 24, 25, 26, 27, 28, 29, 30, 31, 32, 33, 34] (by rfl) (by kernel_rfl) (by kernel_rfl) ?_ ?_ ?_
        · intro S jx v hjx
          match jx, hjx with
          | 0, _ => rfl
          | 1, _ => rfl
          | 2, _ => rfl
          | 3, _ => rfl
          | 4, _ => rfl
          | 5, _ => rfl
          | 6, _ => rfl
          | 7, _ => rfl
          | 8, _ => rfl
          | 9, _ => rfl
          | 10, _ => rfl
          | 11, _ => rfl
          | nx + 12, hjx => omega
        · intro jx hjx S w' hb hd
          match jx, hjx, hd with
          | 0, _, hd =>
            simp only [GH.mkL, List.getD_cons_succ, List.getD_cons_zero]
            clear hd
            refine GH.st_eq (by rfl) ?_
            go_simp
            (try with_reducible rfl)
          | 1, _, hd =>
            simp only [GH.mkL, List.getD_cons_succ, List.getD_cons_zero]
            have d0 : S 0 = .bool true := (hd 0 (by kernel_rfl)).2
            rw [d0]
            clear d0
            clear hd
            refine GH.st_eq (by rfl) ?_
            go_simp
            (try with_reducible rfl)
          | 2, _, hd =>
            simp only [GH.mkL, List.getD_cons_succ, List.getD_cons_zero]
            have d1 : S 1 = .bool false := (hd 1 (by kernel_rfl)).2
            rw [d1]
            clear d1
            clear hd
            refine GH.st_eq (by rfl) ?_
            go_simp
            (try with_reducible rfl)
          | 3, _, hd =>
            simp only [GH.mkL, List.getD_cons_succ, List.getD_cons_zero]
            have d2 : S 2 = .bool false := (hd 2 (by kernel_rfl)).2
            rw [d2]
            clear d2
            clear hd
            refine GH.st_eq (by rfl) ?_
            go_simp
            (try with_reducible rfl)
          | 4, _, hd =>
            simp only [GH.mkL, List.getD_cons_succ, List.getD_cons_zero]
            have d2 : S 2 = .bool false := (hd 2 (by kernel_rfl)).2
            rw [d2]
            clear d2
            have d3 : S 3 = .pointer (some ⟨x, 5, none⟩) := (hd 3 (by kernel_rfl)).2
            rw [d3]
            clear d3
            clear hd
            exact GH.st_load _ (by rfl) rfl rfl (((KD.out.below hb.below KD.out.lt)).cell 5) (by kernel_rfl)
          | 5, _, hd =>
            simp only [GH.mkL, List.getD_cons_succ, List.getD_cons_zero]
            have d2 : S 2 = .bool false := (hd 2 (by kernel_rfl)).2
            rw [d2]
            clear d2
            clear hd
            exact GH.st_loads _ [.int .u64 (k0 : Nat), .int .u64 (k1 : Nat)] (by rfl) rfl rfl (((K06.out.below hb.below K06.out.lt)).loads 0 _ (by rfl)) (by kernel_rfl) (by kernel_rfl)
          | 6, _, hd =>
            simp only [GH.mkL, List.getD_cons_succ, List.getD_cons_zero]
            have d2 : S 2 = .bool false := (hd 2 (by kernel_rfl)).2
            rw [d2]
            clear d2
            clear hd
            exact GH.st_loads _ [.int .u16 (g.src : Int), .int .u16 (g.dst : Int), .int .u32 (g.seq : Int), .int .u32 (g.ack : Int), .int .u8 (g.flags : Int), .slice A1 n1 c1, .slice D m d] (by rfl) rfl rfl (((K16.out.below hb.below K16.out.lt)).loads 0 _ (by rfl)) (by kernel_rfl) (by kernel_rfl)
          | 7, _, hd =>
            simp only [GH.mkL, List.getD_cons_succ, List.getD_cons_zero]
            have d2 : S 2 = .bool false := (hd 2 (by kernel_rfl)).2
            rw [d2]
            clear d2
            clear hd
            refine GH.st_eq (by rfl) ?_
            go_simp
            (try with_reducible rfl)
          | 8, _, hd =>
            simp only [GH.mkL, List.getD_cons_succ, List.getD_cons_zero]
            have d2 : S 2 = .bool false := (hd 2 (by kernel_rfl)).2
            rw [d2]
            clear d2
            have d7 : S 7 = .pointer (some ⟨o, 1, none⟩) := (hd 7 (by kernel_rfl)).2
            rw [d7]
            clear d7
            clear hd
            exact GH.st_load _ (by rfl) rfl rfl (((KO6.out.below hb.below KO6.out.lt)).cell 1) (by kernel_rfl)
          | 9, _, hd =>
            simp only [GH.mkL, List.getD_cons_succ, List.getD_cons_zero]
            have d2 : S 2 = .bool false := (hd 2 (by kernel_rfl)).2
            rw [d2]
            clear d2
            have d5 : S 5 = .agg #[.int .u64 (k0 : Nat), .int .u64 (k1 : Nat)] := (hd 5 (by kernel_rfl)).2
            rw [d5]
            clear d5
            have d6 : S 6 = .agg #[.int .u16 (g.src : Int), .int .u16 (g.dst : Int), .int .u32 (g.seq : Int), .int .u32 (g.ack : Int), .int .u8 (g.flags : Int), .slice A1 n1 c1, .slice D m d] := (hd 6 (by kernel_rfl)).2
            rw [d6]
            clear d6
            have d8 : S 8 = .slice A3 n3 c3 := (hd 8 (by kernel_rfl)).2
            rw [d8]
            clear d8
            clear hd
            refine GH.st_call (by rfl) hb.below.size (by go_simp) ((HTAG.out w' (HC6.out.gr hb)).mono ?_)
            rintro e w9 ⟨rfl, hb9⟩
            exact ⟨_, rfl, hb9, rfl⟩
          | 10, _, hd =>
            simp only [GH.mkL, List.getD_cons_succ, List.getD_cons_zero]
            have d2 : S 2 = .bool false := (hd 2 (by kernel_rfl)).2
            rw [d2]
            clear d2
            have d4 : S 4 = .int .u64 (t : Int) := (hd 4 (by kernel_rfl)).2
            rw [d4]
            clear d4
            have d9 : S 9 = .int .u64 (tg : Nat) := (hd 9 (by kernel_rfl)).2
            rw [d9]
            clear d9
            clear hd
            refine GH.st_eq (by rfl) ?_
            have hqd := HQD.out
            go_simp
            (try with_reducible rfl)
          | 11, _, hd =>
            simp only [GH.mkL, List.getD_cons_succ, List.getD_cons_zero]
            have d2 : S 2 = .bool false := (hd 2 (by kernel_rfl)).2
            rw [d2]
            clear d2
            have d10 : S 10 = .bool true := (hd 10 (by kernel_rfl)).2
            rw [d10]
            clear d10
            clear hd
            refine GH.st_eq (by rfl) ?_
            go_simp
            (try with_reducible rfl)
          | nx + 12, hjx, _ => omega
        intro S w' hb hG
        simp only [GH.mkL, List.drop_succ_cons, List.drop_zero]
        have d11 : S 11 = .bool true := hG 11 (by omega)
        rw [d11]
        clear d11
        clear hG
        have hb7 : Below w6.heap.size w6 w' := hb.below
        have K7 := Lib.hid (K26.out.below hb7 K26.out.lt)
        have KD7 := Lib.hid (KD.out.below hb7 KD.out.lt)
        have B7 := Lib.hid (B6.out.trans (hb7.mono B6.out.size))
        clear K26 KD B6 hb7 K06 K16 KO6 HC6 hb
        generalize w' = w7 at *
        refine wpList_nil ?_
        obtain ⟨t0, t1, t2, t3, t4, t5⟩ := ptc6 K7.out
        have f0 := K7.out.frozen 0
        have f1 := K7.out.frozen 1
        have f2 := K7.out.frozen 2
        have f3 := K7.out.frozen 3
        have f4 := K7.out.frozen 4
        have f5 := K7.out.frozen 5
        go_wp2_with fail
        have hkz := pt6 (.bool false) (.bool false) (.int .u64 0) (.int .u64 0) (.int .u32 0) (.int .u64 0) K7.out
        have hbz := ptb6 (.bool false) (.bool false) (.int .u64 0) (.int .u64 0) (.int .u32 0) (.int .u64 0) B7.out (show w.heap.size ≤ T + 2 by rw [← HT.out]; omega)
        unfold ptw6 at hkz hbz
        generalize (((((w7.setCell ⟨T + 2, 0, none⟩ (.bool false)).setCell ⟨T + 2, 1, none⟩ (.bool false)).setCell ⟨T + 2, 2, none⟩ (.int .u64 0)).setCell ⟨T + 2, 3, none⟩ (.int .u64 0)).setCell ⟨T + 2, 4, none⟩ (.int .u32 0)).setCell ⟨T + 2, 5, none⟩ (.int .u64 0) = wz at *
        clear t0 t1 t2 t3 t4 t5 f0 f1 f2 f3 f4 f5
        obtain ⟨z0, z1, z2, z3, z4, z5⟩ := ptc6 hkz
        exact bodyPost_ret (v := .tuple #[.agg #[.bool false, .bool false, .int .u64 0, .int .u64 0, .int .u32 0, .int .u64 0], .bool false]) (by simp [results, Try.results28, go_sem, z0, z1, z2, z3, z4, z5]) rfl ⟨⟨_, _, _, _, _, _, _, rfl, HNO.out⟩, hbz⟩
end Go.Proofs.Ytbiimgfocgbdaaa
