/- Layer 31: the document's Blocks. -/
import Derived.Test.YtohehnlbknaflaaG33SackPlays
import Derived.Test.YtohehnlbknaflaaG27SackPlays
import Derived.Deep.Cut

namespace Go.Proofs.Ytohehnlbknaflaa
open Go.RowKit
set_option linter.unusedVariables false
set_option linter.unusedSimpArgs false
theorem bks_snoc {l : List Bk} {i : Nat} {x y : Int} (h : l[i]? = some (x, y)) : l.take (i + 1) = l.take i ++ [(x, y)] := by
  rw [List.take_add_one, h]
  rfl
set_option maxRecDepth 20000 in
set_option maxHeartbeats 4000000 in
theorem rblocks_any (W : Int) (most : Nat) (A : Option Addr) (n c : Nat) (l : List Sp) (w : World) (hR : Rd w w.heap.size 2 A n (cels l)) (hn : n ≤ 100) (hl : ∀ p ∈ l, p.1 ≤ 1048576 ∧ p.2 ≤ 1048576) (hW : U32 W) :
    Calls Try.prog 21 #[.agg #[.int .u32 W, .int .i64 (most : Int), .slice A n c]] w fun e w' => (∃ v, e = .returned v ∧ BO w' w.heap.size v (bdL W l)) ∧ Below w.heap.size w w' := by
  have HL := Lib.hid hl
  have HU := Lib.hid hW
  have hb0 := Lib.hid ((Below.refl w.heap.size w).alloc (Nat.le_refl _) (.cells #[.int .u32 W, .int .i64 (most : Int), .slice A n c] 48))
  have HR := Lib.hid (hR.into hb0.out)
  have KX := Lib.hid (Blk.new w 48 #[.int .u32 W, .int .i64 (most : Int), .slice A n c])
  have hnl := Lib.hid hR.pcLen
  clear hR hl hW
  go_enter Try.func21, Try.ntmps21
  go_wp2_with fail
  generalize w.alloc (.cells #[.int .u32 W, .int .i64 (most : Int), .slice A n c] 48) = w2 at *
  go_loopw [3, 4] (fun ov iv wr => ∃ i : Nat, i ≤ n ∧ iv = .int .i64 (i : Nat) ∧ Hid (BO wr w2.heap.size ov ((bdL W l).take i)) ∧ Hid (Below w2.heap.size w2 wr)) (fun _ iv _ => n - (intOf iv).toNat)
  case atStart => exact ⟨0, Nat.zero_le _, rfl, Lib.hid (BO.nil _ _), Lib.hid (Below.refl _ _)⟩
  case round =>
    obtain ⟨i, hi, rfl, hown, hbw⟩ := hrel
    have KXr := Lib.hid (KX.out.below hbw.out KX.out.lt)
    obtain ⟨x0, x1, x2⟩ := ptc3 KXr.out
    by_cases hlt : i < n
    · have HLT := Lib.hid hlt
      have hlt' : (i : Int) < (n : Int) := by omega
      obtain ⟨ab, ao, px, py, eA, hab, q0, q1, hp⟩ := (HR.out.into hbw.out).pc hlt
      have hpl := HL.out _ (List.mem_of_getElem? hp.out)
      dsimp only at hpl
      have HWX := Lib.hid (show IntKind.u32.wrap (px : Int) = (px : Int) from by rw [IntKind.wrap_u32]; omega)
      have HWY := Lib.hid (show IntKind.u32.wrap (py : Int) = (py : Int) from by rw [IntKind.wrap_u32]; omega)
      have HPX := Lib.hid (show IntKind.u32.wrap (W + (px : Int)) = pl W px from IntKind.wrap_u32 _)
      have HPY := Lib.hid (show IntKind.u32.wrap (W + (py : Int)) = pl W py from IntKind.wrap_u32 _)
      have HSN := Lib.hid (bks_snoc (l := bdL W l) (i := i) (x := pl W px) (y := pl W py) (by unfold bdL; rw [List.getElem?_map, hp.out]; rfl))
      obtain ⟨A8, n8, c8, rfl, hn8, hl8, _⟩ := hown.out.out
      have hn8b := Lib.hid (show n8 ≤ 200 from by rw [← hl8.out, List.length_take]; omega)
      have EA := Lib.hid eA
      have C0 := Lib.hid q0
      have C1 := Lib.hid q1
      have O6 := hown
      have B6 := hbw
      clear eA q0 q1 hp hpl hown hbw hlt
      go_wp2_with fail
      clear x0 x1 x2
      refine GH.wp_ghl2 (M := false) 23 ((GH.SP.eq (.slice A8 n8 c8)) :: (GH.SP.eq (.pointer (some ⟨w.heap.size, 0, none⟩))) :: (GH.SP.eq (.int .u32 W)) :: (GH.SP.eq (.pointer (some ⟨w.heap.size, 2, none⟩))) :: (GH.SP.eq (.slice A n c)) :: (GH.SP.eq (.int .i64 (i : Nat))) :: (GH.SP.eq (.pointer (some ⟨ab, ao + i * 2, none⟩))) :: (GH.SP.eq (.pointer (some ⟨ab, ao + i * 2, none⟩))) :: (GH.SP.eq (.int .u64 (px : Nat))) :: (GH.SP.eq (.int .u32 (px : Nat))) :: (GH.SP.eq (.int .u32 (pl W px))) :: (GH.SP.eq (.pointer (some ⟨w.heap.size, 0, none⟩))) :: (GH.SP.eq (.int .u32 W)) :: (GH.SP.eq (.pointer (some ⟨w.heap.size, 2, none⟩))) :: (GH.SP.eq (.slice A n c)) :: (GH.SP.eq (.int .i64 (i : Nat))) :: (GH.SP.eq (.pointer (some ⟨ab, ao + i * 2, none⟩))) :: (GH.SP.eq (.pointer (some ⟨ab, ao + i * 2 + 1, none⟩))) :: (GH.SP.eq (.int .u64 (py : Nat))) :: (GH.SP.eq (.int .u32 (py : Nat))) :: (GH.SP.eq (.int .u32 (pl W py))) :: (GH.SP.eq (.agg #[.int .u32 (pl W px), .int .u32 (pl W py)])) :: (GH.SP.rd 2 1 ([.int .u32 (pl W px), .int .u32 (pl W py)])) :: []) (none :: none :: none :: none :: none :: none :: none :: none :: none :: none :: none :: none :: (some 0) :: (some 1) :: (some 2) :: (some 3) :: (some 4) :: (some 5) :: (some 6) :: (some 7) :: (some 8) :: (some 9) :: (some 10) :: (some 11) :: (some 12) :: (some 13) :: (some 14) :: (some 15) :: (some 16) :: (some 17) :: (some 18) :: (some 19) :: (some 20) :: (some 21) :: (some 22) :: none :: none :: []) [12, 13, 14, 15, 16, 17, 18, 19, 20, 21, 22, 23, 24, 25, 26, 27, 28, 29, 30, 31, 32, 33, 34] (by rfl) (by kernel_rfl) (by kernel_rfl) ?_ ?_ ?_
      · intro S jx v hjx
        match jx, hjx with
        | 0, _ => rfl
        | 1, _ => rfl
        | 2, _ => rfl
        | 3, _ => rfl
        | 4, _ => rfl
        | 5, _ => rfl
        | 6, _ => rfl
        | 7, _ => rfl
        | 8, _ => rfl
        | 9, _ => rfl
        | 10, _ => rfl
        | 11, _ => rfl
        | 12, _ => rfl
        | 13, _ => rfl
        | 14, _ => rfl
        | 15, _ => rfl
        | 16, _ => rfl
        | 17, _ => rfl
        | 18, _ => rfl
        | 19, _ => rfl
        | 20, _ => rfl
        | 21, _ => rfl
        | 22, _ => rfl
        | nx + 23, hjx => omega
      · intro jx hjx S w' hb hd
        match jx, hjx, hd with
        | 0, _, hd =>
          simp only [GH.mkL, List.getD_cons_succ, List.getD_cons_zero]
          clear hd
          refine GH.st_eq (by rfl) ?_
          go_simp
          (try with_reducible rfl)
        | 1, _, hd =>
          simp only [GH.mkL, List.getD_cons_succ, List.getD_cons_zero]
          clear hd
          refine GH.st_eq (by rfl) ?_
          go_simp
          (try with_reducible rfl)
        | 2, _, hd =>
          simp only [GH.mkL, List.getD_cons_succ, List.getD_cons_zero]
          have d1 : S 1 = .pointer (some ⟨w.heap.size, 0, none⟩) := (hd 1 (by kernel_rfl)).2
          rw [d1]
          clear d1
          clear hd
          exact GH.st_load _ (by rfl) rfl rfl (((KXr.out.below hb.below KXr.out.lt)).cell 0) (by kernel_rfl)
        | 3, _, hd =>
          simp only [GH.mkL, List.getD_cons_succ, List.getD_cons_zero]
          clear hd
          refine GH.st_eq (by rfl) ?_
          go_simp
          (try with_reducible rfl)
        | 4, _, hd =>
          simp only [GH.mkL, List.getD_cons_succ, List.getD_cons_zero]
          have d3 : S 3 = .pointer (some ⟨w.heap.size, 2, none⟩) := (hd 3 (by kernel_rfl)).2
          rw [d3]
          clear d3
          clear hd
          exact GH.st_load _ (by rfl) rfl rfl (((KXr.out.below hb.below KXr.out.lt)).cell 2) (by kernel_rfl)
        | 5, _, hd =>
          simp only [GH.mkL, List.getD_cons_succ, List.getD_cons_zero]
          clear hd
          refine GH.st_eq (by rfl) ?_
          go_simp
          (try with_reducible rfl)
        | 6, _, hd =>
          simp only [GH.mkL, List.getD_cons_succ, List.getD_cons_zero]
          have d4 : S 4 = .slice A n c := (hd 4 (by kernel_rfl)).2
          rw [d4]
          clear d4
          have d5 : S 5 = .int .i64 (i : Nat) := (hd 5 (by kernel_rfl)).2
          rw [d5]
          clear d5
          clear hd
          refine GH.st_eq (by rfl) ?_
          rw [EA.out]
          go_simp
          (try with_reducible rfl)
        | 7, _, hd =>
          simp only [GH.mkL, List.getD_cons_succ, List.getD_cons_zero]
          have d6 : S 6 = .pointer (some ⟨ab, ao + i * 2, none⟩) := (hd 6 (by kernel_rfl)).2
          rw [d6]
          clear d6
          clear hd
          refine GH.st_eq (by rfl) ?_
          go_simp
          (try with_reducible rfl)
        | 8, _, hd =>
          simp only [GH.mkL, List.getD_cons_succ, List.getD_cons_zero]
          have d7 : S 7 = .pointer (some ⟨ab, ao + i * 2, none⟩) := (hd 7 (by kernel_rfl)).2
          rw [d7]
          clear d7
          clear hd
          exact GH.st_load _ (by rfl) rfl rfl (hb.at_ hab C0.out) (by kernel_rfl)
        | 9, _, hd =>
          simp only [GH.mkL, List.getD_cons_succ, List.getD_cons_zero]
          have d8 : S 8 = .int .u64 (px : Nat) := (hd 8 (by kernel_rfl)).2
          rw [d8]
          clear d8
          clear hd
          refine GH.st_eq (by rfl) ?_
          have hqd := HWX.out
          go_simp
          (try with_reducible rfl)
        | 10, _, hd =>
          simp only [GH.mkL, List.getD_cons_succ, List.getD_cons_zero]
          have d2 : S 2 = .int .u32 W := (hd 2 (by kernel_rfl)).2
          rw [d2]
          clear d2
          have d9 : S 9 = .int .u32 (px : Nat) := (hd 9 (by kernel_rfl)).2
          rw [d9]
          clear d9
          clear hd
          refine GH.st_eq (by rfl) ?_
          have hqd := HPX.out
          go_simp
          (try with_reducible rfl)
        | 11, _, hd =>
          simp only [GH.mkL, List.getD_cons_succ, List.getD_cons_zero]
          clear hd
          refine GH.st_eq (by rfl) ?_
          go_simp
          (try with_reducible rfl)
        | 12, _, hd =>
          simp only [GH.mkL, List.getD_cons_succ, List.getD_cons_zero]
          have d11 : S 11 = .pointer (some ⟨w.heap.size, 0, none⟩) := (hd 11 (by kernel_rfl)).2
          rw [d11]
          clear d11
          clear hd
          exact GH.st_load _ (by rfl) rfl rfl (((KXr.out.below hb.below KXr.out.lt)).cell 0) (by kernel_rfl)
        | 13, _, hd =>
          simp only [GH.mkL, List.getD_cons_succ, List.getD_cons_zero]
          clear hd
          refine GH.st_eq (by rfl) ?_
          go_simp
          (try with_reducible rfl)
        | 14, _, hd =>
          simp only [GH.mkL, List.getD_cons_succ, List.getD_cons_zero]
          have d13 : S 13 = .pointer (some ⟨w.heap.size, 2, none⟩) := (hd 13 (by kernel_rfl)).2
          rw [d13]
          clear d13
          clear hd
          exact GH.st_load _ (by rfl) rfl rfl (((KXr.out.below hb.below KXr.out.lt)).cell 2) (by kernel_rfl)
        | 15, _, hd =>
          simp only [GH.mkL, List.getD_cons_succ, List.getD_cons_zero]
          clear hd
          refine GH.st_eq (by rfl) ?_
          go_simp
          (try with_reducible rfl)
        | 16, _, hd =>
          simp only [GH.mkL, List.getD_cons_succ, List.getD_cons_zero]
          have d14 : S 14 = .slice A n c := (hd 14 (by kernel_rfl)).2
          rw [d14]
          clear d14
          have d15 : S 15 = .int .i64 (i : Nat) := (hd 15 (by kernel_rfl)).2
          rw [d15]
          clear d15
          clear hd
          refine GH.st_eq (by rfl) ?_
          rw [EA.out]
          go_simp
          (try with_reducible rfl)
        | 17, _, hd =>
          simp only [GH.mkL, List.getD_cons_succ, List.getD_cons_zero]
          have d16 : S 16 = .pointer (some ⟨ab, ao + i * 2, none⟩) := (hd 16 (by kernel_rfl)).2
          rw [d16]
          clear d16
          clear hd
          refine GH.st_eq (by rfl) ?_
          go_simp
          (try with_reducible rfl)
        | 18, _, hd =>
          simp only [GH.mkL, List.getD_cons_succ, List.getD_cons_zero]
          have d17 : S 17 = .pointer (some ⟨ab, ao + i * 2 + 1, none⟩) := (hd 17 (by kernel_rfl)).2
          rw [d17]
          clear d17
          clear hd
          exact GH.st_load _ (by rfl) rfl rfl (hb.at_ hab C1.out) (by kernel_rfl)
        | 19, _, hd =>
          simp only [GH.mkL, List.getD_cons_succ, List.getD_cons_zero]
          have d18 : S 18 = .int .u64 (py : Nat) := (hd 18 (by kernel_rfl)).2
          rw [d18]
          clear d18
          clear hd
          refine GH.st_eq (by rfl) ?_
          have hqd := HWY.out
          go_simp
          (try with_reducible rfl)
        | 20, _, hd =>
          simp only [GH.mkL, List.getD_cons_succ, List.getD_cons_zero]
          have d12 : S 12 = .int .u32 W := (hd 12 (by kernel_rfl)).2
          rw [d12]
          clear d12
          have d19 : S 19 = .int .u32 (py : Nat) := (hd 19 (by kernel_rfl)).2
          rw [d19]
          clear d19
          clear hd
          refine GH.st_eq (by rfl) ?_
          have hqd := HPY.out
          go_simp
          (try with_reducible rfl)
        | 21, _, hd =>
          simp only [GH.mkL, List.getD_cons_succ, List.getD_cons_zero]
          have d10 : S 10 = .int .u32 (pl W px) := (hd 10 (by kernel_rfl)).2
          rw [d10]
          clear d10
          have d20 : S 20 = .int .u32 (pl W py) := (hd 20 (by kernel_rfl)).2
          rw [d20]
          clear d20
          clear hd
          refine GH.st_eq (by rfl) ?_
          go_simp
          (try with_reducible rfl)
        | 22, _, hd =>
          simp only [GH.mkL, List.getD_cons_succ, List.getD_cons_zero]
          have d21 : S 21 = .agg #[.int .u32 (pl W px), .int .u32 (pl W py)] := (hd 21 (by kernel_rfl)).2
          rw [d21]
          clear d21
          clear hd
          refine ⟨fun K hK => ?_⟩
          go_wp2_with fail
          exact hK _ _ (GH.Gr.of ((Below.refl _ _).alloc (Nat.le_refl _) _) hb.below.size) (GH.rd_lit rfl rfl)
        | nx + 23, hjx, _ => omega
      intro S w' hb hG
      simp only [GH.mkL, List.drop_succ_cons, List.drop_zero]
      have d0 : S 0 = .slice A8 n8 c8 := hG 0 (by omega)
      rw [d0]
      clear d0
      obtain ⟨A22, c22, d22, e22, H22⟩ := hG 22 (by omega)
      rw [d22]
      clear d22
      replace H22 := Lib.hid H22
      clear hG
      have O7 := Lib.hid (O6.out.below hb.below)
      have B7 := Lib.hid (B6.out.trans (hb.below.mono B6.out.size))
      clear hb O6 B6 EA C0 C1 HWX HWY HPX HPY KXr
      generalize w' = w6 at *
      go_wp2_with (at_builtin; refine app relB rfl (.tmp 12) (.tmp 34) rfl rfl (show w6.ownsRow w2.heap.size 67 2 (.slice A8 n8 c8) n8 (bks ((bdL W l).take i)) from by have h := O7.out; unfold BO at h; rwa [hl8.out] at h) rfl H22.out (by intro u hu; simp at hu; rcases hu with rfl | rfl <;> rfl) (room_ge (by have := hn8b.out; omega)) B7.out.size ?_)
      intro v8 w8 ho8 _ hb8
      have O8 := Lib.hid (show BO w8 w2.heap.size v8 ((bdL W l).take (i + 1)) from by
        unfold BO
        rw [HSN.out, List.length_append, hl8.out, bks_append]
        exact ho8)
      have B8 := Lib.hid (B7.out.trans hb8)
      clear O7 B7 ho8 hb8 H22 HSN
      go_wp2_with fail
      go_roundw
      case rel => exact ⟨i + 1, by have := HLT.out; omega, by go_num, O8, B8⟩
      case measure => have := HLT.out; simp [intOf]; omega
    · obtain rfl : n = i := by omega
      have hall : (bdL W l).take n = bdL W l := List.take_of_length_le (by rw [bdL_len, hnl.out]; exact Nat.le_refl _)
      rw [hall] at hown
      have OW := Lib.hid (own_mono hown.out hb0.out.size)
      have BF := Lib.hid (hb0.out.trans (hbw.out.mono hb0.out.size))
      clear hown hall hlt hi hbw
      go_wp2_with fail
      go_ret
      exact ⟨⟨_, rfl, OW.out⟩, BF.out⟩
end Go.Proofs.Ytohehnlbknaflaa
