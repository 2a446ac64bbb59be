/- Layer 41: the law ReplayPlays answers true, and nothing that was there has turned. -/
import Derived.Test.YtahdfginmkcgfaaRep3
import Derived.Test.YtahdfginmkcgfaaLawRO
namespace Go.Proofs.Ytahdfginmkcgfaa
open Go.RowKit Go.ChangeShapes Go.WideShapes Go.ChangeAt
set_option linter.unusedVariables false

set_option maxRecDepth 20000 in
set_option maxHeartbeats 2000000 in
theorem replayPlays_walk (A : Option Addr) (n c : Nat) (l : List Nat) (x0 : Int) (w : World) (hr : Rd w w.heap.size 1 A n (ns .u64 l)) (hnc : n ≤ c) (hmax : c ≤ maxLen) (hb : ∀ x ∈ l, x < 18446744073709551616) (hx0 : (Lit.int .u64 x0).wf = true) :
    Calls Try.prog 10 #[.slice A n c, .int .u64 x0] w fun e w' => e = .returned (.bool true) ∧ Below w.heap.size w w' := by
  have hx0 := bounds_u64 hx0
  obtain ⟨xq, rfl⟩ : ∃ f : Nat, x0 = f := ⟨x0.toNat, by omega⟩
  have hxq : xq < 18446744073709551616 := by omega
  clear hx0
  have HR := Lib.hid hr; have HB := Lib.hid hb
  clear hr hb
  unfold maxLen at hmax
  by_cases hn : 150 < n
  · go_enter Try.func10, Try.ntmps10
    go_wp2_with fail
    go_ret
    exact ⟨rfl, Below.refl _ _⟩
  have HM := Lib.hid hmax; clear hmax
  have hn2 : n ≤ 150 := by omega
  clear hn
  go_enter Try.func10, Try.ntmps10
  go_wp2_with fail
  have hw0 : Win (w.alloc (.cells #[.int .u64 0, .int .u64 0, .int .u64 0, .int .u64 0, .int .u64 0] 47)) w.heap.size 0 [0, 0, 0, 0] := Blk.new w _ _
  have hb0 : Below w.heap.size w (w.alloc (.cells #[.int .u64 0, .int .u64 0, .int .u64 0, .int .u64 0, .int .u64 0] 47)) := (Below.refl _ _).alloc (Nat.le_refl _) _
  generalize (w.alloc (.cells #[.int .u64 0, .int .u64 0, .int .u64 0, .int .u64 0, .int .u64 0] 47)) = wa at hw0 hb0 ⊢
  have HS0 : Hid (St w A n l (.slice none 0 0) [] 0 [0, 0, 0, 0] wa) := Lib.hid ⟨HR.out.below hb0, hw0, Nats.nil _ _ _ _, hb0⟩
  clear hw0 hb0
  go_loopw [6, 7] (fun thr i wr => ∃ (k : Nat) (r : List Nat) (top : Nat) (cw : List Nat), k ≤ n ∧ i = .int .i64 k ∧ r.length ≤ k ∧ top < 18446744073709551616 ∧ Hid (Came r top cw) ∧ Hid (St w A n l thr r top cw wr)) (fun _ i _ => n - (intOf i).toNat)
  case atStart => exact ⟨0, [], 0, [0, 0, 0, 0], Nat.zero_le _, rfl, Nat.le_refl _, by omega, Lib.hid Came.zero, HS0⟩
  case round =>
    obtain ⟨k, r, top, cw, hk, rfl, hrk, htop, hcame, hst⟩ := hrel
    by_cases hlt : k < n
    · obtain ⟨bb, off, x, rfl, hbk, hcell, hx⟩ := hst.out.rd.nth hlt
      have hx64 := HB.out _ (nth_mem hx)
      obtain ⟨A2, n2, c2, rfl, hc2, hl2, hrr⟩ := hst.out.nats.out
      have hn2b : n2 ≤ 150 := by rw [← hl2.out]; omega
      have HT := Lib.hid hcame.out.topL
      have HF := Lib.hid (hcame.out.freshL (x := x))
      go_wp2_with fail
      refine (rfresh_any A2 n2 c2 wr.heap.size x r wr hrr.out hc2 (by omega) hx64 (by rw [HT.out]; exact htop)).mono ?_
      rintro e w1 ⟨rfl, rfl⟩
      cases hfb : freshL r x
      · rw [hfb] at HF
        clear hfb
        go_wp2_with fail
        refine (fresh_any w.heap.size top x cw w1 hst.out.win hcame.out.1 hx64 htop).mono ?_
        rintro e w2 ⟨rfl, rfl⟩
        rw [HF.out]
        go_wp2_with fail
        refine (take_win w.heap.size top x r cw w2 hst.out.win hcame.out hx64 htop).mono ?_
        rintro e w4 ⟨rfl, hs4, ⟨hf, hw4⟩ | ⟨hf, _⟩⟩
        rotate_left
        · exact absurd (hf.symm.trans HF.out) (by decide)
        have hst4 := Lib.hid (hst.out.solo hs4 hw4)
        rw [hf]
        clear hf hw4 hs4 hst hrr
        go_wp2_with fail
        have HTt := Lib.hid hcame.out.topL
        have HFt := Lib.hid (hcame.out.freshL (x := xq))
        have HMs : Hid (msum cw 4 = cnt (kept r top) 256) := Lib.hid (by rw [msum_cnt, hcame.out.count])
        have HL0 : Hid (decide (0 < r.length) = decide (0 < n2)) := Lib.hid (by rw [hl2.out])
        refine (wtop_any w.heap.size top r cw w4 hst4.out.win hcame.out htop).mono ?_
        rintro e w8 ⟨rfl, q8, rfl⟩
        rw [HL0.out]
        have hst8 := Lib.hid (hst4.out.drewN q8)
        generalize w4.drewN q8 = w8 at hst8 ⊢
        clear hst4
        have hz8 := hst8.out.nats.rd
        have HZ8 := Lib.hid (hz8.re hl2.out)
        clear hz8
        go_wp2_with fail
        refine (rTop_any A2 n2 c2 w8.heap.size r w8 HZ8.out (by omega) (by omega)).mono ?_
        rintro e w9 ⟨rfl, rfl⟩
        rw [HTt.out]
        go_wp2_with fail
        refine (rmany_any A2 n2 c2 w9.heap.size r w9 HZ8.out (by omega) (by omega) (by rw [HTt.out]; exact htop)).mono ?_
        rintro e w10 ⟨rfl, rfl⟩
        rw [HTt.out]
        obtain ⟨mc, hmc⟩ : ∃ mc, mc = cnt (kept r top) 256 := ⟨_, rfl⟩
        obtain ⟨ml, hml⟩ : ∃ ml, ml = missL r := ⟨_, rfl⟩
        rw [← hmc] at HMs ⊢
        rw [← hml]
        have HML := Lib.hid hml
        clear hmc hml
        go_wp2_with fail
        refine (many_any w.heap.size top cw w10 hst8.out.win hcame.out.1).mono ?_
        rintro e w11 ⟨rfl, rfl⟩
        rw [HMs.out]
        go_wp2_with fail
        refine (missing_any w.heap.size top r cw w11 hst8.out.win hcame.out htop).mono ?_
        rintro e w12 ⟨rfl, rfl⟩
        rw [← HML.out]
        go_wp2_with fail
        refine (fresh_any w.heap.size top xq cw w12 hst8.out.win hcame.out.1 hxq htop).mono ?_
        rintro e w13 ⟨rfl, rfl⟩
        rw [HFt.out]
        go_wp2_with fail
        refine (rfresh_any A2 n2 c2 w13.heap.size xq r w13 HZ8.out (by omega) (by omega) hxq (by rw [HTt.out]; exact htop)).mono ?_
        rintro e w14 ⟨rfl, rfl⟩
        go_wp2_with fail
        go_roundw
        case rel => exact ⟨k + 1, r, top, cw, by omega, by go_num, (by omega), htop, hcame, hst8⟩
        case measure => simp [intOf]; omega
      · rw [hfb] at HF
        clear hfb
        go_wp2_with fail
        refine (fresh_any w.heap.size top x cw w1 hst.out.win hcame.out.1 hx64 htop).mono ?_
        rintro e w2 ⟨rfl, rfl⟩
        rw [HF.out]
        go_wp2_with fail
        refine (take_win w.heap.size top x r cw w2 hst.out.win hcame.out hx64 htop).mono ?_
        rintro e w4 ⟨rfl, hs4, ⟨hf, _⟩ | ⟨hf, cw', hw4, hc4⟩⟩
        · exact absurd (hf.symm.trans HF.out) (by decide)
        have hst4 := Lib.hid (hst.out.solo hs4 hw4)
        have HC4 := Lib.hid hc4
        rw [hf]
        clear hf hw4 hs4 hst hc4 hrr hcell
        have hcell := (hst4.out.rd.nth hlt)
        obtain ⟨b3, o3, x3, e3, _, hck, hx3⟩ := hcell
        obtain ⟨rfl, rfl⟩ : b3 = bb ∧ o3 = off := by injection e3 with e3; injection e3 with e4 e5; exact ⟨e4.symm, e5.symm⟩
        obtain rfl : x3 = x := Option.some.inj (hx3.out.symm.trans hx.out)
        clear e3 hx3
        have HN := Lib.hid hst4.out.nats
        have hz := hst4.out.bel.size
        go_wp2_with (at_builtin; go_must (refine app1n el64 x3 rfl _ _ rfl rfl HN.out rfl rfl ?_ ?_ ?_))
        · rw [hl2.out]; exact room_ge (by have := hl2.out; omega)
        · exact hz
        · intro v7 w7 hn7 hg7 hb7
          have hst7 := Lib.hid (hst4.out.grow hn7 hg7 hb7)
          obtain ⟨A7, n7, c7, rfl, hc7, hl7, hr7⟩ := hn7.out
          have hn7b : n7 ≤ 151 := by rw [← hl7.out]; simp; omega
          have hr1 : Hid ((r ++ [x3]).length ≤ k + 1) := Lib.hid (by simp; omega)
          clear hn7 hg7 hb7 HN hst4 hck hcame HT HF hl2 hrk hc2 hn2b
          have htop7 : max top x3 < 18446744073709551616 := by omega
          obtain ⟨r7, e7⟩ : ∃ r7, r7 = r ++ [x3] := ⟨_, rfl⟩
          obtain ⟨t7, e8⟩ : ∃ t7, t7 = max top x3 := ⟨_, rfl⟩
          rw [← e8] at hst7 HC4 htop7
          rw [← e7] at hst7 HC4 hl7 hr7 hr1
          clear e7 e8 htop hx64
          go_wp2_with fail
          have HTt := Lib.hid HC4.out.topL
          have HFt := Lib.hid (HC4.out.freshL (x := xq))
          have HMs : Hid (msum cw' 4 = cnt (kept r7 t7) 256) := Lib.hid (by rw [msum_cnt, HC4.out.count])
          have HL0 : Hid (decide (0 < r7.length) = decide (0 < n7)) := Lib.hid (by rw [hl7.out])
          refine (wtop_any w.heap.size t7 r7 cw' w7 hst7.out.win HC4.out htop7).mono ?_
          rintro e w8 ⟨rfl, q8, rfl⟩
          rw [HL0.out]
          have hst8 := Lib.hid (hst7.out.drewN q8)
          generalize w7.drewN q8 = w8 at hst8 ⊢
          clear hst7
          have hz8 := hst8.out.nats.rd
          have HZ8 := Lib.hid (hz8.re hl7.out)
          clear hz8
          go_wp2_with fail
          refine (rTop_any A7 n7 c7 w8.heap.size r7 w8 HZ8.out (by omega) (by omega)).mono ?_
          rintro e w9 ⟨rfl, rfl⟩
          rw [HTt.out]
          go_wp2_with fail
          refine (rmany_any A7 n7 c7 w9.heap.size r7 w9 HZ8.out (by omega) (by omega) (by rw [HTt.out]; exact htop7)).mono ?_
          rintro e w10 ⟨rfl, rfl⟩
          rw [HTt.out]
          obtain ⟨mc, hmc⟩ : ∃ mc, mc = cnt (kept r7 t7) 256 := ⟨_, rfl⟩
          obtain ⟨ml, hml⟩ : ∃ ml, ml = missL r7 := ⟨_, rfl⟩
          rw [← hmc] at HMs ⊢
          rw [← hml]
          have HML := Lib.hid hml
          clear hmc hml
          go_wp2_with fail
          refine (many_any w.heap.size t7 cw' w10 hst8.out.win HC4.out.1).mono ?_
          rintro e w11 ⟨rfl, rfl⟩
          rw [HMs.out]
          go_wp2_with fail
          refine (missing_any w.heap.size t7 r7 cw' w11 hst8.out.win HC4.out htop7).mono ?_
          rintro e w12 ⟨rfl, rfl⟩
          rw [← HML.out]
          go_wp2_with fail
          refine (fresh_any w.heap.size t7 xq cw' w12 hst8.out.win HC4.out.1 hxq htop7).mono ?_
          rintro e w13 ⟨rfl, rfl⟩
          rw [HFt.out]
          go_wp2_with fail
          refine (rfresh_any A7 n7 c7 w13.heap.size xq r7 w13 HZ8.out (by omega) (by omega) hxq (by rw [HTt.out]; exact htop7)).mono ?_
          rintro e w14 ⟨rfl, rfl⟩
          go_wp2_with fail
          go_roundw
          case rel => exact ⟨k + 1, r7, t7, cw', by omega, by go_num, hr1.out, htop7, HC4, hst8⟩
          case measure => simp [intOf]; omega
    · obtain rfl : k = n := by omega
      go_wp2_with fail
      refine (alive41 wr).mono ?_
      rintro e w3 ⟨rfl, hb3⟩
      go_wp2_with fail
      go_ret
      exact ⟨rfl, hst.out.bel.trans (hb3.mono hst.out.bel.size)⟩
end Go.Proofs.Ytahdfginmkcgfaa
