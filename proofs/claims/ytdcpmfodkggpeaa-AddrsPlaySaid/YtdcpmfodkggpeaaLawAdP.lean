/- AddrsPlay: the walk. -/
import Derived.Test.YtdcpmfodkggpeaaAdr2
import Derived.Test.YtdcpmfodkggpeaaLawAdF
import Derived.Test.YtdcpmfodkggpeaaOrdF
namespace Go.Proofs.Ytdcpmfodkggpeaa
open Go.RowKit
set_option linter.unusedVariables false
set_option linter.unusedSimpArgs false
theorem TB.aside {w w' : World} {B g b X most paths left : Nat} {v : Value} {l : List (Int × Int)} {t : TypeId} {cs : Array Value} (h : TB w B g b v most paths left l) (hk : Blk w X t cs) (h1 : 28 ≠ t) (h2 : 65 ≠ t) (h3 : 36 ≠ t) (hs : Solo X w w') : TB w' B g b v most paths left l :=
  ⟨h.bg, h.bb, h.ne, by rw [hs.2.1]; exact h.hw, hs.blk h.blk (blk_nt h.blk hk h1), hs.blk h.bkt (blk_nt h.bkt hk h2), own_kept h.row fun q hq => hs.2.2 q fun e => own_nt h.row hk h3 (by rw [hq, e])⟩
set_option maxRecDepth 20000 in
set_option maxHeartbeats 40000000 in
theorem addrsPlay_walk (m0 p0 : Int) (A0 : Option Addr) (n0 c0 : Nat) (l : List Op4) (w : World) (h1 : (Lit.int .i64 m0).wf = true) (h2 : (Lit.int .i64 p0).wf = true) (hr : Rd w w.heap.size 4 A0 n0 (op4s l)) (hnc : n0 ≤ c0) (hc : c0 ≤ maxLen) (hl : ∀ p ∈ l, (Lit.int .i64 p.a).wf = true) :
    Calls Try.prog 3 #[.int .i64 m0, .int .i64 p0, .slice A0 n0 c0] w fun e w' => e = .returned (.bool true) ∧ Below w.heap.size w w' := by
  have HR := Lib.hid hr
  have HL := Lib.hid hl
  clear hr hl hnc hc h1 h2
  by_cases h300 : 300 < n0
  · have h300' : (300 : Int) < (n0 : Int) := by omega
    go_enter Try.func3, Try.ntmps3
    go_wp2
    exact bodyPost_ret (by kernel_rfl) rfl ⟨rfl, Below.refl _ _⟩
  have hn : n0 ≤ 300 := by omega
  have h300' : ¬ (300 : Int) < (n0 : Int) := by omega
  have HN := Lib.hid (ad_new m0 p0 w)
  have RN := Lib.hid (r20_new m0 p0)
  obtain ⟨M, hM⟩ : ∃ M, M = clN 0 8 m0 := ⟨_, rfl⟩
  obtain ⟨P, hP⟩ : ∃ P, P = clN 1 4 p0 := ⟨_, rfl⟩
  rw [← hM] at HN RN
  rw [← hP] at HN RN
  have HM8 : M ≤ 8 := by rw [hM]; exact clN_le (by omega) _
  have HP4 : P ≤ 4 := by rw [hP]; exact clN_le (by omega) _
  clear h300 hM hP
  go_enter Try.func3, Try.ntmps3
  go_wp2_with fail
  refine HN.out.mono ?_
  rintro e w1 ⟨g, b, rfl, ht, hb⟩
  have HT := Lib.hid ht
  have BB := Lib.hid hb
  have cc0 := ht.c0
  clear ht hb HN h300'
  go_wp2_with fail
  refine (RN.out w1).mono ?_
  rintro e w2 ⟨rfl, hb⟩
  replace HT := Lib.hid (HT.out.into hb)
  replace BB := Lib.hid (BB.out.trans (hb.mono BB.out.size))
  clear hb RN cc0
  go_upto_region 7 with fail
  have KX := Lib.hid (Blk.new w2 33 #[.int .i64 (M : Nat), .int .i64 (P : Nat), .slice none 0 0, .int .i64 64, .int .i64 1, .int .i64 64])
  have hb := (Below.refl w2.heap.size w2).alloc (Nat.le_refl _) (.cells #[.int .i64 (M : Nat), .int .i64 (P : Nat), .slice none 0 0, .int .i64 64, .int .i64 1, .int .i64 64] 33)
  have XW := Lib.hid (show w.heap.size ≤ w2.heap.size from BB.out.size)
  replace HT := Lib.hid (HT.out.into hb)
  replace BB := Lib.hid (BB.out.trans (hb.mono BB.out.size))
  obtain ⟨X, hX⟩ : ∃ X, X = w2.heap.size := ⟨_, rfl⟩
  rw [← hX] at KX XW ⊢
  clear hb hX
  generalize w2.alloc (.cells #[.int .i64 (M : Nat), .int .i64 (P : Nat), .slice none 0 0, .int .i64 64, .int .i64 1, .int .i64 64] 33) = w3 at *
  have HX0 := Lib.hid (RX.nil w3)
  go_wp2_with fail
  go_loopw [9] (fun iv wr => ∃ (i left : Nat) (v : Value) (A : Option Addr) (n c : Nat) (L : List (Int × Int)), i ≤ n0 ∧ iv = .int .i64 (i : Nat) ∧ Hid (TB wr w.heap.size g b v M P left L) ∧ Hid (AdOk M P left L) ∧ Hid (Blk wr X 33 #[.int .i64 (M : Nat), .int .i64 (P : Nat), .slice A n c, .int .i64 64, .int .i64 1, .int .i64 (left : Nat)]) ∧ Hid (RX wr A n c L) ∧ Hid (Below w.heap.size w wr)) (fun iv _ => n0 - (intOf iv).toNat)
  case atStart => exact ⟨0, 64, _, none, 0, 0, [], Nat.zero_le _, rfl, HT, Lib.hid (AdOk.new HM8 HP4), KX, HX0, BB⟩
  case round =>
    clear HT BB KX HX0
    obtain ⟨i, left, v, A, n, c, L, hi, rfl, HT, HOK, KX, HX, BB⟩ := hrel
    by_cases hlt : i < n0
    · have hlt' : (i : Int) < (n0 : Int) := by omega
      have hi0 : (0 : Int) ≤ (i : Int) := by omega
      have ei : IntKind.i64.wrap ((i : Int) + 1) = (i : Int) + 1 := by rw [IntKind.wrap_i64]; omega
      obtain ⟨rb, off, kd, nn, x, y, rfl, hrb, hc0, hc1, hc2, hc3, HXX⟩ := HR.out.op4 hlt
      have LW : Hid (∀ w', Below w.heap.size w w' → w'.cell? ⟨rb, off + i * 4, none⟩ = some (.int .i64 kd) ∧ w'.cell? ⟨rb, off + i * 4 + 1, none⟩ = some (.int .i64 nn) ∧ w'.cell? ⟨rb, off + i * 4 + 2, none⟩ = some (.int .i64 x) ∧ w'.cell? ⟨rb, off + i * 4 + 3, none⟩ = some (.int .i64 y)) := Lib.hid fun w' hw => ⟨(hw.cell (p := ⟨rb, off + i * 4, none⟩) hrb).trans hc0, (hw.cell (p := ⟨rb, off + i * 4 + 1, none⟩) hrb).trans hc1, (hw.cell (p := ⟨rb, off + i * 4 + 2, none⟩) hrb).trans hc2, (hw.cell (p := ⟨rb, off + i * 4 + 3, none⟩) hrb).trans hc3⟩
      have HNW := Sh.mk (HL.out _ (List.mem_of_getElem? HXX.out))
      have RBL := Sh.mk hrb
      obtain ⟨a0, a1, a2, a3⟩ := LW.out wr BB.out
      have HN8 := Sh.mk (show n ≤ M by have := HX.out.len; have := HOK.out.len; omega)
      have hn8 : n ≤ 8 := by have := HN8.out; omega
      clear hc0 hc1 hc2 hc3 HXX hrb
      go_upto_region 14 with fail
      generalize (wrap64 (kd.tmod 5 + 5)).tmod 5 = q
      clear a0 a1 a2 a3
      by_cases hq3 : q = 3
      · have hq : (q == 3) = true := by simpa using hq3
        go_upto_region 15 with fail
        obtain ⟨a0, a1, a2, a3⟩ := LW.out wr BB.out
        have RG := Lib.hid (fun w' (hw : Below wr.heap.size wr w') => r20_gone M P left A n c L x w' (HX.out.into hw) hn8)
        have OK2 := Lib.hid (HOK.out.gone x)
        have RBW := Sh.mk (show rb < wr.heap.size from Nat.lt_of_lt_of_le RBL.out BB.out.size)
        have rbw : rb < wr.heap.size := RBW.out
        have xbw : X < wr.heap.size := KX.out.lt
        refine OB.wp_f ⟨fun k => k < wr.heap.size, [11]⟩ (by kernel_rfl) (fun QQ hQ wd hwd => ?_)
        have hD : Below wr.heap.size wr wd := by rw [hwd.out]; exact (Below.refl _ _).drew
        replace a2 : wd.cell? ⟨rb, off + i * 4 + 2, none⟩ = some (.int .i64 x) := by rw [hwd.out]; exact a2
        have RGd := Lib.hid (RG.out wd hD)
        have hDs := hD.size
        replace HT := Lib.hid (HT.out.into hD)
        replace KX := Lib.hid (KX.out.below hD KX.out.lt)
        replace HX := Lib.hid (HX.out.into hD)
        replace BB := Lib.hid (BB.out.trans ((hD).mono BB.out.size))
        clear hD hwd RG a0 a1 a3
        refine OB.f_walk [(0, .read), (1, .pure), (2, .pure), (3, .pure), (4, .pure), (5, .pure), (6, .read), (7, .sole), (8, .pure), (9, .pure)] 3 (by rfl) (by kernel_rfl) ?_; (try simp only [List.map_cons, List.map_nil, List.getD_cons_zero, List.getD_cons_succ])
        (refine OB.o_loads _ [.int .i64 (M : Nat), .int .i64 (P : Nat), .slice A n c, .int .i64 64, .int .i64 1, .int .i64 (left : Nat)] (by rfl) rfl rfl (by dsimp only; first | assumption | omega) (KX.out.loads 0 _ (by rfl)) (Nat.succ_pos _) (by kernel_rfl) (by kernel_rfl) ?_; simp only [Act.put, List.setIfInBounds_toArray, List.set_cons_zero, List.set_cons_succ])
        (refine OB.o_pure (v := ?_) (by rfl) (fun w' => ?_) ?_; rotate_left; (focus (go_simp; (try with_reducible rfl))); (try simp only [Act.put, List.setIfInBounds_toArray, List.set_cons_zero, List.set_cons_succ]))
        (refine OB.o_pure (v := ?_) (by rfl) (fun w' => ?_) ?_; rotate_left; (focus (go_simp; (try with_reducible rfl))); (try simp only [Act.put, List.setIfInBounds_toArray, List.set_cons_zero, List.set_cons_succ]))
        (refine OB.o_pure (v := ?_) (by rfl) (fun w' => ?_) ?_; rotate_left; (focus (go_simp; (try with_reducible rfl))); (try simp only [Act.put, List.setIfInBounds_toArray, List.set_cons_zero, List.set_cons_succ]))
        (refine OB.o_pure (v := ?_) (by rfl) (fun w' => ?_) ?_; rotate_left; (focus (go_simp; (try with_reducible rfl))); (try simp only [Act.put, List.setIfInBounds_toArray, List.set_cons_zero, List.set_cons_succ]))
        (refine OB.o_pure (v := ?_) (by rfl) (fun w' => ?_) ?_; rotate_left; (focus (go_simp; (try with_reducible rfl))); (try simp only [Act.put, List.setIfInBounds_toArray, List.set_cons_zero, List.set_cons_succ]))
        (refine OB.o_load _ (by rfl) rfl rfl (by dsimp only; first | assumption | omega) (by assumption) (by kernel_rfl) ?_; simp only [Act.put, List.setIfInBounds_toArray, List.set_cons_zero, List.set_cons_succ])
        clear a2
        refine OB.o_sole (fun K hK => ?_)
        go_wp2_with fail
        refine RGd.out.mono ?_
        rintro e w4 ⟨A', n', c', rfl, hx, hb⟩
        go_wp2_with fail
        refine hK _ _ (fun _ => OB.ExtB.of (hb.mono hDs)) ?_; clear hK K
        replace HT := Lib.hid (HT.out.into hb)
        replace KX := Lib.hid (KX.out.below hb KX.out.lt)
        replace HX := Lib.hid (HX.out.into hb)
        replace BB := Lib.hid (BB.out.trans ((hb).mono BB.out.size))
        have HX2 := Lib.hid hx
        have RES := Sh.mk (show adGone L x = ((adGone L x).1, (adGone L x).2) from rfl)
        obtain ⟨L2, hL2⟩ : ∃ L2, L2 = (adGone L x).1 := ⟨_, rfl⟩
        obtain ⟨res, hres⟩ : ∃ res, res = (adGone L x).2 := ⟨_, rfl⟩
        rw [← hL2] at HX2 OK2
        rw [← hres]
        have HRS := Sh.mk (show adGone L x = (L2, res) by rw [hL2, hres])
        clear hx hb hL2 hres RES RGd rbw xbw hDs
        (refine OB.o_pure (v := ?_) (by rfl) (fun w' => ?_) ?_; rotate_left; (focus (go_simp; (try with_reducible rfl))); (try simp only [Act.put, List.setIfInBounds_toArray, List.set_cons_zero, List.set_cons_succ]))
        (refine OB.o_pure (v := ?_) (by rfl) (fun w' => ?_) ?_; rotate_left; (focus (go_simp; (try with_reducible rfl))); (try simp only [Act.put, List.setIfInBounds_toArray, List.set_cons_zero, List.set_cons_succ]))
        refine OB.o_nil ?_
        refine OB.f_fork 10 11 (by kernel_rfl) (by kernel_rfl) ?_ ?_
        · (try simp only [List.map_cons, List.map_nil, List.getD_cons_zero, List.getD_cons_succ])
          refine OB.o_sole (fun K hK => ?_)
          go_wp2_with fail
          refine hK _ _ (fun _ => OB.ExtB.of (Below.refl _ _)) ?_; clear hK K
          refine OB.o_nil ?_
          refine OB.f_walk [(11, .sole), (12, .pure)] 0 (by rfl) (by kernel_rfl) ?_; (try simp only [List.map_cons, List.map_nil, List.getD_cons_zero, List.getD_cons_succ])
          refine OB.o_sole (fun K hK => ?_)
          refine stm_store (cs' := #[.int .i64 (M : Nat), .int .i64 (P : Nat), .slice A' n' c', .int .i64 64, .int .i64 1, .int .i64 (left : Nat)]) KX.out rfl _ _ rfl rfl rfl (by simp) (by kernel_rfl) (by simp [Value.oneCell']) (by simp [setL]) fun w5 hk hs => ?_
          refine wpList_nil ?_
          refine hK _ _ (fun h => by cases h) ?_; clear hK K
          replace HT := Lib.hid (HT.out.aside KX.out (by decide) (by decide) (by decide) hs)
          replace HX := Lib.hid (HX2.out.solo KX.out (by decide) hs)
          replace BB := Lib.hid (BB.out.trans (hs.1.mono XW.out))
          replace KX := Lib.hid (show Blk _ _ _ #[.int .i64 (M : Nat), .int .i64 (P : Nat), .slice A' n' c', .int .i64 64, .int .i64 1, .int .i64 (left : Nat)] from hk)
          clear hk hs HX2
          (refine OB.o_pure (v := ?_) (by rfl) (fun w' => ?_) ?_; rotate_left; (focus (go_simp; (try with_reducible rfl))); (try simp only [Act.put, List.setIfInBounds_toArray, List.set_cons_zero, List.set_cons_succ]))
          refine OB.o_nil ?_
          refine OB.f_end (by kernel_rfl) (hQ.out _ _ ?_); clear hQ QQ
          have TG := Lib.hid (ad_gone w.heap.size g b v M P left L x w5 HT.out (by have := HOK.out.len; omega))
          rw [HRS.out] at TG
          obtain ⟨a0, a1, a2, a3⟩ := LW.out w5 BB.out
          go_wp2_with fail
          refine TG.out.mono ?_
          rintro e w6 ⟨v2, rfl, ht, hkt⟩
          replace KX := Lib.hid ((hkt).blk HT.out KX.out (by decide) (by decide) (by decide))
          replace HX := Lib.hid (HX.out.kt HT.out hkt)
          replace BB := Lib.hid (BB.out.trans (HT.out.below hkt))
          replace HT := Lib.hid (ht)
          clear ht hkt TG a0 a1 a2 a3 HOK HN8 hn8 hq
          have HOK := OK2
          have hn8 : n' ≤ 8 := by have := HX.out.len; have := HOK.out.len; omega
          clear OK2
          have hrr : ((res : Bool) != res) = false := by simp
          have hll : (((left : Nat) : Int) != ((left : Nat) : Int)) = false := by simp
          go_upto_region 20 with fail
          refine wp_ord [(0, .pure), (1, .pure), (2, .pure), (3, .pure), (4, .pure), (6, .pure), (7, .read), (5, .sole), (8, .sole), (9, .pure), (10, .pure), (11, .pure), (12, .pure), (13, .pure), (14, .pure), (15, .read), (17, .pure), (18, .pure), (19, .read), (16, .sole), (20, .pure), (21, .pure), (22, .pure), (23, .pure), (25, .read), (24, .sole), (26, .sole), (27, .sole), (28, .pure), (29, .pure)] [] (by kernel_rfl) (by kernel_rfl) (fun QQ hQ wd hwd => ?_); simp only [List.map_cons, List.map_nil, List.getD_cons_zero, List.getD_cons_succ]
          have hD : Below w6.heap.size w6 wd := by rw [hwd.out]; exact (Below.refl _ _).drew
          replace HT := Lib.hid (HT.out.into hD)
          replace KX := Lib.hid (KX.out.below hD KX.out.lt)
          replace HX := Lib.hid (HX.out.into hD)
          replace BB := Lib.hid (BB.out.trans ((hD).mono BB.out.size))
          clear hD hwd
          have x2 : wd.cell? ⟨X, 2, none⟩ = some (.slice A' n' c') := by rw [KX.out.cell]; rfl
          have x5 : wd.cell? ⟨X, 5, none⟩ = some (.int .i64 (left : Nat)) := by rw [KX.out.cell]; rfl
          have t0 := HT.out.c0
          (refine o_pure (v := ?_) (by rfl) (fun w' => ?_) ?_; rotate_left; (focus (go_simp; (try with_reducible rfl); (try (rw [if_pos (by omega)]; (try with_reducible rfl))))); (try simp only [Act.put, List.setIfInBounds_toArray, List.set_cons_zero, List.set_cons_succ]))
          (refine o_pure (v := ?_) (by rfl) (fun w' => ?_) ?_; rotate_left; (focus (go_simp; (try with_reducible rfl); (try (rw [if_pos (by omega)]; (try with_reducible rfl))))); (try simp only [Act.put, List.setIfInBounds_toArray, List.set_cons_zero, List.set_cons_succ]))
          (refine o_pure (v := ?_) (by rfl) (fun w' => ?_) ?_; rotate_left; (focus (go_simp; (try with_reducible rfl); (try (rw [if_pos (by omega)]; (try with_reducible rfl))))); (try simp only [Act.put, List.setIfInBounds_toArray, List.set_cons_zero, List.set_cons_succ]))
          (refine o_pure (v := ?_) (by rfl) (fun w' => ?_) ?_; rotate_left; (focus (go_simp; (try with_reducible rfl); (try (rw [if_pos (by omega)]; (try with_reducible rfl))))); (try simp only [Act.put, List.setIfInBounds_toArray, List.set_cons_zero, List.set_cons_succ]))
          (refine o_pure (v := ?_) (by rfl) (fun w' => ?_) ?_; rotate_left; (focus (go_simp; (try with_reducible rfl); (try (rw [if_pos (by omega)]; (try with_reducible rfl))))); (try simp only [Act.put, List.setIfInBounds_toArray, List.set_cons_zero, List.set_cons_succ]))
          (refine o_pure (v := ?_) (by rfl) (fun w' => ?_) ?_; rotate_left; (focus (go_simp; (try with_reducible rfl); (try (rw [if_pos (by omega)]; (try with_reducible rfl))))); (try simp only [Act.put, List.setIfInBounds_toArray, List.set_cons_zero, List.set_cons_succ]))
          (refine o_load _ (by rfl) rfl rfl (by assumption) (by kernel_rfl) ?_; simp only [Act.put, List.setIfInBounds_toArray, List.set_cons_zero, List.set_cons_succ])
          have LI := Lib.hid (ad_list w.heap.size g b v2 M P left (L2) wd HT.out (by have := HOK.out.len; omega))
          refine o_sole (fun K hK => ?_)
          go_wp2_with fail
          refine LI.out.mono ?_
          rintro e w10 ⟨v10, rfl, hp, hb⟩
          obtain ⟨A10, n10, c10, rfl, _, _, hn10, hr10⟩ := hp.out
          have hn10' : n' = n10 := by rw [← hn10.out]; exact HX.out.len.symm
          go_wp2_with fail
          refine hK _ _ (fun _ => Ext.of hb) ?_; clear hK K
          replace HT := Lib.hid (HT.out.into hb)
          replace KX := Lib.hid (KX.out.below hb KX.out.lt)
          replace HX := Lib.hid (HX.out.into hb)
          replace BB := Lib.hid (BB.out.trans ((hb).mono BB.out.size))
          subst hn10'
          have R10 := Lib.hid hr10.out
          clear hp hb hn10 hr10 LI x2 x5 t0
          have SA := Lib.hid (same20_true A10 A' n' c10 c' (L2) w10 R10.out HX.out.rd (by omega))
          refine o_sole (fun K hK => ?_)
          go_wp2_with fail
          refine SA.out.mono ?_
          rintro e w11 ⟨rfl, hb⟩
          go_wp2_with fail
          refine hK _ _ (fun _ => Ext.of hb) ?_; clear hK K
          replace HT := Lib.hid (HT.out.into hb)
          replace KX := Lib.hid (KX.out.below hb KX.out.lt)
          replace HX := Lib.hid (HX.out.into hb)
          replace BB := Lib.hid (BB.out.trans ((hb).mono BB.out.size))
          clear hb SA R10
          have x5 : w11.cell? ⟨X, 5, none⟩ = some (.int .i64 (left : Nat)) := by rw [KX.out.cell]; rfl
          have t0 := HT.out.c0
          (refine o_pure (v := ?_) (by rfl) (fun w' => ?_) ?_; rotate_left; (focus (go_simp; (try with_reducible rfl); (try (rw [if_pos (by omega)]; (try with_reducible rfl))))); (try simp only [Act.put, List.setIfInBounds_toArray, List.set_cons_zero, List.set_cons_succ]))
          (refine o_pure (v := ?_) (by rfl) (fun w' => ?_) ?_; rotate_left; (focus (go_simp; (try with_reducible rfl); (try (rw [if_pos (by omega)]; (try with_reducible rfl))))); (try simp only [Act.put, List.setIfInBounds_toArray, List.set_cons_zero, List.set_cons_succ]))
          (refine o_pure (v := ?_) (by rfl) (fun w' => ?_) ?_; rotate_left; (focus (go_simp; (try with_reducible rfl); (try (rw [if_pos (by omega)]; (try with_reducible rfl))))); (try simp only [Act.put, List.setIfInBounds_toArray, List.set_cons_zero, List.set_cons_succ]))
          (refine o_pure (v := ?_) (by rfl) (fun w' => ?_) ?_; rotate_left; (focus (go_simp; (try with_reducible rfl); (try (rw [if_pos (by omega)]; (try with_reducible rfl))))); (try simp only [Act.put, List.setIfInBounds_toArray, List.set_cons_zero, List.set_cons_succ]))
          (refine o_pure (v := ?_) (by rfl) (fun w' => ?_) ?_; rotate_left; (focus (go_simp; (try with_reducible rfl); (try (rw [if_pos (by omega)]; (try with_reducible rfl))))); (try simp only [Act.put, List.setIfInBounds_toArray, List.set_cons_zero, List.set_cons_succ]))
          (refine o_pure (v := ?_) (by rfl) (fun w' => ?_) ?_; rotate_left; (focus (go_simp; (try with_reducible rfl); (try (rw [if_pos (by omega)]; (try with_reducible rfl))))); (try simp only [Act.put, List.setIfInBounds_toArray, List.set_cons_zero, List.set_cons_succ]))
          (refine o_load _ (by rfl) rfl rfl (by assumption) (by kernel_rfl) ?_; simp only [Act.put, List.setIfInBounds_toArray, List.set_cons_zero, List.set_cons_succ])
          (refine o_pure (v := ?_) (by rfl) (fun w' => ?_) ?_; rotate_left; (focus (go_simp; (try with_reducible rfl); (try (rw [if_pos (by omega)]; (try with_reducible rfl))))); (try simp only [Act.put, List.setIfInBounds_toArray, List.set_cons_zero, List.set_cons_succ]))
          (refine o_pure (v := ?_) (by rfl) (fun w' => ?_) ?_; rotate_left; (focus (go_simp; (try with_reducible rfl); (try (rw [if_pos (by omega)]; (try with_reducible rfl))))); (try simp only [Act.put, List.setIfInBounds_toArray, List.set_cons_zero, List.set_cons_succ]))
          (refine o_load _ (by rfl) rfl rfl (by assumption) (by kernel_rfl) ?_; simp only [Act.put, List.setIfInBounds_toArray, List.set_cons_zero, List.set_cons_succ])
          have LF := Lib.hid (bkt_left b 64 1 left w11 HT.out.bkt)
          refine o_sole (fun K hK => ?_)
          go_wp2_with fail
          refine LF.out.mono ?_
          rintro e w12 ⟨rfl, hw⟩
          have hw := hw.symm
          subst hw
          go_wp2_with fail
          refine hK _ _ (fun _ => Ext.of (Below.refl _ _)) ?_; clear hK K
          clear x5 t0 LF
          (refine o_pure (v := ?_) (by rfl) (fun w' => ?_) ?_; rotate_left; (focus (go_simp; (try with_reducible rfl); (try (rw [if_pos (by omega)]; (try with_reducible rfl))))); (try simp only [Act.put, List.setIfInBounds_toArray, List.set_cons_zero, List.set_cons_succ]))
          (refine o_pure (v := ?_) (by rfl) (fun w' => ?_) ?_; rotate_left; (focus (go_simp; (try with_reducible rfl); (try (rw [if_pos (by omega)]; (try with_reducible rfl))))); (try simp only [Act.put, List.setIfInBounds_toArray, List.set_cons_zero, List.set_cons_succ]))
          (refine o_pure (v := ?_) (by rfl) (fun w' => ?_) ?_; rotate_left; (focus (go_simp; (try with_reducible rfl); (try (rw [if_pos (by omega)]; (try with_reducible rfl))))); (try simp only [Act.put, List.setIfInBounds_toArray, List.set_cons_zero, List.set_cons_succ]))
          (refine o_pure (v := ?_) (by rfl) (fun w' => ?_) ?_; rotate_left; (focus (go_simp; (try with_reducible rfl); (try (rw [if_pos (by omega)]; (try with_reducible rfl))))); (try simp only [Act.put, List.setIfInBounds_toArray, List.set_cons_zero, List.set_cons_succ]))
          (refine o_loads _ [.int .i64 (M : Nat), .int .i64 (P : Nat), .slice A' n' c', .int .i64 64, .int .i64 1, .int .i64 (left : Nat)] (by rfl) rfl rfl (KX.out.loads 0 _ (by rfl)) (Nat.succ_pos _) (by kernel_rfl) (by kernel_rfl) ?_; simp only [Act.put, List.setIfInBounds_toArray, List.set_cons_zero, List.set_cons_succ])
          have PA := Lib.hid (ad_paths w.heap.size g b v2 M P left (L2) w11 HT.out (by have := HOK.out.len; omega))
          rw [pthR_eq HOK.out] at PA
          refine o_sole (fun K hK => ?_)
          go_wp2_with fail
          refine PA.out.mono ?_
          rintro e w13 ⟨v13, rfl, hz, hb⟩
          obtain ⟨A13, n13, c13, rfl, _, hn13, hr13⟩ := hz.out
          have Z13 := Lib.hid hz
          go_wp2_with fail
          refine hK _ _ (fun _ => Ext.of hb) ?_; clear hK K
          replace HT := Lib.hid (HT.out.into hb)
          replace KX := Lib.hid (KX.out.below hb KX.out.lt)
          replace HX := Lib.hid (HX.out.into hb)
          replace BB := Lib.hid (BB.out.trans ((hb).mono BB.out.size))
          have HN13 := Sh.mk hn13.out
          clear hb hz hn13 hr13 PA
          have RP := Lib.hid (r20_paths M P left A' n' c' (L2) w13 HX.out (by omega))
          refine o_sole (fun K hK => ?_)
          go_wp2_with fail
          refine RP.out.mono ?_
          rintro e w14 ⟨v14, rfl, hz, hb⟩
          obtain ⟨A14, n14, c14, rfl, _, hn14, hr14⟩ := hz.out
          have R14 := Lib.hid hr14.out
          have R13 := Lib.hid ((Zats.below Z13.out hb).rd)
          have h13 : n14 = n13 := by rw [← hn14.out, HN13.out]
          have h13b : n13 ≤ 4 := by rw [← HN13.out]; exact pthR_len _
          go_wp2_with fail
          refine hK _ _ (fun _ => Ext.of hb) ?_; clear hK K
          replace HT := Lib.hid (HT.out.into hb)
          replace KX := Lib.hid (KX.out.below hb KX.out.lt)
          replace HX := Lib.hid (HX.out.into hb)
          replace BB := Lib.hid (BB.out.trans ((hb).mono BB.out.size))
          subst h13
          rw [HN13.out] at R13
          clear hb hz hn14 hr14 RP Z13
          have RW := Lib.hid (row19_true A13 A14 n14 c13 c14 (pthR (L2)) w14 R13.out R14.out (by omega))
          refine o_sole (fun K hK => ?_)
          go_wp2_with fail
          refine RW.out.mono ?_
          rintro e w15 ⟨rfl, hb⟩
          go_wp2_with fail
          refine hK _ _ (fun _ => Ext.of hb) ?_; clear hK K
          replace HT := Lib.hid (HT.out.into hb)
          replace KX := Lib.hid (KX.out.below hb KX.out.lt)
          replace HX := Lib.hid (HX.out.into hb)
          replace BB := Lib.hid (BB.out.trans ((hb).mono BB.out.size))
          clear hb RW R13 R14 HN13
          (refine o_pure (v := ?_) (by rfl) (fun w' => ?_) ?_; rotate_left; (focus (go_simp; (try with_reducible rfl); (try (rw [if_pos (by omega)]; (try with_reducible rfl))))); (try simp only [Act.put, List.setIfInBounds_toArray, List.set_cons_zero, List.set_cons_succ]))
          (refine o_pure (v := ?_) (by rfl) (fun w' => ?_) ?_; rotate_left; (focus (go_simp; (try with_reducible rfl); (try (rw [if_pos (by omega)]; (try with_reducible rfl))))); (try simp only [Act.put, List.setIfInBounds_toArray, List.set_cons_zero, List.set_cons_succ]))
          refine o_nil (hQ.out _ _ ?_); clear hQ QQ
          clear hrr hll
          go_wp2_with fail
          go_roundw
          case rel => exact ⟨i + 1, left, v2, A', n', c', L2, by omega, by go_num, HT, HOK, KX, HX, BB⟩
          case measure => simp [intOf]; omega
        · (try simp only [List.map_cons, List.map_nil, List.getD_cons_zero, List.getD_cons_succ])
          refine OB.o_sole (fun K hK => ?_)
          refine stm_store (cs' := #[.int .i64 (M : Nat), .int .i64 (P : Nat), .slice A' n' c', .int .i64 64, .int .i64 1, .int .i64 (left : Nat)]) KX.out rfl _ _ rfl rfl rfl (by simp) (by kernel_rfl) (by simp [Value.oneCell']) (by simp [setL]) fun w5 hk hs => ?_
          refine wpList_nil ?_
          refine hK _ _ (fun h => by cases h) ?_; clear hK K
          replace HT := Lib.hid (HT.out.aside KX.out (by decide) (by decide) (by decide) hs)
          replace HX := Lib.hid (HX2.out.solo KX.out (by decide) hs)
          replace BB := Lib.hid (BB.out.trans (hs.1.mono XW.out))
          replace KX := Lib.hid (show Blk _ _ _ #[.int .i64 (M : Nat), .int .i64 (P : Nat), .slice A' n' c', .int .i64 64, .int .i64 1, .int .i64 (left : Nat)] from hk)
          clear hk hs HX2
          refine OB.o_nil ?_
          refine OB.f_walk [(10, .pure), (12, .pure)] 0 (by rfl) (by kernel_rfl) ?_; (try simp only [List.map_cons, List.map_nil, List.getD_cons_zero, List.getD_cons_succ])
          (refine OB.o_pure (v := ?_) (by rfl) (fun w' => ?_) ?_; rotate_left; (focus (go_simp; (try with_reducible rfl))); (try simp only [Act.put, List.setIfInBounds_toArray, List.set_cons_zero, List.set_cons_succ]))
          (refine OB.o_pure (v := ?_) (by rfl) (fun w' => ?_) ?_; rotate_left; (focus (go_simp; (try with_reducible rfl))); (try simp only [Act.put, List.setIfInBounds_toArray, List.set_cons_zero, List.set_cons_succ]))
          refine OB.o_nil ?_
          refine OB.f_end (by kernel_rfl) (hQ.out _ _ ?_); clear hQ QQ
          have TG := Lib.hid (ad_gone w.heap.size g b v M P left L x w5 HT.out (by have := HOK.out.len; omega))
          rw [HRS.out] at TG
          obtain ⟨a0, a1, a2, a3⟩ := LW.out w5 BB.out
          go_wp2_with fail
          refine TG.out.mono ?_
          rintro e w6 ⟨v2, rfl, ht, hkt⟩
          replace KX := Lib.hid ((hkt).blk HT.out KX.out (by decide) (by decide) (by decide))
          replace HX := Lib.hid (HX.out.kt HT.out hkt)
          replace BB := Lib.hid (BB.out.trans (HT.out.below hkt))
          replace HT := Lib.hid (ht)
          clear ht hkt TG a0 a1 a2 a3 HOK HN8 hn8 hq
          have HOK := OK2
          have hn8 : n' ≤ 8 := by have := HX.out.len; have := HOK.out.len; omega
          clear OK2
          have hrr : ((res : Bool) != res) = false := by simp
          have hll : (((left : Nat) : Int) != ((left : Nat) : Int)) = false := by simp
          go_upto_region 20 with fail
          refine wp_ord [(0, .pure), (1, .pure), (2, .pure), (3, .pure), (4, .pure), (6, .pure), (7, .read), (5, .sole), (8, .sole), (9, .pure), (10, .pure), (11, .pure), (12, .pure), (13, .pure), (14, .pure), (15, .read), (17, .pure), (18, .pure), (19, .read), (16, .sole), (20, .pure), (21, .pure), (22, .pure), (23, .pure), (25, .read), (24, .sole), (26, .sole), (27, .sole), (28, .pure), (29, .pure)] [] (by kernel_rfl) (by kernel_rfl) (fun QQ hQ wd hwd => ?_); simp only [List.map_cons, List.map_nil, List.getD_cons_zero, List.getD_cons_succ]
          have hD : Below w6.heap.size w6 wd := by rw [hwd.out]; exact (Below.refl _ _).drew
          replace HT := Lib.hid (HT.out.into hD)
          replace KX := Lib.hid (KX.out.below hD KX.out.lt)
          replace HX := Lib.hid (HX.out.into hD)
          replace BB := Lib.hid (BB.out.trans ((hD).mono BB.out.size))
          clear hD hwd
          have x2 : wd.cell? ⟨X, 2, none⟩ = some (.slice A' n' c') := by rw [KX.out.cell]; rfl
          have x5 : wd.cell? ⟨X, 5, none⟩ = some (.int .i64 (left : Nat)) := by rw [KX.out.cell]; rfl
          have t0 := HT.out.c0
          (refine o_pure (v := ?_) (by rfl) (fun w' => ?_) ?_; rotate_left; (focus (go_simp; (try with_reducible rfl); (try (rw [if_pos (by omega)]; (try with_reducible rfl))))); (try simp only [Act.put, List.setIfInBounds_toArray, List.set_cons_zero, List.set_cons_succ]))
          (refine o_pure (v := ?_) (by rfl) (fun w' => ?_) ?_; rotate_left; (focus (go_simp; (try with_reducible rfl); (try (rw [if_pos (by omega)]; (try with_reducible rfl))))); (try simp only [Act.put, List.setIfInBounds_toArray, List.set_cons_zero, List.set_cons_succ]))
          (refine o_pure (v := ?_) (by rfl) (fun w' => ?_) ?_; rotate_left; (focus (go_simp; (try with_reducible rfl); (try (rw [if_pos (by omega)]; (try with_reducible rfl))))); (try simp only [Act.put, List.setIfInBounds_toArray, List.set_cons_zero, List.set_cons_succ]))
          (refine o_pure (v := ?_) (by rfl) (fun w' => ?_) ?_; rotate_left; (focus (go_simp; (try with_reducible rfl); (try (rw [if_pos (by omega)]; (try with_reducible rfl))))); (try simp only [Act.put, List.setIfInBounds_toArray, List.set_cons_zero, List.set_cons_succ]))
          (refine o_pure (v := ?_) (by rfl) (fun w' => ?_) ?_; rotate_left; (focus (go_simp; (try with_reducible rfl); (try (rw [if_pos (by omega)]; (try with_reducible rfl))))); (try simp only [Act.put, List.setIfInBounds_toArray, List.set_cons_zero, List.set_cons_succ]))
          (refine o_pure (v := ?_) (by rfl) (fun w' => ?_) ?_; rotate_left; (focus (go_simp; (try with_reducible rfl); (try (rw [if_pos (by omega)]; (try with_reducible rfl))))); (try simp only [Act.put, List.setIfInBounds_toArray, List.set_cons_zero, List.set_cons_succ]))
          (refine o_load _ (by rfl) rfl rfl (by assumption) (by kernel_rfl) ?_; simp only [Act.put, List.setIfInBounds_toArray, List.set_cons_zero, List.set_cons_succ])
          have LI := Lib.hid (ad_list w.heap.size g b v2 M P left (L2) wd HT.out (by have := HOK.out.len; omega))
          refine o_sole (fun K hK => ?_)
          go_wp2_with fail
          refine LI.out.mono ?_
          rintro e w10 ⟨v10, rfl, hp, hb⟩
          obtain ⟨A10, n10, c10, rfl, _, _, hn10, hr10⟩ := hp.out
          have hn10' : n' = n10 := by rw [← hn10.out]; exact HX.out.len.symm
          go_wp2_with fail
          refine hK _ _ (fun _ => Ext.of hb) ?_; clear hK K
          replace HT := Lib.hid (HT.out.into hb)
          replace KX := Lib.hid (KX.out.below hb KX.out.lt)
          replace HX := Lib.hid (HX.out.into hb)
          replace BB := Lib.hid (BB.out.trans ((hb).mono BB.out.size))
          subst hn10'
          have R10 := Lib.hid hr10.out
          clear hp hb hn10 hr10 LI x2 x5 t0
          have SA := Lib.hid (same20_true A10 A' n' c10 c' (L2) w10 R10.out HX.out.rd (by omega))
          refine o_sole (fun K hK => ?_)
          go_wp2_with fail
          refine SA.out.mono ?_
          rintro e w11 ⟨rfl, hb⟩
          go_wp2_with fail
          refine hK _ _ (fun _ => Ext.of hb) ?_; clear hK K
          replace HT := Lib.hid (HT.out.into hb)
          replace KX := Lib.hid (KX.out.below hb KX.out.lt)
          replace HX := Lib.hid (HX.out.into hb)
          replace BB := Lib.hid (BB.out.trans ((hb).mono BB.out.size))
          clear hb SA R10
          have x5 : w11.cell? ⟨X, 5, none⟩ = some (.int .i64 (left : Nat)) := by rw [KX.out.cell]; rfl
          have t0 := HT.out.c0
          (refine o_pure (v := ?_) (by rfl) (fun w' => ?_) ?_; rotate_left; (focus (go_simp; (try with_reducible rfl); (try (rw [if_pos (by omega)]; (try with_reducible rfl))))); (try simp only [Act.put, List.setIfInBounds_toArray, List.set_cons_zero, List.set_cons_succ]))
          (refine o_pure (v := ?_) (by rfl) (fun w' => ?_) ?_; rotate_left; (focus (go_simp; (try with_reducible rfl); (try (rw [if_pos (by omega)]; (try with_reducible rfl))))); (try simp only [Act.put, List.setIfInBounds_toArray, List.set_cons_zero, List.set_cons_succ]))
          (refine o_pure (v := ?_) (by rfl) (fun w' => ?_) ?_; rotate_left; (focus (go_simp; (try with_reducible rfl); (try (rw [if_pos (by omega)]; (try with_reducible rfl))))); (try simp only [Act.put, List.setIfInBounds_toArray, List.set_cons_zero, List.set_cons_succ]))
          (refine o_pure (v := ?_) (by rfl) (fun w' => ?_) ?_; rotate_left; (focus (go_simp; (try with_reducible rfl); (try (rw [if_pos (by omega)]; (try with_reducible rfl))))); (try simp only [Act.put, List.setIfInBounds_toArray, List.set_cons_zero, List.set_cons_succ]))
          (refine o_pure (v := ?_) (by rfl) (fun w' => ?_) ?_; rotate_left; (focus (go_simp; (try with_reducible rfl); (try (rw [if_pos (by omega)]; (try with_reducible rfl))))); (try simp only [Act.put, List.setIfInBounds_toArray, List.set_cons_zero, List.set_cons_succ]))
          (refine o_pure (v := ?_) (by rfl) (fun w' => ?_) ?_; rotate_left; (focus (go_simp; (try with_reducible rfl); (try (rw [if_pos (by omega)]; (try with_reducible rfl))))); (try simp only [Act.put, List.setIfInBounds_toArray, List.set_cons_zero, List.set_cons_succ]))
          (refine o_load _ (by rfl) rfl rfl (by assumption) (by kernel_rfl) ?_; simp only [Act.put, List.setIfInBounds_toArray, List.set_cons_zero, List.set_cons_succ])
          (refine o_pure (v := ?_) (by rfl) (fun w' => ?_) ?_; rotate_left; (focus (go_simp; (try with_reducible rfl); (try (rw [if_pos (by omega)]; (try with_reducible rfl))))); (try simp only [Act.put, List.setIfInBounds_toArray, List.set_cons_zero, List.set_cons_succ]))
          (refine o_pure (v := ?_) (by rfl) (fun w' => ?_) ?_; rotate_left; (focus (go_simp; (try with_reducible rfl); (try (rw [if_pos (by omega)]; (try with_reducible rfl))))); (try simp only [Act.put, List.setIfInBounds_toArray, List.set_cons_zero, List.set_cons_succ]))
          (refine o_load _ (by rfl) rfl rfl (by assumption) (by kernel_rfl) ?_; simp only [Act.put, List.setIfInBounds_toArray, List.set_cons_zero, List.set_cons_succ])
          have LF := Lib.hid (bkt_left b 64 1 left w11 HT.out.bkt)
          refine o_sole (fun K hK => ?_)
          go_wp2_with fail
          refine LF.out.mono ?_
          rintro e w12 ⟨rfl, hw⟩
          have hw := hw.symm
          subst hw
          go_wp2_with fail
          refine hK _ _ (fun _ => Ext.of (Below.refl _ _)) ?_; clear hK K
          clear x5 t0 LF
          (refine o_pure (v := ?_) (by rfl) (fun w' => ?_) ?_; rotate_left; (focus (go_simp; (try with_reducible rfl); (try (rw [if_pos (by omega)]; (try with_reducible rfl))))); (try simp only [Act.put, List.setIfInBounds_toArray, List.set_cons_zero, List.set_cons_succ]))
          (refine o_pure (v := ?_) (by rfl) (fun w' => ?_) ?_; rotate_left; (focus (go_simp; (try with_reducible rfl); (try (rw [if_pos (by omega)]; (try with_reducible rfl))))); (try simp only [Act.put, List.setIfInBounds_toArray, List.set_cons_zero, List.set_cons_succ]))
          (refine o_pure (v := ?_) (by rfl) (fun w' => ?_) ?_; rotate_left; (focus (go_simp; (try with_reducible rfl); (try (rw [if_pos (by omega)]; (try with_reducible rfl))))); (try simp only [Act.put, List.setIfInBounds_toArray, List.set_cons_zero, List.set_cons_succ]))
          (refine o_pure (v := ?_) (by rfl) (fun w' => ?_) ?_; rotate_left; (focus (go_simp; (try with_reducible rfl); (try (rw [if_pos (by omega)]; (try with_reducible rfl))))); (try simp only [Act.put, List.setIfInBounds_toArray, List.set_cons_zero, List.set_cons_succ]))
          (refine o_loads _ [.int .i64 (M : Nat), .int .i64 (P : Nat), .slice A' n' c', .int .i64 64, .int .i64 1, .int .i64 (left : Nat)] (by rfl) rfl rfl (KX.out.loads 0 _ (by rfl)) (Nat.succ_pos _) (by kernel_rfl) (by kernel_rfl) ?_; simp only [Act.put, List.setIfInBounds_toArray, List.set_cons_zero, List.set_cons_succ])
          have PA := Lib.hid (ad_paths w.heap.size g b v2 M P left (L2) w11 HT.out (by have := HOK.out.len; omega))
          rw [pthR_eq HOK.out] at PA
          refine o_sole (fun K hK => ?_)
          go_wp2_with fail
          refine PA.out.mono ?_
          rintro e w13 ⟨v13, rfl, hz, hb⟩
          obtain ⟨A13, n13, c13, rfl, _, hn13, hr13⟩ := hz.out
          have Z13 := Lib.hid hz
          go_wp2_with fail
          refine hK _ _ (fun _ => Ext.of hb) ?_; clear hK K
          replace HT := Lib.hid (HT.out.into hb)
          replace KX := Lib.hid (KX.out.below hb KX.out.lt)
          replace HX := Lib.hid (HX.out.into hb)
          replace BB := Lib.hid (BB.out.trans ((hb).mono BB.out.size))
          have HN13 := Sh.mk hn13.out
          clear hb hz hn13 hr13 PA
          have RP := Lib.hid (r20_paths M P left A' n' c' (L2) w13 HX.out (by omega))
          refine o_sole (fun K hK => ?_)
          go_wp2_with fail
          refine RP.out.mono ?_
          rintro e w14 ⟨v14, rfl, hz, hb⟩
          obtain ⟨A14, n14, c14, rfl, _, hn14, hr14⟩ := hz.out
          have R14 := Lib.hid hr14.out
          have R13 := Lib.hid ((Zats.below Z13.out hb).rd)
          have h13 : n14 = n13 := by rw [← hn14.out, HN13.out]
          have h13b : n13 ≤ 4 := by rw [← HN13.out]; exact pthR_len _
          go_wp2_with fail
          refine hK _ _ (fun _ => Ext.of hb) ?_; clear hK K
          replace HT := Lib.hid (HT.out.into hb)
          replace KX := Lib.hid (KX.out.below hb KX.out.lt)
          replace HX := Lib.hid (HX.out.into hb)
          replace BB := Lib.hid (BB.out.trans ((hb).mono BB.out.size))
          subst h13
          rw [HN13.out] at R13
          clear hb hz hn14 hr14 RP Z13
          have RW := Lib.hid (row19_true A13 A14 n14 c13 c14 (pthR (L2)) w14 R13.out R14.out (by omega))
          refine o_sole (fun K hK => ?_)
          go_wp2_with fail
          refine RW.out.mono ?_
          rintro e w15 ⟨rfl, hb⟩
          go_wp2_with fail
          refine hK _ _ (fun _ => Ext.of hb) ?_; clear hK K
          replace HT := Lib.hid (HT.out.into hb)
          replace KX := Lib.hid (KX.out.below hb KX.out.lt)
          replace HX := Lib.hid (HX.out.into hb)
          replace BB := Lib.hid (BB.out.trans ((hb).mono BB.out.size))
          clear hb RW R13 R14 HN13
          (refine o_pure (v := ?_) (by rfl) (fun w' => ?_) ?_; rotate_left; (focus (go_simp; (try with_reducible rfl); (try (rw [if_pos (by omega)]; (try with_reducible rfl))))); (try simp only [Act.put, List.setIfInBounds_toArray, List.set_cons_zero, List.set_cons_succ]))
          (refine o_pure (v := ?_) (by rfl) (fun w' => ?_) ?_; rotate_left; (focus (go_simp; (try with_reducible rfl); (try (rw [if_pos (by omega)]; (try with_reducible rfl))))); (try simp only [Act.put, List.setIfInBounds_toArray, List.set_cons_zero, List.set_cons_succ]))
          refine o_nil (hQ.out _ _ ?_); clear hQ QQ
          clear hrr hll
          go_wp2_with fail
          go_roundw
          case rel => exact ⟨i + 1, left, v2, A', n', c', L2, by omega, by go_num, HT, HOK, KX, HX, BB⟩
          case measure => simp [intOf]; omega
      by_cases hq4 : q = 4
      · have hq3' : (q == 3) = false := by simpa using hq3
        have hq : (q == 4) = true := by simpa using hq4
        have HTK := Lib.hid (fun w' (hw : Below wr.heap.size wr w') => bkt_tick b 64 1 left nn w' (HT.out.into hw).bkt (by have := HOK.out.left64; omega) (by omega) HNW.out)
        obtain ⟨k, hk⟩ : ∃ k, k = tickN left (bdN nn) 1 64 := ⟨_, rfl⟩
        have RTK := Lib.hid (fun w' => rbkt_tick 64 1 left nn w' (by have := HOK.out.left64; omega) (by omega) HNW.out)
        rw [← hk] at HTK RTK
        have OK2 := Lib.hid (HOK.out.setLeft (show k ≤ 64 by rw [hk]; exact tickN_le _ _ _ _))
        clear hk
        go_upto_region 18 with fail
        obtain ⟨a0, a1, a2, a3⟩ := LW.out wr BB.out
        have t0 := HT.out.c0
        refine wp_ord [(0, .pure), (1, .pure), (2, .pure), (3, .read), (4, .pure), (5, .pure), (6, .pure), (7, .pure), (8, .read), (9, .sole)] [9] (by kernel_rfl) (by kernel_rfl) (fun QQ hQ wd hwd => ?_); simp only [List.map_cons, List.map_nil, List.getD_cons_zero, List.getD_cons_succ]
        have hD : Below wr.heap.size wr wd := by rw [hwd.out]; exact (Below.refl _ _).drew
        have HTd := Lib.hid (HTK.out wd hD)
        replace a1 : wd.cell? ⟨rb, off + i * 4 + 1, none⟩ = some (.int .i64 nn) := by rw [hwd.out]; exact a1
        replace t0 : wd.cell? ⟨g, 0, none⟩ = some (.pointer (some ⟨b, 0, none⟩)) := by rw [hwd.out]; exact t0
        replace HT := Lib.hid (HT.out.into hD)
        replace KX := Lib.hid (KX.out.below hD KX.out.lt)
        replace HX := Lib.hid (HX.out.into hD)
        replace BB := Lib.hid (BB.out.trans ((hD).mono BB.out.size))
        clear hD hwd HTK a0 a2 a3
        (refine o_pure (v := ?_) (by rfl) (fun w' => ?_) ?_; rotate_left; (focus (go_simp; (try with_reducible rfl); (try (rw [if_pos (by omega)]; (try with_reducible rfl))))); (try simp only [Act.put, List.setIfInBounds_toArray, List.set_cons_zero, List.set_cons_succ]))
        (refine o_pure (v := ?_) (by rfl) (fun w' => ?_) ?_; rotate_left; (focus (go_simp; (try with_reducible rfl); (try (rw [if_pos (by omega)]; (try with_reducible rfl))))); (try simp only [Act.put, List.setIfInBounds_toArray, List.set_cons_zero, List.set_cons_succ]))
        (refine o_pure (v := ?_) (by rfl) (fun w' => ?_) ?_; rotate_left; (focus (go_simp; (try with_reducible rfl); (try (rw [if_pos (by omega)]; (try with_reducible rfl))))); (try simp only [Act.put, List.setIfInBounds_toArray, List.set_cons_zero, List.set_cons_succ]))
        (refine o_load _ (by rfl) rfl rfl (by assumption) (by kernel_rfl) ?_; simp only [Act.put, List.setIfInBounds_toArray, List.set_cons_zero, List.set_cons_succ])
        (refine o_pure (v := ?_) (by rfl) (fun w' => ?_) ?_; rotate_left; (focus (go_simp; (try with_reducible rfl); (try (rw [if_pos (by omega)]; (try with_reducible rfl))))); (try simp only [Act.put, List.setIfInBounds_toArray, List.set_cons_zero, List.set_cons_succ]))
        (refine o_pure (v := ?_) (by rfl) (fun w' => ?_) ?_; rotate_left; (focus (go_simp; (try with_reducible rfl); (try (rw [if_pos (by omega)]; (try with_reducible rfl))))); (try simp only [Act.put, List.setIfInBounds_toArray, List.set_cons_zero, List.set_cons_succ]))
        (refine o_pure (v := ?_) (by rfl) (fun w' => ?_) ?_; rotate_left; (focus (go_simp; (try with_reducible rfl); (try (rw [if_pos (by omega)]; (try with_reducible rfl))))); (try simp only [Act.put, List.setIfInBounds_toArray, List.set_cons_zero, List.set_cons_succ]))
        (refine o_pure (v := ?_) (by rfl) (fun w' => ?_) ?_; rotate_left; (focus (go_simp; (try with_reducible rfl); (try (rw [if_pos (by omega)]; (try with_reducible rfl))))); (try simp only [Act.put, List.setIfInBounds_toArray, List.set_cons_zero, List.set_cons_succ]))
        (refine o_load _ (by rfl) rfl rfl (by assumption) (by kernel_rfl) ?_; simp only [Act.put, List.setIfInBounds_toArray, List.set_cons_zero, List.set_cons_succ])
        clear a1 t0
        refine o_sole (fun K hK => ?_)
        go_wp2_with fail
        refine HTd.out.mono ?_
        rintro e w4 ⟨rfl, hbk, htou⟩
        go_wp2_with fail
        refine hK _ _ (fun h => by cases h) ?_; clear hK K
        refine o_nil (hQ.out _ _ ?_); clear hQ QQ
        replace KX := Lib.hid (((KT.tick (g := g) (v := v) htou)).blk HT.out KX.out (by decide) (by decide) (by decide))
        replace HX := Lib.hid (HX.out.kt HT.out (KT.tick (g := g) (v := v) htou))
        replace BB := Lib.hid (BB.out.trans (HT.out.below (KT.tick (g := g) (v := v) htou)))
        replace HT := Lib.hid (HT.out.tick hbk htou)
        clear hbk htou HTd
        go_upto_region 19 with fail
        obtain ⟨a0, a1, a2, a3⟩ := LW.out w4 BB.out
        refine wp_ord [(0, .pure), (1, .read), (2, .pure), (3, .pure), (4, .pure), (5, .pure), (6, .read), (7, .sole), (8, .pure), (9, .sole)] [9] (by kernel_rfl) (by kernel_rfl) (fun QQ hQ wd hwd => ?_); simp only [List.map_cons, List.map_nil, List.getD_cons_zero, List.getD_cons_succ]
        have hD : Below w4.heap.size w4 wd := by rw [hwd.out]; exact (Below.refl _ _).drew
        replace a1 : wd.cell? ⟨rb, off + i * 4 + 1, none⟩ = some (.int .i64 nn) := by rw [hwd.out]; exact a1
        replace HT := Lib.hid (HT.out.into hD)
        replace KX := Lib.hid (KX.out.below hD KX.out.lt)
        replace HX := Lib.hid (HX.out.into hD)
        replace BB := Lib.hid (BB.out.trans ((hD).mono BB.out.size))
        clear hD hwd a0 a2 a3
        (refine o_pure (v := ?_) (by rfl) (fun w' => ?_) ?_; rotate_left; (focus (go_simp; (try with_reducible rfl); (try (rw [if_pos (by omega)]; (try with_reducible rfl))))); (try simp only [Act.put, List.setIfInBounds_toArray, List.set_cons_zero, List.set_cons_succ]))
        (refine o_loads _ [.int .i64 64, .int .i64 1, .int .i64 (left : Nat)] (by rfl) rfl rfl (KX.out.loads 3 _ (by rfl)) (Nat.succ_pos _) (by kernel_rfl) (by kernel_rfl) ?_; simp only [Act.put, List.setIfInBounds_toArray, List.set_cons_zero, List.set_cons_succ])
        (refine o_pure (v := ?_) (by rfl) (fun w' => ?_) ?_; rotate_left; (focus (go_simp; (try with_reducible rfl); (try (rw [if_pos (by omega)]; (try with_reducible rfl))))); (try simp only [Act.put, List.setIfInBounds_toArray, List.set_cons_zero, List.set_cons_succ]))
        (refine o_pure (v := ?_) (by rfl) (fun w' => ?_) ?_; rotate_left; (focus (go_simp; (try with_reducible rfl); (try (rw [if_pos (by omega)]; (try with_reducible rfl))))); (try simp only [Act.put, List.setIfInBounds_toArray, List.set_cons_zero, List.set_cons_succ]))
        (refine o_pure (v := ?_) (by rfl) (fun w' => ?_) ?_; rotate_left; (focus (go_simp; (try with_reducible rfl); (try (rw [if_pos (by omega)]; (try with_reducible rfl))))); (try simp only [Act.put, List.setIfInBounds_toArray, List.set_cons_zero, List.set_cons_succ]))
        (refine o_pure (v := ?_) (by rfl) (fun w' => ?_) ?_; rotate_left; (focus (go_simp; (try with_reducible rfl); (try (rw [if_pos (by omega)]; (try with_reducible rfl))))); (try simp only [Act.put, List.setIfInBounds_toArray, List.set_cons_zero, List.set_cons_succ]))
        (refine o_load _ (by rfl) rfl rfl (by assumption) (by kernel_rfl) ?_; simp only [Act.put, List.setIfInBounds_toArray, List.set_cons_zero, List.set_cons_succ])
        clear a1
        refine o_sole (fun K hK => ?_)
        go_wp2_with fail
        refine (RTK.out wd).mono ?_
        rintro e w5 ⟨rfl, hb⟩
        unfold bkv
        go_wp2_with fail
        refine hK _ _ (fun _ => Ext.of hb) ?_; clear hK K
        replace HT := Lib.hid (HT.out.into hb)
        replace KX := Lib.hid (KX.out.below hb KX.out.lt)
        replace HX := Lib.hid (HX.out.into hb)
        replace BB := Lib.hid (BB.out.trans ((hb).mono BB.out.size))
        clear hb RTK
        (refine o_pure (v := ?_) (by rfl) (fun w' => ?_) ?_; rotate_left; (focus (go_simp; (try with_reducible rfl); (try (rw [if_pos (by omega)]; (try with_reducible rfl))))); (try simp only [Act.put, List.setIfInBounds_toArray, List.set_cons_zero, List.set_cons_succ]))
        refine o_sole (fun K hK => ?_)
        refine stm_store (o := 3) (cs' := #[.int .i64 (M : Nat), .int .i64 (P : Nat), .slice A n c, .int .i64 64, .int .i64 1, .int .i64 (k : Nat)]) KX.out rfl _ _ rfl rfl rfl (by simp) (by kernel_rfl) (by simp [Value.oneCell']) (by simp [setL]) fun w6 hk hs => ?_
        refine wpList_nil ?_
        refine hK _ _ (fun h => by cases h) ?_; clear hK K
        refine o_nil (hQ.out _ _ ?_); clear hQ QQ
        replace HT := Lib.hid (HT.out.aside KX.out (by decide) (by decide) (by decide) hs)
        replace HX := Lib.hid (HX.out.solo KX.out (by decide) hs)
        replace BB := Lib.hid (BB.out.trans (hs.1.mono XW.out))
        replace KX := Lib.hid (show Blk _ _ _ #[.int .i64 (M : Nat), .int .i64 (P : Nat), .slice A n c, .int .i64 64, .int .i64 1, .int .i64 (k : Nat)] from hk)
        clear hk hs HOK HN8 hq3' hq
        have HOK := OK2
        clear OK2
        have hrr : ((false : Bool) != false) = false := by simp
        have hll : (((k : Nat) : Int) != ((k : Nat) : Int)) = false := by simp
        go_upto_region 20 with fail
        refine wp_ord [(0, .pure), (1, .pure), (2, .pure), (3, .pure), (4, .pure), (6, .pure), (7, .read), (5, .sole), (8, .sole), (9, .pure), (10, .pure), (11, .pure), (12, .pure), (13, .pure), (14, .pure), (15, .read), (17, .pure), (18, .pure), (19, .read), (16, .sole), (20, .pure), (21, .pure), (22, .pure), (23, .pure), (25, .read), (24, .sole), (26, .sole), (27, .sole), (28, .pure), (29, .pure)] [] (by kernel_rfl) (by kernel_rfl) (fun QQ hQ wd hwd => ?_); simp only [List.map_cons, List.map_nil, List.getD_cons_zero, List.getD_cons_succ]
        have hD : Below w6.heap.size w6 wd := by rw [hwd.out]; exact (Below.refl _ _).drew
        replace HT := Lib.hid (HT.out.into hD)
        replace KX := Lib.hid (KX.out.below hD KX.out.lt)
        replace HX := Lib.hid (HX.out.into hD)
        replace BB := Lib.hid (BB.out.trans ((hD).mono BB.out.size))
        clear hD hwd
        have x2 : wd.cell? ⟨X, 2, none⟩ = some (.slice A n c) := by rw [KX.out.cell]; rfl
        have x5 : wd.cell? ⟨X, 5, none⟩ = some (.int .i64 (k : Nat)) := by rw [KX.out.cell]; rfl
        have t0 := HT.out.c0
        (refine o_pure (v := ?_) (by rfl) (fun w' => ?_) ?_; rotate_left; (focus (go_simp; (try with_reducible rfl); (try (rw [if_pos (by omega)]; (try with_reducible rfl))))); (try simp only [Act.put, List.setIfInBounds_toArray, List.set_cons_zero, List.set_cons_succ]))
        (refine o_pure (v := ?_) (by rfl) (fun w' => ?_) ?_; rotate_left; (focus (go_simp; (try with_reducible rfl); (try (rw [if_pos (by omega)]; (try with_reducible rfl))))); (try simp only [Act.put, List.setIfInBounds_toArray, List.set_cons_zero, List.set_cons_succ]))
        (refine o_pure (v := ?_) (by rfl) (fun w' => ?_) ?_; rotate_left; (focus (go_simp; (try with_reducible rfl); (try (rw [if_pos (by omega)]; (try with_reducible rfl))))); (try simp only [Act.put, List.setIfInBounds_toArray, List.set_cons_zero, List.set_cons_succ]))
        (refine o_pure (v := ?_) (by rfl) (fun w' => ?_) ?_; rotate_left; (focus (go_simp; (try with_reducible rfl); (try (rw [if_pos (by omega)]; (try with_reducible rfl))))); (try simp only [Act.put, List.setIfInBounds_toArray, List.set_cons_zero, List.set_cons_succ]))
        (refine o_pure (v := ?_) (by rfl) (fun w' => ?_) ?_; rotate_left; (focus (go_simp; (try with_reducible rfl); (try (rw [if_pos (by omega)]; (try with_reducible rfl))))); (try simp only [Act.put, List.setIfInBounds_toArray, List.set_cons_zero, List.set_cons_succ]))
        (refine o_pure (v := ?_) (by rfl) (fun w' => ?_) ?_; rotate_left; (focus (go_simp; (try with_reducible rfl); (try (rw [if_pos (by omega)]; (try with_reducible rfl))))); (try simp only [Act.put, List.setIfInBounds_toArray, List.set_cons_zero, List.set_cons_succ]))
        (refine o_load _ (by rfl) rfl rfl (by assumption) (by kernel_rfl) ?_; simp only [Act.put, List.setIfInBounds_toArray, List.set_cons_zero, List.set_cons_succ])
        have LI := Lib.hid (ad_list w.heap.size g b v M P k (L) wd HT.out (by have := HOK.out.len; omega))
        refine o_sole (fun K hK => ?_)
        go_wp2_with fail
        refine LI.out.mono ?_
        rintro e w10 ⟨v10, rfl, hp, hb⟩
        obtain ⟨A10, n10, c10, rfl, _, _, hn10, hr10⟩ := hp.out
        have hn10' : n = n10 := by rw [← hn10.out]; exact HX.out.len.symm
        go_wp2_with fail
        refine hK _ _ (fun _ => Ext.of hb) ?_; clear hK K
        replace HT := Lib.hid (HT.out.into hb)
        replace KX := Lib.hid (KX.out.below hb KX.out.lt)
        replace HX := Lib.hid (HX.out.into hb)
        replace BB := Lib.hid (BB.out.trans ((hb).mono BB.out.size))
        subst hn10'
        have R10 := Lib.hid hr10.out
        clear hp hb hn10 hr10 LI x2 x5 t0
        have SA := Lib.hid (same20_true A10 A n c10 c (L) w10 R10.out HX.out.rd (by omega))
        refine o_sole (fun K hK => ?_)
        go_wp2_with fail
        refine SA.out.mono ?_
        rintro e w11 ⟨rfl, hb⟩
        go_wp2_with fail
        refine hK _ _ (fun _ => Ext.of hb) ?_; clear hK K
        replace HT := Lib.hid (HT.out.into hb)
        replace KX := Lib.hid (KX.out.below hb KX.out.lt)
        replace HX := Lib.hid (HX.out.into hb)
        replace BB := Lib.hid (BB.out.trans ((hb).mono BB.out.size))
        clear hb SA R10
        have x5 : w11.cell? ⟨X, 5, none⟩ = some (.int .i64 (k : Nat)) := by rw [KX.out.cell]; rfl
        have t0 := HT.out.c0
        (refine o_pure (v := ?_) (by rfl) (fun w' => ?_) ?_; rotate_left; (focus (go_simp; (try with_reducible rfl); (try (rw [if_pos (by omega)]; (try with_reducible rfl))))); (try simp only [Act.put, List.setIfInBounds_toArray, List.set_cons_zero, List.set_cons_succ]))
        (refine o_pure (v := ?_) (by rfl) (fun w' => ?_) ?_; rotate_left; (focus (go_simp; (try with_reducible rfl); (try (rw [if_pos (by omega)]; (try with_reducible rfl))))); (try simp only [Act.put, List.setIfInBounds_toArray, List.set_cons_zero, List.set_cons_succ]))
        (refine o_pure (v := ?_) (by rfl) (fun w' => ?_) ?_; rotate_left; (focus (go_simp; (try with_reducible rfl); (try (rw [if_pos (by omega)]; (try with_reducible rfl))))); (try simp only [Act.put, List.setIfInBounds_toArray, List.set_cons_zero, List.set_cons_succ]))
        (refine o_pure (v := ?_) (by rfl) (fun w' => ?_) ?_; rotate_left; (focus (go_simp; (try with_reducible rfl); (try (rw [if_pos (by omega)]; (try with_reducible rfl))))); (try simp only [Act.put, List.setIfInBounds_toArray, List.set_cons_zero, List.set_cons_succ]))
        (refine o_pure (v := ?_) (by rfl) (fun w' => ?_) ?_; rotate_left; (focus (go_simp; (try with_reducible rfl); (try (rw [if_pos (by omega)]; (try with_reducible rfl))))); (try simp only [Act.put, List.setIfInBounds_toArray, List.set_cons_zero, List.set_cons_succ]))
        (refine o_pure (v := ?_) (by rfl) (fun w' => ?_) ?_; rotate_left; (focus (go_simp; (try with_reducible rfl); (try (rw [if_pos (by omega)]; (try with_reducible rfl))))); (try simp only [Act.put, List.setIfInBounds_toArray, List.set_cons_zero, List.set_cons_succ]))
        (refine o_load _ (by rfl) rfl rfl (by assumption) (by kernel_rfl) ?_; simp only [Act.put, List.setIfInBounds_toArray, List.set_cons_zero, List.set_cons_succ])
        (refine o_pure (v := ?_) (by rfl) (fun w' => ?_) ?_; rotate_left; (focus (go_simp; (try with_reducible rfl); (try (rw [if_pos (by omega)]; (try with_reducible rfl))))); (try simp only [Act.put, List.setIfInBounds_toArray, List.set_cons_zero, List.set_cons_succ]))
        (refine o_pure (v := ?_) (by rfl) (fun w' => ?_) ?_; rotate_left; (focus (go_simp; (try with_reducible rfl); (try (rw [if_pos (by omega)]; (try with_reducible rfl))))); (try simp only [Act.put, List.setIfInBounds_toArray, List.set_cons_zero, List.set_cons_succ]))
        (refine o_load _ (by rfl) rfl rfl (by assumption) (by kernel_rfl) ?_; simp only [Act.put, List.setIfInBounds_toArray, List.set_cons_zero, List.set_cons_succ])
        have LF := Lib.hid (bkt_left b 64 1 k w11 HT.out.bkt)
        refine o_sole (fun K hK => ?_)
        go_wp2_with fail
        refine LF.out.mono ?_
        rintro e w12 ⟨rfl, hw⟩
        have hw := hw.symm
        subst hw
        go_wp2_with fail
        refine hK _ _ (fun _ => Ext.of (Below.refl _ _)) ?_; clear hK K
        clear x5 t0 LF
        (refine o_pure (v := ?_) (by rfl) (fun w' => ?_) ?_; rotate_left; (focus (go_simp; (try with_reducible rfl); (try (rw [if_pos (by omega)]; (try with_reducible rfl))))); (try simp only [Act.put, List.setIfInBounds_toArray, List.set_cons_zero, List.set_cons_succ]))
        (refine o_pure (v := ?_) (by rfl) (fun w' => ?_) ?_; rotate_left; (focus (go_simp; (try with_reducible rfl); (try (rw [if_pos (by omega)]; (try with_reducible rfl))))); (try simp only [Act.put, List.setIfInBounds_toArray, List.set_cons_zero, List.set_cons_succ]))
        (refine o_pure (v := ?_) (by rfl) (fun w' => ?_) ?_; rotate_left; (focus (go_simp; (try with_reducible rfl); (try (rw [if_pos (by omega)]; (try with_reducible rfl))))); (try simp only [Act.put, List.setIfInBounds_toArray, List.set_cons_zero, List.set_cons_succ]))
        (refine o_pure (v := ?_) (by rfl) (fun w' => ?_) ?_; rotate_left; (focus (go_simp; (try with_reducible rfl); (try (rw [if_pos (by omega)]; (try with_reducible rfl))))); (try simp only [Act.put, List.setIfInBounds_toArray, List.set_cons_zero, List.set_cons_succ]))
        (refine o_loads _ [.int .i64 (M : Nat), .int .i64 (P : Nat), .slice A n c, .int .i64 64, .int .i64 1, .int .i64 (k : Nat)] (by rfl) rfl rfl (KX.out.loads 0 _ (by rfl)) (Nat.succ_pos _) (by kernel_rfl) (by kernel_rfl) ?_; simp only [Act.put, List.setIfInBounds_toArray, List.set_cons_zero, List.set_cons_succ])
        have PA := Lib.hid (ad_paths w.heap.size g b v M P k (L) w11 HT.out (by have := HOK.out.len; omega))
        rw [pthR_eq HOK.out] at PA
        refine o_sole (fun K hK => ?_)
        go_wp2_with fail
        refine PA.out.mono ?_
        rintro e w13 ⟨v13, rfl, hz, hb⟩
        obtain ⟨A13, n13, c13, rfl, _, hn13, hr13⟩ := hz.out
        have Z13 := Lib.hid hz
        go_wp2_with fail
        refine hK _ _ (fun _ => Ext.of hb) ?_; clear hK K
        replace HT := Lib.hid (HT.out.into hb)
        replace KX := Lib.hid (KX.out.below hb KX.out.lt)
        replace HX := Lib.hid (HX.out.into hb)
        replace BB := Lib.hid (BB.out.trans ((hb).mono BB.out.size))
        have HN13 := Sh.mk hn13.out
        clear hb hz hn13 hr13 PA
        have RP := Lib.hid (r20_paths M P k A n c (L) w13 HX.out (by omega))
        refine o_sole (fun K hK => ?_)
        go_wp2_with fail
        refine RP.out.mono ?_
        rintro e w14 ⟨v14, rfl, hz, hb⟩
        obtain ⟨A14, n14, c14, rfl, _, hn14, hr14⟩ := hz.out
        have R14 := Lib.hid hr14.out
        have R13 := Lib.hid ((Zats.below Z13.out hb).rd)
        have h13 : n14 = n13 := by rw [← hn14.out, HN13.out]
        have h13b : n13 ≤ 4 := by rw [← HN13.out]; exact pthR_len _
        go_wp2_with fail
        refine hK _ _ (fun _ => Ext.of hb) ?_; clear hK K
        replace HT := Lib.hid (HT.out.into hb)
        replace KX := Lib.hid (KX.out.below hb KX.out.lt)
        replace HX := Lib.hid (HX.out.into hb)
        replace BB := Lib.hid (BB.out.trans ((hb).mono BB.out.size))
        subst h13
        rw [HN13.out] at R13
        clear hb hz hn14 hr14 RP Z13
        have RW := Lib.hid (row19_true A13 A14 n14 c13 c14 (pthR (L)) w14 R13.out R14.out (by omega))
        refine o_sole (fun K hK => ?_)
        go_wp2_with fail
        refine RW.out.mono ?_
        rintro e w15 ⟨rfl, hb⟩
        go_wp2_with fail
        refine hK _ _ (fun _ => Ext.of hb) ?_; clear hK K
        replace HT := Lib.hid (HT.out.into hb)
        replace KX := Lib.hid (KX.out.below hb KX.out.lt)
        replace HX := Lib.hid (HX.out.into hb)
        replace BB := Lib.hid (BB.out.trans ((hb).mono BB.out.size))
        clear hb RW R13 R14 HN13
        (refine o_pure (v := ?_) (by rfl) (fun w' => ?_) ?_; rotate_left; (focus (go_simp; (try with_reducible rfl); (try (rw [if_pos (by omega)]; (try with_reducible rfl))))); (try simp only [Act.put, List.setIfInBounds_toArray, List.set_cons_zero, List.set_cons_succ]))
        (refine o_pure (v := ?_) (by rfl) (fun w' => ?_) ?_; rotate_left; (focus (go_simp; (try with_reducible rfl); (try (rw [if_pos (by omega)]; (try with_reducible rfl))))); (try simp only [Act.put, List.setIfInBounds_toArray, List.set_cons_zero, List.set_cons_succ]))
        refine o_nil (hQ.out _ _ ?_); clear hQ QQ
        clear hrr hll
        go_wp2_with fail
        go_roundw
        case rel => exact ⟨i + 1, k, v, A, n, c, L, by omega, by go_num, HT, HOK, KX, HX, BB⟩
        case measure => simp [intOf]; omega
      · have hq3' : (q == 3) = false := by simpa using hq3
        have hq4' : (q == 4) = false := by simpa using hq4
        go_upto_region 12 with fail
        obtain ⟨a0, a1, a2, a3⟩ := LW.out wr BB.out
        have RG := Lib.hid (fun w' (hw : Below wr.heap.size wr w') => r20_add M P left A n c L x y w' (HX.out.into hw) HN8.out HM8 HOK.out.left64 HOK.out)
        have OK2 := Lib.hid (HOK.out.add (x, y))
        have rbw : rb < wr.heap.size := Nat.lt_of_lt_of_le RBL.out BB.out.size
        have xbw : X < wr.heap.size := KX.out.lt
        refine OB.wp_f ⟨fun k => k < wr.heap.size, [18]⟩ (by kernel_rfl) (fun QQ hQ wd hwd => ?_)
        have hD : Below wr.heap.size wr wd := by rw [hwd.out]; exact (Below.refl _ _).drew
        replace a2 : wd.cell? ⟨rb, off + i * 4 + 2, none⟩ = some (.int .i64 x) := by rw [hwd.out]; exact a2
        replace a3 : wd.cell? ⟨rb, off + i * 4 + 3, none⟩ = some (.int .i64 y) := by rw [hwd.out]; exact a3
        have RGd := Lib.hid (RG.out wd hD)
        have hDs := hD.size
        replace HT := Lib.hid (HT.out.into hD)
        replace KX := Lib.hid (KX.out.below hD KX.out.lt)
        replace HX := Lib.hid (HX.out.into hD)
        replace BB := Lib.hid (BB.out.trans ((hD).mono BB.out.size))
        clear hD hwd RG a0 a1
        refine OB.f_walk [(0, .read), (1, .pure), (2, .pure), (3, .pure), (4, .pure), (5, .pure), (6, .read), (7, .pure), (8, .pure), (9, .pure), (10, .pure), (11, .pure), (12, .read), (13, .pure), (14, .sole), (15, .pure), (16, .pure)] 3 (by rfl) (by kernel_rfl) ?_; (try simp only [List.map_cons, List.map_nil, List.getD_cons_zero, List.getD_cons_succ])
        (refine OB.o_loads _ [.int .i64 (M : Nat), .int .i64 (P : Nat), .slice A n c, .int .i64 64, .int .i64 1, .int .i64 (left : Nat)] (by rfl) rfl rfl (by dsimp only; first | assumption | omega) (KX.out.loads 0 _ (by rfl)) (Nat.succ_pos _) (by kernel_rfl) (by kernel_rfl) ?_; simp only [Act.put, List.setIfInBounds_toArray, List.set_cons_zero, List.set_cons_succ])
        (refine OB.o_pure (v := ?_) (by rfl) (fun w' => ?_) ?_; rotate_left; (focus (go_simp; (try with_reducible rfl))); (try simp only [Act.put, List.setIfInBounds_toArray, List.set_cons_zero, List.set_cons_succ]))
        (refine OB.o_pure (v := ?_) (by rfl) (fun w' => ?_) ?_; rotate_left; (focus (go_simp; (try with_reducible rfl))); (try simp only [Act.put, List.setIfInBounds_toArray, List.set_cons_zero, List.set_cons_succ]))
        (refine OB.o_pure (v := ?_) (by rfl) (fun w' => ?_) ?_; rotate_left; (focus (go_simp; (try with_reducible rfl))); (try simp only [Act.put, List.setIfInBounds_toArray, List.set_cons_zero, List.set_cons_succ]))
        (refine OB.o_pure (v := ?_) (by rfl) (fun w' => ?_) ?_; rotate_left; (focus (go_simp; (try with_reducible rfl))); (try simp only [Act.put, List.setIfInBounds_toArray, List.set_cons_zero, List.set_cons_succ]))
        (refine OB.o_pure (v := ?_) (by rfl) (fun w' => ?_) ?_; rotate_left; (focus (go_simp; (try with_reducible rfl))); (try simp only [Act.put, List.setIfInBounds_toArray, List.set_cons_zero, List.set_cons_succ]))
        (refine OB.o_load _ (by rfl) rfl rfl (by dsimp only; first | assumption | omega) (by assumption) (by kernel_rfl) ?_; simp only [Act.put, List.setIfInBounds_toArray, List.set_cons_zero, List.set_cons_succ])
        (refine OB.o_pure (v := ?_) (by rfl) (fun w' => ?_) ?_; rotate_left; (focus (go_simp; (try with_reducible rfl))); (try simp only [Act.put, List.setIfInBounds_toArray, List.set_cons_zero, List.set_cons_succ]))
        (refine OB.o_pure (v := ?_) (by rfl) (fun w' => ?_) ?_; rotate_left; (focus (go_simp; (try with_reducible rfl))); (try simp only [Act.put, List.setIfInBounds_toArray, List.set_cons_zero, List.set_cons_succ]))
        (refine OB.o_pure (v := ?_) (by rfl) (fun w' => ?_) ?_; rotate_left; (focus (go_simp; (try with_reducible rfl))); (try simp only [Act.put, List.setIfInBounds_toArray, List.set_cons_zero, List.set_cons_succ]))
        (refine OB.o_pure (v := ?_) (by rfl) (fun w' => ?_) ?_; rotate_left; (focus (go_simp; (try with_reducible rfl))); (try simp only [Act.put, List.setIfInBounds_toArray, List.set_cons_zero, List.set_cons_succ]))
        (refine OB.o_pure (v := ?_) (by rfl) (fun w' => ?_) ?_; rotate_left; (focus (go_simp; (try with_reducible rfl))); (try simp only [Act.put, List.setIfInBounds_toArray, List.set_cons_zero, List.set_cons_succ]))
        (refine OB.o_load _ (by rfl) rfl rfl (by dsimp only; first | assumption | omega) (by assumption) (by kernel_rfl) ?_; simp only [Act.put, List.setIfInBounds_toArray, List.set_cons_zero, List.set_cons_succ])
        (refine OB.o_pure (v := ?_) (by rfl) (fun w' => ?_) ?_; rotate_left; (focus (go_simp; (try with_reducible rfl))); (try simp only [Act.put, List.setIfInBounds_toArray, List.set_cons_zero, List.set_cons_succ]))
        clear a2 a3
        refine OB.o_sole (fun K hK => ?_)
        go_wp2_with fail
        refine RGd.out.mono ?_
        rintro e w4 ⟨A', n', c', rfl, hx, hb⟩
        go_wp2_with fail
        refine hK _ _ (fun _ => OB.ExtB.of (hb.mono hDs)) ?_; clear hK K
        replace HT := Lib.hid (HT.out.into hb)
        replace KX := Lib.hid (KX.out.below hb KX.out.lt)
        replace HX := Lib.hid (HX.out.into hb)
        replace BB := Lib.hid (BB.out.trans ((hb).mono BB.out.size))
        have HX2 := Lib.hid hx
        obtain ⟨r, hr⟩ : ∃ r, r = adAdd M P left L (x, y) := ⟨_, rfl⟩
        rw [← hr] at HX2 OK2 ⊢
        have HRS := Sh.mk hr.symm
        obtain ⟨left2, L2, res⟩ := r
        dsimp only at HX2 OK2 ⊢
        clear hx hb hr RGd rbw xbw hDs
        (refine OB.o_pure (v := ?_) (by rfl) (fun w' => ?_) ?_; rotate_left; (focus (go_simp; (try with_reducible rfl))); (try simp only [Act.put, List.setIfInBounds_toArray, List.set_cons_zero, List.set_cons_succ]))
        (refine OB.o_pure (v := ?_) (by rfl) (fun w' => ?_) ?_; rotate_left; (focus (go_simp; (try with_reducible rfl))); (try simp only [Act.put, List.setIfInBounds_toArray, List.set_cons_zero, List.set_cons_succ]))
        refine OB.o_nil ?_
        refine OB.f_fork 17 18 (by kernel_rfl) (by kernel_rfl) ?_ ?_
        · (try simp only [List.map_cons, List.map_nil, List.getD_cons_zero, List.getD_cons_succ])
          refine OB.o_sole (fun K hK => ?_)
          go_wp2_with fail
          refine hK _ _ (fun _ => OB.ExtB.of (Below.refl _ _)) ?_; clear hK K
          refine OB.o_nil ?_
          refine OB.f_walk [(18, .sole), (19, .pure)] 0 (by rfl) (by kernel_rfl) ?_; (try simp only [List.map_cons, List.map_nil, List.getD_cons_zero, List.getD_cons_succ])
          refine OB.o_sole (fun K hK => ?_)
          refine stm_store (cs' := #[.int .i64 (M : Nat), .int .i64 (P : Nat), .slice A' n' c', .int .i64 64, .int .i64 1, .int .i64 (left2 : Nat)]) KX.out rfl _ _ rfl rfl rfl (by simp) (by kernel_rfl) (by simp [Value.oneCell']) (by simp [setL]) fun w5 hk hs => ?_
          refine wpList_nil ?_
          refine hK _ _ (fun h => by cases h) ?_; clear hK K
          replace HT := Lib.hid (HT.out.aside KX.out (by decide) (by decide) (by decide) hs)
          replace HX := Lib.hid (HX2.out.solo KX.out (by decide) hs)
          replace BB := Lib.hid (BB.out.trans (hs.1.mono XW.out))
          replace KX := Lib.hid (show Blk _ _ _ #[.int .i64 (M : Nat), .int .i64 (P : Nat), .slice A' n' c', .int .i64 64, .int .i64 1, .int .i64 (left2 : Nat)] from hk)
          clear hk hs HX2
          (refine OB.o_pure (v := ?_) (by rfl) (fun w' => ?_) ?_; rotate_left; (focus (go_simp; (try with_reducible rfl))); (try simp only [Act.put, List.setIfInBounds_toArray, List.set_cons_zero, List.set_cons_succ]))
          refine OB.o_nil ?_
          refine OB.f_end (by kernel_rfl) (hQ.out _ _ ?_); clear hQ QQ
          have TG := Lib.hid (ad_add w.heap.size g b v M P left L x y w5 HT.out HOK.out.len HM8 HOK.out.left64)
          rw [HRS.out] at TG
          obtain ⟨a0, a1, a2, a3⟩ := LW.out w5 BB.out
          go_wp2_with fail
          refine TG.out.mono ?_
          rintro e w6 ⟨v2, rfl, ht, hkt⟩
          replace KX := Lib.hid ((hkt).blk HT.out KX.out (by decide) (by decide) (by decide))
          replace HX := Lib.hid (HX.out.kt HT.out hkt)
          replace BB := Lib.hid (BB.out.trans (HT.out.below hkt))
          replace HT := Lib.hid (ht)
          clear ht hkt TG a0 a1 a2 a3 HOK HN8 hn8 hq3' hq4'
          have HOK := OK2
          have hn8 : n' ≤ 8 := by have := HX.out.len; have := HOK.out.len; omega
          clear OK2
          have hrr : ((res : Bool) != res) = false := by simp
          have hll : (((left2 : Nat) : Int) != ((left2 : Nat) : Int)) = false := by simp
          go_upto_region 20 with fail
          refine wp_ord [(0, .pure), (1, .pure), (2, .pure), (3, .pure), (4, .pure), (6, .pure), (7, .read), (5, .sole), (8, .sole), (9, .pure), (10, .pure), (11, .pure), (12, .pure), (13, .pure), (14, .pure), (15, .read), (17, .pure), (18, .pure), (19, .read), (16, .sole), (20, .pure), (21, .pure), (22, .pure), (23, .pure), (25, .read), (24, .sole), (26, .sole), (27, .sole), (28, .pure), (29, .pure)] [] (by kernel_rfl) (by kernel_rfl) (fun QQ hQ wd hwd => ?_); simp only [List.map_cons, List.map_nil, List.getD_cons_zero, List.getD_cons_succ]
          have hD : Below w6.heap.size w6 wd := by rw [hwd.out]; exact (Below.refl _ _).drew
          replace HT := Lib.hid (HT.out.into hD)
          replace KX := Lib.hid (KX.out.below hD KX.out.lt)
          replace HX := Lib.hid (HX.out.into hD)
          replace BB := Lib.hid (BB.out.trans ((hD).mono BB.out.size))
          clear hD hwd
          have x2 : wd.cell? ⟨X, 2, none⟩ = some (.slice A' n' c') := by rw [KX.out.cell]; rfl
          have x5 : wd.cell? ⟨X, 5, none⟩ = some (.int .i64 (left2 : Nat)) := by rw [KX.out.cell]; rfl
          have t0 := HT.out.c0
          (refine o_pure (v := ?_) (by rfl) (fun w' => ?_) ?_; rotate_left; (focus (go_simp; (try with_reducible rfl); (try (rw [if_pos (by omega)]; (try with_reducible rfl))))); (try simp only [Act.put, List.setIfInBounds_toArray, List.set_cons_zero, List.set_cons_succ]))
          (refine o_pure (v := ?_) (by rfl) (fun w' => ?_) ?_; rotate_left; (focus (go_simp; (try with_reducible rfl); (try (rw [if_pos (by omega)]; (try with_reducible rfl))))); (try simp only [Act.put, List.setIfInBounds_toArray, List.set_cons_zero, List.set_cons_succ]))
          (refine o_pure (v := ?_) (by rfl) (fun w' => ?_) ?_; rotate_left; (focus (go_simp; (try with_reducible rfl); (try (rw [if_pos (by omega)]; (try with_reducible rfl))))); (try simp only [Act.put, List.setIfInBounds_toArray, List.set_cons_zero, List.set_cons_succ]))
          (refine o_pure (v := ?_) (by rfl) (fun w' => ?_) ?_; rotate_left; (focus (go_simp; (try with_reducible rfl); (try (rw [if_pos (by omega)]; (try with_reducible rfl))))); (try simp only [Act.put, List.setIfInBounds_toArray, List.set_cons_zero, List.set_cons_succ]))
          (refine o_pure (v := ?_) (by rfl) (fun w' => ?_) ?_; rotate_left; (focus (go_simp; (try with_reducible rfl); (try (rw [if_pos (by omega)]; (try with_reducible rfl))))); (try simp only [Act.put, List.setIfInBounds_toArray, List.set_cons_zero, List.set_cons_succ]))
          (refine o_pure (v := ?_) (by rfl) (fun w' => ?_) ?_; rotate_left; (focus (go_simp; (try with_reducible rfl); (try (rw [if_pos (by omega)]; (try with_reducible rfl))))); (try simp only [Act.put, List.setIfInBounds_toArray, List.set_cons_zero, List.set_cons_succ]))
          (refine o_load _ (by rfl) rfl rfl (by assumption) (by kernel_rfl) ?_; simp only [Act.put, List.setIfInBounds_toArray, List.set_cons_zero, List.set_cons_succ])
          have LI := Lib.hid (ad_list w.heap.size g b v2 M P left2 (L2) wd HT.out (by have := HOK.out.len; omega))
          refine o_sole (fun K hK => ?_)
          go_wp2_with fail
          refine LI.out.mono ?_
          rintro e w10 ⟨v10, rfl, hp, hb⟩
          obtain ⟨A10, n10, c10, rfl, _, _, hn10, hr10⟩ := hp.out
          have hn10' : n' = n10 := by rw [← hn10.out]; exact HX.out.len.symm
          go_wp2_with fail
          refine hK _ _ (fun _ => Ext.of hb) ?_; clear hK K
          replace HT := Lib.hid (HT.out.into hb)
          replace KX := Lib.hid (KX.out.below hb KX.out.lt)
          replace HX := Lib.hid (HX.out.into hb)
          replace BB := Lib.hid (BB.out.trans ((hb).mono BB.out.size))
          subst hn10'
          have R10 := Lib.hid hr10.out
          clear hp hb hn10 hr10 LI x2 x5 t0
          have SA := Lib.hid (same20_true A10 A' n' c10 c' (L2) w10 R10.out HX.out.rd (by omega))
          refine o_sole (fun K hK => ?_)
          go_wp2_with fail
          refine SA.out.mono ?_
          rintro e w11 ⟨rfl, hb⟩
          go_wp2_with fail
          refine hK _ _ (fun _ => Ext.of hb) ?_; clear hK K
          replace HT := Lib.hid (HT.out.into hb)
          replace KX := Lib.hid (KX.out.below hb KX.out.lt)
          replace HX := Lib.hid (HX.out.into hb)
          replace BB := Lib.hid (BB.out.trans ((hb).mono BB.out.size))
          clear hb SA R10
          have x5 : w11.cell? ⟨X, 5, none⟩ = some (.int .i64 (left2 : Nat)) := by rw [KX.out.cell]; rfl
          have t0 := HT.out.c0
          (refine o_pure (v := ?_) (by rfl) (fun w' => ?_) ?_; rotate_left; (focus (go_simp; (try with_reducible rfl); (try (rw [if_pos (by omega)]; (try with_reducible rfl))))); (try simp only [Act.put, List.setIfInBounds_toArray, List.set_cons_zero, List.set_cons_succ]))
          (refine o_pure (v := ?_) (by rfl) (fun w' => ?_) ?_; rotate_left; (focus (go_simp; (try with_reducible rfl); (try (rw [if_pos (by omega)]; (try with_reducible rfl))))); (try simp only [Act.put, List.setIfInBounds_toArray, List.set_cons_zero, List.set_cons_succ]))
          (refine o_pure (v := ?_) (by rfl) (fun w' => ?_) ?_; rotate_left; (focus (go_simp; (try with_reducible rfl); (try (rw [if_pos (by omega)]; (try with_reducible rfl))))); (try simp only [Act.put, List.setIfInBounds_toArray, List.set_cons_zero, List.set_cons_succ]))
          (refine o_pure (v := ?_) (by rfl) (fun w' => ?_) ?_; rotate_left; (focus (go_simp; (try with_reducible rfl); (try (rw [if_pos (by omega)]; (try with_reducible rfl))))); (try simp only [Act.put, List.setIfInBounds_toArray, List.set_cons_zero, List.set_cons_succ]))
          (refine o_pure (v := ?_) (by rfl) (fun w' => ?_) ?_; rotate_left; (focus (go_simp; (try with_reducible rfl); (try (rw [if_pos (by omega)]; (try with_reducible rfl))))); (try simp only [Act.put, List.setIfInBounds_toArray, List.set_cons_zero, List.set_cons_succ]))
          (refine o_pure (v := ?_) (by rfl) (fun w' => ?_) ?_; rotate_left; (focus (go_simp; (try with_reducible rfl); (try (rw [if_pos (by omega)]; (try with_reducible rfl))))); (try simp only [Act.put, List.setIfInBounds_toArray, List.set_cons_zero, List.set_cons_succ]))
          (refine o_load _ (by rfl) rfl rfl (by assumption) (by kernel_rfl) ?_; simp only [Act.put, List.setIfInBounds_toArray, List.set_cons_zero, List.set_cons_succ])
          (refine o_pure (v := ?_) (by rfl) (fun w' => ?_) ?_; rotate_left; (focus (go_simp; (try with_reducible rfl); (try (rw [if_pos (by omega)]; (try with_reducible rfl))))); (try simp only [Act.put, List.setIfInBounds_toArray, List.set_cons_zero, List.set_cons_succ]))
          (refine o_pure (v := ?_) (by rfl) (fun w' => ?_) ?_; rotate_left; (focus (go_simp; (try with_reducible rfl); (try (rw [if_pos (by omega)]; (try with_reducible rfl))))); (try simp only [Act.put, List.setIfInBounds_toArray, List.set_cons_zero, List.set_cons_succ]))
          (refine o_load _ (by rfl) rfl rfl (by assumption) (by kernel_rfl) ?_; simp only [Act.put, List.setIfInBounds_toArray, List.set_cons_zero, List.set_cons_succ])
          have LF := Lib.hid (bkt_left b 64 1 left2 w11 HT.out.bkt)
          refine o_sole (fun K hK => ?_)
          go_wp2_with fail
          refine LF.out.mono ?_
          rintro e w12 ⟨rfl, hw⟩
          have hw := hw.symm
          subst hw
          go_wp2_with fail
          refine hK _ _ (fun _ => Ext.of (Below.refl _ _)) ?_; clear hK K
          clear x5 t0 LF
          (refine o_pure (v := ?_) (by rfl) (fun w' => ?_) ?_; rotate_left; (focus (go_simp; (try with_reducible rfl); (try (rw [if_pos (by omega)]; (try with_reducible rfl))))); (try simp only [Act.put, List.setIfInBounds_toArray, List.set_cons_zero, List.set_cons_succ]))
          (refine o_pure (v := ?_) (by rfl) (fun w' => ?_) ?_; rotate_left; (focus (go_simp; (try with_reducible rfl); (try (rw [if_pos (by omega)]; (try with_reducible rfl))))); (try simp only [Act.put, List.setIfInBounds_toArray, List.set_cons_zero, List.set_cons_succ]))
          (refine o_pure (v := ?_) (by rfl) (fun w' => ?_) ?_; rotate_left; (focus (go_simp; (try with_reducible rfl); (try (rw [if_pos (by omega)]; (try with_reducible rfl))))); (try simp only [Act.put, List.setIfInBounds_toArray, List.set_cons_zero, List.set_cons_succ]))
          (refine o_pure (v := ?_) (by rfl) (fun w' => ?_) ?_; rotate_left; (focus (go_simp; (try with_reducible rfl); (try (rw [if_pos (by omega)]; (try with_reducible rfl))))); (try simp only [Act.put, List.setIfInBounds_toArray, List.set_cons_zero, List.set_cons_succ]))
          (refine o_loads _ [.int .i64 (M : Nat), .int .i64 (P : Nat), .slice A' n' c', .int .i64 64, .int .i64 1, .int .i64 (left2 : Nat)] (by rfl) rfl rfl (KX.out.loads 0 _ (by rfl)) (Nat.succ_pos _) (by kernel_rfl) (by kernel_rfl) ?_; simp only [Act.put, List.setIfInBounds_toArray, List.set_cons_zero, List.set_cons_succ])
          have PA := Lib.hid (ad_paths w.heap.size g b v2 M P left2 (L2) w11 HT.out (by have := HOK.out.len; omega))
          rw [pthR_eq HOK.out] at PA
          refine o_sole (fun K hK => ?_)
          go_wp2_with fail
          refine PA.out.mono ?_
          rintro e w13 ⟨v13, rfl, hz, hb⟩
          obtain ⟨A13, n13, c13, rfl, _, hn13, hr13⟩ := hz.out
          have Z13 := Lib.hid hz
          go_wp2_with fail
          refine hK _ _ (fun _ => Ext.of hb) ?_; clear hK K
          replace HT := Lib.hid (HT.out.into hb)
          replace KX := Lib.hid (KX.out.below hb KX.out.lt)
          replace HX := Lib.hid (HX.out.into hb)
          replace BB := Lib.hid (BB.out.trans ((hb).mono BB.out.size))
          have HN13 := Sh.mk hn13.out
          clear hb hz hn13 hr13 PA
          have RP := Lib.hid (r20_paths M P left2 A' n' c' (L2) w13 HX.out (by omega))
          refine o_sole (fun K hK => ?_)
          go_wp2_with fail
          refine RP.out.mono ?_
          rintro e w14 ⟨v14, rfl, hz, hb⟩
          obtain ⟨A14, n14, c14, rfl, _, hn14, hr14⟩ := hz.out
          have R14 := Lib.hid hr14.out
          have R13 := Lib.hid ((Zats.below Z13.out hb).rd)
          have h13 : n14 = n13 := by rw [← hn14.out, HN13.out]
          have h13b : n13 ≤ 4 := by rw [← HN13.out]; exact pthR_len _
          go_wp2_with fail
          refine hK _ _ (fun _ => Ext.of hb) ?_; clear hK K
          replace HT := Lib.hid (HT.out.into hb)
          replace KX := Lib.hid (KX.out.below hb KX.out.lt)
          replace HX := Lib.hid (HX.out.into hb)
          replace BB := Lib.hid (BB.out.trans ((hb).mono BB.out.size))
          subst h13
          rw [HN13.out] at R13
          clear hb hz hn14 hr14 RP Z13
          have RW := Lib.hid (row19_true A13 A14 n14 c13 c14 (pthR (L2)) w14 R13.out R14.out (by omega))
          refine o_sole (fun K hK => ?_)
          go_wp2_with fail
          refine RW.out.mono ?_
          rintro e w15 ⟨rfl, hb⟩
          go_wp2_with fail
          refine hK _ _ (fun _ => Ext.of hb) ?_; clear hK K
          replace HT := Lib.hid (HT.out.into hb)
          replace KX := Lib.hid (KX.out.below hb KX.out.lt)
          replace HX := Lib.hid (HX.out.into hb)
          replace BB := Lib.hid (BB.out.trans ((hb).mono BB.out.size))
          clear hb RW R13 R14 HN13
          (refine o_pure (v := ?_) (by rfl) (fun w' => ?_) ?_; rotate_left; (focus (go_simp; (try with_reducible rfl); (try (rw [if_pos (by omega)]; (try with_reducible rfl))))); (try simp only [Act.put, List.setIfInBounds_toArray, List.set_cons_zero, List.set_cons_succ]))
          (refine o_pure (v := ?_) (by rfl) (fun w' => ?_) ?_; rotate_left; (focus (go_simp; (try with_reducible rfl); (try (rw [if_pos (by omega)]; (try with_reducible rfl))))); (try simp only [Act.put, List.setIfInBounds_toArray, List.set_cons_zero, List.set_cons_succ]))
          refine o_nil (hQ.out _ _ ?_); clear hQ QQ
          clear hrr hll
          go_wp2_with fail
          go_roundw
          case rel => exact ⟨i + 1, left2, v2, A', n', c', L2, by omega, by go_num, HT, HOK, KX, HX, BB⟩
          case measure => simp [intOf]; omega
        · (try simp only [List.map_cons, List.map_nil, List.getD_cons_zero, List.getD_cons_succ])
          refine OB.o_sole (fun K hK => ?_)
          refine stm_store (cs' := #[.int .i64 (M : Nat), .int .i64 (P : Nat), .slice A' n' c', .int .i64 64, .int .i64 1, .int .i64 (left2 : Nat)]) KX.out rfl _ _ rfl rfl rfl (by simp) (by kernel_rfl) (by simp [Value.oneCell']) (by simp [setL]) fun w5 hk hs => ?_
          refine wpList_nil ?_
          refine hK _ _ (fun h => by cases h) ?_; clear hK K
          replace HT := Lib.hid (HT.out.aside KX.out (by decide) (by decide) (by decide) hs)
          replace HX := Lib.hid (HX2.out.solo KX.out (by decide) hs)
          replace BB := Lib.hid (BB.out.trans (hs.1.mono XW.out))
          replace KX := Lib.hid (show Blk _ _ _ #[.int .i64 (M : Nat), .int .i64 (P : Nat), .slice A' n' c', .int .i64 64, .int .i64 1, .int .i64 (left2 : Nat)] from hk)
          clear hk hs HX2
          refine OB.o_nil ?_
          refine OB.f_walk [(17, .pure), (19, .pure)] 0 (by rfl) (by kernel_rfl) ?_; (try simp only [List.map_cons, List.map_nil, List.getD_cons_zero, List.getD_cons_succ])
          (refine OB.o_pure (v := ?_) (by rfl) (fun w' => ?_) ?_; rotate_left; (focus (go_simp; (try with_reducible rfl))); (try simp only [Act.put, List.setIfInBounds_toArray, List.set_cons_zero, List.set_cons_succ]))
          (refine OB.o_pure (v := ?_) (by rfl) (fun w' => ?_) ?_; rotate_left; (focus (go_simp; (try with_reducible rfl))); (try simp only [Act.put, List.setIfInBounds_toArray, List.set_cons_zero, List.set_cons_succ]))
          refine OB.o_nil ?_
          refine OB.f_end (by kernel_rfl) (hQ.out _ _ ?_); clear hQ QQ
          have TG := Lib.hid (ad_add w.heap.size g b v M P left L x y w5 HT.out HOK.out.len HM8 HOK.out.left64)
          rw [HRS.out] at TG
          obtain ⟨a0, a1, a2, a3⟩ := LW.out w5 BB.out
          go_wp2_with fail
          refine TG.out.mono ?_
          rintro e w6 ⟨v2, rfl, ht, hkt⟩
          replace KX := Lib.hid ((hkt).blk HT.out KX.out (by decide) (by decide) (by decide))
          replace HX := Lib.hid (HX.out.kt HT.out hkt)
          replace BB := Lib.hid (BB.out.trans (HT.out.below hkt))
          replace HT := Lib.hid (ht)
          clear ht hkt TG a0 a1 a2 a3 HOK HN8 hn8 hq3' hq4'
          have HOK := OK2
          have hn8 : n' ≤ 8 := by have := HX.out.len; have := HOK.out.len; omega
          clear OK2
          have hrr : ((res : Bool) != res) = false := by simp
          have hll : (((left2 : Nat) : Int) != ((left2 : Nat) : Int)) = false := by simp
          go_upto_region 20 with fail
          refine wp_ord [(0, .pure), (1, .pure), (2, .pure), (3, .pure), (4, .pure), (6, .pure), (7, .read), (5, .sole), (8, .sole), (9, .pure), (10, .pure), (11, .pure), (12, .pure), (13, .pure), (14, .pure), (15, .read), (17, .pure), (18, .pure), (19, .read), (16, .sole), (20, .pure), (21, .pure), (22, .pure), (23, .pure), (25, .read), (24, .sole), (26, .sole), (27, .sole), (28, .pure), (29, .pure)] [] (by kernel_rfl) (by kernel_rfl) (fun QQ hQ wd hwd => ?_); simp only [List.map_cons, List.map_nil, List.getD_cons_zero, List.getD_cons_succ]
          have hD : Below w6.heap.size w6 wd := by rw [hwd.out]; exact (Below.refl _ _).drew
          replace HT := Lib.hid (HT.out.into hD)
          replace KX := Lib.hid (KX.out.below hD KX.out.lt)
          replace HX := Lib.hid (HX.out.into hD)
          replace BB := Lib.hid (BB.out.trans ((hD).mono BB.out.size))
          clear hD hwd
          have x2 : wd.cell? ⟨X, 2, none⟩ = some (.slice A' n' c') := by rw [KX.out.cell]; rfl
          have x5 : wd.cell? ⟨X, 5, none⟩ = some (.int .i64 (left2 : Nat)) := by rw [KX.out.cell]; rfl
          have t0 := HT.out.c0
          (refine o_pure (v := ?_) (by rfl) (fun w' => ?_) ?_; rotate_left; (focus (go_simp; (try with_reducible rfl); (try (rw [if_pos (by omega)]; (try with_reducible rfl))))); (try simp only [Act.put, List.setIfInBounds_toArray, List.set_cons_zero, List.set_cons_succ]))
          (refine o_pure (v := ?_) (by rfl) (fun w' => ?_) ?_; rotate_left; (focus (go_simp; (try with_reducible rfl); (try (rw [if_pos (by omega)]; (try with_reducible rfl))))); (try simp only [Act.put, List.setIfInBounds_toArray, List.set_cons_zero, List.set_cons_succ]))
          (refine o_pure (v := ?_) (by rfl) (fun w' => ?_) ?_; rotate_left; (focus (go_simp; (try with_reducible rfl); (try (rw [if_pos (by omega)]; (try with_reducible rfl))))); (try simp only [Act.put, List.setIfInBounds_toArray, List.set_cons_zero, List.set_cons_succ]))
          (refine o_pure (v := ?_) (by rfl) (fun w' => ?_) ?_; rotate_left; (focus (go_simp; (try with_reducible rfl); (try (rw [if_pos (by omega)]; (try with_reducible rfl))))); (try simp only [Act.put, List.setIfInBounds_toArray, List.set_cons_zero, List.set_cons_succ]))
          (refine o_pure (v := ?_) (by rfl) (fun w' => ?_) ?_; rotate_left; (focus (go_simp; (try with_reducible rfl); (try (rw [if_pos (by omega)]; (try with_reducible rfl))))); (try simp only [Act.put, List.setIfInBounds_toArray, List.set_cons_zero, List.set_cons_succ]))
          (refine o_pure (v := ?_) (by rfl) (fun w' => ?_) ?_; rotate_left; (focus (go_simp; (try with_reducible rfl); (try (rw [if_pos (by omega)]; (try with_reducible rfl))))); (try simp only [Act.put, List.setIfInBounds_toArray, List.set_cons_zero, List.set_cons_succ]))
          (refine o_load _ (by rfl) rfl rfl (by assumption) (by kernel_rfl) ?_; simp only [Act.put, List.setIfInBounds_toArray, List.set_cons_zero, List.set_cons_succ])
          have LI := Lib.hid (ad_list w.heap.size g b v2 M P left2 (L2) wd HT.out (by have := HOK.out.len; omega))
          refine o_sole (fun K hK => ?_)
          go_wp2_with fail
          refine LI.out.mono ?_
          rintro e w10 ⟨v10, rfl, hp, hb⟩
          obtain ⟨A10, n10, c10, rfl, _, _, hn10, hr10⟩ := hp.out
          have hn10' : n' = n10 := by rw [← hn10.out]; exact HX.out.len.symm
          go_wp2_with fail
          refine hK _ _ (fun _ => Ext.of hb) ?_; clear hK K
          replace HT := Lib.hid (HT.out.into hb)
          replace KX := Lib.hid (KX.out.below hb KX.out.lt)
          replace HX := Lib.hid (HX.out.into hb)
          replace BB := Lib.hid (BB.out.trans ((hb).mono BB.out.size))
          subst hn10'
          have R10 := Lib.hid hr10.out
          clear hp hb hn10 hr10 LI x2 x5 t0
          have SA := Lib.hid (same20_true A10 A' n' c10 c' (L2) w10 R10.out HX.out.rd (by omega))
          refine o_sole (fun K hK => ?_)
          go_wp2_with fail
          refine SA.out.mono ?_
          rintro e w11 ⟨rfl, hb⟩
          go_wp2_with fail
          refine hK _ _ (fun _ => Ext.of hb) ?_; clear hK K
          replace HT := Lib.hid (HT.out.into hb)
          replace KX := Lib.hid (KX.out.below hb KX.out.lt)
          replace HX := Lib.hid (HX.out.into hb)
          replace BB := Lib.hid (BB.out.trans ((hb).mono BB.out.size))
          clear hb SA R10
          have x5 : w11.cell? ⟨X, 5, none⟩ = some (.int .i64 (left2 : Nat)) := by rw [KX.out.cell]; rfl
          have t0 := HT.out.c0
          (refine o_pure (v := ?_) (by rfl) (fun w' => ?_) ?_; rotate_left; (focus (go_simp; (try with_reducible rfl); (try (rw [if_pos (by omega)]; (try with_reducible rfl))))); (try simp only [Act.put, List.setIfInBounds_toArray, List.set_cons_zero, List.set_cons_succ]))
          (refine o_pure (v := ?_) (by rfl) (fun w' => ?_) ?_; rotate_left; (focus (go_simp; (try with_reducible rfl); (try (rw [if_pos (by omega)]; (try with_reducible rfl))))); (try simp only [Act.put, List.setIfInBounds_toArray, List.set_cons_zero, List.set_cons_succ]))
          (refine o_pure (v := ?_) (by rfl) (fun w' => ?_) ?_; rotate_left; (focus (go_simp; (try with_reducible rfl); (try (rw [if_pos (by omega)]; (try with_reducible rfl))))); (try simp only [Act.put, List.setIfInBounds_toArray, List.set_cons_zero, List.set_cons_succ]))
          (refine o_pure (v := ?_) (by rfl) (fun w' => ?_) ?_; rotate_left; (focus (go_simp; (try with_reducible rfl); (try (rw [if_pos (by omega)]; (try with_reducible rfl))))); (try simp only [Act.put, List.setIfInBounds_toArray, List.set_cons_zero, List.set_cons_succ]))
          (refine o_pure (v := ?_) (by rfl) (fun w' => ?_) ?_; rotate_left; (focus (go_simp; (try with_reducible rfl); (try (rw [if_pos (by omega)]; (try with_reducible rfl))))); (try simp only [Act.put, List.setIfInBounds_toArray, List.set_cons_zero, List.set_cons_succ]))
          (refine o_pure (v := ?_) (by rfl) (fun w' => ?_) ?_; rotate_left; (focus (go_simp; (try with_reducible rfl); (try (rw [if_pos (by omega)]; (try with_reducible rfl))))); (try simp only [Act.put, List.setIfInBounds_toArray, List.set_cons_zero, List.set_cons_succ]))
          (refine o_load _ (by rfl) rfl rfl (by assumption) (by kernel_rfl) ?_; simp only [Act.put, List.setIfInBounds_toArray, List.set_cons_zero, List.set_cons_succ])
          (refine o_pure (v := ?_) (by rfl) (fun w' => ?_) ?_; rotate_left; (focus (go_simp; (try with_reducible rfl); (try (rw [if_pos (by omega)]; (try with_reducible rfl))))); (try simp only [Act.put, List.setIfInBounds_toArray, List.set_cons_zero, List.set_cons_succ]))
          (refine o_pure (v := ?_) (by rfl) (fun w' => ?_) ?_; rotate_left; (focus (go_simp; (try with_reducible rfl); (try (rw [if_pos (by omega)]; (try with_reducible rfl))))); (try simp only [Act.put, List.setIfInBounds_toArray, List.set_cons_zero, List.set_cons_succ]))
          (refine o_load _ (by rfl) rfl rfl (by assumption) (by kernel_rfl) ?_; simp only [Act.put, List.setIfInBounds_toArray, List.set_cons_zero, List.set_cons_succ])
          have LF := Lib.hid (bkt_left b 64 1 left2 w11 HT.out.bkt)
          refine o_sole (fun K hK => ?_)
          go_wp2_with fail
          refine LF.out.mono ?_
          rintro e w12 ⟨rfl, hw⟩
          have hw := hw.symm
          subst hw
          go_wp2_with fail
          refine hK _ _ (fun _ => Ext.of (Below.refl _ _)) ?_; clear hK K
          clear x5 t0 LF
          (refine o_pure (v := ?_) (by rfl) (fun w' => ?_) ?_; rotate_left; (focus (go_simp; (try with_reducible rfl); (try (rw [if_pos (by omega)]; (try with_reducible rfl))))); (try simp only [Act.put, List.setIfInBounds_toArray, List.set_cons_zero, List.set_cons_succ]))
          (refine o_pure (v := ?_) (by rfl) (fun w' => ?_) ?_; rotate_left; (focus (go_simp; (try with_reducible rfl); (try (rw [if_pos (by omega)]; (try with_reducible rfl))))); (try simp only [Act.put, List.setIfInBounds_toArray, List.set_cons_zero, List.set_cons_succ]))
          (refine o_pure (v := ?_) (by rfl) (fun w' => ?_) ?_; rotate_left; (focus (go_simp; (try with_reducible rfl); (try (rw [if_pos (by omega)]; (try with_reducible rfl))))); (try simp only [Act.put, List.setIfInBounds_toArray, List.set_cons_zero, List.set_cons_succ]))
          (refine o_pure (v := ?_) (by rfl) (fun w' => ?_) ?_; rotate_left; (focus (go_simp; (try with_reducible rfl); (try (rw [if_pos (by omega)]; (try with_reducible rfl))))); (try simp only [Act.put, List.setIfInBounds_toArray, List.set_cons_zero, List.set_cons_succ]))
          (refine o_loads _ [.int .i64 (M : Nat), .int .i64 (P : Nat), .slice A' n' c', .int .i64 64, .int .i64 1, .int .i64 (left2 : Nat)] (by rfl) rfl rfl (KX.out.loads 0 _ (by rfl)) (Nat.succ_pos _) (by kernel_rfl) (by kernel_rfl) ?_; simp only [Act.put, List.setIfInBounds_toArray, List.set_cons_zero, List.set_cons_succ])
          have PA := Lib.hid (ad_paths w.heap.size g b v2 M P left2 (L2) w11 HT.out (by have := HOK.out.len; omega))
          rw [pthR_eq HOK.out] at PA
          refine o_sole (fun K hK => ?_)
          go_wp2_with fail
          refine PA.out.mono ?_
          rintro e w13 ⟨v13, rfl, hz, hb⟩
          obtain ⟨A13, n13, c13, rfl, _, hn13, hr13⟩ := hz.out
          have Z13 := Lib.hid hz
          go_wp2_with fail
          refine hK _ _ (fun _ => Ext.of hb) ?_; clear hK K
          replace HT := Lib.hid (HT.out.into hb)
          replace KX := Lib.hid (KX.out.below hb KX.out.lt)
          replace HX := Lib.hid (HX.out.into hb)
          replace BB := Lib.hid (BB.out.trans ((hb).mono BB.out.size))
          have HN13 := Sh.mk hn13.out
          clear hb hz hn13 hr13 PA
          have RP := Lib.hid (r20_paths M P left2 A' n' c' (L2) w13 HX.out (by omega))
          refine o_sole (fun K hK => ?_)
          go_wp2_with fail
          refine RP.out.mono ?_
          rintro e w14 ⟨v14, rfl, hz, hb⟩
          obtain ⟨A14, n14, c14, rfl, _, hn14, hr14⟩ := hz.out
          have R14 := Lib.hid hr14.out
          have R13 := Lib.hid ((Zats.below Z13.out hb).rd)
          have h13 : n14 = n13 := by rw [← hn14.out, HN13.out]
          have h13b : n13 ≤ 4 := by rw [← HN13.out]; exact pthR_len _
          go_wp2_with fail
          refine hK _ _ (fun _ => Ext.of hb) ?_; clear hK K
          replace HT := Lib.hid (HT.out.into hb)
          replace KX := Lib.hid (KX.out.below hb KX.out.lt)
          replace HX := Lib.hid (HX.out.into hb)
          replace BB := Lib.hid (BB.out.trans ((hb).mono BB.out.size))
          subst h13
          rw [HN13.out] at R13
          clear hb hz hn14 hr14 RP Z13
          have RW := Lib.hid (row19_true A13 A14 n14 c13 c14 (pthR (L2)) w14 R13.out R14.out (by omega))
          refine o_sole (fun K hK => ?_)
          go_wp2_with fail
          refine RW.out.mono ?_
          rintro e w15 ⟨rfl, hb⟩
          go_wp2_with fail
          refine hK _ _ (fun _ => Ext.of hb) ?_; clear hK K
          replace HT := Lib.hid (HT.out.into hb)
          replace KX := Lib.hid (KX.out.below hb KX.out.lt)
          replace HX := Lib.hid (HX.out.into hb)
          replace BB := Lib.hid (BB.out.trans ((hb).mono BB.out.size))
          clear hb RW R13 R14 HN13
          (refine o_pure (v := ?_) (by rfl) (fun w' => ?_) ?_; rotate_left; (focus (go_simp; (try with_reducible rfl); (try (rw [if_pos (by omega)]; (try with_reducible rfl))))); (try simp only [Act.put, List.setIfInBounds_toArray, List.set_cons_zero, List.set_cons_succ]))
          (refine o_pure (v := ?_) (by rfl) (fun w' => ?_) ?_; rotate_left; (focus (go_simp; (try with_reducible rfl); (try (rw [if_pos (by omega)]; (try with_reducible rfl))))); (try simp only [Act.put, List.setIfInBounds_toArray, List.set_cons_zero, List.set_cons_succ]))
          refine o_nil (hQ.out _ _ ?_); clear hQ QQ
          clear hrr hll
          go_wp2_with fail
          go_roundw
          case rel => exact ⟨i + 1, left2, v2, A', n', c', L2, by omega, by go_num, HT, HOK, KX, HX, BB⟩
          case measure => simp [intOf]; omega
    · have hlt' : ¬ (i : Int) < (n0 : Int) := by omega
      have AL := Lib.hid (adAlive wr)
      clear hlt
      go_wp2_with fail
      refine AL.out.mono ?_
      rintro e w2 ⟨rfl, hb⟩
      have B2 := Lib.hid (BB.out.trans (hb.mono BB.out.size))
      clear hb
      go_wp2_with fail
      go_ret
      exact ⟨rfl, B2.out⟩
end Go.Proofs.Ytdcpmfodkggpeaa
