/- Layer 16 by the document: Resent. -/
import Derived.Test.YtbipcnboammpeaaFlr2
import Derived.Test.YtbipcnboammpeaaOrdB
namespace Go.Proofs.Ytbipcnboammpeaa
open Go.RowKit
set_option linter.unusedVariables false
set_option linter.unusedSimpArgs false
set_option maxRecDepth 20000 in
set_option maxHeartbeats 4000000 in
theorem rresent (A : Option Addr) (n c : Nat) (l : List Chk) (fr : Nat) (fin : Bool) (y : Chk) (w : World) (hr : Rd w w.heap.size 9 A n (chs l)) (hl : n ≤ 64) (hok : ∀ c ∈ l, c.ok) :
    Calls Try.prog 28 #[.slice A n c, .int .u64 (fr : Nat), .bool fin, .agg #[.int .u64 (y.fr : Nat), .int .i64 y.len, .bool y.fin, .int .i64 y.flow, .int .u32 y.en, .int .i64 y.sent, .int .i64 y.tries, .bool y.came, .bool y.lost]] w fun e w' => ∃ v1, e = .returned (.tuple #[v1, .bool (reS fr fin y l).2]) ∧ w'.ownsRow w.heap.size 38 9 v1 l.length (chs (reS fr fin y l).1) ∧ Below w.heap.size w w' := by
  have HR := Lib.hid hr
  have HOKL := Lib.hid hok
  have HN := Lib.hid hr.chkLen
  have KY := Lib.hid (Blk.new w 38 #[.int .u64 (y.fr : Nat), .int .i64 y.len, .bool y.fin, .int .i64 y.flow, .int .u32 y.en, .int .i64 y.sent, .int .i64 y.tries, .bool y.came, .bool y.lost])
  have HB1 := Lib.hid ((Below.refl w.heap.size w).alloc (Nat.le_refl _) (.cells #[.int .u64 (y.fr : Nat), .int .i64 y.len, .bool y.fin, .int .i64 y.flow, .int .u32 y.en, .int .i64 y.sent, .int .i64 y.tries, .bool y.came, .bool y.lost] 38))
  have HW1 := Lib.hid (show (w.alloc (.cells #[.int .u64 (y.fr : Nat), .int .i64 y.len, .bool y.fin, .int .i64 y.flow, .int .u32 y.en, .int .i64 y.sent, .int .i64 y.tries, .bool y.came, .bool y.lost] 38)).heap.size = w.heap.size + 1 by simp)
  clear hr hok
  go_enter Try.func28, Try.ntmps28
  go_wp2_with fail
  generalize w.alloc (.cells #[.int .u64 (y.fr : Nat), .int .i64 y.len, .bool y.fin, .int .i64 y.flow, .int .u32 y.en, .int .i64 y.sent, .int .i64 y.tries, .bool y.came, .bool y.lost] 38) = w1 at *
  have HQ0 : Hid (w1.ownsRow w.heap.size 38 9 (.slice none 0 0) (reS fr fin y (l.take 0)).1.length (chs (reS fr fin y (l.take 0)).1)) := Lib.hid (World.ownsRow_nil _ _ _ _)
  go_loopw [10, 11, 12] (fun qv dv iv wr => ∃ (k : Nat) , k ≤ n ∧ iv = .int .i64 (k : Nat) ∧ dv = .bool (reS fr fin y (l.take k)).2 ∧ Hid (wr.ownsRow w.heap.size 38 9 qv (reS fr fin y (l.take k)).1.length (chs (reS fr fin y (l.take k)).1)) ∧ Hid (Blk wr w.heap.size 38 #[.int .u64 (y.fr : Nat), .int .i64 y.len, .bool y.fin, .int .i64 y.flow, .int .u32 y.en, .int .i64 y.sent, .int .i64 y.tries, .bool y.came, .bool y.lost]) ∧ Hid (qv.ownBlock ≠ some w.heap.size) ∧ Hid (Below w.heap.size w wr)) (fun _ _ iv _ => n - (intOf iv).toNat)
  case atStart => exact ⟨0, Nat.zero_le _, rfl, rfl, HQ0, KY, Lib.hid (fun e => by cases e), HB1⟩
  case round =>
    clear HQ0 KY HB1 HW1
    obtain ⟨k, hk, rfl, rfl, HQ, KY, YNE, BB⟩ := hrel
    by_cases hlt : k < n
    · have hlt' : (k : Int) < (n : Int) := by omega
      have hk0 : ¬ (k : Int) < 0 := by omega
      obtain ⟨rb, off, x, hA, hrb, HC, HX⟩ := HR.out.chk hlt
      subst hA
      have hxt := (HOKL.out x (List.mem_of_getElem? HX.out)).tries
      obtain ⟨a0, a1, a2, a3, a4, a5, a6, a7, a8⟩ := ck9 (w := wr) (o := off + k * 9) (fun j v hj => (BB.out.cell (p := ⟨rb, off + k * 9 + j, none⟩) hrb).trans (HC.out j v hj))
      go_upto_region 7 with fail
      have K1 := Lib.hid (Blk.new wr 38 #[.int .u64 (x.fr : Nat), .int .i64 x.len, .bool x.fin, .int .i64 x.flow, .int .u32 x.en, .int .i64 x.sent, .int .i64 x.tries, .bool x.came, .bool x.lost])
      have hb1 := (Below.refl wr.heap.size wr).alloc (Nat.le_refl _) (.cells #[.int .u64 (x.fr : Nat), .int .i64 x.len, .bool x.fin, .int .i64 x.flow, .int .u32 x.en, .int .i64 x.sent, .int .i64 x.tries, .bool x.came, .bool x.lost] 38)
      have B2 := Lib.hid (BB.out.trans (hb1.mono BB.out.size))
      have Q2 := Lib.hid (own_below HQ.out hb1 fun g hg => (HQ.out.lt g hg).2)
      have KY2 := Lib.hid (KY.out.below hb1 KY.out.lt)
      obtain ⟨X, hX⟩ : ∃ X, X = wr.heap.size := ⟨_, rfl⟩
      have QX := Lib.hid (fun g' (hg' : u10.ownBlock = some g') => (show g' < X by rw [hX]; exact (HQ.out.lt g' hg').2))
      have HXW := Lib.hid (show w.heap.size ≤ X by rw [hX]; exact BB.out.size)
      have HXY := Lib.hid (show w.heap.size < X by rw [hX]; exact KY.out.lt)
      rw [← hX] at K1 ⊢
      clear hb1 hX BB HQ KY a0 a1 a2 a3 a4 a5 a6 a7 a8
      generalize wr.alloc (.cells #[.int .u64 (x.fr : Nat), .int .i64 x.len, .bool x.fin, .int .i64 x.flow, .int .u32 x.en, .int .i64 x.sent, .int .i64 x.tries, .bool x.came, .bool x.lost] 38) = w2 at *
      obtain ⟨b0, b1, b2, b3, b4, b5, b6, b7, b8⟩ := ckb (c := x) K1.out
      obtain ⟨dn, hdn⟩ : ∃ dn, dn = (reS fr fin y (l.take k)).2 := ⟨_, rfl⟩
      rw [← hdn]
      cases dn
      · have HD := Lib.hid hdn.symm
        clear hdn
        by_cases h1 : x.fr = fr
        · have h1' : (x.fr : Int) = (fr : Int) := by omega
          rw [h1] at b0 K1
          by_cases h2 : x.fin = fin
          · rw [h2] at b2 K1
            have HFR := Lib.hid h1
            have HFI := Lib.hid h2
            have HTH : Hid (isThat fr fin x = true) := Lib.hid (by unfold isThat; simp [h1, h2])
            obtain ⟨t1, ht1⟩ : ∃ t1 : Int, t1 = x.tries + 1 := ⟨_, rfl⟩
            have hw1 : IntKind.i64.wrap t1 = t1 := by rw [IntKind.wrap_i64]; omega
            by_cases h3 : 4096 < t1
            · have HT1 : Hid (min x.tries 4095 + 1 = 4096) := Lib.hid (by omega)
              have hadd : x.tries + 1 = t1 := ht1.symm
              clear h1 h1' h2 ht1 hxt
              have NEXT : Hid ((reS fr fin y (l.take (k + 1))) = ((reS fr fin y (l.take k)).1 ++ [again1 y x], true)) := Lib.hid (by rw [reS_take HX.out, if_pos ⟨HD.out, HTH.out⟩])
              obtain ⟨y0, y1, y2, y3, y4, y5, y6, y7, y8⟩ := ckb (c := y) KY2.out
              clear y0 y1 y2 y6 y7 y8
              go_upto_region 9 with fail
              clear b0 b1 b2 b3 b4 b5 b6 b7 b8
              refine OB.wp_ord [(0, .pure), (1, .read), (2, .pure), (3, .read), (4, .pure), (5, .read), (6, .pure), (7, .sole), (8, .pure), (9, .sole), (10, .pure), (11, .sole), (12, .pure), (13, .sole), (14, .pure), (15, .sole)] ⟨fun k => k < X, []⟩ (by kernel_rfl) (by kernel_rfl) (fun QQ hQ wd hwd => ?_); (try simp only [List.map_cons, List.map_nil, List.getD_cons_zero, List.getD_cons_succ])
              have hD : Below w2.heap.size w2 wd := by rw [hwd.out]; exact (Below.refl _ _).drew
              replace B2 := Lib.hid (B2.out.trans (hD.mono B2.out.size))
              replace Q2 := Lib.hid (own_below Q2.out hD fun g hg => (Q2.out.lt g hg).2)
              replace KY2 := Lib.hid (KY2.out.below hD KY2.out.lt)
              replace K1 := Lib.hid (K1.out.below hD K1.out.lt)
              clear hD hwd y3 y4 y5
              generalize wd = u0 at *
              obtain ⟨y0, y1, y2, y3, y4, y5, y6, y7, y8⟩ := ckb (c := y) KY2.out
              clear y0 y1 y2 y6 y7 y8
              (refine OB.o_pure (v := ?_) (by rfl) (fun w' => ?_) ?_; rotate_left; (focus (go_simp; (try with_reducible rfl))); (try simp only [Act.put, List.setIfInBounds_toArray, List.set_cons_zero, List.set_cons_succ]))
              (refine OB.o_load _ (by rfl) rfl rfl (by dsimp only; first | assumption | omega) (by assumption) (by kernel_rfl) ?_; simp only [Act.put, List.setIfInBounds_toArray, List.set_cons_zero, List.set_cons_succ])
              (refine OB.o_pure (v := ?_) (by rfl) (fun w' => ?_) ?_; rotate_left; (focus (go_simp; (try with_reducible rfl))); (try simp only [Act.put, List.setIfInBounds_toArray, List.set_cons_zero, List.set_cons_succ]))
              (refine OB.o_load _ (by rfl) rfl rfl (by dsimp only; first | assumption | omega) (by assumption) (by kernel_rfl) ?_; simp only [Act.put, List.setIfInBounds_toArray, List.set_cons_zero, List.set_cons_succ])
              (refine OB.o_pure (v := ?_) (by rfl) (fun w' => ?_) ?_; rotate_left; (focus (go_simp; (try with_reducible rfl))); (try simp only [Act.put, List.setIfInBounds_toArray, List.set_cons_zero, List.set_cons_succ]))
              (refine OB.o_load _ (by rfl) rfl rfl (by dsimp only; first | assumption | omega) (by assumption) (by kernel_rfl) ?_; simp only [Act.put, List.setIfInBounds_toArray, List.set_cons_zero, List.set_cons_succ])
              clear y3 y4 y5
              (refine OB.o_pure (v := ?_) (by rfl) (fun w' => ?_) ?_; rotate_left; (focus (go_simp; (try with_reducible rfl))); (try simp only [Act.put, List.setIfInBounds_toArray, List.set_cons_zero, List.set_cons_succ]))
              have fz : u0.frozen? ⟨X, 3, none⟩ = false := K1.out.frozen _
              have fc := K1.out.cell 3
              simp only [List.getElem?_toArray, List.getElem?_cons_succ, List.getElem?_cons_zero] at fc
              refine OB.o_sole (fun K hK => ?_)
              go_wp2_with fail
              have hs : Solo X u0 (u0.setCell ⟨X, 3, none⟩ (.int .i64 y.flow)) := Solo.refl.setCell 3 _
              have hk := K1.out.set 3 (.int .i64 y.flow)
              refine hK _ _ (fun _ => OB.ExtB.at_ (hs.1.mono (Nat.le_refl _)) (fun k hk => by dsimp only at hk; omega)) ?_; clear hK K
              simp only [List.setIfInBounds_toArray, List.set_cons_zero, List.set_cons_succ] at hk
              generalize u0.setCell ⟨X, 3, none⟩ (.int .i64 y.flow) = u1 at *
              replace B2 := Lib.hid (B2.out.trans (hs.1.mono HXW.out))
              replace Q2 := Lib.hid (own_kept Q2.out fun g' hg' => hs.2.2 g' (fun e => by have := QX.out g' hg'; omega))
              replace KY2 := Lib.hid (hs.blk KY2.out (by have := HXY.out; omega))
              replace K1 := Lib.hid hk
              clear fz fc hk hs
              (refine OB.o_pure (v := ?_) (by rfl) (fun w' => ?_) ?_; rotate_left; (focus (go_simp; (try with_reducible rfl))); (try simp only [Act.put, List.setIfInBounds_toArray, List.set_cons_zero, List.set_cons_succ]))
              have fz : u1.frozen? ⟨X, 4, none⟩ = false := K1.out.frozen _
              have fc := K1.out.cell 4
              simp only [List.getElem?_toArray, List.getElem?_cons_succ, List.getElem?_cons_zero] at fc
              refine OB.o_sole (fun K hK => ?_)
              go_wp2_with fail
              have hs : Solo X u1 (u1.setCell ⟨X, 4, none⟩ (.int .u32 y.en)) := Solo.refl.setCell 4 _
              have hk := K1.out.set 4 (.int .u32 y.en)
              refine hK _ _ (fun _ => OB.ExtB.at_ (hs.1.mono (Nat.le_refl _)) (fun k hk => by dsimp only at hk; omega)) ?_; clear hK K
              simp only [List.setIfInBounds_toArray, List.set_cons_zero, List.set_cons_succ] at hk
              generalize u1.setCell ⟨X, 4, none⟩ (.int .u32 y.en) = u2 at *
              replace B2 := Lib.hid (B2.out.trans (hs.1.mono HXW.out))
              replace Q2 := Lib.hid (own_kept Q2.out fun g' hg' => hs.2.2 g' (fun e => by have := QX.out g' hg'; omega))
              replace KY2 := Lib.hid (hs.blk KY2.out (by have := HXY.out; omega))
              replace K1 := Lib.hid hk
              clear fz fc hk hs
              (refine OB.o_pure (v := ?_) (by rfl) (fun w' => ?_) ?_; rotate_left; (focus (go_simp; (try with_reducible rfl))); (try simp only [Act.put, List.setIfInBounds_toArray, List.set_cons_zero, List.set_cons_succ]))
              have fz : u2.frozen? ⟨X, 5, none⟩ = false := K1.out.frozen _
              have fc := K1.out.cell 5
              simp only [List.getElem?_toArray, List.getElem?_cons_succ, List.getElem?_cons_zero] at fc
              refine OB.o_sole (fun K hK => ?_)
              go_wp2_with fail
              have hs : Solo X u2 (u2.setCell ⟨X, 5, none⟩ (.int .i64 y.sent)) := Solo.refl.setCell 5 _
              have hk := K1.out.set 5 (.int .i64 y.sent)
              refine hK _ _ (fun _ => OB.ExtB.at_ (hs.1.mono (Nat.le_refl _)) (fun k hk => by dsimp only at hk; omega)) ?_; clear hK K
              simp only [List.setIfInBounds_toArray, List.set_cons_zero, List.set_cons_succ] at hk
              generalize u2.setCell ⟨X, 5, none⟩ (.int .i64 y.sent) = u3 at *
              replace B2 := Lib.hid (B2.out.trans (hs.1.mono HXW.out))
              replace Q2 := Lib.hid (own_kept Q2.out fun g' hg' => hs.2.2 g' (fun e => by have := QX.out g' hg'; omega))
              replace KY2 := Lib.hid (hs.blk KY2.out (by have := HXY.out; omega))
              replace K1 := Lib.hid hk
              clear fz fc hk hs
              (refine OB.o_pure (v := ?_) (by rfl) (fun w' => ?_) ?_; rotate_left; (focus (go_simp; (try with_reducible rfl))); (try simp only [Act.put, List.setIfInBounds_toArray, List.set_cons_zero, List.set_cons_succ]))
              have fz : u3.frozen? ⟨X, 7, none⟩ = false := K1.out.frozen _
              have fc := K1.out.cell 7
              simp only [List.getElem?_toArray, List.getElem?_cons_succ, List.getElem?_cons_zero] at fc
              refine OB.o_sole (fun K hK => ?_)
              go_wp2_with fail
              have hs : Solo X u3 (u3.setCell ⟨X, 7, none⟩ (.bool false)) := Solo.refl.setCell 7 _
              have hk := K1.out.set 7 (.bool false)
              refine hK _ _ (fun _ => OB.ExtB.at_ (hs.1.mono (Nat.le_refl _)) (fun k hk => by dsimp only at hk; omega)) ?_; clear hK K
              simp only [List.setIfInBounds_toArray, List.set_cons_zero, List.set_cons_succ] at hk
              generalize u3.setCell ⟨X, 7, none⟩ (.bool false) = u4 at *
              replace B2 := Lib.hid (B2.out.trans (hs.1.mono HXW.out))
              replace Q2 := Lib.hid (own_kept Q2.out fun g' hg' => hs.2.2 g' (fun e => by have := QX.out g' hg'; omega))
              replace KY2 := Lib.hid (hs.blk KY2.out (by have := HXY.out; omega))
              replace K1 := Lib.hid hk
              clear fz fc hk hs
              (refine OB.o_pure (v := ?_) (by rfl) (fun w' => ?_) ?_; rotate_left; (focus (go_simp; (try with_reducible rfl))); (try simp only [Act.put, List.setIfInBounds_toArray, List.set_cons_zero, List.set_cons_succ]))
              have fz : u4.frozen? ⟨X, 8, none⟩ = false := K1.out.frozen _
              have fc := K1.out.cell 8
              simp only [List.getElem?_toArray, List.getElem?_cons_succ, List.getElem?_cons_zero] at fc
              refine OB.o_sole (fun K hK => ?_)
              go_wp2_with fail
              have hs : Solo X u4 (u4.setCell ⟨X, 8, none⟩ (.bool false)) := Solo.refl.setCell 8 _
              have hk := K1.out.set 8 (.bool false)
              refine hK _ _ (fun _ => OB.ExtB.at_ (hs.1.mono (Nat.le_refl _)) (fun k hk => by dsimp only at hk; omega)) ?_; clear hK K
              simp only [List.setIfInBounds_toArray, List.set_cons_zero, List.set_cons_succ] at hk
              generalize u4.setCell ⟨X, 8, none⟩ (.bool false) = u5 at *
              replace B2 := Lib.hid (B2.out.trans (hs.1.mono HXW.out))
              replace Q2 := Lib.hid (own_kept Q2.out fun g' hg' => hs.2.2 g' (fun e => by have := QX.out g' hg'; omega))
              replace KY2 := Lib.hid (hs.blk KY2.out (by have := HXY.out; omega))
              replace K1 := Lib.hid hk
              clear fz fc hk hs
              refine OB.o_nil (hQ.out _ _ ?_); clear hQ QQ
              obtain ⟨d0, d1, d2, d3, d4, d5, d6, d7, d8⟩ := ckb (c := ⟨fr, x.len, fin, y.flow, y.en, y.sent, x.tries, false, false⟩) K1.out
              have f6 := K1.out.frozen 6
              clear d0 d1 d2 d3 d4 d5 d7 d8
              go_upto_region 13 with fail
              have hs := ((Solo.refl (g := X) (w := u5)).setCell 6 (.int .i64 t1)).setCell 6 (.int .i64 4096)
              have hk : Blk ((u5.setCell ⟨X, 6, none⟩ (.int .i64 t1)).setCell ⟨X, 6, none⟩ (.int .i64 4096)) X 38 (again1 y x).cells := by
                have h1 := (K1.out.set 6 (.int .i64 t1)).set 6 (.int .i64 4096)
                have e : ((#[.int .u64 (fr : Nat), .int .i64 x.len, .bool fin, .int .i64 y.flow, .int .u32 y.en, .int .i64 y.sent, .int .i64 x.tries, .bool false, .bool false] : Array Value).setIfInBounds 6 (.int .i64 t1)).setIfInBounds 6 (.int .i64 4096) = (again1 y x).cells := by
                  rw [show (again1 y x).cells = #[.int .u64 (x.fr : Nat), .int .i64 x.len, .bool x.fin, .int .i64 y.flow, .int .u32 y.en, .int .i64 y.sent, .int .i64 (min x.tries 4095 + 1), .bool false, .bool false] from rfl, HT1.out, HFR.out, HFI.out]
                  rfl
                rw [e] at h1
                exact h1
              generalize ((u5.setCell ⟨X, 6, none⟩ (.int .i64 t1)).setCell ⟨X, 6, none⟩ (.int .i64 4096)) = w3 at *
              have B3 := Lib.hid (B2.out.trans (hs.1.mono HXW.out))
              have Q3 := Lib.hid (own_kept Q2.out fun g' hg' => hs.2.2 g' (fun e => by have := QX.out g' hg'; omega))
              have KY3 := Lib.hid (hs.blk KY2.out (by have := HXY.out; omega))
              clear hs d6 f6 B2 Q2 KY2 K1
              obtain ⟨b0, b1, b2, b3, b4, b5, b6, b7, b8⟩ := ckb (c := again1 y x) hk
              clear hk
              have hroom : ((reS fr fin y (l.take k)).1.length + 1) * 64 ≤ room := room_ge (by rw [reS_len, List.length_take]; omega)
              have hbw : w.heap.size ≤ w3.heap.size := B3.out.size
              go_wp2_with (at_builtin; go_must (refine appZ2 fcEl (again1 y x).cells rfl (chk_one _) rfl _ _ rfl rfl Q3.out rfl rfl hroom hbw ?_))
              intro v4 w4 ho4 hg4 hn4
              have Q4 : Hid (w4.ownsRow w.heap.size 38 9 v4 (reS fr fin y (l.take (k + 1))).1.length (chs (reS fr fin y (l.take (k + 1))).1)) := Lib.hid (by rw [NEXT.out, List.length_append, chs_snoc]; exact ho4)
              have B4 := Lib.hid (B3.out.trans ((Below.refl _ _).grown hg4 (show w.heap.size ≤ w3.heap.size from hbw) fun k hk => (Q3.out.lt k hk).1))
              have KY4 := Lib.hid ((hg4.block w.heap.size KY3.out.lt (fun e => YNE.out (by rw [e]))).trans KY3.out)
              have YN4 : Hid (v4.ownBlock ≠ some w.heap.size) := Lib.hid (fun e => by
                rcases hn4 _ e with h4 | h4
                · exact YNE.out h4
                · exact absurd KY3.out.lt (by omega))
              clear ho4 hg4 hn4 b0 b1 b2 b3 b4 b5 b6 b7 b8 B3 Q3 hroom hbw QX KY3 YNE
              go_wp2_with fail
              go_roundw
              case rel => exact ⟨k + 1, by omega, by go_num, by rw [NEXT.out], Q4, KY4, YN4, B4⟩
              case measure => simp [intOf]; omega
            · have HT1 : Hid (min x.tries 4095 + 1 = t1) := Lib.hid (by omega)
              have hadd : x.tries + 1 = t1 := ht1.symm
              clear h1 h1' h2 ht1 hxt
              have NEXT : Hid ((reS fr fin y (l.take (k + 1))) = ((reS fr fin y (l.take k)).1 ++ [again1 y x], true)) := Lib.hid (by rw [reS_take HX.out, if_pos ⟨HD.out, HTH.out⟩])
              obtain ⟨y0, y1, y2, y3, y4, y5, y6, y7, y8⟩ := ckb (c := y) KY2.out
              clear y0 y1 y2 y6 y7 y8
              go_upto_region 9 with fail
              clear b0 b1 b2 b3 b4 b5 b6 b7 b8
              refine OB.wp_ord [(0, .pure), (1, .read), (2, .pure), (3, .read), (4, .pure), (5, .read), (6, .pure), (7, .sole), (8, .pure), (9, .sole), (10, .pure), (11, .sole), (12, .pure), (13, .sole), (14, .pure), (15, .sole)] ⟨fun k => k < X, []⟩ (by kernel_rfl) (by kernel_rfl) (fun QQ hQ wd hwd => ?_); (try simp only [List.map_cons, List.map_nil, List.getD_cons_zero, List.getD_cons_succ])
              have hD : Below w2.heap.size w2 wd := by rw [hwd.out]; exact (Below.refl _ _).drew
              replace B2 := Lib.hid (B2.out.trans (hD.mono B2.out.size))
              replace Q2 := Lib.hid (own_below Q2.out hD fun g hg => (Q2.out.lt g hg).2)
              replace KY2 := Lib.hid (KY2.out.below hD KY2.out.lt)
              replace K1 := Lib.hid (K1.out.below hD K1.out.lt)
              clear hD hwd y3 y4 y5
              generalize wd = u0 at *
              obtain ⟨y0, y1, y2, y3, y4, y5, y6, y7, y8⟩ := ckb (c := y) KY2.out
              clear y0 y1 y2 y6 y7 y8
              (refine OB.o_pure (v := ?_) (by rfl) (fun w' => ?_) ?_; rotate_left; (focus (go_simp; (try with_reducible rfl))); (try simp only [Act.put, List.setIfInBounds_toArray, List.set_cons_zero, List.set_cons_succ]))
              (refine OB.o_load _ (by rfl) rfl rfl (by dsimp only; first | assumption | omega) (by assumption) (by kernel_rfl) ?_; simp only [Act.put, List.setIfInBounds_toArray, List.set_cons_zero, List.set_cons_succ])
              (refine OB.o_pure (v := ?_) (by rfl) (fun w' => ?_) ?_; rotate_left; (focus (go_simp; (try with_reducible rfl))); (try simp only [Act.put, List.setIfInBounds_toArray, List.set_cons_zero, List.set_cons_succ]))
              (refine OB.o_load _ (by rfl) rfl rfl (by dsimp only; first | assumption | omega) (by assumption) (by kernel_rfl) ?_; simp only [Act.put, List.setIfInBounds_toArray, List.set_cons_zero, List.set_cons_succ])
              (refine OB.o_pure (v := ?_) (by rfl) (fun w' => ?_) ?_; rotate_left; (focus (go_simp; (try with_reducible rfl))); (try simp only [Act.put, List.setIfInBounds_toArray, List.set_cons_zero, List.set_cons_succ]))
              (refine OB.o_load _ (by rfl) rfl rfl (by dsimp only; first | assumption | omega) (by assumption) (by kernel_rfl) ?_; simp only [Act.put, List.setIfInBounds_toArray, List.set_cons_zero, List.set_cons_succ])
              clear y3 y4 y5
              (refine OB.o_pure (v := ?_) (by rfl) (fun w' => ?_) ?_; rotate_left; (focus (go_simp; (try with_reducible rfl))); (try simp only [Act.put, List.setIfInBounds_toArray, List.set_cons_zero, List.set_cons_succ]))
              have fz : u0.frozen? ⟨X, 3, none⟩ = false := K1.out.frozen _
              have fc := K1.out.cell 3
              simp only [List.getElem?_toArray, List.getElem?_cons_succ, List.getElem?_cons_zero] at fc
              refine OB.o_sole (fun K hK => ?_)
              go_wp2_with fail
              have hs : Solo X u0 (u0.setCell ⟨X, 3, none⟩ (.int .i64 y.flow)) := Solo.refl.setCell 3 _
              have hk := K1.out.set 3 (.int .i64 y.flow)
              refine hK _ _ (fun _ => OB.ExtB.at_ (hs.1.mono (Nat.le_refl _)) (fun k hk => by dsimp only at hk; omega)) ?_; clear hK K
              simp only [List.setIfInBounds_toArray, List.set_cons_zero, List.set_cons_succ] at hk
              generalize u0.setCell ⟨X, 3, none⟩ (.int .i64 y.flow) = u1 at *
              replace B2 := Lib.hid (B2.out.trans (hs.1.mono HXW.out))
              replace Q2 := Lib.hid (own_kept Q2.out fun g' hg' => hs.2.2 g' (fun e => by have := QX.out g' hg'; omega))
              replace KY2 := Lib.hid (hs.blk KY2.out (by have := HXY.out; omega))
              replace K1 := Lib.hid hk
              clear fz fc hk hs
              (refine OB.o_pure (v := ?_) (by rfl) (fun w' => ?_) ?_; rotate_left; (focus (go_simp; (try with_reducible rfl))); (try simp only [Act.put, List.setIfInBounds_toArray, List.set_cons_zero, List.set_cons_succ]))
              have fz : u1.frozen? ⟨X, 4, none⟩ = false := K1.out.frozen _
              have fc := K1.out.cell 4
              simp only [List.getElem?_toArray, List.getElem?_cons_succ, List.getElem?_cons_zero] at fc
              refine OB.o_sole (fun K hK => ?_)
              go_wp2_with fail
              have hs : Solo X u1 (u1.setCell ⟨X, 4, none⟩ (.int .u32 y.en)) := Solo.refl.setCell 4 _
              have hk := K1.out.set 4 (.int .u32 y.en)
              refine hK _ _ (fun _ => OB.ExtB.at_ (hs.1.mono (Nat.le_refl _)) (fun k hk => by dsimp only at hk; omega)) ?_; clear hK K
              simp only [List.setIfInBounds_toArray, List.set_cons_zero, List.set_cons_succ] at hk
              generalize u1.setCell ⟨X, 4, none⟩ (.int .u32 y.en) = u2 at *
              replace B2 := Lib.hid (B2.out.trans (hs.1.mono HXW.out))
              replace Q2 := Lib.hid (own_kept Q2.out fun g' hg' => hs.2.2 g' (fun e => by have := QX.out g' hg'; omega))
              replace KY2 := Lib.hid (hs.blk KY2.out (by have := HXY.out; omega))
              replace K1 := Lib.hid hk
              clear fz fc hk hs
              (refine OB.o_pure (v := ?_) (by rfl) (fun w' => ?_) ?_; rotate_left; (focus (go_simp; (try with_reducible rfl))); (try simp only [Act.put, List.setIfInBounds_toArray, List.set_cons_zero, List.set_cons_succ]))
              have fz : u2.frozen? ⟨X, 5, none⟩ = false := K1.out.frozen _
              have fc := K1.out.cell 5
              simp only [List.getElem?_toArray, List.getElem?_cons_succ, List.getElem?_cons_zero] at fc
              refine OB.o_sole (fun K hK => ?_)
              go_wp2_with fail
              have hs : Solo X u2 (u2.setCell ⟨X, 5, none⟩ (.int .i64 y.sent)) := Solo.refl.setCell 5 _
              have hk := K1.out.set 5 (.int .i64 y.sent)
              refine hK _ _ (fun _ => OB.ExtB.at_ (hs.1.mono (Nat.le_refl _)) (fun k hk => by dsimp only at hk; omega)) ?_; clear hK K
              simp only [List.setIfInBounds_toArray, List.set_cons_zero, List.set_cons_succ] at hk
              generalize u2.setCell ⟨X, 5, none⟩ (.int .i64 y.sent) = u3 at *
              replace B2 := Lib.hid (B2.out.trans (hs.1.mono HXW.out))
              replace Q2 := Lib.hid (own_kept Q2.out fun g' hg' => hs.2.2 g' (fun e => by have := QX.out g' hg'; omega))
              replace KY2 := Lib.hid (hs.blk KY2.out (by have := HXY.out; omega))
              replace K1 := Lib.hid hk
              clear fz fc hk hs
              (refine OB.o_pure (v := ?_) (by rfl) (fun w' => ?_) ?_; rotate_left; (focus (go_simp; (try with_reducible rfl))); (try simp only [Act.put, List.setIfInBounds_toArray, List.set_cons_zero, List.set_cons_succ]))
              have fz : u3.frozen? ⟨X, 7, none⟩ = false := K1.out.frozen _
              have fc := K1.out.cell 7
              simp only [List.getElem?_toArray, List.getElem?_cons_succ, List.getElem?_cons_zero] at fc
              refine OB.o_sole (fun K hK => ?_)
              go_wp2_with fail
              have hs : Solo X u3 (u3.setCell ⟨X, 7, none⟩ (.bool false)) := Solo.refl.setCell 7 _
              have hk := K1.out.set 7 (.bool false)
              refine hK _ _ (fun _ => OB.ExtB.at_ (hs.1.mono (Nat.le_refl _)) (fun k hk => by dsimp only at hk; omega)) ?_; clear hK K
              simp only [List.setIfInBounds_toArray, List.set_cons_zero, List.set_cons_succ] at hk
              generalize u3.setCell ⟨X, 7, none⟩ (.bool false) = u4 at *
              replace B2 := Lib.hid (B2.out.trans (hs.1.mono HXW.out))
              replace Q2 := Lib.hid (own_kept Q2.out fun g' hg' => hs.2.2 g' (fun e => by have := QX.out g' hg'; omega))
              replace KY2 := Lib.hid (hs.blk KY2.out (by have := HXY.out; omega))
              replace K1 := Lib.hid hk
              clear fz fc hk hs
              (refine OB.o_pure (v := ?_) (by rfl) (fun w' => ?_) ?_; rotate_left; (focus (go_simp; (try with_reducible rfl))); (try simp only [Act.put, List.setIfInBounds_toArray, List.set_cons_zero, List.set_cons_succ]))
              have fz : u4.frozen? ⟨X, 8, none⟩ = false := K1.out.frozen _
              have fc := K1.out.cell 8
              simp only [List.getElem?_toArray, List.getElem?_cons_succ, List.getElem?_cons_zero] at fc
              refine OB.o_sole (fun K hK => ?_)
              go_wp2_with fail
              have hs : Solo X u4 (u4.setCell ⟨X, 8, none⟩ (.bool false)) := Solo.refl.setCell 8 _
              have hk := K1.out.set 8 (.bool false)
              refine hK _ _ (fun _ => OB.ExtB.at_ (hs.1.mono (Nat.le_refl _)) (fun k hk => by dsimp only at hk; omega)) ?_; clear hK K
              simp only [List.setIfInBounds_toArray, List.set_cons_zero, List.set_cons_succ] at hk
              generalize u4.setCell ⟨X, 8, none⟩ (.bool false) = u5 at *
              replace B2 := Lib.hid (B2.out.trans (hs.1.mono HXW.out))
              replace Q2 := Lib.hid (own_kept Q2.out fun g' hg' => hs.2.2 g' (fun e => by have := QX.out g' hg'; omega))
              replace KY2 := Lib.hid (hs.blk KY2.out (by have := HXY.out; omega))
              replace K1 := Lib.hid hk
              clear fz fc hk hs
              refine OB.o_nil (hQ.out _ _ ?_); clear hQ QQ
              obtain ⟨d0, d1, d2, d3, d4, d5, d6, d7, d8⟩ := ckb (c := ⟨fr, x.len, fin, y.flow, y.en, y.sent, x.tries, false, false⟩) K1.out
              have f6 := K1.out.frozen 6
              clear d0 d1 d2 d3 d4 d5 d7 d8
              go_upto_region 13 with fail
              have hs := ((Solo.refl (g := X) (w := u5)).setCell 6 (.int .i64 t1))
              have hk : Blk (u5.setCell ⟨X, 6, none⟩ (.int .i64 t1)) X 38 (again1 y x).cells := by
                have h1 := K1.out.set 6 (.int .i64 t1)
                have e : ((#[.int .u64 (fr : Nat), .int .i64 x.len, .bool fin, .int .i64 y.flow, .int .u32 y.en, .int .i64 y.sent, .int .i64 x.tries, .bool false, .bool false] : Array Value).setIfInBounds 6 (.int .i64 t1)) = (again1 y x).cells := by
                  rw [show (again1 y x).cells = #[.int .u64 (x.fr : Nat), .int .i64 x.len, .bool x.fin, .int .i64 y.flow, .int .u32 y.en, .int .i64 y.sent, .int .i64 (min x.tries 4095 + 1), .bool false, .bool false] from rfl, HT1.out, HFR.out, HFI.out]
                  rfl
                rw [e] at h1
                exact h1
              generalize (u5.setCell ⟨X, 6, none⟩ (.int .i64 t1)) = w3 at *
              have B3 := Lib.hid (B2.out.trans (hs.1.mono HXW.out))
              have Q3 := Lib.hid (own_kept Q2.out fun g' hg' => hs.2.2 g' (fun e => by have := QX.out g' hg'; omega))
              have KY3 := Lib.hid (hs.blk KY2.out (by have := HXY.out; omega))
              clear hs d6 f6 B2 Q2 KY2 K1
              obtain ⟨b0, b1, b2, b3, b4, b5, b6, b7, b8⟩ := ckb (c := again1 y x) hk
              clear hk
              have hroom : ((reS fr fin y (l.take k)).1.length + 1) * 64 ≤ room := room_ge (by rw [reS_len, List.length_take]; omega)
              have hbw : w.heap.size ≤ w3.heap.size := B3.out.size
              go_wp2_with (at_builtin; go_must (refine appZ2 fcEl (again1 y x).cells rfl (chk_one _) rfl _ _ rfl rfl Q3.out rfl rfl hroom hbw ?_))
              intro v4 w4 ho4 hg4 hn4
              have Q4 : Hid (w4.ownsRow w.heap.size 38 9 v4 (reS fr fin y (l.take (k + 1))).1.length (chs (reS fr fin y (l.take (k + 1))).1)) := Lib.hid (by rw [NEXT.out, List.length_append, chs_snoc]; exact ho4)
              have B4 := Lib.hid (B3.out.trans ((Below.refl _ _).grown hg4 (show w.heap.size ≤ w3.heap.size from hbw) fun k hk => (Q3.out.lt k hk).1))
              have KY4 := Lib.hid ((hg4.block w.heap.size KY3.out.lt (fun e => YNE.out (by rw [e]))).trans KY3.out)
              have YN4 : Hid (v4.ownBlock ≠ some w.heap.size) := Lib.hid (fun e => by
                rcases hn4 _ e with h4 | h4
                · exact YNE.out h4
                · exact absurd KY3.out.lt (by omega))
              clear ho4 hg4 hn4 b0 b1 b2 b3 b4 b5 b6 b7 b8 B3 Q3 hroom hbw QX KY3 YNE
              go_wp2_with fail
              go_roundw
              case rel => exact ⟨k + 1, by omega, by go_num, by rw [NEXT.out], Q4, KY4, YN4, B4⟩
              case measure => simp [intOf]; omega
          · have h2' : (x.fin == fin) = false := by simpa using h2
            clear hxt
            have NEXT : Hid ((reS fr fin y (l.take (k + 1))) = ((reS fr fin y (l.take k)).1 ++ [x], (reS fr fin y (l.take k)).2)) := Lib.hid (by rw [reS_take HX.out, if_neg (by simp [isThat, h1, h2])])
            have CEX : Hid (([.int .u64 (fr : Nat), .int .i64 x.len, .bool x.fin, .int .i64 x.flow, .int .u32 x.en, .int .i64 x.sent, .int .i64 x.tries, .bool x.came, .bool x.lost] : List Value) = x.cells.toList) := Lib.hid (by simp [Chk.cells, h1])
            have CONE : Hid (∀ u ∈ (#[.int .u64 (fr : Nat), .int .i64 x.len, .bool x.fin, .int .i64 x.flow, .int .u32 x.en, .int .i64 x.sent, .int .i64 x.tries, .bool x.came, .bool x.lost] : Array Value).toList, u.oneCell' = true) := Lib.hid (fun u hu => chk_one x u (CEX.out ▸ hu))
            have hroom : ((reS fr fin y (l.take k)).1.length + 1) * 64 ≤ room := room_ge (by rw [reS_len, List.length_take]; omega)
            have hbw : w.heap.size ≤ w2.heap.size := B2.out.size
            go_wp2_with (at_builtin; go_must (refine appZ2 fcEl #[.int .u64 (fr : Nat), .int .i64 x.len, .bool x.fin, .int .i64 x.flow, .int .u32 x.en, .int .i64 x.sent, .int .i64 x.tries, .bool x.came, .bool x.lost] rfl CONE.out rfl _ _ rfl rfl Q2.out rfl rfl hroom hbw ?_))
            intro v4 w4 ho4 hg4 hn4
            rw [CEX.out] at ho4
            have Q4 : Hid (w4.ownsRow w.heap.size 38 9 v4 (reS fr fin y (l.take (k + 1))).1.length (chs (reS fr fin y (l.take (k + 1))).1)) := Lib.hid (by rw [NEXT.out, List.length_append, chs_snoc]; exact ho4)
            have B4 := Lib.hid (B2.out.trans ((Below.refl _ _).grown hg4 (show w.heap.size ≤ w2.heap.size from hbw) fun k hk => (Q2.out.lt k hk).1))
            have KY4 := Lib.hid ((hg4.block w.heap.size KY2.out.lt (fun e => YNE.out (by rw [e]))).trans KY2.out)
            have YN4 : Hid (v4.ownBlock ≠ some w.heap.size) := Lib.hid (fun e => by
              rcases hn4 _ e with h4 | h4
              · exact YNE.out h4
              · exact absurd KY2.out.lt (by omega))
            clear ho4 hg4 hn4 b0 b1 b2 b3 b4 b5 b6 b7 b8 B2 Q2 hroom hbw K1 QX KY2 YNE
            go_wp2_with fail
            go_roundw
            case rel => exact ⟨k + 1, by omega, by go_num, by rw [NEXT.out, HD.out], Q4, KY4, YN4, B4⟩
            case measure => simp [intOf]; omega
        · have h1' : ¬ (x.fr : Int) = (fr : Int) := by omega
          clear hxt
          have NEXT : Hid ((reS fr fin y (l.take (k + 1))) = ((reS fr fin y (l.take k)).1 ++ [x], (reS fr fin y (l.take k)).2)) := Lib.hid (by rw [reS_take HX.out, if_neg (by simp [isThat, h1])])
          have CEX : Hid (([.int .u64 (x.fr : Nat), .int .i64 x.len, .bool x.fin, .int .i64 x.flow, .int .u32 x.en, .int .i64 x.sent, .int .i64 x.tries, .bool x.came, .bool x.lost] : List Value) = x.cells.toList) := Lib.hid (by simp [Chk.cells])
          have CONE : Hid (∀ u ∈ (#[.int .u64 (x.fr : Nat), .int .i64 x.len, .bool x.fin, .int .i64 x.flow, .int .u32 x.en, .int .i64 x.sent, .int .i64 x.tries, .bool x.came, .bool x.lost] : Array Value).toList, u.oneCell' = true) := Lib.hid (fun u hu => chk_one x u (CEX.out ▸ hu))
          have hroom : ((reS fr fin y (l.take k)).1.length + 1) * 64 ≤ room := room_ge (by rw [reS_len, List.length_take]; omega)
          have hbw : w.heap.size ≤ w2.heap.size := B2.out.size
          go_wp2_with (at_builtin; go_must (refine appZ2 fcEl #[.int .u64 (x.fr : Nat), .int .i64 x.len, .bool x.fin, .int .i64 x.flow, .int .u32 x.en, .int .i64 x.sent, .int .i64 x.tries, .bool x.came, .bool x.lost] rfl CONE.out rfl _ _ rfl rfl Q2.out rfl rfl hroom hbw ?_))
          intro v4 w4 ho4 hg4 hn4
          rw [CEX.out] at ho4
          have Q4 : Hid (w4.ownsRow w.heap.size 38 9 v4 (reS fr fin y (l.take (k + 1))).1.length (chs (reS fr fin y (l.take (k + 1))).1)) := Lib.hid (by rw [NEXT.out, List.length_append, chs_snoc]; exact ho4)
          have B4 := Lib.hid (B2.out.trans ((Below.refl _ _).grown hg4 (show w.heap.size ≤ w2.heap.size from hbw) fun k hk => (Q2.out.lt k hk).1))
          have KY4 := Lib.hid ((hg4.block w.heap.size KY2.out.lt (fun e => YNE.out (by rw [e]))).trans KY2.out)
          have YN4 : Hid (v4.ownBlock ≠ some w.heap.size) := Lib.hid (fun e => by
            rcases hn4 _ e with h4 | h4
            · exact YNE.out h4
            · exact absurd KY2.out.lt (by omega))
          clear ho4 hg4 hn4 b0 b1 b2 b3 b4 b5 b6 b7 b8 B2 Q2 hroom hbw K1 QX KY2 YNE
          go_wp2_with fail
          go_roundw
          case rel => exact ⟨k + 1, by omega, by go_num, by rw [NEXT.out, HD.out], Q4, KY4, YN4, B4⟩
          case measure => simp [intOf]; omega
      · have HD := Lib.hid hdn.symm
        clear hdn hxt
        have NEXT : Hid ((reS fr fin y (l.take (k + 1))) = ((reS fr fin y (l.take k)).1 ++ [x], (reS fr fin y (l.take k)).2)) := Lib.hid (by rw [reS_take HX.out, if_neg (by simp [HD.out])])
        have CEX : Hid (([.int .u64 (x.fr : Nat), .int .i64 x.len, .bool x.fin, .int .i64 x.flow, .int .u32 x.en, .int .i64 x.sent, .int .i64 x.tries, .bool x.came, .bool x.lost] : List Value) = x.cells.toList) := Lib.hid (by simp [Chk.cells])
        have CONE : Hid (∀ u ∈ (#[.int .u64 (x.fr : Nat), .int .i64 x.len, .bool x.fin, .int .i64 x.flow, .int .u32 x.en, .int .i64 x.sent, .int .i64 x.tries, .bool x.came, .bool x.lost] : Array Value).toList, u.oneCell' = true) := Lib.hid (fun u hu => chk_one x u (CEX.out ▸ hu))
        have hroom : ((reS fr fin y (l.take k)).1.length + 1) * 64 ≤ room := room_ge (by rw [reS_len, List.length_take]; omega)
        have hbw : w.heap.size ≤ w2.heap.size := B2.out.size
        go_wp2_with (at_builtin; go_must (refine appZ2 fcEl #[.int .u64 (x.fr : Nat), .int .i64 x.len, .bool x.fin, .int .i64 x.flow, .int .u32 x.en, .int .i64 x.sent, .int .i64 x.tries, .bool x.came, .bool x.lost] rfl CONE.out rfl _ _ rfl rfl Q2.out rfl rfl hroom hbw ?_))
        intro v4 w4 ho4 hg4 hn4
        rw [CEX.out] at ho4
        have Q4 : Hid (w4.ownsRow w.heap.size 38 9 v4 (reS fr fin y (l.take (k + 1))).1.length (chs (reS fr fin y (l.take (k + 1))).1)) := Lib.hid (by rw [NEXT.out, List.length_append, chs_snoc]; exact ho4)
        have B4 := Lib.hid (B2.out.trans ((Below.refl _ _).grown hg4 (show w.heap.size ≤ w2.heap.size from hbw) fun k hk => (Q2.out.lt k hk).1))
        have KY4 := Lib.hid ((hg4.block w.heap.size KY2.out.lt (fun e => YNE.out (by rw [e]))).trans KY2.out)
        have YN4 : Hid (v4.ownBlock ≠ some w.heap.size) := Lib.hid (fun e => by
          rcases hn4 _ e with h4 | h4
          · exact YNE.out h4
          · exact absurd KY2.out.lt (by omega))
        clear ho4 hg4 hn4 b0 b1 b2 b3 b4 b5 b6 b7 b8 B2 Q2 hroom hbw K1 QX KY2 YNE
        go_wp2_with fail
        go_roundw
        case rel => exact ⟨k + 1, by omega, by go_num, by rw [NEXT.out, HD.out], Q4, KY4, YN4, B4⟩
        case measure => simp [intOf]; omega
    · obtain rfl : k = n := by omega
      have hT : l.take k = l := List.take_of_length_le (by rw [HN.out]; exact Nat.le_refl _)
      rw [hT] at HQ
      obtain ⟨dn, hdn⟩ : ∃ dn, dn = (reS fr fin y (l.take k)).2 := ⟨_, rfl⟩
      rw [← hdn]
      have HD := Lib.hid hdn
      have HQ2 : Hid (wr.ownsRow w.heap.size 38 9 u10 l.length (chs (reS fr fin y l).1)) := Lib.hid (by have := HQ.out; rw [reS_len] at this; exact this)
      clear hlt hdn HQ
      go_wp2_with fail
      go_ret2
      rw [show (reS fr fin y l).2 = dn from by rw [HD.out, hT]]
      exact ⟨_, rfl, HQ2.out, BB.out⟩
end Go.Proofs.Ytbipcnboammpeaa
