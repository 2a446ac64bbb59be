/- Layer 16 by the document: Mark, kind 1. -/
import Derived.Test.YtbipcnboammpeaaFlr2
namespace Go.Proofs.Ytbipcnboammpeaa
open Go.RowKit
set_option linter.unusedVariables false
set_option linter.unusedSimpArgs false
set_option maxRecDepth 20000 in
set_option maxHeartbeats 4000000 in
theorem rmark1 (A : Option Addr) (n c : Nat) (l : List Chk) (flow ack : Int) (w : World) (hack : U32 ack) (hr : Rd w w.heap.size 9 A n (chs l)) (hl : n ≤ 64) (hok : ∀ c ∈ l, c.ok) :
    Calls Try.prog 25 #[.slice A n c, .int .i64 1, .int .i64 flow, .int .u32 ack, .int .i64 0, .int .i64 0] w fun e w' => ∃ v1 v2, e = .returned (.tuple #[v1, v2]) ∧ w'.ownsRow w.heap.size 38 9 v1 (mkA (fWord flow ack) wasCame l).length (chs (mkA (fWord flow ack) wasCame l)) ∧ w'.ownsRow w.heap.size 38 9 v2 (mkO (fWord flow ack) wasCame l).length (chs (mkO (fWord flow ack) wasCame l)) ∧ Below w.heap.size w w' := by
  have HR := Lib.hid hr
  have HOKL := Lib.hid hok
  have HN := Lib.hid hr.chkLen
  clear hr hok
  go_enter Try.func25, Try.ntmps25
  go_wp2_with fail
  have HO0 : Hid (w.ownsRow w.heap.size 38 9 (.slice none 0 0) (mkO (fWord flow ack) wasCame (l.take 0)).length (chs (mkO (fWord flow ack) wasCame (l.take 0)))) := Lib.hid (World.ownsRow_nil _ _ _ _)
  have HQ0 : Hid (w.ownsRow w.heap.size 38 9 (.slice none 0 0) (mkA (fWord flow ack) wasCame (l.take 0)).length (chs (mkA (fWord flow ack) wasCame (l.take 0)))) := Lib.hid (World.ownsRow_nil _ _ _ _)
  go_loopw [14, 15, 16] (fun qv gv iv wr => ∃ (k : Nat) , k ≤ n ∧ iv = .int .i64 (k : Nat) ∧ Hid (wr.ownsRow w.heap.size 38 9 qv (mkA (fWord flow ack) wasCame (l.take k)).length (chs (mkA (fWord flow ack) wasCame (l.take k)))) ∧ Hid (wr.ownsRow w.heap.size 38 9 gv (mkO (fWord flow ack) wasCame (l.take k)).length (chs (mkO (fWord flow ack) wasCame (l.take k)))) ∧ Hid (∀ g', qv.ownBlock = some g' → gv.ownBlock ≠ some g') ∧ Hid (Below w.heap.size w wr)) (fun _ _ iv _ => n - (intOf iv).toNat)
  case atStart => exact ⟨0, Nat.zero_le _, rfl, HQ0, HO0, Lib.hid (fun g' e => by cases e), Lib.hid (Below.refl _ _)⟩
  case round =>
    clear HQ0 HO0
    obtain ⟨k, hk, rfl, HQ, HO, NE, BB⟩ := hrel
    by_cases hlt : k < n
    · have hlt' : (k : Int) < (n : Int) := by omega
      have hk0 : ¬ (k : Int) < 0 := by omega
      obtain ⟨rb, off, x, hA, hrb, HC, HX⟩ := HR.out.chk hlt
      subst hA
      obtain ⟨a0, a1, a2, a3, a4, a5, a6, a7, a8⟩ := ck9 (w := wr) (o := off + k * 9) (fun j v hj => (BB.out.cell (p := ⟨rb, off + k * 9 + j, none⟩) hrb).trans (HC.out j v hj))
      go_upto_region 6 with fail
      have K1 := Lib.hid (Blk.new wr 38 #[.int .u64 (x.fr : Nat), .int .i64 x.len, .bool x.fin, .int .i64 x.flow, .int .u32 x.en, .int .i64 x.sent, .int .i64 x.tries, .bool x.came, .bool x.lost])
      have hb1 := (Below.refl wr.heap.size wr).alloc (Nat.le_refl _) (.cells #[.int .u64 (x.fr : Nat), .int .i64 x.len, .bool x.fin, .int .i64 x.flow, .int .u32 x.en, .int .i64 x.sent, .int .i64 x.tries, .bool x.came, .bool x.lost] 38)
      have B2 := Lib.hid (BB.out.trans (hb1.mono BB.out.size))
      have Q2 := Lib.hid (own_below HQ.out hb1 fun g hg => (HQ.out.lt g hg).2)
      have O2 := Lib.hid (own_below HO.out hb1 fun g hg => (HO.out.lt g hg).2)
      obtain ⟨X, hX⟩ : ∃ X, X = wr.heap.size := ⟨_, rfl⟩
      have QX := Lib.hid (fun g' (hg' : u14.ownBlock = some g') => (show g' < X by rw [hX]; exact (HQ.out.lt g' hg').2))
      have OX := Lib.hid (fun g' (hg' : u15.ownBlock = some g') => (show g' < X by rw [hX]; exact (HO.out.lt g' hg').2))
      have HXW := Lib.hid (show w.heap.size ≤ X by rw [hX]; exact BB.out.size)
      rw [← hX] at K1 ⊢
      clear hb1 hX BB HQ HO a0 a1 a2 a3 a4 a5 a6 a7 a8
      generalize wr.alloc (.cells #[.int .u64 (x.fr : Nat), .int .i64 x.len, .bool x.fin, .int .i64 x.flow, .int .u32 x.en, .int .i64 x.sent, .int .i64 x.tries, .bool x.came, .bool x.lost] 38) = w2 at *
      obtain ⟨b0, b1, b2, b3, b4, b5, b6, b7, b8⟩ := ckb (c := x) K1.out
      have CD := Lib.hid (fun w => rdiff_any ack x.en w hack (HOKL.out x (List.mem_of_getElem? HX.out)).en)
      by_cases h0 : 0 < x.len
      · cases hcm : x.came
        · rw [hcm] at b7
          by_cases h1 : 0 ≤ sd ack x.en
          · by_cases hfl : x.flow = flow
            · cases hlo : x.lost
              · rw [hlo] at b8
                have YES : Hid ((fWord flow ack) x = true) := Lib.hid (by unfold fWord; simp [h0, hcm, h1, hfl, hlo])
                have f7 := K1.out.frozen 7
                have f8 := K1.out.frozen 8
                go_wp2_with fail
                refine (CD.out w2).mono ?_
                rintro e wq ⟨rfl, hwq⟩
                have hwq := hwq.symm
                subst hwq
                go_upto_region 11 with fail
                have hso := ((Solo.refl (g := X) (w := w2)).setCell 7 (.bool true)).setCell 8 (.bool false)
                have hK : Blk ((w2.setCell ⟨X, 7, none⟩ (.bool true)).setCell ⟨X, 8, none⟩ (.bool false)) X 38 (wasCame x).cells := by
                  have h1 := (K1.out.set 7 (.bool true)).set 8 (.bool false)
                  have e : ((#[.int .u64 (x.fr : Nat), .int .i64 x.len, .bool x.fin, .int .i64 x.flow, .int .u32 x.en, .int .i64 x.sent, .int .i64 x.tries, .bool x.came, .bool x.lost] : Array Value).setIfInBounds 7 (.bool true)).setIfInBounds 8 (.bool false) = (wasCame x).cells := by simp [Chk.cells, wasCame, h0, hcm, h1, hfl, hlo]
                  rw [e] at h1
                  exact h1
                have O3 := Lib.hid (own_kept O2.out fun g' hg' => hso.2.2 g' (fun e => by have := OX.out g' hg'; omega))
                have Q3 := Lib.hid (own_kept Q2.out fun g' hg' => hso.2.2 g' (fun e => by have := QX.out g' hg'; omega))
                have B3 := Lib.hid (B2.out.trans (hso.1.mono HXW.out))
                clear b0 b1 b2 b3 b4 b5 b6 b7 b8 f7 f8 hso O2 Q2 B2 K1
                have K3 := Lib.hid hK
                clear hK
                generalize (w2.setCell ⟨X, 7, none⟩ (.bool true)).setCell ⟨X, 8, none⟩ (.bool false) = w3 at *
                obtain ⟨b0, b1, b2, b3, b4, b5, b6, b7, b8⟩ := ckb (c := wasCame x) K3.out
                have hroom : ((mkO (fWord flow ack) wasCame (l.take k)).length + 1) * 64 ≤ room := room_ge (by have := mkO_le (f := (fWord flow ack)) (g := wasCame) (l := l.take k); rw [List.length_take] at this; omega)
                have hbw : w.heap.size ≤ w3.heap.size := B3.out.size
                go_wp2_with (at_builtin; go_must (refine appZ2 fcEl (wasCame x).cells rfl (chk_one _) rfl _ _ rfl rfl O3.out rfl rfl hroom hbw ?_))
                intro v4 w4 ho4 hg4 hn4
                have O4 : Hid (w4.ownsRow w.heap.size 38 9 v4 (mkO (fWord flow ack) wasCame (l.take (k + 1))).length (chs (mkO (fWord flow ack) wasCame (l.take (k + 1))))) := Lib.hid (by rw [mkO_yes HX.out YES.out, List.length_append, chs_snoc]; exact ho4)
                have Q4 := Lib.hid (own_kept Q3.out fun g' hg' => hg4.block g' (Q3.out.lt g' hg').2 (fun e => NE.out g' hg' e.symm))
                have NE4 : Hid (∀ g', u14.ownBlock = some g' → v4.ownBlock ≠ some g') := Lib.hid fun g' hg' e => by
                  rcases hn4 g' e with h4 | h4
                  · exact NE.out g' hg' h4
                  · exact absurd (Q3.out.lt g' hg').2 (by omega)
                have B4 := Lib.hid (B3.out.trans ((Below.refl _ _).grown hg4 (show w.heap.size ≤ w3.heap.size from hbw) fun k hk => (O3.out.lt k hk).1))
                have K4 := Lib.hid ((hg4.block X K3.out.lt (fun e => by have := OX.out X e.symm; omega)).trans K3.out)
                clear ho4 hg4 hn4 b0 b1 b2 b3 b4 b5 b6 b7 b8 B3 O3 Q3 NE hroom hbw K3 OX QX
                obtain ⟨b0, b1, b2, b3, b4, b5, b6, b7, b8⟩ := ckb (c := wasCame x) K4.out
                have hroom : ((mkA (fWord flow ack) wasCame (l.take k)).length + 1) * 64 ≤ room := room_ge (by rw [mkA_len, List.length_take]; omega)
                have hbw : w.heap.size ≤ w4.heap.size := B4.out.size
                go_wp2_with (at_builtin; go_must (refine appZ2 fcEl (wasCame x).cells rfl (chk_one _) rfl _ _ rfl rfl Q4.out rfl rfl hroom hbw ?_))
                intro v5 w5 ho4 hg4 hn4
                have Q5 : Hid (w5.ownsRow w.heap.size 38 9 v5 (mkA (fWord flow ack) wasCame (l.take (k + 1))).length (chs (mkA (fWord flow ack) wasCame (l.take (k + 1))))) := Lib.hid (by rw [mkA_yes HX.out YES.out, List.length_append, chs_snoc]; exact ho4)
                have O5 := Lib.hid (own_kept O4.out fun g' hg' => hg4.block g' (O4.out.lt g' hg').2 (fun e => NE4.out g' e.symm hg'))
                have NE5 : Hid (∀ g', v5.ownBlock = some g' → v4.ownBlock ≠ some g') := Lib.hid fun g' hg' e => by
                  rcases hn4 g' hg' with h4 | h4
                  · exact NE4.out g' h4 e
                  · exact absurd (O4.out.lt g' e).2 (by omega)
                have B5 := Lib.hid (B4.out.trans ((Below.refl _ _).grown hg4 (show w.heap.size ≤ w4.heap.size from hbw) fun k hk => (Q4.out.lt k hk).1))
                clear ho4 hg4 hn4 b0 b1 b2 b3 b4 b5 b6 b7 b8 B4 O4 Q4 NE4 hroom hbw K4
                go_wp2_with fail
                go_roundw
                case rel => exact ⟨k + 1, by omega, by go_num, Q5, O5, NE5, B5⟩
                case measure => simp [intOf]; omega
              · rw [hlo] at b8
                have NO : Hid ((fWord flow ack) x = false) := Lib.hid (by unfold fWord; simp [hlo])
                go_wp2_with fail
                refine (CD.out w2).mono ?_
                rintro e wq ⟨rfl, hwq⟩
                have hwq := hwq.symm
                subst hwq
                have hroom : ((mkA (fWord flow ack) wasCame (l.take k)).length + 1) * 64 ≤ room := room_ge (by rw [mkA_len, List.length_take]; omega)
                have hbw : w.heap.size ≤ w2.heap.size := B2.out.size
                have CEX : Hid (([.int .u64 (x.fr : Nat), .int .i64 x.len, .bool x.fin, .int .i64 flow, .int .u32 x.en, .int .i64 x.sent, .int .i64 x.tries, .bool false, .bool true] : List Value) = x.cells.toList) := Lib.hid (by simp [Chk.cells, hcm, hlo, hfl])
                have CONE : Hid (∀ u ∈ (#[.int .u64 (x.fr : Nat), .int .i64 x.len, .bool x.fin, .int .i64 flow, .int .u32 x.en, .int .i64 x.sent, .int .i64 x.tries, .bool false, .bool true] : Array Value).toList, u.oneCell' = true) := Lib.hid (fun u hu => chk_one x u (CEX.out ▸ hu))
                go_wp2_with (at_builtin; go_must (refine appZ2 fcEl #[.int .u64 (x.fr : Nat), .int .i64 x.len, .bool x.fin, .int .i64 flow, .int .u32 x.en, .int .i64 x.sent, .int .i64 x.tries, .bool false, .bool true] rfl CONE.out rfl _ _ rfl rfl Q2.out rfl rfl hroom hbw ?_))
                intro v4 w4 ho4 hg4 hn4
                rw [CEX.out] at ho4
                have Q4 : Hid (w4.ownsRow w.heap.size 38 9 v4 (mkA (fWord flow ack) wasCame (l.take (k + 1))).length (chs (mkA (fWord flow ack) wasCame (l.take (k + 1))))) := Lib.hid (by rw [mkA_no HX.out NO.out, List.length_append, chs_snoc]; exact ho4)
                have O4 : Hid (w4.ownsRow w.heap.size 38 9 u15 (mkO (fWord flow ack) wasCame (l.take (k + 1))).length (chs (mkO (fWord flow ack) wasCame (l.take (k + 1))))) := Lib.hid (by rw [mkO_no HX.out NO.out]; exact own_kept O2.out fun g' hg' => hg4.block g' (O2.out.lt g' hg').2 (fun e => NE.out g' e.symm hg'))
                have NE4 : Hid (∀ g', v4.ownBlock = some g' → u15.ownBlock ≠ some g') := Lib.hid fun g' hg' e => by
                  rcases hn4 g' hg' with h4 | h4
                  · exact NE.out g' h4 e
                  · exact absurd (O2.out.lt g' e).2 (by omega)
                have B4 := Lib.hid (B2.out.trans ((Below.refl _ _).grown hg4 (show w.heap.size ≤ w2.heap.size from hbw) fun k hk => (Q2.out.lt k hk).1))
                clear ho4 hg4 hn4 b0 b1 b2 b3 b4 b5 b6 b7 b8 B2 O2 Q2 NE hroom hbw K1 QX OX
                go_wp2_with fail
                go_roundw
                case rel => exact ⟨k + 1, by omega, by go_num, Q4, O4, NE4, B4⟩
                case measure => simp [intOf]; omega
            · skip
              have NO : Hid ((fWord flow ack) x = false) := Lib.hid (by unfold fWord; simp [hfl])
              go_wp2_with fail
              refine (CD.out w2).mono ?_
              rintro e wq ⟨rfl, hwq⟩
              have hwq := hwq.symm
              subst hwq
              have hroom : ((mkA (fWord flow ack) wasCame (l.take k)).length + 1) * 64 ≤ room := room_ge (by rw [mkA_len, List.length_take]; omega)
              have hbw : w.heap.size ≤ w2.heap.size := B2.out.size
              have CEX : Hid (([.int .u64 (x.fr : Nat), .int .i64 x.len, .bool x.fin, .int .i64 x.flow, .int .u32 x.en, .int .i64 x.sent, .int .i64 x.tries, .bool false, .bool x.lost] : List Value) = x.cells.toList) := Lib.hid (by simp [Chk.cells, hcm])
              have CONE : Hid (∀ u ∈ (#[.int .u64 (x.fr : Nat), .int .i64 x.len, .bool x.fin, .int .i64 x.flow, .int .u32 x.en, .int .i64 x.sent, .int .i64 x.tries, .bool false, .bool x.lost] : Array Value).toList, u.oneCell' = true) := Lib.hid (fun u hu => chk_one x u (CEX.out ▸ hu))
              go_wp2_with (at_builtin; go_must (refine appZ2 fcEl #[.int .u64 (x.fr : Nat), .int .i64 x.len, .bool x.fin, .int .i64 x.flow, .int .u32 x.en, .int .i64 x.sent, .int .i64 x.tries, .bool false, .bool x.lost] rfl CONE.out rfl _ _ rfl rfl Q2.out rfl rfl hroom hbw ?_))
              intro v4 w4 ho4 hg4 hn4
              rw [CEX.out] at ho4
              have Q4 : Hid (w4.ownsRow w.heap.size 38 9 v4 (mkA (fWord flow ack) wasCame (l.take (k + 1))).length (chs (mkA (fWord flow ack) wasCame (l.take (k + 1))))) := Lib.hid (by rw [mkA_no HX.out NO.out, List.length_append, chs_snoc]; exact ho4)
              have O4 : Hid (w4.ownsRow w.heap.size 38 9 u15 (mkO (fWord flow ack) wasCame (l.take (k + 1))).length (chs (mkO (fWord flow ack) wasCame (l.take (k + 1))))) := Lib.hid (by rw [mkO_no HX.out NO.out]; exact own_kept O2.out fun g' hg' => hg4.block g' (O2.out.lt g' hg').2 (fun e => NE.out g' e.symm hg'))
              have NE4 : Hid (∀ g', v4.ownBlock = some g' → u15.ownBlock ≠ some g') := Lib.hid fun g' hg' e => by
                rcases hn4 g' hg' with h4 | h4
                · exact NE.out g' h4 e
                · exact absurd (O2.out.lt g' e).2 (by omega)
              have B4 := Lib.hid (B2.out.trans ((Below.refl _ _).grown hg4 (show w.heap.size ≤ w2.heap.size from hbw) fun k hk => (Q2.out.lt k hk).1))
              clear ho4 hg4 hn4 b0 b1 b2 b3 b4 b5 b6 b7 b8 B2 O2 Q2 NE hroom hbw K1 QX OX
              go_wp2_with fail
              go_roundw
              case rel => exact ⟨k + 1, by omega, by go_num, Q4, O4, NE4, B4⟩
              case measure => simp [intOf]; omega
          · have h1' : sd ack x.en < 0 := by omega
            by_cases hfl : x.flow = flow
            · cases hlo : x.lost
              · rw [hlo] at b8
                have NO : Hid ((fWord flow ack) x = false) := Lib.hid (by unfold fWord; simp [h1])
                go_wp2_with fail
                refine (CD.out w2).mono ?_
                rintro e wq ⟨rfl, hwq⟩
                have hwq := hwq.symm
                subst hwq
                have hroom : ((mkA (fWord flow ack) wasCame (l.take k)).length + 1) * 64 ≤ room := room_ge (by rw [mkA_len, List.length_take]; omega)
                have hbw : w.heap.size ≤ w2.heap.size := B2.out.size
                have CEX : Hid (([.int .u64 (x.fr : Nat), .int .i64 x.len, .bool x.fin, .int .i64 flow, .int .u32 x.en, .int .i64 x.sent, .int .i64 x.tries, .bool false, .bool false] : List Value) = x.cells.toList) := Lib.hid (by simp [Chk.cells, hcm, hlo, hfl])
                have CONE : Hid (∀ u ∈ (#[.int .u64 (x.fr : Nat), .int .i64 x.len, .bool x.fin, .int .i64 flow, .int .u32 x.en, .int .i64 x.sent, .int .i64 x.tries, .bool false, .bool false] : Array Value).toList, u.oneCell' = true) := Lib.hid (fun u hu => chk_one x u (CEX.out ▸ hu))
                go_wp2_with (at_builtin; go_must (refine appZ2 fcEl #[.int .u64 (x.fr : Nat), .int .i64 x.len, .bool x.fin, .int .i64 flow, .int .u32 x.en, .int .i64 x.sent, .int .i64 x.tries, .bool false, .bool false] rfl CONE.out rfl _ _ rfl rfl Q2.out rfl rfl hroom hbw ?_))
                intro v4 w4 ho4 hg4 hn4
                rw [CEX.out] at ho4
                have Q4 : Hid (w4.ownsRow w.heap.size 38 9 v4 (mkA (fWord flow ack) wasCame (l.take (k + 1))).length (chs (mkA (fWord flow ack) wasCame (l.take (k + 1))))) := Lib.hid (by rw [mkA_no HX.out NO.out, List.length_append, chs_snoc]; exact ho4)
                have O4 : Hid (w4.ownsRow w.heap.size 38 9 u15 (mkO (fWord flow ack) wasCame (l.take (k + 1))).length (chs (mkO (fWord flow ack) wasCame (l.take (k + 1))))) := Lib.hid (by rw [mkO_no HX.out NO.out]; exact own_kept O2.out fun g' hg' => hg4.block g' (O2.out.lt g' hg').2 (fun e => NE.out g' e.symm hg'))
                have NE4 : Hid (∀ g', v4.ownBlock = some g' → u15.ownBlock ≠ some g') := Lib.hid fun g' hg' e => by
                  rcases hn4 g' hg' with h4 | h4
                  · exact NE.out g' h4 e
                  · exact absurd (O2.out.lt g' e).2 (by omega)
                have B4 := Lib.hid (B2.out.trans ((Below.refl _ _).grown hg4 (show w.heap.size ≤ w2.heap.size from hbw) fun k hk => (Q2.out.lt k hk).1))
                clear ho4 hg4 hn4 b0 b1 b2 b3 b4 b5 b6 b7 b8 B2 O2 Q2 NE hroom hbw K1 QX OX
                go_wp2_with fail
                go_roundw
                case rel => exact ⟨k + 1, by omega, by go_num, Q4, O4, NE4, B4⟩
                case measure => simp [intOf]; omega
              · rw [hlo] at b8
                have NO : Hid ((fWord flow ack) x = false) := Lib.hid (by unfold fWord; simp [hlo])
                go_wp2_with fail
                refine (CD.out w2).mono ?_
                rintro e wq ⟨rfl, hwq⟩
                have hwq := hwq.symm
                subst hwq
                have hroom : ((mkA (fWord flow ack) wasCame (l.take k)).length + 1) * 64 ≤ room := room_ge (by rw [mkA_len, List.length_take]; omega)
                have hbw : w.heap.size ≤ w2.heap.size := B2.out.size
                have CEX : Hid (([.int .u64 (x.fr : Nat), .int .i64 x.len, .bool x.fin, .int .i64 flow, .int .u32 x.en, .int .i64 x.sent, .int .i64 x.tries, .bool false, .bool true] : List Value) = x.cells.toList) := Lib.hid (by simp [Chk.cells, hcm, hlo, hfl])
                have CONE : Hid (∀ u ∈ (#[.int .u64 (x.fr : Nat), .int .i64 x.len, .bool x.fin, .int .i64 flow, .int .u32 x.en, .int .i64 x.sent, .int .i64 x.tries, .bool false, .bool true] : Array Value).toList, u.oneCell' = true) := Lib.hid (fun u hu => chk_one x u (CEX.out ▸ hu))
                go_wp2_with (at_builtin; go_must (refine appZ2 fcEl #[.int .u64 (x.fr : Nat), .int .i64 x.len, .bool x.fin, .int .i64 flow, .int .u32 x.en, .int .i64 x.sent, .int .i64 x.tries, .bool false, .bool true] rfl CONE.out rfl _ _ rfl rfl Q2.out rfl rfl hroom hbw ?_))
                intro v4 w4 ho4 hg4 hn4
                rw [CEX.out] at ho4
                have Q4 : Hid (w4.ownsRow w.heap.size 38 9 v4 (mkA (fWord flow ack) wasCame (l.take (k + 1))).length (chs (mkA (fWord flow ack) wasCame (l.take (k + 1))))) := Lib.hid (by rw [mkA_no HX.out NO.out, List.length_append, chs_snoc]; exact ho4)
                have O4 : Hid (w4.ownsRow w.heap.size 38 9 u15 (mkO (fWord flow ack) wasCame (l.take (k + 1))).length (chs (mkO (fWord flow ack) wasCame (l.take (k + 1))))) := Lib.hid (by rw [mkO_no HX.out NO.out]; exact own_kept O2.out fun g' hg' => hg4.block g' (O2.out.lt g' hg').2 (fun e => NE.out g' e.symm hg'))
                have NE4 : Hid (∀ g', v4.ownBlock = some g' → u15.ownBlock ≠ some g') := Lib.hid fun g' hg' e => by
                  rcases hn4 g' hg' with h4 | h4
                  · exact NE.out g' h4 e
                  · exact absurd (O2.out.lt g' e).2 (by omega)
                have B4 := Lib.hid (B2.out.trans ((Below.refl _ _).grown hg4 (show w.heap.size ≤ w2.heap.size from hbw) fun k hk => (Q2.out.lt k hk).1))
                clear ho4 hg4 hn4 b0 b1 b2 b3 b4 b5 b6 b7 b8 B2 O2 Q2 NE hroom hbw K1 QX OX
                go_wp2_with fail
                go_roundw
                case rel => exact ⟨k + 1, by omega, by go_num, Q4, O4, NE4, B4⟩
                case measure => simp [intOf]; omega
            · skip
              have NO : Hid ((fWord flow ack) x = false) := Lib.hid (by unfold fWord; simp [hfl])
              go_wp2_with fail
              refine (CD.out w2).mono ?_
              rintro e wq ⟨rfl, hwq⟩
              have hwq := hwq.symm
              subst hwq
              have hroom : ((mkA (fWord flow ack) wasCame (l.take k)).length + 1) * 64 ≤ room := room_ge (by rw [mkA_len, List.length_take]; omega)
              have hbw : w.heap.size ≤ w2.heap.size := B2.out.size
              have CEX : Hid (([.int .u64 (x.fr : Nat), .int .i64 x.len, .bool x.fin, .int .i64 x.flow, .int .u32 x.en, .int .i64 x.sent, .int .i64 x.tries, .bool false, .bool x.lost] : List Value) = x.cells.toList) := Lib.hid (by simp [Chk.cells, hcm])
              have CONE : Hid (∀ u ∈ (#[.int .u64 (x.fr : Nat), .int .i64 x.len, .bool x.fin, .int .i64 x.flow, .int .u32 x.en, .int .i64 x.sent, .int .i64 x.tries, .bool false, .bool x.lost] : Array Value).toList, u.oneCell' = true) := Lib.hid (fun u hu => chk_one x u (CEX.out ▸ hu))
              go_wp2_with (at_builtin; go_must (refine appZ2 fcEl #[.int .u64 (x.fr : Nat), .int .i64 x.len, .bool x.fin, .int .i64 x.flow, .int .u32 x.en, .int .i64 x.sent, .int .i64 x.tries, .bool false, .bool x.lost] rfl CONE.out rfl _ _ rfl rfl Q2.out rfl rfl hroom hbw ?_))
              intro v4 w4 ho4 hg4 hn4
              rw [CEX.out] at ho4
              have Q4 : Hid (w4.ownsRow w.heap.size 38 9 v4 (mkA (fWord flow ack) wasCame (l.take (k + 1))).length (chs (mkA (fWord flow ack) wasCame (l.take (k + 1))))) := Lib.hid (by rw [mkA_no HX.out NO.out, List.length_append, chs_snoc]; exact ho4)
              have O4 : Hid (w4.ownsRow w.heap.size 38 9 u15 (mkO (fWord flow ack) wasCame (l.take (k + 1))).length (chs (mkO (fWord flow ack) wasCame (l.take (k + 1))))) := Lib.hid (by rw [mkO_no HX.out NO.out]; exact own_kept O2.out fun g' hg' => hg4.block g' (O2.out.lt g' hg').2 (fun e => NE.out g' e.symm hg'))
              have NE4 : Hid (∀ g', v4.ownBlock = some g' → u15.ownBlock ≠ some g') := Lib.hid fun g' hg' e => by
                rcases hn4 g' hg' with h4 | h4
                · exact NE.out g' h4 e
                · exact absurd (O2.out.lt g' e).2 (by omega)
              have B4 := Lib.hid (B2.out.trans ((Below.refl _ _).grown hg4 (show w.heap.size ≤ w2.heap.size from hbw) fun k hk => (Q2.out.lt k hk).1))
              clear ho4 hg4 hn4 b0 b1 b2 b3 b4 b5 b6 b7 b8 B2 O2 Q2 NE hroom hbw K1 QX OX
              go_wp2_with fail
              go_roundw
              case rel => exact ⟨k + 1, by omega, by go_num, Q4, O4, NE4, B4⟩
              case measure => simp [intOf]; omega
        · rw [hcm] at b7
          by_cases hfl : x.flow = flow
          · cases hlo : x.lost
            · rw [hlo] at b8
              have NO : Hid ((fWord flow ack) x = false) := Lib.hid (by unfold fWord; simp [hcm])
              have hroom : ((mkA (fWord flow ack) wasCame (l.take k)).length + 1) * 64 ≤ room := room_ge (by rw [mkA_len, List.length_take]; omega)
              have hbw : w.heap.size ≤ w2.heap.size := B2.out.size
              have CEX : Hid (([.int .u64 (x.fr : Nat), .int .i64 x.len, .bool x.fin, .int .i64 flow, .int .u32 x.en, .int .i64 x.sent, .int .i64 x.tries, .bool true, .bool false] : List Value) = x.cells.toList) := Lib.hid (by simp [Chk.cells, hcm, hlo, hfl])
              have CONE : Hid (∀ u ∈ (#[.int .u64 (x.fr : Nat), .int .i64 x.len, .bool x.fin, .int .i64 flow, .int .u32 x.en, .int .i64 x.sent, .int .i64 x.tries, .bool true, .bool false] : Array Value).toList, u.oneCell' = true) := Lib.hid (fun u hu => chk_one x u (CEX.out ▸ hu))
              go_wp2_with (at_builtin; go_must (refine appZ2 fcEl #[.int .u64 (x.fr : Nat), .int .i64 x.len, .bool x.fin, .int .i64 flow, .int .u32 x.en, .int .i64 x.sent, .int .i64 x.tries, .bool true, .bool false] rfl CONE.out rfl _ _ rfl rfl Q2.out rfl rfl hroom hbw ?_))
              intro v4 w4 ho4 hg4 hn4
              rw [CEX.out] at ho4
              have Q4 : Hid (w4.ownsRow w.heap.size 38 9 v4 (mkA (fWord flow ack) wasCame (l.take (k + 1))).length (chs (mkA (fWord flow ack) wasCame (l.take (k + 1))))) := Lib.hid (by rw [mkA_no HX.out NO.out, List.length_append, chs_snoc]; exact ho4)
              have O4 : Hid (w4.ownsRow w.heap.size 38 9 u15 (mkO (fWord flow ack) wasCame (l.take (k + 1))).length (chs (mkO (fWord flow ack) wasCame (l.take (k + 1))))) := Lib.hid (by rw [mkO_no HX.out NO.out]; exact own_kept O2.out fun g' hg' => hg4.block g' (O2.out.lt g' hg').2 (fun e => NE.out g' e.symm hg'))
              have NE4 : Hid (∀ g', v4.ownBlock = some g' → u15.ownBlock ≠ some g') := Lib.hid fun g' hg' e => by
                rcases hn4 g' hg' with h4 | h4
                · exact NE.out g' h4 e
                · exact absurd (O2.out.lt g' e).2 (by omega)
              have B4 := Lib.hid (B2.out.trans ((Below.refl _ _).grown hg4 (show w.heap.size ≤ w2.heap.size from hbw) fun k hk => (Q2.out.lt k hk).1))
              clear ho4 hg4 hn4 b0 b1 b2 b3 b4 b5 b6 b7 b8 B2 O2 Q2 NE hroom hbw K1 QX OX
              go_wp2_with fail
              go_roundw
              case rel => exact ⟨k + 1, by omega, by go_num, Q4, O4, NE4, B4⟩
              case measure => simp [intOf]; omega
            · rw [hlo] at b8
              have NO : Hid ((fWord flow ack) x = false) := Lib.hid (by unfold fWord; simp [hlo])
              have hroom : ((mkA (fWord flow ack) wasCame (l.take k)).length + 1) * 64 ≤ room := room_ge (by rw [mkA_len, List.length_take]; omega)
              have hbw : w.heap.size ≤ w2.heap.size := B2.out.size
              have CEX : Hid (([.int .u64 (x.fr : Nat), .int .i64 x.len, .bool x.fin, .int .i64 flow, .int .u32 x.en, .int .i64 x.sent, .int .i64 x.tries, .bool true, .bool true] : List Value) = x.cells.toList) := Lib.hid (by simp [Chk.cells, hcm, hlo, hfl])
              have CONE : Hid (∀ u ∈ (#[.int .u64 (x.fr : Nat), .int .i64 x.len, .bool x.fin, .int .i64 flow, .int .u32 x.en, .int .i64 x.sent, .int .i64 x.tries, .bool true, .bool true] : Array Value).toList, u.oneCell' = true) := Lib.hid (fun u hu => chk_one x u (CEX.out ▸ hu))
              go_wp2_with (at_builtin; go_must (refine appZ2 fcEl #[.int .u64 (x.fr : Nat), .int .i64 x.len, .bool x.fin, .int .i64 flow, .int .u32 x.en, .int .i64 x.sent, .int .i64 x.tries, .bool true, .bool true] rfl CONE.out rfl _ _ rfl rfl Q2.out rfl rfl hroom hbw ?_))
              intro v4 w4 ho4 hg4 hn4
              rw [CEX.out] at ho4
              have Q4 : Hid (w4.ownsRow w.heap.size 38 9 v4 (mkA (fWord flow ack) wasCame (l.take (k + 1))).length (chs (mkA (fWord flow ack) wasCame (l.take (k + 1))))) := Lib.hid (by rw [mkA_no HX.out NO.out, List.length_append, chs_snoc]; exact ho4)
              have O4 : Hid (w4.ownsRow w.heap.size 38 9 u15 (mkO (fWord flow ack) wasCame (l.take (k + 1))).length (chs (mkO (fWord flow ack) wasCame (l.take (k + 1))))) := Lib.hid (by rw [mkO_no HX.out NO.out]; exact own_kept O2.out fun g' hg' => hg4.block g' (O2.out.lt g' hg').2 (fun e => NE.out g' e.symm hg'))
              have NE4 : Hid (∀ g', v4.ownBlock = some g' → u15.ownBlock ≠ some g') := Lib.hid fun g' hg' e => by
                rcases hn4 g' hg' with h4 | h4
                · exact NE.out g' h4 e
                · exact absurd (O2.out.lt g' e).2 (by omega)
              have B4 := Lib.hid (B2.out.trans ((Below.refl _ _).grown hg4 (show w.heap.size ≤ w2.heap.size from hbw) fun k hk => (Q2.out.lt k hk).1))
              clear ho4 hg4 hn4 b0 b1 b2 b3 b4 b5 b6 b7 b8 B2 O2 Q2 NE hroom hbw K1 QX OX
              go_wp2_with fail
              go_roundw
              case rel => exact ⟨k + 1, by omega, by go_num, Q4, O4, NE4, B4⟩
              case measure => simp [intOf]; omega
          · skip
            have NO : Hid ((fWord flow ack) x = false) := Lib.hid (by unfold fWord; simp [hfl])
            have hroom : ((mkA (fWord flow ack) wasCame (l.take k)).length + 1) * 64 ≤ room := room_ge (by rw [mkA_len, List.length_take]; omega)
            have hbw : w.heap.size ≤ w2.heap.size := B2.out.size
            have CEX : Hid (([.int .u64 (x.fr : Nat), .int .i64 x.len, .bool x.fin, .int .i64 x.flow, .int .u32 x.en, .int .i64 x.sent, .int .i64 x.tries, .bool true, .bool x.lost] : List Value) = x.cells.toList) := Lib.hid (by simp [Chk.cells, hcm])
            have CONE : Hid (∀ u ∈ (#[.int .u64 (x.fr : Nat), .int .i64 x.len, .bool x.fin, .int .i64 x.flow, .int .u32 x.en, .int .i64 x.sent, .int .i64 x.tries, .bool true, .bool x.lost] : Array Value).toList, u.oneCell' = true) := Lib.hid (fun u hu => chk_one x u (CEX.out ▸ hu))
            go_wp2_with (at_builtin; go_must (refine appZ2 fcEl #[.int .u64 (x.fr : Nat), .int .i64 x.len, .bool x.fin, .int .i64 x.flow, .int .u32 x.en, .int .i64 x.sent, .int .i64 x.tries, .bool true, .bool x.lost] rfl CONE.out rfl _ _ rfl rfl Q2.out rfl rfl hroom hbw ?_))
            intro v4 w4 ho4 hg4 hn4
            rw [CEX.out] at ho4
            have Q4 : Hid (w4.ownsRow w.heap.size 38 9 v4 (mkA (fWord flow ack) wasCame (l.take (k + 1))).length (chs (mkA (fWord flow ack) wasCame (l.take (k + 1))))) := Lib.hid (by rw [mkA_no HX.out NO.out, List.length_append, chs_snoc]; exact ho4)
            have O4 : Hid (w4.ownsRow w.heap.size 38 9 u15 (mkO (fWord flow ack) wasCame (l.take (k + 1))).length (chs (mkO (fWord flow ack) wasCame (l.take (k + 1))))) := Lib.hid (by rw [mkO_no HX.out NO.out]; exact own_kept O2.out fun g' hg' => hg4.block g' (O2.out.lt g' hg').2 (fun e => NE.out g' e.symm hg'))
            have NE4 : Hid (∀ g', v4.ownBlock = some g' → u15.ownBlock ≠ some g') := Lib.hid fun g' hg' e => by
              rcases hn4 g' hg' with h4 | h4
              · exact NE.out g' h4 e
              · exact absurd (O2.out.lt g' e).2 (by omega)
            have B4 := Lib.hid (B2.out.trans ((Below.refl _ _).grown hg4 (show w.heap.size ≤ w2.heap.size from hbw) fun k hk => (Q2.out.lt k hk).1))
            clear ho4 hg4 hn4 b0 b1 b2 b3 b4 b5 b6 b7 b8 B2 O2 Q2 NE hroom hbw K1 QX OX
            go_wp2_with fail
            go_roundw
            case rel => exact ⟨k + 1, by omega, by go_num, Q4, O4, NE4, B4⟩
            case measure => simp [intOf]; omega
      · skip
        by_cases hfl : x.flow = flow
        · cases hlo : x.lost
          · rw [hlo] at b8
            have NO : Hid ((fWord flow ack) x = false) := Lib.hid (by unfold fWord; simp [h0])
            have hroom : ((mkA (fWord flow ack) wasCame (l.take k)).length + 1) * 64 ≤ room := room_ge (by rw [mkA_len, List.length_take]; omega)
            have hbw : w.heap.size ≤ w2.heap.size := B2.out.size
            have CEX : Hid (([.int .u64 (x.fr : Nat), .int .i64 x.len, .bool x.fin, .int .i64 flow, .int .u32 x.en, .int .i64 x.sent, .int .i64 x.tries, .bool x.came, .bool false] : List Value) = x.cells.toList) := Lib.hid (by simp [Chk.cells, hlo, hfl])
            have CONE : Hid (∀ u ∈ (#[.int .u64 (x.fr : Nat), .int .i64 x.len, .bool x.fin, .int .i64 flow, .int .u32 x.en, .int .i64 x.sent, .int .i64 x.tries, .bool x.came, .bool false] : Array Value).toList, u.oneCell' = true) := Lib.hid (fun u hu => chk_one x u (CEX.out ▸ hu))
            go_wp2_with (at_builtin; go_must (refine appZ2 fcEl #[.int .u64 (x.fr : Nat), .int .i64 x.len, .bool x.fin, .int .i64 flow, .int .u32 x.en, .int .i64 x.sent, .int .i64 x.tries, .bool x.came, .bool false] rfl CONE.out rfl _ _ rfl rfl Q2.out rfl rfl hroom hbw ?_))
            intro v4 w4 ho4 hg4 hn4
            rw [CEX.out] at ho4
            have Q4 : Hid (w4.ownsRow w.heap.size 38 9 v4 (mkA (fWord flow ack) wasCame (l.take (k + 1))).length (chs (mkA (fWord flow ack) wasCame (l.take (k + 1))))) := Lib.hid (by rw [mkA_no HX.out NO.out, List.length_append, chs_snoc]; exact ho4)
            have O4 : Hid (w4.ownsRow w.heap.size 38 9 u15 (mkO (fWord flow ack) wasCame (l.take (k + 1))).length (chs (mkO (fWord flow ack) wasCame (l.take (k + 1))))) := Lib.hid (by rw [mkO_no HX.out NO.out]; exact own_kept O2.out fun g' hg' => hg4.block g' (O2.out.lt g' hg').2 (fun e => NE.out g' e.symm hg'))
            have NE4 : Hid (∀ g', v4.ownBlock = some g' → u15.ownBlock ≠ some g') := Lib.hid fun g' hg' e => by
              rcases hn4 g' hg' with h4 | h4
              · exact NE.out g' h4 e
              · exact absurd (O2.out.lt g' e).2 (by omega)
            have B4 := Lib.hid (B2.out.trans ((Below.refl _ _).grown hg4 (show w.heap.size ≤ w2.heap.size from hbw) fun k hk => (Q2.out.lt k hk).1))
            clear ho4 hg4 hn4 b0 b1 b2 b3 b4 b5 b6 b7 b8 B2 O2 Q2 NE hroom hbw K1 QX OX
            go_wp2_with fail
            go_roundw
            case rel => exact ⟨k + 1, by omega, by go_num, Q4, O4, NE4, B4⟩
            case measure => simp [intOf]; omega
          · rw [hlo] at b8
            have NO : Hid ((fWord flow ack) x = false) := Lib.hid (by unfold fWord; simp [hlo])
            have hroom : ((mkA (fWord flow ack) wasCame (l.take k)).length + 1) * 64 ≤ room := room_ge (by rw [mkA_len, List.length_take]; omega)
            have hbw : w.heap.size ≤ w2.heap.size := B2.out.size
            have CEX : Hid (([.int .u64 (x.fr : Nat), .int .i64 x.len, .bool x.fin, .int .i64 flow, .int .u32 x.en, .int .i64 x.sent, .int .i64 x.tries, .bool x.came, .bool true] : List Value) = x.cells.toList) := Lib.hid (by simp [Chk.cells, hlo, hfl])
            have CONE : Hid (∀ u ∈ (#[.int .u64 (x.fr : Nat), .int .i64 x.len, .bool x.fin, .int .i64 flow, .int .u32 x.en, .int .i64 x.sent, .int .i64 x.tries, .bool x.came, .bool true] : Array Value).toList, u.oneCell' = true) := Lib.hid (fun u hu => chk_one x u (CEX.out ▸ hu))
            go_wp2_with (at_builtin; go_must (refine appZ2 fcEl #[.int .u64 (x.fr : Nat), .int .i64 x.len, .bool x.fin, .int .i64 flow, .int .u32 x.en, .int .i64 x.sent, .int .i64 x.tries, .bool x.came, .bool true] rfl CONE.out rfl _ _ rfl rfl Q2.out rfl rfl hroom hbw ?_))
            intro v4 w4 ho4 hg4 hn4
            rw [CEX.out] at ho4
            have Q4 : Hid (w4.ownsRow w.heap.size 38 9 v4 (mkA (fWord flow ack) wasCame (l.take (k + 1))).length (chs (mkA (fWord flow ack) wasCame (l.take (k + 1))))) := Lib.hid (by rw [mkA_no HX.out NO.out, List.length_append, chs_snoc]; exact ho4)
            have O4 : Hid (w4.ownsRow w.heap.size 38 9 u15 (mkO (fWord flow ack) wasCame (l.take (k + 1))).length (chs (mkO (fWord flow ack) wasCame (l.take (k + 1))))) := Lib.hid (by rw [mkO_no HX.out NO.out]; exact own_kept O2.out fun g' hg' => hg4.block g' (O2.out.lt g' hg').2 (fun e => NE.out g' e.symm hg'))
            have NE4 : Hid (∀ g', v4.ownBlock = some g' → u15.ownBlock ≠ some g') := Lib.hid fun g' hg' e => by
              rcases hn4 g' hg' with h4 | h4
              · exact NE.out g' h4 e
              · exact absurd (O2.out.lt g' e).2 (by omega)
            have B4 := Lib.hid (B2.out.trans ((Below.refl _ _).grown hg4 (show w.heap.size ≤ w2.heap.size from hbw) fun k hk => (Q2.out.lt k hk).1))
            clear ho4 hg4 hn4 b0 b1 b2 b3 b4 b5 b6 b7 b8 B2 O2 Q2 NE hroom hbw K1 QX OX
            go_wp2_with fail
            go_roundw
            case rel => exact ⟨k + 1, by omega, by go_num, Q4, O4, NE4, B4⟩
            case measure => simp [intOf]; omega
        · skip
          have NO : Hid ((fWord flow ack) x = false) := Lib.hid (by unfold fWord; simp [hfl])
          have hroom : ((mkA (fWord flow ack) wasCame (l.take k)).length + 1) * 64 ≤ room := room_ge (by rw [mkA_len, List.length_take]; omega)
          have hbw : w.heap.size ≤ w2.heap.size := B2.out.size
          have CEX : Hid (([.int .u64 (x.fr : Nat), .int .i64 x.len, .bool x.fin, .int .i64 x.flow, .int .u32 x.en, .int .i64 x.sent, .int .i64 x.tries, .bool x.came, .bool x.lost] : List Value) = x.cells.toList) := Lib.hid (by simp [Chk.cells, ])
          have CONE : Hid (∀ u ∈ (#[.int .u64 (x.fr : Nat), .int .i64 x.len, .bool x.fin, .int .i64 x.flow, .int .u32 x.en, .int .i64 x.sent, .int .i64 x.tries, .bool x.came, .bool x.lost] : Array Value).toList, u.oneCell' = true) := Lib.hid (fun u hu => chk_one x u (CEX.out ▸ hu))
          go_wp2_with (at_builtin; go_must (refine appZ2 fcEl #[.int .u64 (x.fr : Nat), .int .i64 x.len, .bool x.fin, .int .i64 x.flow, .int .u32 x.en, .int .i64 x.sent, .int .i64 x.tries, .bool x.came, .bool x.lost] rfl CONE.out rfl _ _ rfl rfl Q2.out rfl rfl hroom hbw ?_))
          intro v4 w4 ho4 hg4 hn4
          rw [CEX.out] at ho4
          have Q4 : Hid (w4.ownsRow w.heap.size 38 9 v4 (mkA (fWord flow ack) wasCame (l.take (k + 1))).length (chs (mkA (fWord flow ack) wasCame (l.take (k + 1))))) := Lib.hid (by rw [mkA_no HX.out NO.out, List.length_append, chs_snoc]; exact ho4)
          have O4 : Hid (w4.ownsRow w.heap.size 38 9 u15 (mkO (fWord flow ack) wasCame (l.take (k + 1))).length (chs (mkO (fWord flow ack) wasCame (l.take (k + 1))))) := Lib.hid (by rw [mkO_no HX.out NO.out]; exact own_kept O2.out fun g' hg' => hg4.block g' (O2.out.lt g' hg').2 (fun e => NE.out g' e.symm hg'))
          have NE4 : Hid (∀ g', v4.ownBlock = some g' → u15.ownBlock ≠ some g') := Lib.hid fun g' hg' e => by
            rcases hn4 g' hg' with h4 | h4
            · exact NE.out g' h4 e
            · exact absurd (O2.out.lt g' e).2 (by omega)
          have B4 := Lib.hid (B2.out.trans ((Below.refl _ _).grown hg4 (show w.heap.size ≤ w2.heap.size from hbw) fun k hk => (Q2.out.lt k hk).1))
          clear ho4 hg4 hn4 b0 b1 b2 b3 b4 b5 b6 b7 b8 B2 O2 Q2 NE hroom hbw K1 QX OX
          go_wp2_with fail
          go_roundw
          case rel => exact ⟨k + 1, by omega, by go_num, Q4, O4, NE4, B4⟩
          case measure => simp [intOf]; omega
    · obtain rfl : k = n := by omega
      have hT : l.take k = l := List.take_of_length_le (by rw [HN.out]; exact Nat.le_refl _)
      rw [hT] at HQ HO
      clear hlt hT
      go_wp2_with fail
      go_ret2
      exact ⟨_, _, rfl, HQ.out, HO.out, BB.out⟩
end Go.Proofs.Ytbipcnboammpeaa
