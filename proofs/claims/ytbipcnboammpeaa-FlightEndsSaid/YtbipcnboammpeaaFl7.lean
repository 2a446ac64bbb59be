/- Package flight: Acked. -/
import Derived.Test.YtbipcnboammpeaaFl6
namespace Go.Proofs.Ytbipcnboammpeaa
open Go.RowKit
set_option linter.unusedVariables false
set_option linter.unusedSimpArgs false
theorem own_open2 {w : World} {B : Nat} {v : Value} {l : List Chk} (h : w.ownsRow B 30 9 v l.length (chs l)) : ∃ (A : Option Addr) (n c : Nat), v = .slice A n c ∧ n ≤ c ∧ c ≤ maxLen ∧ Hid (l.length = n) ∧ Hid (Rd w w.heap.size 9 A n (chs l)) := by
  obtain ⟨A, c, rfl, h1, h2, h3⟩ := own_form h
  exact ⟨A, _, c, rfl, h1, h2, Lib.hid rfl, Lib.hid h3⟩
set_option maxRecDepth 20000 in
set_option maxHeartbeats 4000000 in
theorem fl_acked (B g most : Nat) (l : List Chk) (to : Nat) (w : World) (h : FL w B g most l) (hl : l.length ≤ 64) (hok : ∀ c ∈ l, c.ok) :
    Calls Try.prog 23 #[.pointer (some ⟨g, 0, none⟩), .int .u64 (to : Nat)] w fun e w' => ∃ v, e = .returned v ∧ FL w' B g most (akK to l) ∧ w'.ownsRow w.heap.size 30 9 v (akG to l).length (chs (akG to l)) ∧ Kp B g w w' := by
  obtain ⟨A, n, c, hn, hnc, hcm, HK, HO, HR⟩ := h.open_
  have HOKL := Lib.hid hok
  have HN := Lib.hid hn
  have hn64 : n ≤ 64 := by omega
  have HB := Lib.hid (And.intro h.hB h.hw)
  have g1 : w.cell? ⟨g, 1, none⟩ = some (.slice A n c) := by rw [HK.out.cell]; rfl
  clear h hn hcm hl hok HO
  go_enter Try.func23, Try.ntmps23
  go_wp2_with fail
  have HG0 : Hid (w.ownsRow w.heap.size 30 9 (.slice none 0 0) (akG to (l.take 0)).length (chs (akG to (l.take 0)))) := Lib.hid (World.ownsRow_nil _ _ _ _)
  have HQ0 : Hid (w.ownsRow w.heap.size 30 9 (.slice none 0 0) (akK to (l.take 0)).length (chs (akK to (l.take 0)))) := Lib.hid (World.ownsRow_nil _ _ _ _)
  clear g1
  go_loopw [5, 6, 14] (fun qv gv iv wr => ∃ (k : Nat) , k ≤ n ∧ iv = .int .i64 (k : Nat) ∧ Hid (wr.ownsRow w.heap.size 30 9 qv (akK to (l.take k)).length (chs (akK to (l.take k)))) ∧ Hid (wr.ownsRow w.heap.size 30 9 gv (akG to (l.take k)).length (chs (akG to (l.take k)))) ∧ Hid (∀ g', qv.ownBlock = some g' → gv.ownBlock ≠ some g') ∧ Hid (Below w.heap.size w wr)) (fun _ _ iv _ => n - (intOf iv).toNat)
  case atStart => exact ⟨0, Nat.zero_le _, rfl, HQ0, HG0, Lib.hid (fun g' e => by cases e), Lib.hid (Below.refl _ _)⟩
  case round =>
    clear HQ0 HG0
    obtain ⟨k, hk, rfl, HQ, HG, NE, BB⟩ := hrel
    by_cases hlt : k < n
    · have hlt' : (k : Int) < (n : Int) := by omega
      have hk0 : ¬ (k : Int) < 0 := by omega
      obtain ⟨rb, off, x, hA, hrb, HC, HX⟩ := HR.out.chk hlt
      subst hA
      obtain ⟨a0, a1, a2, a3, a4, a5, a6, a7, a8⟩ := ck9 (w := wr) (o := off + k * 9) (fun j v hj => (BB.out.cell (p := ⟨rb, off + k * 9 + j, none⟩) hrb).trans (HC.out j v hj))
      have hbz := BB.out.size
      by_cases hto : to < toN x
      · have hcmp : ¬ ((toN x : Nat) : Int) ≤ (to : Nat) := by omega
        have CT := Lib.hid (flto_any x)
        go_upto_region 5 with fail
        have K1 := Lib.hid (Blk.new wr 30 #[.int .u64 (x.fr : Nat), .int .i64 x.len, .bool x.fin, .int .i64 x.flow, .int .u32 x.en, .int .i64 x.sent, .int .i64 x.tries, .bool x.came, .bool x.lost])
        have hb1 := (Below.refl wr.heap.size wr).alloc (Nat.le_refl _) (.cells #[.int .u64 (x.fr : Nat), .int .i64 x.len, .bool x.fin, .int .i64 x.flow, .int .u32 x.en, .int .i64 x.sent, .int .i64 x.tries, .bool x.came, .bool x.lost] 30)
        have B2 := Lib.hid (BB.out.trans (hb1.mono hbz))
        have G2 := Lib.hid (own_below HG.out hb1 fun g hg => (HG.out.lt g hg).2)
        have Q2 := Lib.hid (own_below HQ.out hb1 fun g hg => (HQ.out.lt g hg).2)
        clear hb1 BB HG HQ a0 a1 a2 a3 a4 a5 a6 a7 a8
        generalize wr.heap.size = X at *
        generalize wr.alloc (.cells #[.int .u64 (x.fr : Nat), .int .i64 x.len, .bool x.fin, .int .i64 x.flow, .int .u32 x.en, .int .i64 x.sent, .int .i64 x.tries, .bool x.came, .bool x.lost] 30) = w2 at *
        obtain ⟨b0, b1, b2, b3, b4, b5, b6, b7, b8⟩ := ckb (c := x) K1.out
        go_wp2_with fail
        refine (CT.out w2 (HOKL.out x (List.mem_of_getElem? HX.out))).mono ?_
        rintro e w3 ⟨rfl, hb3⟩
        have B3 := Lib.hid (B2.out.trans (hb3.mono B2.out.size))
        have K3 := Lib.hid (Blk.below K1.out hb3 K1.out.lt)
        have G3 := Lib.hid (own_below G2.out hb3 fun g hg => (G2.out.lt g hg).2)
        have Q3 := Lib.hid (own_below Q2.out hb3 fun g hg => (Q2.out.lt g hg).2)
        clear hb3 b0 b1 b2 b3 b4 b5 b6 b7 b8 B2 K1 G2 Q2 CT
        obtain ⟨b0, b1, b2, b3, b4, b5, b6, b7, b8⟩ := ckb (c := x) K3.out
        have hbw : w.heap.size ≤ w3.heap.size := B3.out.size
        have hroom : ((akK to (l.take k)).length + 1) * 64 ≤ room := room_ge (by have := akK_le (to := to) (l := l.take k); rw [List.length_take] at this; omega)
        go_wp2_with (at_builtin; go_must (refine appZ2 flkEl x.cells rfl (chk_one _) rfl _ _ rfl rfl Q3.out rfl rfl hroom hbw ?_))
        intro v4 w4 ho4 hg4 hn4
        have Q4 : Hid (w4.ownsRow w.heap.size 30 9 v4 (akK to (l.take (k + 1))).length (chs (akK to (l.take (k + 1))))) := Lib.hid (by rw [akK_yes HX.out hto, List.length_append, chs_snoc]; exact ho4)
        have G4 : Hid (w4.ownsRow w.heap.size 30 9 u6 (akG to (l.take (k + 1))).length (chs (akG to (l.take (k + 1))))) := Lib.hid (by rw [akG_yes HX.out hto]; exact own_kept G3.out fun g' hg' => hg4.block g' (G3.out.lt g' hg').2 (fun e => NE.out g' e.symm hg'))
        have NE4 : Hid (∀ g', v4.ownBlock = some g' → u6.ownBlock ≠ some g') := Lib.hid fun g' hg' e => by
          rcases hn4 g' hg' with h4 | h4
          · exact NE.out g' h4 e
          · exact absurd (G3.out.lt g' e).2 (by omega)
        have B4 := Lib.hid (B3.out.trans ((Below.refl _ _).grown hg4 (show w.heap.size ≤ w3.heap.size from hbw) fun k hk => (Q3.out.lt k hk).1))
        clear ho4 hg4 hn4 b0 b1 b2 b3 b4 b5 b6 b7 b8 B3 K3 G3 Q3 NE hroom hbw
        go_wp2_with fail
        go_roundw
        case rel => exact ⟨k + 1, by omega, by go_num, Q4, G4, NE4, B4⟩
        case measure => simp [intOf]; omega
      · have hcmp : ((toN x : Nat) : Int) ≤ (to : Nat) := by omega
        have CT := Lib.hid (flto_any x)
        go_upto_region 5 with fail
        have K1 := Lib.hid (Blk.new wr 30 #[.int .u64 (x.fr : Nat), .int .i64 x.len, .bool x.fin, .int .i64 x.flow, .int .u32 x.en, .int .i64 x.sent, .int .i64 x.tries, .bool x.came, .bool x.lost])
        have hb1 := (Below.refl wr.heap.size wr).alloc (Nat.le_refl _) (.cells #[.int .u64 (x.fr : Nat), .int .i64 x.len, .bool x.fin, .int .i64 x.flow, .int .u32 x.en, .int .i64 x.sent, .int .i64 x.tries, .bool x.came, .bool x.lost] 30)
        have B2 := Lib.hid (BB.out.trans (hb1.mono hbz))
        have G2 := Lib.hid (own_below HG.out hb1 fun g hg => (HG.out.lt g hg).2)
        have Q2 := Lib.hid (own_below HQ.out hb1 fun g hg => (HQ.out.lt g hg).2)
        clear hb1 BB HG HQ a0 a1 a2 a3 a4 a5 a6 a7 a8
        generalize wr.heap.size = X at *
        generalize wr.alloc (.cells #[.int .u64 (x.fr : Nat), .int .i64 x.len, .bool x.fin, .int .i64 x.flow, .int .u32 x.en, .int .i64 x.sent, .int .i64 x.tries, .bool x.came, .bool x.lost] 30) = w2 at *
        obtain ⟨b0, b1, b2, b3, b4, b5, b6, b7, b8⟩ := ckb (c := x) K1.out
        go_wp2_with fail
        refine (CT.out w2 (HOKL.out x (List.mem_of_getElem? HX.out))).mono ?_
        rintro e w3 ⟨rfl, hb3⟩
        have B3 := Lib.hid (B2.out.trans (hb3.mono B2.out.size))
        have K3 := Lib.hid (Blk.below K1.out hb3 K1.out.lt)
        have G3 := Lib.hid (own_below G2.out hb3 fun g hg => (G2.out.lt g hg).2)
        have Q3 := Lib.hid (own_below Q2.out hb3 fun g hg => (Q2.out.lt g hg).2)
        clear hb3 b0 b1 b2 b3 b4 b5 b6 b7 b8 B2 K1 G2 Q2 CT
        obtain ⟨b0, b1, b2, b3, b4, b5, b6, b7, b8⟩ := ckb (c := x) K3.out
        have hbw : w.heap.size ≤ w3.heap.size := B3.out.size
        have hroom : ((akG to (l.take k)).length + 1) * 64 ≤ room := room_ge (by have := akG_le (to := to) (l := l.take k); rw [List.length_take] at this; omega)
        go_wp2_with (at_builtin; go_must (refine appZ2 flkEl x.cells rfl (chk_one _) rfl _ _ rfl rfl G3.out rfl rfl hroom hbw ?_))
        intro v4 w4 ho4 hg4 hn4
        have G4 : Hid (w4.ownsRow w.heap.size 30 9 v4 (akG to (l.take (k + 1))).length (chs (akG to (l.take (k + 1))))) := Lib.hid (by rw [akG_no HX.out hto, List.length_append, chs_snoc]; exact ho4)
        have Q4 : Hid (w4.ownsRow w.heap.size 30 9 u5 (akK to (l.take (k + 1))).length (chs (akK to (l.take (k + 1))))) := Lib.hid (by rw [akK_no HX.out hto]; exact own_kept Q3.out fun g' hg' => hg4.block g' (Q3.out.lt g' hg').2 (fun e => NE.out g' hg' e.symm))
        have NE4 : Hid (∀ g', u5.ownBlock = some g' → v4.ownBlock ≠ some g') := Lib.hid fun g' hg' e => by
          rcases hn4 g' e with h4 | h4
          · exact NE.out g' hg' h4
          · exact absurd (Q3.out.lt g' hg').2 (by omega)
        have B4 := Lib.hid (B3.out.trans ((Below.refl _ _).grown hg4 (show w.heap.size ≤ w3.heap.size from hbw) fun k hk => (G3.out.lt k hk).1))
        clear ho4 hg4 hn4 b0 b1 b2 b3 b4 b5 b6 b7 b8 B3 K3 G3 Q3 NE hroom hbw
        go_wp2_with fail
        go_roundw
        case rel => exact ⟨k + 1, by omega, by go_num, Q4, G4, NE4, B4⟩
        case measure => simp [intOf]; omega
    · obtain rfl : k = n := by omega
      have hT : l.take k = l := List.take_of_length_le (by rw [HN.out]; exact Nat.le_refl _)
      rw [hT] at HQ HG
      obtain ⟨A2, n2, c2, hA2, hnn, hcm2, hlen2, HR2⟩ := own_open2 HQ.out
      subst hA2
      have KG := Lib.hid (Blk.below HK.out BB.out HK.out.lt)
      have f1 := KG.out.frozen 1
      have g1 : wr.cell? ⟨g, 1, none⟩ = some (.slice A k c) := by rw [KG.out.cell]; rfl
      clear hlt hT
      go_wp2_with fail
      go_ret
      have hs6 : Solo g wr (wr.setCell ⟨g, 1, none⟩ (.slice A2 n2 c2)) := Solo.refl.setCell 1 _
      have K6 : Blk (wr.setCell ⟨g, 1, none⟩ (.slice A2 n2 c2)) g 57 #[.int .i64 (most : Nat), .slice A2 n2 c2] := KG.out.set 1 _
      have Q6 := own_kept HQ.out fun k hk => hs6.2.2 k (fun e => by subst e; exact own_nt HQ.out KG.out (by decide) hk)
      have G6 := own_kept HG.out fun k hk => hs6.2.2 k (fun e => by subst e; exact own_nt HG.out KG.out (by decide) hk)
      have P6 := (Kp.of (B := B) (g := g) BB.out).solo hs6
      rw [hlen2.out] at Q6
      exact ⟨_, rfl, FL.shut HB.out.1 (Nat.le_trans HB.out.2 P6.size) hlen2.out K6 (own_mono Q6 HB.out.2), G6, P6⟩
end Go.Proofs.Ytbipcnboammpeaa
