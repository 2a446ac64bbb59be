/- Layer 16 by the document: Acked, Mark. -/
import Derived.Test.YtbipcnboammpeaaFlr1
namespace Go.Proofs.Ytbipcnboammpeaa
open Go.RowKit
set_option linter.unusedVariables false
set_option linter.unusedSimpArgs false
set_option maxRecDepth 20000 in
set_option maxHeartbeats 4000000 in
theorem rack_any (A : Option Addr) (n c : Nat) (l : List Chk) (to : Nat) (w : World) (hr : Rd w w.heap.size 9 A n (chs l)) (hl : n ≤ 64) (hok : ∀ c ∈ l, c.ok) :
    Calls Try.prog 24 #[.slice A n c, .int .u64 (to : Nat)] w fun e w' => ∃ v1 v2, e = .returned (.tuple #[v1, v2]) ∧ w'.ownsRow w.heap.size 38 9 v1 (akK to l).length (chs (akK to l)) ∧ w'.ownsRow w.heap.size 38 9 v2 (akG to l).length (chs (akG to l)) ∧ Below w.heap.size w w' := by
  have HR := Lib.hid hr
  have HOKL := Lib.hid hok
  have HN := Lib.hid hr.chkLen
  clear hr hok
  go_enter Try.func24, Try.ntmps24
  go_wp2_with fail
  have HG0 : Hid (w.ownsRow w.heap.size 38 9 (.slice none 0 0) (akG to (l.take 0)).length (chs (akG to (l.take 0)))) := Lib.hid (World.ownsRow_nil _ _ _ _)
  have HQ0 : Hid (w.ownsRow w.heap.size 38 9 (.slice none 0 0) (akK to (l.take 0)).length (chs (akK to (l.take 0)))) := Lib.hid (World.ownsRow_nil _ _ _ _)
  go_loopw [6, 7, 8] (fun qv gv iv wr => ∃ (k : Nat) , k ≤ n ∧ iv = .int .i64 (k : Nat) ∧ Hid (wr.ownsRow w.heap.size 38 9 qv (akK to (l.take k)).length (chs (akK to (l.take k)))) ∧ Hid (wr.ownsRow w.heap.size 38 9 gv (akG to (l.take k)).length (chs (akG to (l.take k)))) ∧ Hid (∀ g', qv.ownBlock = some g' → gv.ownBlock ≠ some g') ∧ Hid (Below w.heap.size w wr)) (fun _ _ iv _ => n - (intOf iv).toNat)
  case atStart => exact ⟨0, Nat.zero_le _, rfl, HQ0, HG0, Lib.hid (fun g' e => by cases e), Lib.hid (Below.refl _ _)⟩
  case round =>
    clear HQ0 HG0
    obtain ⟨k, hk, rfl, HQ, HG, NE, BB⟩ := hrel
    by_cases hlt : k < n
    · have hlt' : (k : Int) < (n : Int) := by omega
      have hk0 : ¬ (k : Int) < 0 := by omega
      obtain ⟨rb, off, x, hA, hrb, HC, HX⟩ := HR.out.chk hlt
      subst hA
      obtain ⟨a0, a1, a2, a3, a4, a5, a6, a7, a8⟩ := ck9 (w := wr) (o := off + k * 9) (fun j v hj => (BB.out.cell (p := ⟨rb, off + k * 9 + j, none⟩) hrb).trans (HC.out j v hj))
      by_cases hto : to < toN x
      · have hcmp : ((to : Nat) : Int) < (toN x : Nat) := by omega
        have CT := Lib.hid (rto_any x wr (HOKL.out x (List.mem_of_getElem? HX.out)))
        go_wp2_with fail
        refine CT.out.mono ?_
        rintro e w3 ⟨rfl, hb3⟩
        have B3 := Lib.hid (BB.out.trans (hb3.mono BB.out.size))
        have G3 := Lib.hid (own_below HG.out hb3 fun g hg => (HG.out.lt g hg).2)
        have Q3 := Lib.hid (own_below HQ.out hb3 fun g hg => (HQ.out.lt g hg).2)
        clear hb3 a0 a1 a2 a3 a4 a5 a6 a7 a8 BB HG HQ CT
        obtain ⟨a0, a1, a2, a3, a4, a5, a6, a7, a8⟩ := ck9 (w := w3) (o := off + k * 9) (fun j v hj => (B3.out.cell (p := ⟨rb, off + k * 9 + j, none⟩) hrb).trans (HC.out j v hj))
        have hbw : w.heap.size ≤ w3.heap.size := B3.out.size
        have hroom : ((akK to (l.take k)).length + 1) * 64 ≤ room := room_ge (by have := akK_le (to := to) (l := l.take k); rw [List.length_take] at this; omega)
        go_wp2_with (at_builtin; go_must (refine appZ2 fcEl x.cells rfl (chk_one _) rfl _ _ rfl rfl Q3.out rfl rfl hroom hbw ?_))
        intro v4 w4 ho4 hg4 hn4
        have Q4 : Hid (w4.ownsRow w.heap.size 38 9 v4 (akK to (l.take (k + 1))).length (chs (akK to (l.take (k + 1))))) := Lib.hid (by rw [akK_yes HX.out hto, List.length_append, chs_snoc]; exact ho4)
        have G4 : Hid (w4.ownsRow w.heap.size 38 9 u7 (akG to (l.take (k + 1))).length (chs (akG to (l.take (k + 1))))) := Lib.hid (by rw [akG_yes HX.out hto]; exact own_kept G3.out fun g' hg' => hg4.block g' (G3.out.lt g' hg').2 (fun e => NE.out g' e.symm hg'))
        have NE4 : Hid (∀ g', v4.ownBlock = some g' → u7.ownBlock ≠ some g') := Lib.hid fun g' hg' e => by
          rcases hn4 g' hg' with h4 | h4
          · exact NE.out g' h4 e
          · exact absurd (G3.out.lt g' e).2 (by omega)
        have B4 := Lib.hid (B3.out.trans ((Below.refl _ _).grown hg4 (show w.heap.size ≤ w3.heap.size from hbw) fun k hk => (Q3.out.lt k hk).1))
        clear ho4 hg4 hn4 a0 a1 a2 a3 a4 a5 a6 a7 a8 B3 G3 Q3 NE hroom hbw
        go_wp2_with fail
        go_roundw
        case rel => exact ⟨k + 1, by omega, by go_num, Q4, G4, NE4, B4⟩
        case measure => simp [intOf]; omega
      · have hcmp : ¬ ((to : Nat) : Int) < (toN x : Nat) := by omega
        have CT := Lib.hid (rto_any x wr (HOKL.out x (List.mem_of_getElem? HX.out)))
        go_wp2_with fail
        refine CT.out.mono ?_
        rintro e w3 ⟨rfl, hb3⟩
        have B3 := Lib.hid (BB.out.trans (hb3.mono BB.out.size))
        have G3 := Lib.hid (own_below HG.out hb3 fun g hg => (HG.out.lt g hg).2)
        have Q3 := Lib.hid (own_below HQ.out hb3 fun g hg => (HQ.out.lt g hg).2)
        clear hb3 a0 a1 a2 a3 a4 a5 a6 a7 a8 BB HG HQ CT
        obtain ⟨a0, a1, a2, a3, a4, a5, a6, a7, a8⟩ := ck9 (w := w3) (o := off + k * 9) (fun j v hj => (B3.out.cell (p := ⟨rb, off + k * 9 + j, none⟩) hrb).trans (HC.out j v hj))
        have hbw : w.heap.size ≤ w3.heap.size := B3.out.size
        have hroom : ((akG to (l.take k)).length + 1) * 64 ≤ room := room_ge (by have := akG_le (to := to) (l := l.take k); rw [List.length_take] at this; omega)
        go_wp2_with (at_builtin; go_must (refine appZ2 fcEl x.cells rfl (chk_one _) rfl _ _ rfl rfl G3.out rfl rfl hroom hbw ?_))
        intro v4 w4 ho4 hg4 hn4
        have G4 : Hid (w4.ownsRow w.heap.size 38 9 v4 (akG to (l.take (k + 1))).length (chs (akG to (l.take (k + 1))))) := Lib.hid (by rw [akG_no HX.out hto, List.length_append, chs_snoc]; exact ho4)
        have Q4 : Hid (w4.ownsRow w.heap.size 38 9 u6 (akK to (l.take (k + 1))).length (chs (akK to (l.take (k + 1))))) := Lib.hid (by rw [akK_no HX.out hto]; exact own_kept Q3.out fun g' hg' => hg4.block g' (Q3.out.lt g' hg').2 (fun e => NE.out g' hg' e.symm))
        have NE4 : Hid (∀ g', u6.ownBlock = some g' → v4.ownBlock ≠ some g') := Lib.hid fun g' hg' e => by
          rcases hn4 g' e with h4 | h4
          · exact NE.out g' hg' h4
          · exact absurd (Q3.out.lt g' hg').2 (by omega)
        have B4 := Lib.hid (B3.out.trans ((Below.refl _ _).grown hg4 (show w.heap.size ≤ w3.heap.size from hbw) fun k hk => (G3.out.lt k hk).1))
        clear ho4 hg4 hn4 a0 a1 a2 a3 a4 a5 a6 a7 a8 B3 G3 Q3 NE hroom hbw
        go_wp2_with fail
        go_roundw
        case rel => exact ⟨k + 1, by omega, by go_num, Q4, G4, NE4, B4⟩
        case measure => simp [intOf]; omega
    · obtain rfl : k = n := by omega
      have hT : l.take k = l := List.take_of_length_le (by rw [HN.out]; exact Nat.le_refl _)
      rw [hT] at HQ HG
      clear hlt hT
      go_wp2_with fail
      go_ret2
      exact ⟨_, _, rfl, HQ.out, HG.out, BB.out⟩
end Go.Proofs.Ytbipcnboammpeaa
