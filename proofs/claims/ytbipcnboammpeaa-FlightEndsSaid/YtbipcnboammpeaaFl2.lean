/- Package flight: turn, for whatever is asked and done. -/
import Derived.Test.YtbipcnboammpeaaFl1
namespace Go.Proofs.Ytbipcnboammpeaa
open Go.RowKit
set_option linter.unusedVariables false
set_option linter.unusedSimpArgs false
/-- A piece as a value. -/
def Chk.agg (c : Chk) : Value := .agg c.cells
theorem chk_agg (c : Chk) : c.agg = .agg #[.int .u64 (c.fr : Nat), .int .i64 c.len, .bool c.fin, .int .i64 c.flow, .int .u32 c.en, .int .i64 c.sent, .int .i64 c.tries, .bool c.came, .bool c.lost] := rfl
def trnP (flow : Int) (p : Chk → Bool) (c : Chk) : Bool := decide (c.flow = flow) && !c.lost && p c
set_option maxRecDepth 20000 in
set_option maxHeartbeats 4000000 in
theorem fl_turn (B g most : Nat) (l : List Chk) (flow : Int) (f d : Nat) (lb : Array Value) (p : Chk → Bool) (q : Nat) (gf : Chk → Chk) (w : World) (hq : q < 9)
    (hgf : ∀ c, (gf c).el = c.el.set q (.bool true)) (hcb : ∀ c : Chk, ∃ b, c.el[q]? = some (.bool b))
    (ef : ∀ args w, (callFunc f args).run Try.prog w = .ok (.enter f args) w) (ed : ∀ args w, (callFunc d args).run Try.prog w = .ok (.enter d args) w)
    (hp : ∀ (w' : World) (c : Chk), Kp B g w w' → c ∈ l → Calls Try.prog f (#[c.agg] ++ lb) w' fun e w'' => e = .returned (.bool (p c)) ∧ Below w'.heap.size w' w'')
    (hd : ∀ (rb o : Nat) (b : Bool) (w' : World), w'.cell? ⟨rb, o + q, none⟩ = some (.bool b) → w'.frozen? ⟨rb, o + q, none⟩ = false → Calls Try.prog d #[.pointer (some ⟨rb, o, none⟩)] w' fun e w'' => e = .returned (.tuple #[]) ∧ w'' = w'.setCell ⟨rb, o + q, none⟩ (.bool true))
    (h : FL w B g most l) (hl : l.length ≤ 64) :
    Calls Try.prog 34 #[.pointer (some ⟨g, 0, none⟩), .int .i64 flow, .func (.func f) #[] lb, .func (.func d) #[] #[]] w fun e w' => ∃ v, e = .returned v ∧ FL w' B g most (mkA (trnP flow p) gf l) ∧ w'.ownsRow w.heap.size 30 9 v (mkO (trnP flow p) gf l).length (chs (mkO (trnP flow p) gf l)) ∧ Kp B g w w' := by
  obtain ⟨A, n, c, hn, hnc, hcm, HK, HO, HR⟩ := h.open_
  have g1 : w.cell? ⟨g, 1, none⟩ = some (.slice A n c) := by rw [HK.out.cell]; rfl
  have HB := Lib.hid (And.intro h.hB h.hw)
  have HG := Lib.hid hgf
  have HC := Lib.hid hcb
  have HP := Lib.hid hp
  have HD := Lib.hid hd
  have HCM := Lib.hid hcm
  have HN := Lib.hid hn
  have HGL := Lib.hid HK.out.lt
  have HRL := Lib.hid (fun g' (hg' : (Value.slice A n c).ownBlock = some g') => (HO.out.lt g' hg').2)
  have hn64 : n ≤ 64 := by omega
  clear h hn hcm hl hgf hcb hp hd HR
  go_enter Try.func34, Try.ntmps34
  go_wp2_with fail
  have HNIL : Hid (w.ownsRow w.heap.size 30 9 (.slice none 0 0) (mkO (trnP flow p) gf (l.take 0)).length (chs (mkO (trnP flow p) gf (l.take 0)))) := Lib.hid (World.ownsRow_nil _ _ _ _)
  clear g1
  go_loopw [9, 17] (fun ov iv wr => ∃ (k : Nat) , k ≤ n ∧ iv = .int .i64 (k : Nat) ∧ Hid (Blk wr g 57 #[.int .i64 (most : Nat), .slice A n c]) ∧ Hid (wr.ownsRow B 30 9 (.slice A n c) n (chs (mkM (trnP flow p) gf l k))) ∧ Hid (wr.ownsRow w.heap.size 30 9 ov (mkO (trnP flow p) gf (l.take k)).length (chs (mkO (trnP flow p) gf (l.take k)))) ∧ Hid (Kp B g w wr)) (fun _ iv _ => n - (intOf iv).toNat)
  case atStart => exact ⟨0, Nat.zero_le _, rfl, HK, by rw [mkM_zero]; exact HO, HNIL, Lib.hid (Kp.refl _ _ _)⟩
  case round =>
    clear HK HO HNIL
    obtain ⟨k, hk, rfl, HK, HO, HV, KP⟩ := hrel
    by_cases hlt : k < n
    · have hlt' : (k : Int) < (n : Int) := by omega
      have hk0 : ¬ (k : Int) < 0 := by omega
      obtain ⟨x, hx⟩ : ∃ x, l[k]? = some x := ⟨_, List.getElem?_eq_getElem (by rw [HN.out]; exact hlt)⟩
      have HX := Lib.hid hx
      have HM := Lib.hid (mkM_get (f := trnP flow p) (g := gf) hx)
      obtain ⟨rb, c2, hv, hBr, _, _, hob, hrow⟩ := RowG.of_own (f := Chk.el) HO.out (by rw [mkM_len]; exact HN.out.symm) (by omega)
      injection hv with hv1 hv2 hv3
      subst hv1
      subst hv3
      have HRW := Lib.hid hrow
      have HBR := Lib.hid hBr
      have g1 : wr.cell? ⟨g, 1, none⟩ = some (.slice (some ⟨rb, 0, none⟩) n c) := by rw [HK.out.cell]; rfl
      obtain ⟨a0, a1, a2, a3, a4, a5, a6, a7, a8⟩ := ck9 (RowG.loads chk_len hrow HM.out)
      clear hx hrow hBr hob hv2
      have HPX := Lib.hid (HP.out wr x KP.out (List.mem_of_getElem? HX.out))
      clear HP
      by_cases hfl : x.flow = flow
      · cases hlo : x.lost
        · rw [hlo] at a8
          cases hpx : p x
          · rw [chk_agg, hfl, hlo, hpx] at HPX
            have NO := Lib.hid (show trnP flow p x = false by unfold trnP; rw [hpx]; simp)
            clear hpx
            go_wp2_with fail
            refine HPX.out.mono ?_
            rintro e w2 ⟨rfl, hb2⟩
            have HK2 := Lib.hid (Blk.below HK.out hb2 HK.out.lt)
            have HO2 := Lib.hid (own_below HO.out hb2 fun g hg => (HO.out.lt g hg).2)
            have HV2 := Lib.hid (own_below HV.out hb2 fun g hg => (HV.out.lt g hg).2)
            have KP2 := Lib.hid (KP.out.trans (Kp.of (B := B) (g := g) hb2))
            clear hb2 HK HO HV KP g1 a0 a1 a2 a3 a4 a5 a6 a7 a8 HPX hlo hfl HRW
            go_wp2_with fail
            go_roundw
            case rel => exact ⟨k + 1, by omega, by go_num, HK2, by rw [mkM_no HX.out NO.out]; exact HO2, by rw [mkO_no HX.out NO.out]; exact HV2, KP2⟩
            case measure => simp [intOf]; omega
          · rw [chk_agg, hfl, hlo, hpx] at HPX
            have YES := Lib.hid (show trnP flow p x = true by unfold trnP; rw [hpx, hlo, decide_eq_true hfl]; rfl)
            clear hpx
            go_wp2_with fail
            refine HPX.out.mono ?_
            rintro e w2 ⟨rfl, hb2⟩
            have HK2 := Lib.hid (Blk.below HK.out hb2 HK.out.lt)
            have HR2 := Lib.hid (HRW.out.same (hb2.block _ HRW.out.lt))
            have HV2 := Lib.hid (own_below HV.out hb2 fun g hg => (HV.out.lt g hg).2)
            have KP2 := Lib.hid (KP.out.trans (Kp.of (B := B) (g := g) hb2))
            obtain ⟨b, hb⟩ := HC.out x
            have hcell := HR2.out.loads chk_len HM.out q _ hb
            have hfz := HR2.out.frozen (k * 9 + q)
            have HDX := Lib.hid (HD.out rb (k * 9) b w2 hcell hfz)
            have hlr : rb < w2.heap.size := HR2.out.lt
            clear hb2 HK HO HV KP g1 a0 a1 a2 a3 a4 a5 a6 a7 a8 HPX hlo hfl HRW hb hcell hfz
            go_wp2_with fail
            refine HDX.out.mono ?_
            rintro e w3 ⟨rfl, hw3⟩
            have hso : Solo rb w2 w3 := by rw [hw3]; exact Solo.refl.setCell _ _
            have HR3 : Hid (RowG w3 rb c 9 30 Chk.el (mkM (trnP flow p) gf l (k + 1))) := Lib.hid (by rw [mkM_yes HX.out YES.out, hw3]; exact HR2.out.set1 chk_len HM.out hq (HG.out x))
            have hrg : rb ≠ g := by
              intro e
              obtain ⟨cs, hcs⟩ := HR2.out.blk
              have h2 := HK2.out
              unfold Blk at h2 hcs
              rw [e, h2] at hcs
              injection hcs with hcs
              injection hcs with _ hcs
              exact absurd hcs (by decide)
            have HK3 := Lib.hid (hso.blk HK2.out (fun e => hrg e.symm))
            have hvr : ∀ g', u9.ownBlock = some g' → g' ≠ rb := by
              intro g' hg' e
              have h1 := (HV2.out.lt g' hg').1
              have : rb < w.heap.size := HRL.out rb rfl
              omega
            have HVR := Lib.hid hvr
            have HV3 := Lib.hid (own_kept HV2.out fun g' hg' => hso.2.2 g' (hvr g' hg'))
            have KP3 : Hid (Kp B g w w3) := Lib.hid (by obtain ⟨cs, hcs⟩ := HR2.out.blk; exact KP2.out.trans (Kp.row hcs HBR.out hso))
            have HX3 := Lib.hid (show (mkM (trnP flow p) gf l (k + 1))[k]? = some (gf x) by rw [mkM_yes HX.out YES.out]; simp [show k < (mkM (trnP flow p) gf l k).length by rw [mkM_len, HN.out]; exact hlt])
            obtain ⟨a0, a1, a2, a3, a4, a5, a6, a7, a8⟩ := ck9 (RowG.loads chk_len HR3.out HX3.out)
            have HO3 : Hid (w3.ownsRow B 30 9 (.slice (some ⟨rb, 0, none⟩) n c) n (chs (mkM (trnP flow p) gf l (k + 1)))) := Lib.hid (by have := HR3.out.own HBR.out HCM.out; rw [mkM_len, HN.out] at this; exact this)
            have HMX : Hid ((mkO (trnP flow p) gf (l.take k)).length + 1 ≤ 65) := Lib.hid (by have := mkO_le (f := trnP flow p) (g := gf) (l := l.take k); rw [List.length_take] at this; omega)
            have hroom : ((mkO (trnP flow p) gf (l.take k)).length + 1) * 64 ≤ room := room_ge (by have := HMX.out; omega)
            have hbw : w.heap.size ≤ w3.heap.size := KP3.out.size
            clear hw3 hso hrg hvr HDX HR2 HK2 HV2 KP2 HR3 HX3 HD HC
            go_wp2_with (at_builtin; go_must (refine appZ flkEl (gf x).cells rfl (chk_one _) rfl _ _ rfl rfl HV3.out rfl rfl hroom hbw ?_))
            intro v4 w4 ho4 hg4 hb4
            have KP4 := Lib.hid (KP3.out.trans (Kp.grown (g := g) (own_mono HV3.out HB.out.2) hg4))
            have HK4 := Lib.hid ((hg4.block g HK3.out.lt (fun e => by have h1 := (HV3.out.lt g e.symm).1; have h2 := HGL.out; omega)).trans HK3.out)
            have HO4 := Lib.hid (own_kept HO3.out fun g' hg' => hg4.block g' (HO3.out.lt g' hg').2 (fun e => by
              have h1 := HVR.out g' e.symm
              injection hg' with hg'
              exact h1 hg'.symm))
            have HV4 : Hid (w4.ownsRow w.heap.size 30 9 v4 (mkO (trnP flow p) gf (l.take (k + 1))).length (chs (mkO (trnP flow p) gf (l.take (k + 1))))) := Lib.hid (by rw [mkO_yes HX.out YES.out, List.length_append, chs_snoc]; exact ho4)
            clear ho4 hg4 hb4 HK3 HO3 HV3 KP3 hroom a0 a1 a2 a3 a4 a5 a6 a7 a8
            go_wp2_with fail
            go_roundw
            case rel => exact ⟨k + 1, by omega, by go_num, HK4, HO4, HV4, KP4⟩
            case measure => simp [intOf]; omega
        · have NO := Lib.hid (show trnP flow p x = false by unfold trnP; rw [hlo]; simp)
          rw [hlo] at a8
          clear hlo HPX
          go_wp2_with fail
          go_roundw
          case rel => exact ⟨k + 1, by omega, by go_num, HK, by rw [mkM_no HX.out NO.out]; exact HO, by rw [mkO_no HX.out NO.out]; exact HV, KP⟩
          case measure => simp [intOf]; omega
      · have NO := Lib.hid (show trnP flow p x = false by unfold trnP; rw [decide_eq_false hfl]; rfl)
        clear HPX
        go_wp2_with fail
        go_roundw
        case rel => exact ⟨k + 1, by omega, by go_num, HK, by rw [mkM_no HX.out NO.out]; exact HO, by rw [mkO_no HX.out NO.out]; exact HV, KP⟩
        case measure => simp [intOf]; omega
    · obtain rfl : k = n := by omega
      clear hlt
      go_wp2_with fail
      go_ret
      have hM : mkM (trnP flow p) gf l k = mkA (trnP flow p) gf l := mkM_all (by rw [HN.out]; exact Nat.le_refl _)
      have hT : l.take k = l := List.take_of_length_le (by rw [HN.out]; exact Nat.le_refl _)
      have ho := HO.out
      rw [hM] at ho
      have hv := HV.out
      rw [hT] at hv
      exact ⟨_, rfl, FL.shut HB.out.1 (Nat.le_trans HB.out.2 KP.out.size) (by rw [mkA_len]; exact HN.out) HK.out ho, hv, KP.out⟩
end Go.Proofs.Ytbipcnboammpeaa
