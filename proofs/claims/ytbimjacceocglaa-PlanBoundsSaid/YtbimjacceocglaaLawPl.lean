/- PlanBounds: the walk. -/
import Derived.Test.YtbimjacceocglaaLawPl0
namespace Go.Proofs.Ytbimjacceocglaa
open Go.RowKit Go.Sort
set_option linter.unusedVariables false
set_option linter.unusedSimpArgs false
theorem ask_ok {way most : Int} {l f u : List Plp} {ask drop spare : List Int} (h : MkP way most l f u ask drop spare) {z : Int} (hz : z ∈ ask) : l.any (fun y => decide (y.id = z) && frP y) = true := by
  rw [h.ask] at hz
  obtain ⟨y, hy, rfl⟩ := List.mem_map.1 hz
  have := h.pf.mem_iff.1 (List.mem_of_mem_take hy)
  rw [List.mem_filter] at this
  rw [List.any_eq_true]
  exact ⟨y, this.1, by rw [decide_eq_true rfl, this.2]; rfl⟩
theorem ask_room {way most : Int} {l f u : List Plp} {ask drop spare : List Int} (h : MkP way most l f u ask drop spare) (h0 : 0 ≤ most) (h4 : most ≤ 4) (hk : ask.length ≠ 0) : ((l.filter usP).length : Int) + (ask.length : Int) ≤ most := by
  have hu := h.pu.length_eq
  have hl : ask.length ≤ askN way most u := by rw [h.ask, List.length_map, List.length_take]; omega
  have h1 : (askN way most u : Int) ≤ roomI most u.length ∨ askN way most u = 0 := by
    have hr : 0 ≤ roomI most u.length := by unfold roomI; omega
    unfold askN
    split
    · left; omega
    · split
      · left; omega
      · split
        · left; omega
        · right; rfl
  unfold roomI at h1
  omega
theorem drop_len {most : Int} {l f u : List Plp} {ask drop spare : List Int} (h : MkP 3 most l f u ask drop spare) (hg : (l.filter gdP).length ≠ 0) : ask.length = 0 ∧ drop.length + 1 = (l.filter baP).length + (l.filter usP).length := by
  have hu := h.pu.length_eq
  have e : gdN u = (l.filter gdP).length := by
    unfold gdN
    rw [(h.pu.filter gdP).length_eq, List.filter_filter]
    congr 1
    refine List.filter_congr fun x _ => ?_
    unfold gdP usP
    cases x.us <;> cases x.may <;> cases x.bd <;> rfl
  have hle : (l.filter gdP).length ≤ (l.filter usP).length := by
    rw [← e, ← hu]
    exact List.length_filter_le _ _
  refine ⟨?_, ?_⟩
  · rw [h.ask, List.length_map, List.length_take, show askN 3 most u = 0 by unfold askN; rw [if_neg (by omega), if_neg (by omega), if_neg (by rintro ⟨_, h⟩; omega)]]
    omega
  · rw [h.drop, if_pos ⟨rfl, by omega⟩, List.length_append, List.length_map, List.length_map, List.length_drop]
    omega
theorem cnt_yes {p : Plp → Bool} {l : List Plp} {k : Nat} {x : Plp} (h : l[k]? = some x) (hf : p x = true) : ((l.take (k + 1)).filter p).length = ((l.take k).filter p).length + 1 := by rw [pl_yes h hf]; simp
theorem cnt_no {p : Plp → Bool} {l : List Plp} {k : Nat} {x : Plp} (h : l[k]? = some x) (hf : p x = false) : ((l.take (k + 1)).filter p).length = ((l.take k).filter p).length := by rw [pl_no h hf]
theorem cnt_le (p : Plp → Bool) (l : List Plp) (k : Nat) : ((l.take k).filter p).length ≤ k := by
  have := List.length_filter_le p (l.take k)
  rw [List.length_take] at this
  omega
theorem any_snoc {p : Plp → Bool} {l : List Plp} {k : Nat} {x : Plp} (h : l[k]? = some x) : (l.take (k + 1)).any p = ((l.take k).any p || p x) := by rw [pl_snoc h]; simp
set_option maxRecDepth 20000 in
set_option maxHeartbeats 4000000 in
theorem planBounds_any (way most : Int) (A : Option Addr) (n c : Nat) (l : List Plp) (w : World) (h : Rd w w.heap.size 7 A n (plps l)) (hnc : n ≤ c) :
    Calls Try.prog 3 #[.int .i64 way, .int .i64 most, .slice A n c] w fun e w' => e = .returned (.bool true) ∧ Below w.heap.size w w' := by
  have HR := Lib.hid h
  have HL := Lib.hid h.plpLen
  clear h hnc
  by_cases h60 : 60 < n
  · have h60' : (60 : Int) < (n : Int) := by omega
    go_enter Try.func3, Try.ntmps3
    go_wp2
    exact bodyPost_ret (by kernel_rfl) rfl ⟨rfl, Below.refl _ _⟩
  have hn60 : n ≤ 60 := by omega
  have h60' : ¬ (60 : Int) < (n : Int) := by omega
  have h60d : decide ((60 : Int) < (n : Int)) = false := decide_eq_false h60'
  clear h60
  by_cases hm0 : most < 0
  · have hd0 : decide (most < 0) = true := decide_eq_true hm0
    go_enter Try.func3, Try.ntmps3
    go_wp2
    exact bodyPost_ret (by kernel_rfl) rfl ⟨rfl, Below.refl _ _⟩
  by_cases hm4 : 4 < most
  · have hd0 : decide (most < 0) = false := decide_eq_false hm0
    have hd4 : decide (4 < most) = true := decide_eq_true hm4
    go_enter Try.func3, Try.ntmps3
    go_wp2
    exact bodyPost_ret (by kernel_rfl) rfl ⟨rfl, Below.refl _ _⟩
  have HMO := Sh.mk (show 0 ≤ most ∧ most ≤ 4 by omega)
  have hd0 : decide (most < 0) = false := decide_eq_false hm0
  have hd4 : decide (4 < most) = false := decide_eq_false hm4
  go_enter Try.func3, Try.ntmps3
  go_wp2_with fail
  go_loopw [7, 8, 9] (fun uv gv iv wr => ∃ (i us gd : Nat), i ≤ n ∧ us ≤ i ∧ gd ≤ i ∧ iv = .int .i64 (i : Nat) ∧ uv = .int .i64 (us : Nat) ∧ gv = .int .i64 (gd : Nat) ∧ Sh (us = ((l.take i).filter usP).length ∧ gd = ((l.take i).filter gdP).length) ∧ Hid (Below w.heap.size w wr)) (fun _ _ iv _ => n - (intOf iv).toNat)
  case atStart => exact ⟨0, 0, 0, Nat.zero_le _, Nat.le_refl _, Nat.le_refl _, rfl, rfl, rfl, ⟨by simp, by simp⟩, Lib.hid (Below.refl _ _)⟩
  case round =>
    clear h60d hd0 hd4 hm0 hm4 h60'
    obtain ⟨i, us, gd, hi, hus, hgd, rfl, rfl, rfl, HN, BB⟩ := hrel
    by_cases hlt : i < n
    · have hlt' : (i : Int) < (n : Int) := by omega
      have hi0 : (0 : Int) ≤ (i : Int) := by omega
      obtain ⟨rb, off, x, hA, hrb, HC, HX⟩ := HR.out.plp hlt
      subst hA
      generalize wr = wp at *
      go_wp2_with fail
      go_loopw [10] (fun kv wr => ∃ (k : Nat), k ≤ i ∧ kv = .int .i64 (k : Nat) ∧ Hid (Below w.heap.size w wr)) (fun kv _ => i - (intOf kv).toNat)
      case atStart => exact ⟨0, Nat.zero_le _, rfl, BB⟩
      case round =>
        clear BB
        obtain ⟨k, hk, rfl, BB⟩ := hrel
        obtain ⟨a0, a1, a2, a3, a4, a5, a6⟩ := pl7c (x := x) (w := wr) (o := off + i * 7) (fun j v hj => (BB.out.cell (p := ⟨rb, off + i * 7 + j, none⟩) hrb).trans (HC.out j v hj))
        by_cases hki : k < i
        · have hki' : (k : Int) < (i : Int) := by omega
          have hkn : (k : Int) < (n : Int) := by omega
          have hk0 : (0 : Int) ≤ (k : Int) := by omega
          obtain ⟨rb2, off2, y, hA2, hrb2, HC2, HY⟩ := HR.out.plp (show k < n by omega)
          injection hA2 with hA2
          injection hA2 with e1 e2
          subst e1
          subst e2
          obtain ⟨b0, b1, b2, b3, b4, b5, b6⟩ := pl7c (x := y) (w := wr) (o := off + k * 7) (fun j v hj => (BB.out.cell (p := ⟨rb, off + k * 7 + j, none⟩) hrb).trans (HC2.out j v hj))
          clear a1 a2 a3 a4 a5 a6 b1 b2 b3 b4 b5 b6
          by_cases hid : y.id = x.id
          · have hid' : (y.id == x.id) = true := by simpa using hid
            clear hid
            go_wp2_with fail
            refine wp_ext (by kernel_rfl) (by kernel_rfl) (fun QQ hQ => ?_)
            iterate 11 (first | (refine x_load _ (by rfl) rfl rfl (by assumption) (by kernel_rfl) ?_; simp only [Act.put, List.setIfInBounds_toArray, List.set_cons_zero, List.set_cons_succ]) | (refine x_val (v := ?_) (by rfl) (fun w' hx => ?_) ?_; rotate_left; (focus (go_simp; (try with_reducible rfl))); (try simp only [Act.put, List.setIfInBounds_toArray, List.set_cons_zero, List.set_cons_succ])))
            refine x_nil (hQ.out _ ?_); clear hQ QQ
            intro w1 hb
            have B1 := Lib.hid (BB.out.trans (hb.mono BB.out.size))
            clear hb
            go_wp2_with fail
            refine bodyPost_ret (v := .bool true) (by kernel_rfl) rfl ?_
            exact ⟨rfl, B1.out⟩
          · have hid' : (y.id == x.id) = false := by simpa using hid
            clear hid
            go_wp2_with fail
            refine wp_ext (by kernel_rfl) (by kernel_rfl) (fun QQ hQ => ?_)
            iterate 11 (first | (refine x_load _ (by rfl) rfl rfl (by assumption) (by kernel_rfl) ?_; simp only [Act.put, List.setIfInBounds_toArray, List.set_cons_zero, List.set_cons_succ]) | (refine x_val (v := ?_) (by rfl) (fun w' hx => ?_) ?_; rotate_left; (focus (go_simp; (try with_reducible rfl))); (try simp only [Act.put, List.setIfInBounds_toArray, List.set_cons_zero, List.set_cons_succ])))
            refine x_nil (hQ.out _ ?_); clear hQ QQ
            intro w1 hb
            have B1 := Lib.hid (BB.out.trans (hb.mono BB.out.size))
            clear hb a0 b0
            have ek : IntKind.i64.wrap ((k : Int) + 1) = (k : Int) + 1 := by rw [IntKind.wrap_i64]; omega
            go_wp2_with fail
            go_roundw
            case rel => exact ⟨k + 1, by omega, by go_num, B1⟩
            case measure => simp [intOf]; omega
        · have hki' : ¬ (k : Int) < (i : Int) := by omega
          have ei : IntKind.i64.wrap ((i : Int) + 1) = (i : Int) + 1 := by rw [IntKind.wrap_i64]; omega
          have eu : IntKind.i64.wrap ((us : Int) + 1) = (us : Int) + 1 := by rw [IntKind.wrap_i64]; omega
          have eg : IntKind.i64.wrap ((gd : Int) + 1) = (gd : Int) + 1 := by rw [IntKind.wrap_i64]; omega
          have US : ∀ b, (x.us && x.may) = b → ((l.take (i + 1)).filter usP).length = us + (if b then 1 else 0) := fun b hb => by
            cases b
            · rw [cnt_no HX.out hb, HN.out.1]; rfl
            · rw [cnt_yes HX.out hb, HN.out.1]; rfl
          have GD : ∀ b, (x.us && x.may && !x.bd) = b → ((l.take (i + 1)).filter gdP).length = gd + (if b then 1 else 0) := fun b hb => by
            cases b
            · rw [cnt_no HX.out hb, HN.out.2]; rfl
            · rw [cnt_yes HX.out hb, HN.out.2]; rfl
          replace US := Lib.hid US
          replace GD := Lib.hid GD
          clear HC a0 a3 a5 a6 HN hki
          cases hu : x.us <;> rw [hu] at US GD a2 <;> clear hu
          · have SU := Sh.mk (show us = ((l.take (i + 1)).filter usP).length ∧ gd = ((l.take (i + 1)).filter gdP).length from ⟨(US.out false rfl).symm, (GD.out false rfl).symm⟩)
            clear US GD
            go_wp2_with fail
            go_roundw
            case rel => exact ⟨i + 1, us, gd, by omega, by omega, by omega, by go_num, by first | rfl | go_num, by first | rfl | go_num, SU, BB⟩
            case measure => simp [intOf]; omega
          · cases hm : x.may <;> rw [hm] at US GD a1 <;> clear hm
            · have SU := Sh.mk (show us = ((l.take (i + 1)).filter usP).length ∧ gd = ((l.take (i + 1)).filter gdP).length from ⟨(US.out false rfl).symm, (GD.out false rfl).symm⟩)
              clear US GD
              go_wp2_with fail
              go_roundw
              case rel => exact ⟨i + 1, us, gd, by omega, by omega, by omega, by go_num, by first | rfl | go_num, by first | rfl | go_num, SU, BB⟩
              case measure => simp [intOf]; omega
            · cases hd : x.bd <;> rw [hd] at GD a4 <;> clear hd
              · have SU := Sh.mk (show us + 1 = ((l.take (i + 1)).filter usP).length ∧ gd + 1 = ((l.take (i + 1)).filter gdP).length from ⟨(US.out true rfl).symm, (GD.out true rfl).symm⟩)
                clear US GD
                go_wp2_with fail
                go_roundw
                case rel => exact ⟨i + 1, us + 1, gd + 1, by omega, by omega, by omega, by go_num, by first | rfl | go_num, by first | rfl | go_num, SU, BB⟩
                case measure => simp [intOf]; omega
              · have SU := Sh.mk (show us + 1 = ((l.take (i + 1)).filter usP).length ∧ gd = ((l.take (i + 1)).filter gdP).length from ⟨(US.out true rfl).symm, (GD.out false rfl).symm⟩)
                clear US GD
                go_wp2_with fail
                go_roundw
                case rel => exact ⟨i + 1, us + 1, gd, by omega, by omega, by omega, by go_num, by first | rfl | go_num, by first | rfl | go_num, SU, BB⟩
                case measure => simp [intOf]; omega
    · have hlt' : ¬ (i : Int) < (n : Int) := by omega
      have HU := Sh.mk (show us = (l.filter usP).length ∧ gd = (l.filter gdP).length by
        have := HN.out
        rw [List.take_of_length_le (by rw [HL.out]; omega)] at this
        exact this)
      have hus60 : us ≤ 60 := by omega
      have hgd60 : gd ≤ 60 := by omega
      clear HN hlt hi hus hgd
      have HC := Lib.hid (pl_make way most A n c l wr ((HR.out.below BB.out).mono BB.out.size) (by omega))
      go_wp2_with fail
      refine HC.out.mono ?_
      rintro e w2 ⟨va, vd, vs, ask, drop, spare, f, u, rfl, hza, hzd, hzs, hb, mk⟩
      have MK := Sh.mk mk
      obtain ⟨Aa, na, ca, rfl, hca, la, Ra⟩ := hza.out
      obtain ⟨Ad, nd, cd, rfl, hcd, ld, _⟩ := hzd.out
      obtain ⟨As, cs, rfl, _⟩ := hzs.form
      generalize spare.length = ns at *
      have B2 := Lib.hid (BB.out.trans (hb.mono BB.out.size))
      have hna : na ≤ 60 := by
        have h1 := la.out
        rw [mk.ask, List.length_map, List.length_take, mk.pf.length_eq] at h1
        have := List.length_filter_le frP l
        have := HL.out
        omega
      have hnd : nd ≤ 120 := by
        have h1 := ld.out
        rw [mk.drop, List.length_append, List.length_map] at h1
        have := List.length_filter_le baP l
        have := HL.out
        have h2 : (if way = 3 ∧ gdN u ≠ 0 then (u.drop 1).map Plp.id else []).length ≤ 60 := by
          split
          · rw [List.length_map, List.length_drop, mk.pu.length_eq]
            have := List.length_filter_le usP l
            omega
          · simp
        omega
      clear hza hzd hzs hb mk HC BB hca hcd
      go_upto_region 17 with fail
      have KP := Lib.hid (Blk.new w2 28 #[.slice Aa na ca, .slice Ad nd cd, .slice As ns cs])
      have hb := (Below.refl w2.heap.size w2).alloc (Nat.le_refl _) (.cells #[.slice Aa na ca, .slice Ad nd cd, .slice As ns cs] 28)
      have B3 := Lib.hid (B2.out.trans (hb.mono B2.out.size))
      have RA := Lib.hid (Ra.out.below hb)
      have YW := Lib.hid (show w2.heap.size ≤ (w2.alloc (.cells #[.slice Aa na ca, .slice Ad nd cd, .slice As ns cs] 28)).heap.size from hb.size)
      obtain ⟨Y, hY⟩ : ∃ Y, Y = w2.heap.size := ⟨_, rfl⟩
      rw [← hY] at KP RA YW ⊢
      clear hb hY B2 Ra
      generalize w2.alloc (.cells #[.slice Aa na ca, .slice Ad nd cd, .slice As ns cs] 28) = w3 at *
      go_wp2_with fail
      go_loopw [12] (fun iv wr => ∃ (i : Nat), i ≤ na ∧ iv = .int .i64 (i : Nat) ∧ Hid (Below w3.heap.size w3 wr)) (fun iv _ => na - (intOf iv).toNat)
      case atStart => exact ⟨0, Nat.zero_le _, rfl, Lib.hid (Below.refl _ _)⟩
      case round =>
        obtain ⟨i, hi, rfl, BB⟩ := hrel
        have KP1 := Lib.hid (KP.out.below BB.out KP.out.lt)
        have c0 : wr.cell? ⟨Y, 0, none⟩ = some (.slice Aa na ca) := (KP1.out.cell 0).trans rfl
        by_cases hlt : i < na
        · have hlt' : (i : Int) < (na : Int) := by omega
          have hi0 : (0 : Int) ≤ (i : Int) := by omega
          obtain ⟨ba, oa, z, rfl, hba, hz, HZ⟩ := RA.out.nthz hlt
          have HZC := Lib.hid hz
          have HBA := Lib.hid (show ba < w3.heap.size from Nat.lt_of_lt_of_le hba YW.out)
          have HOK := Sh.mk (ask_ok MK.out (z := z) (List.mem_of_getElem? HZ.out))
          have ei : IntKind.i64.wrap ((i : Int) + 1) = (i : Int) + 1 := by rw [IntKind.wrap_i64]; omega
          clear hz hba KP1
          generalize wr = wp at *
          go_wp2_with fail
          clear c0
          go_loopw [13, 14] (fun ov kv wr => ∃ (k : Nat) (b : Bool), k ≤ n ∧ kv = .int .i64 (k : Nat) ∧ ov = .bool b ∧ Sh (b = (l.take k).any (fun y => decide (y.id = z) && frP y)) ∧ Hid (Below w3.heap.size w3 wr)) (fun _ kv _ => n - (intOf kv).toNat)
          case atStart => exact ⟨0, false, Nat.zero_le _, rfl, rfl, ⟨by simp⟩, BB⟩
          case round =>
            clear BB
            obtain ⟨k, b, hk, rfl, rfl, HO, BB⟩ := hrel
            by_cases hkn : k < n
            · have hkn' : (k : Int) < (n : Int) := by omega
              have hk0 : (0 : Int) ≤ (k : Int) := by omega
              have ek : IntKind.i64.wrap ((k : Int) + 1) = (k : Int) + 1 := by rw [IntKind.wrap_i64]; omega
              obtain ⟨rb, off, y, rfl, hrb, HC, HY⟩ := HR.out.plp hkn
              have c0 : wr.cell? ⟨Y, 0, none⟩ = some (.slice (some ⟨ba, oa, none⟩) na ca) := ((KP.out.below BB.out KP.out.lt).cell 0).trans rfl
              have cz : wr.cell? ⟨ba, oa + i, none⟩ = some (.int .i64 z) := (BB.out.cell (p := ⟨ba, oa + i, none⟩) HBA.out).trans HZC.out
              have BW := Lib.hid (B3.out.trans (BB.out.mono B3.out.size))
              obtain ⟨a0, a1, a2, a3, a4, a5, a6⟩ := pl7c (x := y) (w := wr) (o := off + k * 7) (fun j v hj => (BW.out.cell (p := ⟨rb, off + k * 7 + j, none⟩) hrb).trans (HC.out j v hj))
              have HA : ∀ q, (decide (y.id = z) && (y.may && !y.us && decide (y.tries < 4))) = q → (b || q) = (l.take (k + 1)).any (fun y => decide (y.id = z) && frP y) := fun q hq => by rw [any_snoc HY.out, ← hq, HO.out]; rfl
              replace HA := Lib.hid HA
              clear HC HO a3 a4 a5 BW
              cases b
              · by_cases hz1 : y.id = z
                · have hz2 : (y.id == z) = true := by simpa using hz1
                  cases hm : y.may <;> rw [hm] at HA a1
                  · have HN := Sh.mk (show false = (l.take (k + 1)).any (fun y => decide (y.id = z) && frP y) from HA.out _ (by simp))
                    clear HA
                    go_wp2_with fail
                    refine wp_ext (by kernel_rfl) (by kernel_rfl) (fun QQ hQ => ?_)
                    iterate 38 (first | (refine x_skip (by rfl) ?_; simp only [Act.put, List.setIfInBounds_toArray, List.set_cons_zero, List.set_cons_succ]) | (first | (refine x_load _ (by rfl) rfl rfl (by assumption) (by kernel_rfl) ?_; simp only [Act.put, List.setIfInBounds_toArray, List.set_cons_zero, List.set_cons_succ]) | (refine x_val (v := ?_) (by rfl) (fun w' hx => ?_) ?_; rotate_left; (focus (go_simp; (try with_reducible rfl))); (try simp only [Act.put, List.setIfInBounds_toArray, List.set_cons_zero, List.set_cons_succ]))))
                    refine x_nil (hQ.out _ ?_); clear hQ QQ
                    intro w5 hb
                    have B5 := Lib.hid (BB.out.trans (hb.mono BB.out.size))
                    clear hb
                    go_wp2_with fail
                    go_roundw
                    case rel => exact ⟨k + 1, false, by omega, by go_num, rfl, HN, B5⟩
                    case measure => simp [intOf]; omega
                  · cases hu : y.us <;> rw [hu] at HA a2
                    · by_cases ht : y.tries < 4
                      · have htd := decide_eq_true ht
                        have HN := Sh.mk (show true = (l.take (k + 1)).any (fun y => decide (y.id = z) && frP y) from HA.out _ (by rw [decide_eq_true hz1, htd]; rfl))
                        clear HA
                        go_wp2_with fail
                        refine wp_ext (by kernel_rfl) (by kernel_rfl) (fun QQ hQ => ?_)
                        iterate 38 (first | (refine x_skip (by rfl) ?_; simp only [Act.put, List.setIfInBounds_toArray, List.set_cons_zero, List.set_cons_succ]) | (first | (refine x_load _ (by rfl) rfl rfl (by assumption) (by kernel_rfl) ?_; simp only [Act.put, List.setIfInBounds_toArray, List.set_cons_zero, List.set_cons_succ]) | (refine x_val (v := ?_) (by rfl) (fun w' hx => ?_) ?_; rotate_left; (focus (go_simp; (try with_reducible rfl))); (try simp only [Act.put, List.setIfInBounds_toArray, List.set_cons_zero, List.set_cons_succ]))))
                        refine x_nil (hQ.out _ ?_); clear hQ QQ
                        intro w5 hb
                        have B5 := Lib.hid (BB.out.trans (hb.mono BB.out.size))
                        clear hb
                        go_wp2_with fail
                        go_roundw
                        case rel => exact ⟨k + 1, true, by omega, by go_num, rfl, HN, B5⟩
                        case measure => simp [intOf]; omega
                      · have htd := decide_eq_false ht
                        have HN := Sh.mk (show false = (l.take (k + 1)).any (fun y => decide (y.id = z) && frP y) from HA.out _ (by rw [htd]; simp))
                        clear HA
                        go_wp2_with fail
                        refine wp_ext (by kernel_rfl) (by kernel_rfl) (fun QQ hQ => ?_)
                        iterate 38 (first | (refine x_skip (by rfl) ?_; simp only [Act.put, List.setIfInBounds_toArray, List.set_cons_zero, List.set_cons_succ]) | (first | (refine x_load _ (by rfl) rfl rfl (by assumption) (by kernel_rfl) ?_; simp only [Act.put, List.setIfInBounds_toArray, List.set_cons_zero, List.set_cons_succ]) | (refine x_val (v := ?_) (by rfl) (fun w' hx => ?_) ?_; rotate_left; (focus (go_simp; (try with_reducible rfl))); (try simp only [Act.put, List.setIfInBounds_toArray, List.set_cons_zero, List.set_cons_succ]))))
                        refine x_nil (hQ.out _ ?_); clear hQ QQ
                        intro w5 hb
                        have B5 := Lib.hid (BB.out.trans (hb.mono BB.out.size))
                        clear hb
                        go_wp2_with fail
                        go_roundw
                        case rel => exact ⟨k + 1, false, by omega, by go_num, rfl, HN, B5⟩
                        case measure => simp [intOf]; omega
                    · have HN := Sh.mk (show false = (l.take (k + 1)).any (fun y => decide (y.id = z) && frP y) from HA.out _ (by simp))
                      clear HA
                      go_wp2_with fail
                      refine wp_ext (by kernel_rfl) (by kernel_rfl) (fun QQ hQ => ?_)
                      iterate 38 (first | (refine x_skip (by rfl) ?_; simp only [Act.put, List.setIfInBounds_toArray, List.set_cons_zero, List.set_cons_succ]) | (first | (refine x_load _ (by rfl) rfl rfl (by assumption) (by kernel_rfl) ?_; simp only [Act.put, List.setIfInBounds_toArray, List.set_cons_zero, List.set_cons_succ]) | (refine x_val (v := ?_) (by rfl) (fun w' hx => ?_) ?_; rotate_left; (focus (go_simp; (try with_reducible rfl))); (try simp only [Act.put, List.setIfInBounds_toArray, List.set_cons_zero, List.set_cons_succ]))))
                      refine x_nil (hQ.out _ ?_); clear hQ QQ
                      intro w5 hb
                      have B5 := Lib.hid (BB.out.trans (hb.mono BB.out.size))
                      clear hb
                      go_wp2_with fail
                      go_roundw
                      case rel => exact ⟨k + 1, false, by omega, by go_num, rfl, HN, B5⟩
                      case measure => simp [intOf]; omega
                · have hz2 : (y.id == z) = false := by simpa using hz1
                  have HN := Sh.mk (show false = (l.take (k + 1)).any (fun y => decide (y.id = z) && frP y) from HA.out _ (by rw [decide_eq_false hz1]; rfl))
                  clear HA
                  go_wp2_with fail
                  refine wp_ext (by kernel_rfl) (by kernel_rfl) (fun QQ hQ => ?_)
                  iterate 38 (first | (refine x_skip (by rfl) ?_; simp only [Act.put, List.setIfInBounds_toArray, List.set_cons_zero, List.set_cons_succ]) | (first | (refine x_load _ (by rfl) rfl rfl (by assumption) (by kernel_rfl) ?_; simp only [Act.put, List.setIfInBounds_toArray, List.set_cons_zero, List.set_cons_succ]) | (refine x_val (v := ?_) (by rfl) (fun w' hx => ?_) ?_; rotate_left; (focus (go_simp; (try with_reducible rfl))); (try simp only [Act.put, List.setIfInBounds_toArray, List.set_cons_zero, List.set_cons_succ]))))
                  refine x_nil (hQ.out _ ?_); clear hQ QQ
                  intro w5 hb
                  have B5 := Lib.hid (BB.out.trans (hb.mono BB.out.size))
                  clear hb
                  go_wp2_with fail
                  go_roundw
                  case rel => exact ⟨k + 1, false, by omega, by go_num, rfl, HN, B5⟩
                  case measure => simp [intOf]; omega
              · have HN := Sh.mk (show true = (l.take (k + 1)).any (fun y => decide (y.id = z) && frP y) by have := HA.out _ rfl; simpa using this)
                clear HA
                go_wp2_with fail
                refine wp_ext (by kernel_rfl) (by kernel_rfl) (fun QQ hQ => ?_)
                iterate 38 (first | (refine x_skip (by rfl) ?_; simp only [Act.put, List.setIfInBounds_toArray, List.set_cons_zero, List.set_cons_succ]) | (first | (refine x_load _ (by rfl) rfl rfl (by assumption) (by kernel_rfl) ?_; simp only [Act.put, List.setIfInBounds_toArray, List.set_cons_zero, List.set_cons_succ]) | (refine x_val (v := ?_) (by rfl) (fun w' hx => ?_) ?_; rotate_left; (focus (go_simp; (try with_reducible rfl))); (try simp only [Act.put, List.setIfInBounds_toArray, List.set_cons_zero, List.set_cons_succ]))))
                refine x_nil (hQ.out _ ?_); clear hQ QQ
                intro w5 hb
                have B5 := Lib.hid (BB.out.trans (hb.mono BB.out.size))
                clear hb
                go_wp2_with fail
                go_roundw
                case rel => exact ⟨k + 1, true, by omega, by go_num, rfl, HN, B5⟩
                case measure => simp [intOf]; omega
            · have hkn' : ¬ (k : Int) < (n : Int) := by omega
              have HT := Sh.mk (show b = true by
                have := HO.out
                rw [List.take_of_length_le (by rw [HL.out]; omega)] at this
                rw [this]
                exact HOK.out)
              have hbt := HT.out
              subst hbt
              clear HO HT
              go_wp2_with fail
              go_roundw
              case rel => exact ⟨i + 1, by omega, by go_num, BB⟩
              case measure => simp [intOf]; omega
        · have hlt' : ¬ (i : Int) < (na : Int) := by omega
          have c1 : wr.cell? ⟨Y, 1, none⟩ = some (.slice Ad nd cd) := (KP1.out.cell 1).trans rfl
          have HAR := Sh.mk (show na ≠ 0 → (us : Int) + (na : Int) ≤ most from fun h => by
            have := ask_room MK.out HMO.out.1 HMO.out.2 (by rw [la.out]; exact h)
            rw [la.out, ← HU.out.1] at this
            exact this)
          have BW := Lib.hid (B3.out.trans (BB.out.mono B3.out.size))
          have ea : IntKind.i64.wrap ((us : Int) + (na : Int)) = (us : Int) + (na : Int) := by rw [IntKind.wrap_i64]; omega
          have ALV := Lib.hid (plAlive)
          clear hlt hi BB B3 YW RA
          by_cases hn0 : na = 0
          · subst hn0
            by_cases hw3 : way = 3
            · subst hw3
              by_cases hg0 : gd = 0
              · subst hg0
                go_wp2_with fail
                refine (ALV.out wr).mono ?_
                rintro e w5 ⟨rfl, hb⟩
                have B5 := Lib.hid (BW.out.trans (hb.mono BW.out.size))
                clear hb
                go_wp2_with fail
                go_ret
                exact ⟨rfl, B5.out⟩
              · have hg1 : (0 : Int) < (gd : Int) := by omega
                have hg2 : decide ((0 : Int) < (gd : Int)) = true := decide_eq_true hg1
                have HDL := Sh.mk (show nd + 1 = (l.filter baP).length + us by
                  have := (drop_len MK.out (by rw [← HU.out.2]; exact hg0)).2
                  rw [ld.out, ← HU.out.1] at this
                  exact this)
                go_wp2_with fail
                clear c0 c1
                go_loopw [15, 16] (fun gv iv wr2 => ∃ (i go : Nat), i ≤ n ∧ go ≤ i ∧ iv = .int .i64 (i : Nat) ∧ gv = .int .i64 (go : Nat) ∧ Sh (go = ((l.take i).filter baP).length) ∧ Hid (Blk wr2 Y 28 #[.slice Aa 0 ca, .slice Ad nd cd, .slice As ns cs]) ∧ Hid (Below w.heap.size w wr2)) (fun _ iv _ => n - (intOf iv).toNat)
                case atStart => exact ⟨0, 0, Nat.zero_le _, Nat.le_refl _, rfl, rfl, ⟨by simp⟩, KP1, BW⟩
                case round =>
                  clear BW KP1
                  obtain ⟨i2, go, hi2, hgo, rfl, rfl, HG, KP1, BW⟩ := hrel
                  by_cases hlt : i2 < n
                  · have hlt' : (i2 : Int) < (n : Int) := by omega
                    have hi0 : (0 : Int) ≤ (i2 : Int) := by omega
                    have ei : IntKind.i64.wrap ((i2 : Int) + 1) = (i2 : Int) + 1 := by rw [IntKind.wrap_i64]; omega
                    have eg : IntKind.i64.wrap ((go : Int) + 1) = (go : Int) + 1 := by rw [IntKind.wrap_i64]; omega
                    obtain ⟨rb, off, x, rfl, hrb, HC, HX⟩ := HR.out.plp hlt
                    obtain ⟨a0, a1, a2, a3, a4, a5, a6⟩ := pl7c (x := x) (w := wr) (o := off + i2 * 7) (fun j v hj => (BW.out.cell (p := ⟨rb, off + i2 * 7 + j, none⟩) hrb).trans (HC.out j v hj))
                    have GO : ∀ b, (x.us && !x.may) = b → ((l.take (i2 + 1)).filter baP).length = go + (if b then 1 else 0) := fun b hb => by
                      cases b
                      · rw [cnt_no HX.out hb, HG.out]; rfl
                      · rw [cnt_yes HX.out hb, HG.out]; rfl
                    replace GO := Lib.hid GO
                    clear HC a0 a3 a4 a5 a6 HG
                    cases hu : x.us <;> rw [hu] at GO a2 <;> clear hu
                    · have SU := Sh.mk (show go = ((l.take (i2 + 1)).filter baP).length from (GO.out false rfl).symm)
                      clear GO
                      go_wp2_with fail
                      go_roundw
                      case rel => exact ⟨i2 + 1, go, by omega, by omega, by go_num, by first | rfl | go_num, SU, KP1, BW⟩
                      case measure => simp [intOf]; omega
                    · cases hm : x.may <;> rw [hm] at GO a1 <;> clear hm
                      · have SU := Sh.mk (show go + 1 = ((l.take (i2 + 1)).filter baP).length from (GO.out true rfl).symm)
                        clear GO
                        go_wp2_with fail
                        go_roundw
                        case rel => exact ⟨i2 + 1, go + 1, by omega, by omega, by go_num, by first | rfl | go_num, SU, KP1, BW⟩
                        case measure => simp [intOf]; omega
                      · have SU := Sh.mk (show go = ((l.take (i2 + 1)).filter baP).length from (GO.out false rfl).symm)
                        clear GO
                        go_wp2_with fail
                        go_roundw
                        case rel => exact ⟨i2 + 1, go, by omega, by omega, by go_num, by first | rfl | go_num, SU, KP1, BW⟩
                        case measure => simp [intOf]; omega
                  · have hlt' : ¬ (i2 : Int) < (n : Int) := by omega
                    have HGO := Sh.mk (show nd + 1 = go + us by
                      have := HG.out
                      rw [List.take_of_length_le (by rw [HL.out]; omega)] at this
                      rw [this]
                      exact HDL.out)
                    have d0 : wr.cell? ⟨Y, 0, none⟩ = some (.slice Aa 0 ca) := (KP1.out.cell 0).trans rfl
                    have d1 : wr.cell? ⟨Y, 1, none⟩ = some (.slice Ad nd cd) := (KP1.out.cell 1).trans rfl
                    obtain ⟨s, hs⟩ : ∃ s, s = go + us := ⟨_, rfl⟩
                    have e1 : (go : Int) + (us : Int) = (s : Int) := by omega
                    have e2 : IntKind.i64.wrap (s : Int) = (s : Int) := by rw [IntKind.wrap_i64]; omega
                    have hsn : s = nd + 1 := by have := HGO.out; omega
                    subst hsn
                    have e3 : ((nd + 1 : Nat) : Int) - 1 = (nd : Int) := by omega
                    have e4 : IntKind.i64.wrap (nd : Int) = (nd : Int) := by rw [IntKind.wrap_i64]; omega
                    clear hs HGO hlt hi2 hgo HG
                    go_wp2_with fail
                    refine (ALV.out wr).mono ?_
                    rintro e w5 ⟨rfl, hb⟩
                    have B5 := Lib.hid (BW.out.trans (hb.mono BW.out.size))
                    clear hb
                    go_wp2_with fail
                    go_ret
                    exact ⟨by simp, B5.out⟩
            · have hw3' : (way == 3) = false := by simpa using hw3
              go_wp2_with fail
              refine (ALV.out wr).mono ?_
              rintro e w5 ⟨rfl, hb⟩
              have B5 := Lib.hid (BW.out.trans (hb.mono BW.out.size))
              clear hb
              go_wp2_with fail
              go_ret
              exact ⟨rfl, B5.out⟩
          · have hp : (0 : Int) < (na : Int) := by omega
            have hpd : decide ((0 : Int) < (na : Int)) = true := decide_eq_true hp
            have hle : ¬ most < (us : Int) + (na : Int) := by have := HAR.out hn0; omega
            have hld : decide (most < (us : Int) + (na : Int)) = false := decide_eq_false hle
            by_cases hw3 : way = 3
            · subst hw3
              by_cases hg0 : gd = 0
              · subst hg0
                go_wp2_with fail
                refine (ALV.out wr).mono ?_
                rintro e w5 ⟨rfl, hb⟩
                have B5 := Lib.hid (BW.out.trans (hb.mono BW.out.size))
                clear hb
                go_wp2_with fail
                go_ret
                exact ⟨rfl, B5.out⟩
              · have hg1 : (0 : Int) < (gd : Int) := by omega
                have hg2 : decide ((0 : Int) < (gd : Int)) = true := decide_eq_true hg1
                exact absurd (by have := (drop_len MK.out (by rw [← HU.out.2]; exact hg0)).1; rw [la.out] at this; exact this) hn0
            · have hw3' : (way == 3) = false := by simpa using hw3
              go_wp2_with fail
              refine (ALV.out wr).mono ?_
              rintro e w5 ⟨rfl, hb⟩
              have B5 := Lib.hid (BW.out.trans (hb.mono BW.out.size))
              clear hb
              go_wp2_with fail
              go_ret
              exact ⟨rfl, B5.out⟩
end Go.Proofs.Ytbimjacceocglaa
