/- AddrsBack: the walk. -/
import Derived.Test.YtdcpmfodkggpeaaLawAdF
namespace Go.Proofs.Ytdcpmfodkggpeaa
open Go.RowKit
set_option linter.unusedVariables false
set_option linter.unusedSimpArgs false
theorem ad_neq (x y z u : Int) (w : World) : (binOp .neq 36 (.agg #[.int .i64 x, .int .i64 y]) (.agg #[.int .i64 z, .int .i64 u])).run Try.prog w = .ok (.bool (!decide ((x, y) = (z, u)))) w := by
  have h : (Op.equalIn 10000 36 (.agg #[.int .i64 x, .int .i64 y]) (.agg #[.int .i64 z, .int .i64 u])).run Try.prog w = .ok (decide ((x, y) = (z, u))) w := by
    rw [show (10000 : Nat) = 9999 + 1 from rfl, run_equalIn_agg w 9999 36 _ _ (by kernel_rfl) (by kernel_rfl)]
    by_cases h1 : x = z
    · by_cases h2 : y = u
      · subst h1 h2; simp [go_sem]
      · subst h1; simp [go_sem, h2]
    · simp [go_sem, h1]
  rw [run_neq_struct, h]
  rfl
/-- Another row of offers stays while a table turns. -/
theorem KT.row {w w' : World} {B B2 g b most paths left : Nat} {v v' u : Value} {l l2 : List (Int × Int)} (h : KT g b v v' w w') (hT : TB w B g b v most paths left l) (hp : Pzs w 36 B2 u l2) (hd : ∀ q, v.ownBlock = some q → u.ownBlock ≠ some q) :
    Pzs w' 36 B2 u l2 ∧ ∀ q, v'.ownBlock = some q → u.ownBlock ≠ some q :=
  ⟨own_kept hp fun q hq => h.same q (World.ownsRow.lt hp q hq).2 (fun e => own_nt hp hT.blk (by decide) (by rw [hq, e])) (fun e => own_nt hp hT.bkt (by decide) (by rw [hq, e])) fun e => hd q e hq, fun q hq e => by
    rcases h.new q hq with h1 | h1
    · exact hd q h1 e
    · have := (World.ownsRow.lt hp q e).2; omega⟩
theorem Pzs.rd {w : World} {e : TypeId} {B n c : Nat} {A : Option Addr} {l : List (Int × Int)} (h : Pzs w e B (.slice A n c) l) : Rd w w.heap.size 2 A n (pz l) := by
  obtain ⟨A2, n2, c2, hv, _, _, _, h3⟩ := h.out
  injection hv with e1 e2 e3
  subst e1 e2 e3
  exact h3.out
section
variable {most paths left : Nat} {l : List (Int × Int)} {a : Int × Int} {id : Int}
theorem gone_hit (h : AdOk most paths left l) (hid : ∃ b ∈ l, b.1 = id) : ∃ L, adGone l id = (L, true) ∧ adGone L id = (L, false) ∧ L.length + 1 = l.length := by
  have hk := atI_mem.2 hid
  refine ⟨l.eraseIdx (atI l id), by unfold adGone; rw [if_pos hk], ?_, by rw [List.length_eraseIdx, if_pos hk]; omega⟩
  unfold adGone
  rw [if_neg]
  intro h2
  obtain ⟨b, hb, hbid⟩ := atI_mem.1 h2
  obtain ⟨p, hp⟩ := atI_get hk
  have hn := h.nodup
  rw [List.nodup_iff_pairwise_ne, List.pairwise_map] at hn
  obtain ⟨j, hj, hjne, hbj⟩ := List.mem_eraseIdx_iff_getElem.1 hb
  obtain ⟨hki, hke⟩ := List.getElem?_eq_some_iff.1 hp
  rw [List.pairwise_iff_getElem] at hn
  rcases Nat.lt_or_gt_of_ne hjne with hlt | hlt
  · exact hn j (atI l id) hj hki hlt (by rw [hbj, hke]; exact hbid)
  · exact hn (atI l id) j hki hj hlt (by rw [hbj, hke]; exact hbid.symm)
theorem gone_no (hid : ¬ ∃ b ∈ l, b.1 = id) : adGone l id = (l, false) := by
  unfold adGone
  rw [if_neg (fun h => hid (atI_mem.1 h))]
theorem gone_last (hid : ¬ ∃ b ∈ l, b.1 = a.1) : adGone (l ++ [a]) a.1 = (l, true) := by
  have hk : atI (l ++ [a]) a.1 = l.length := atI_of (a := a) (by simp) rfl (fun b hb e => hid ⟨b, by simpa using hb, e⟩)
  unfold adGone
  rw [hk, if_pos (by simp), List.eraseIdx_append_of_length_le (Nat.le_refl _)]
  simp
theorem add_new (hid : ¬ ∃ b ∈ l, b.1 = a.1) (hm : mayB paths a = true) (hl : l.length < most) (h16 : 16 ≤ left) : adAdd most paths left l a = (left - 16, l ++ [a], true) := by
  have hk : ¬ atI l a.1 < l.length := fun h => hid (atI_mem.1 h)
  unfold adAdd
  rw [if_neg (by
    rintro (h | h | h | ⟨_, h⟩)
    · rw [hm] at h; cases h
    · exact hid ⟨a, h, rfl⟩
    · omega
    · omega)]
  simp only [if_neg hk]
theorem add_not (hid : ¬ ∃ b ∈ l, b.1 = a.1) (hm : mayB paths a = false ∨ most ≤ l.length) : adAdd most paths left l a = (left, l, false) := by
  have hk : ¬ atI l a.1 < l.length := fun h => hid (atI_mem.1 h)
  unfold adAdd
  rw [if_pos]
  rcases hm with h | h
  · exact .inl h
  · exact .inr (.inr (.inr ⟨by omega, h⟩))
theorem tick16 {left left2 : Nat} (h : left = 64) (h2 : left2 = left ∨ left2 + 16 = left) : tickN left2 16 1 64 = 64 := by
  unfold tickN
  split <;> omega
end
set_option maxRecDepth 20000 in
set_option maxHeartbeats 4000000 in
theorem addrsBack_walk (A : Option Addr) (n c : Nat) (l : List Op4) (q : Int × Int) (w : World) (hr : Rd w w.heap.size 4 A n (op4s l)) (hnc : n ≤ c) (hc : c ≤ maxLen) (hl : ∀ p ∈ l, True) (hq : True) :
    Calls Try.prog 5 #[.slice A n c, .agg #[.int .i64 q.1, .int .i64 q.2]] w fun e w' => e = .returned (.bool true) ∧ Below w.heap.size w w' := by
  obtain ⟨x, y⟩ := q
  dsimp only
  have HR0 := Lib.hid hr
  have K0 := Lib.hid (Blk.new w 36 #[.int .i64 x, .int .i64 y])
  have B0 := Lib.hid ((Below.refl w.heap.size w).alloc (Nat.le_refl _) (.cells #[.int .i64 x, .int .i64 y] 36))
  clear hr hl hnc hc hq
  by_cases h100 : 100 < n
  · have h100' : (100 : Int) < (n : Int) := by omega
    go_enter Try.func5, Try.ntmps5
    go_wp2
    exact bodyPost_ret (by kernel_rfl) rfl ⟨rfl, B0.out⟩
  have hn : n ≤ 100 := by omega
  have h100' : ¬ (100 : Int) < (n : Int) := by omega
  clear h100
  go_enter Try.func5, Try.ntmps5
  go_upto_region 1 with fail
  have HR := Lib.hid (HR0.out.below B0.out)
  have BX := Lib.hid B0.out
  generalize w.alloc (.cells #[.int .i64 x, .int .i64 y] 36) = w0 at K0 B0 BX HR ⊢
  obtain ⟨X, hX⟩ : ∃ X, X = w.heap.size := ⟨_, rfl⟩
  have HX := Sh.mk hX
  rw [← hX] at K0 ⊢
  clear hX HR0
  have XL := Lib.hid (show X < w0.heap.size from K0.out.lt)
  have HN := Lib.hid (ad_new 8 4 w0)
  go_wp2_with fail
  refine HN.out.mono ?_
  rintro e w1 ⟨g, b, rfl, ht, hb⟩
  rw [show clN 1 4 4 = 4 by decide, show clN 0 8 8 = 8 by decide] at ht
  have H1 := Lib.hid (show TB w1 w0.heap.size g b (.slice none 0 0) 8 4 64 [] from ht)
  have B1 := Lib.hid (B0.out.trans (hb.mono B0.out.size))
  have W0 := Lib.hid B0.out.size
  have K1 := Lib.hid (K0.out.below hb K0.out.lt)
  have c0 := ht.c0
  clear ht hb HN h100' K0 B0
  go_wp2_with fail
  clear c0
  go_loopw [6] (fun iv wr => ∃ (i : Nat) (v : Value) (L : List (Int × Int)), i ≤ n ∧ iv = .int .i64 (i : Nat) ∧ Hid (TB wr w0.heap.size g b v 8 4 64 L) ∧ Hid (AdOk 8 4 64 L) ∧ Hid (Blk wr X 36 #[.int .i64 x, .int .i64 y]) ∧ Hid (Below w.heap.size w wr)) (fun iv _ => n - (intOf iv).toNat)
  case atStart => exact ⟨0, _, [], Nat.zero_le _, rfl, H1, Lib.hid (AdOk.new (Nat.le_refl _) (Nat.le_refl _)), K1, B1⟩
  case round =>
    clear H1 B1 K1
    obtain ⟨i, v, L, hi, rfl, HT, HOK, K1, BB⟩ := hrel
    by_cases hlt : i < n
    · have hlt' : (i : Int) < (n : Int) := by omega
      have hi0 : (0 : Int) ≤ (i : Int) := by omega
      have ei : IntKind.i64.wrap ((i : Int) + 1) = (i : Int) + 1 := by rw [IntKind.wrap_i64]; omega
      obtain ⟨rb, off, kd, nn, x2, y2, rfl, hrb, hc0, hc1, hc2, hc3, HXX⟩ := HR.out.op4 hlt
      have HRB := Lib.hid (show w0.heap.size ≤ w0.heap.size ∧ rb < w.heap.size from ⟨Nat.le_refl _, hrb⟩)
      have HC2 := Lib.hid hc2
      have HC3 := Lib.hid hc3
      have BW := Lib.hid (show ∀ o, wr.cell? ⟨rb, o, none⟩ = w0.cell? ⟨rb, o, none⟩ from fun o => (BB.out.cell (p := ⟨rb, o, none⟩) hrb).trans (BX.out.cell (p := ⟨rb, o, none⟩) hrb).symm)
      have a2 := (BW.out (off + i * 4 + 2)).trans hc2
      have a3 := (BW.out (off + i * 4 + 3)).trans hc3
      have HA := Lib.hid (ad_add w0.heap.size g b v 8 4 64 L x2 y2 wr HT.out HOK.out.len (by omega) (by omega))
      have OK2 := Lib.hid (HOK.out.add (x2, y2))
      have SP := add_spent 8 4 64 L (x2, y2)
      obtain ⟨r, hrr⟩ : ∃ r, r = adAdd 8 4 64 L (x2, y2) := ⟨_, rfl⟩
      rw [← hrr] at HA OK2 SP
      obtain ⟨left2, L2, ok⟩ := r
      dsimp only at HA OK2 SP
      have HT16 : tickN left2 16 1 64 = 64 := tick16 rfl (by cases ok; exact .inl (SP.2 rfl); exact .inr (SP.1 rfl))
      have HLE : left2 ≤ 64 := OK2.out.left64
      have S16 := Sh.mk HT16
      clear hrr hc0 hc1 hc2 hc3 SP HT16
      go_wp2_with fail
      refine HA.out.mono ?_
      rintro e w2 ⟨v2, rfl, ht, hkt⟩
      have HT2 := Lib.hid ht
      have K2 := Lib.hid (K1.out.below (HT.out.below hkt) XL.out)
      have B2 := Lib.hid (BB.out.trans ((HT.out.below hkt).mono W0.out))
      clear ht hkt HT HOK BB HA a2 a3 K1 BW HXX
      have HTK := Lib.hid (bkt_tick b 64 1 left2 16 w2 HT2.out.bkt (by omega) (by omega) (by decide))
      rw [show bdN 16 = 16 by decide, S16.out] at HTK
      have c0 := HT2.out.c0
      go_wp2_with fail
      refine HTK.out.mono ?_
      rintro e w3 ⟨rfl, hbk, htou⟩
      have HT3 := Lib.hid (HT2.out.tick hbk htou)
      have B3 := Lib.hid (B2.out.trans ((HT2.out.below (KT.tick htou)).mono W0.out))
      have K3 := Lib.hid (K2.out.below (HT2.out.below (KT.tick htou)) XL.out)
      have OK3 := Lib.hid (OK2.out.setLeft (Nat.le_refl 64))
      clear hbk htou HT2 K2 B2 HTK c0 OK2
      go_wp2_with fail
      go_roundw
      case rel => exact ⟨i + 1, v2, L2, by omega, by go_num, HT3, OK3, K3, B3⟩
      case measure => simp [intOf]; omega
    · have hlt' : ¬ (i : Int) < (n : Int) := by omega
      have LI := Lib.hid (ad_list w0.heap.size g b v 8 4 64 L wr HT.out (by have := HOK.out.len; omega))
      have VL := Lib.hid (fun k (hk : v.ownBlock = some k) => (World.ownsRow.lt HT.out.row k hk).2)
      clear hlt
      go_wp2_with fail
      refine LI.out.mono ?_
      rintro e w2 ⟨vw, rfl, hp, hb⟩
      obtain ⟨Aw, m, cw, rfl, _, _, hm, _⟩ := hp.out
      have HT2 := Lib.hid (HT.out.into hb)
      have B2 := Lib.hid (BB.out.trans (hb.mono BB.out.size))
      have K2 := Lib.hid (K1.out.below hb K1.out.lt)
      have PW := Lib.hid hp
      have DW : Hid (∀ k, v.ownBlock = some k → (Value.slice Aw m cw).ownBlock ≠ some k) := Lib.hid fun k hk e => by
        have h1 := (World.ownsRow.lt hp k e).1
        have h2 := VL.out k hk
        omega
      have HM := Sh.mk hm.out
      have hm8 : m ≤ 8 := by have := hm.out; have := HOK.out.len; omega
      clear hp hb hm LI HT BB K1 VL
      have RW := Lib.hid (show Rd w2 w2.heap.size 2 Aw m (pz L) from PW.out.rd)
      generalize wr.heap.size = BL at *
      go_wp2_with fail
      go_loopw [8, 9] (fun tv iv wr2 => ∃ (i : Nat) (th : Bool), i ≤ m ∧ iv = .int .i64 (i : Nat) ∧ tv = .bool th ∧ Sh (th = (L.take i).any (fun a => decide (a.1 = x))) ∧ Hid (Below w2.heap.size w2 wr2)) (fun _ iv _ => m - (intOf iv).toNat)
      case atStart => exact ⟨0, false, Nat.zero_le _, rfl, rfl, ⟨by simp⟩, Lib.hid (Below.refl _ _)⟩
      case round =>
        obtain ⟨j, th, hj, rfl, rfl, HTH, B3⟩ := hrel
        have K3 := Lib.hid (K2.out.below B3.out K2.out.lt)
        have cx : wr.cell? ⟨X, 0, none⟩ = some (.int .i64 x) := by rw [K3.out.cell]; rfl
        by_cases hjm : j < m
        · have hjm' : (j : Int) < (m : Int) := by omega
          have hj0 : (0 : Int) ≤ (j : Int) := by omega
          have ej : IntKind.i64.wrap ((j : Int) + 1) = (j : Int) + 1 := by rw [IntKind.wrap_i64]; omega
          obtain ⟨rb, off, x2, y2, rfl, hrb, hx, hy, HXX⟩ := RW.out.pz hjm
          have a0 := (B3.out.cell (p := ⟨rb, off + j * 2, none⟩) hrb).trans hx
          clear hx hy
          have AN := Lib.hid (show ∀ q, decide (x2 = x) = q → (th || q) = (L.take (j + 1)).any (fun a => decide (a.1 = x)) from fun q hq => by rw [List.take_add_one, HXX.out, ← hq, HTH.out]; simp)
          clear HTH HXX
          cases th
          · by_cases hx2 : x2 = x
            · have hx3 : (x2 == x) = true := by simpa using hx2
              have HN2 := Sh.mk (show true = (L.take (j + 1)).any (fun a => decide (a.1 = x)) from AN.out true (decide_eq_true hx2))
              clear AN
              go_wp2_with fail
              refine wp_ext (by kernel_rfl) (by kernel_rfl) (fun QQ hQ => ?_)
              iterate 12 (first | (refine x_skip (by rfl) ?_; simp only [Act.put, List.setIfInBounds_toArray, List.set_cons_zero, List.set_cons_succ]) | (first | (refine x_load _ (by rfl) rfl rfl (by assumption) (by kernel_rfl) ?_; simp only [Act.put, List.setIfInBounds_toArray, List.set_cons_zero, List.set_cons_succ]) | (refine x_val (v := ?_) (by rfl) (fun w' hx => ?_) ?_; rotate_left; (focus (go_simp; (try with_reducible rfl))); (try simp only [Act.put, List.setIfInBounds_toArray, List.set_cons_zero, List.set_cons_succ]))))
              refine x_nil (hQ.out _ ?_); clear hQ QQ
              intro w5 hb
              have B5 := Lib.hid (B3.out.trans (hb.mono B3.out.size))
              clear hb
              go_wp2_with fail
              go_roundw
              case rel => exact ⟨j + 1, true, by omega, by go_num, rfl, HN2, B5⟩
              case measure => simp [intOf]; omega
            · have hx3 : (x2 == x) = false := by simpa using hx2
              have HN2 := Sh.mk (show false = (L.take (j + 1)).any (fun a => decide (a.1 = x)) from AN.out false (decide_eq_false hx2))
              clear AN
              go_wp2_with fail
              refine wp_ext (by kernel_rfl) (by kernel_rfl) (fun QQ hQ => ?_)
              iterate 12 (first | (refine x_skip (by rfl) ?_; simp only [Act.put, List.setIfInBounds_toArray, List.set_cons_zero, List.set_cons_succ]) | (first | (refine x_load _ (by rfl) rfl rfl (by assumption) (by kernel_rfl) ?_; simp only [Act.put, List.setIfInBounds_toArray, List.set_cons_zero, List.set_cons_succ]) | (refine x_val (v := ?_) (by rfl) (fun w' hx => ?_) ?_; rotate_left; (focus (go_simp; (try with_reducible rfl))); (try simp only [Act.put, List.setIfInBounds_toArray, List.set_cons_zero, List.set_cons_succ]))))
              refine x_nil (hQ.out _ ?_); clear hQ QQ
              intro w5 hb
              have B5 := Lib.hid (B3.out.trans (hb.mono B3.out.size))
              clear hb
              go_wp2_with fail
              go_roundw
              case rel => exact ⟨j + 1, false, by omega, by go_num, rfl, HN2, B5⟩
              case measure => simp [intOf]; omega
          · have HN2 := Sh.mk (show true = (L.take (j + 1)).any (fun a => decide (a.1 = x)) from by have := AN.out _ rfl; simpa using this)
            clear AN
            go_wp2_with fail
            refine wp_ext (by kernel_rfl) (by kernel_rfl) (fun QQ hQ => ?_)
            iterate 12 (first | (refine x_skip (by rfl) ?_; simp only [Act.put, List.setIfInBounds_toArray, List.set_cons_zero, List.set_cons_succ]) | (first | (refine x_load _ (by rfl) rfl rfl (by assumption) (by kernel_rfl) ?_; simp only [Act.put, List.setIfInBounds_toArray, List.set_cons_zero, List.set_cons_succ]) | (refine x_val (v := ?_) (by rfl) (fun w' hx => ?_) ?_; rotate_left; (focus (go_simp; (try with_reducible rfl))); (try simp only [Act.put, List.setIfInBounds_toArray, List.set_cons_zero, List.set_cons_succ]))))
            refine x_nil (hQ.out _ ?_); clear hQ QQ
            intro w5 hb
            have B5 := Lib.hid (B3.out.trans (hb.mono B3.out.size))
            clear hb
            go_wp2_with fail
            go_roundw
            case rel => exact ⟨j + 1, true, by omega, by go_num, rfl, HN2, B5⟩
            case measure => simp [intOf]; omega
        · have hjm' : ¬ (j : Int) < (m : Int) := by omega
          have HA := Sh.mk (show th = L.any (fun a => decide (a.1 = x)) by
            have := HTH.out
            rw [List.take_of_length_le (by rw [HM.out]; omega)] at this
            exact this)
          have HT3 := Lib.hid (HT2.out.into B3.out)
          have PW3 := Lib.hid (PW.out.below B3.out)
          have B4 := Lib.hid (B2.out.trans (B3.out.mono B2.out.size))
          have HL8 := Sh.mk HOK.out.len
          clear HTH hjm hj B3 B2 HT2 PW K2 RW
          cases th
          · have NO := Sh.mk (show ¬ ∃ b ∈ L, b.1 = x from fun ⟨a, ha, he⟩ => by
              have h1 := HA.out
              have h2 : L.any (fun a => decide (a.1 = x)) = true := List.any_eq_true.2 ⟨a, ha, decide_eq_true he⟩
              rw [h2] at h1
              cases h1)
            have HG := Lib.hid (ad_gone w0.heap.size g b v 8 4 64 (L) x wr HT3.out (by have := HL8.out; omega))
            rw [gone_no NO.out] at HG
            go_wp2_with fail
            refine HG.out.mono ?_
            rintro e w3 ⟨v2, rfl, ht, hkt⟩
            have B5 := Lib.hid (B4.out.trans ((HT3.out.below hkt).mono W0.out))
            obtain ⟨pw, dw⟩ := hkt.row HT3.out PW3.out DW.out
            have K5 := Lib.hid (K3.out.below (HT3.out.below hkt) XL.out)
            have HT5 := Lib.hid ht
            clear ht hkt HT3 PW3 DW B4 K3 HG cx
            have HT3 := HT5
            have PW3 := Lib.hid pw
            have DW := Lib.hid dw
            have B4 := B5
            have K3 := K5
            have cx : w3.cell? ⟨X, 0, none⟩ = some (.int .i64 x) := by rw [K3.out.cell]; rfl
            clear HT5 pw dw B5 K5
            by_cases h0 : 0 ≤ x
            · have h0d : decide (0 ≤ x) = true := decide_eq_true h0
              by_cases h1 : x ≤ 255
              · have h1d : decide (x ≤ 255) = true := decide_eq_true h1
                by_cases h2 : 0 ≤ y
                · have h2d : decide (0 ≤ y) = true := decide_eq_true h2
                  by_cases h3 : y < 4
                  · have h3d : decide (y < 4) = true := decide_eq_true h3
                    by_cases h4 : m < 8
                    · have h4' : (m : Int) < 8 := by omega
                      have h4d : decide (m < 8) = true := decide_eq_true h4
                      have HAD := Lib.hid (ad_add w0.heap.size g b v2 8 4 64 L x y w3 HT3.out (by have := HL8.out; omega) (by omega) (by omega))
                      rw [add_new (a := (x, y)) NO.out (by unfold mayB; rw [decide_eq_true h0, decide_eq_true h1, decide_eq_true h2, decide_eq_true (show y < ((4 : Nat) : Int) by omega)]; rfl) (by have := HM.out; omega) (by omega)] at HAD
                      have cy : w3.cell? ⟨X, 1, none⟩ = some (.int .i64 y) := by rw [K3.out.cell]; rfl
                      go_wp2_with fail
                      refine HAD.out.mono ?_
                      rintro e w4 ⟨v3, rfl, ht, hkt⟩
                      have B5 := Lib.hid (B4.out.trans ((HT3.out.below hkt).mono W0.out))
                      obtain ⟨pw, dw⟩ := hkt.row HT3.out PW3.out DW.out
                      have K5 := Lib.hid (K3.out.below (HT3.out.below hkt) XL.out)
                      have HT5 := Lib.hid (show TB w4 w0.heap.size g b v3 8 4 48 (L ++ [(x, y)]) from ht)
                      clear ht hkt HT3 PW3 DW B4 K3 HAD cx cy
                      have HT3 := HT5
                      have PW3 := Lib.hid pw
                      have DW := Lib.hid dw
                      have B4 := B5
                      have K3 := K5
                      have cx : w4.cell? ⟨X, 0, none⟩ = some (.int .i64 x) := by rw [K3.out.cell]; rfl
                      have cy : w4.cell? ⟨X, 1, none⟩ = some (.int .i64 y) := by rw [K3.out.cell]; rfl
                      clear HT5 pw dw B5 K5
                      have HG := Lib.hid (ad_gone w0.heap.size g b v3 8 4 48 (L ++ [(x, y)]) x w4 HT3.out (by have := HL8.out; simp; omega))
                      rw [show adGone (L ++ [(x, y)]) x = (L, true) from gone_last (a := (x, y)) NO.out] at HG
                      go_wp2_with fail
                      refine HG.out.mono ?_
                      rintro e w5 ⟨v4, rfl, ht, hkt⟩
                      have B5 := Lib.hid (B4.out.trans ((HT3.out.below hkt).mono W0.out))
                      obtain ⟨pw, dw⟩ := hkt.row HT3.out PW3.out DW.out
                      have K5 := Lib.hid (K3.out.below (HT3.out.below hkt) XL.out)
                      have HT5 := Lib.hid ht
                      clear ht hkt HT3 PW3 DW B4 K3 HG cx
                      have HT3 := HT5
                      have PW3 := Lib.hid pw
                      have DW := Lib.hid dw
                      have B4 := B5
                      have K3 := K5
                      have cx : w5.cell? ⟨X, 0, none⟩ = some (.int .i64 x) := by rw [K3.out.cell]; rfl
                      clear HT5 pw dw B5 K5
                      clear cy
                      have LI := Lib.hid (ad_list w0.heap.size g b v4 8 4 48 (L) w5 HT3.out (by have := HL8.out; omega))
                      go_wp2_with fail
                      refine LI.out.mono ?_
                      rintro e w6 ⟨vn, rfl, hp, hb⟩
                      obtain ⟨Aq, nq, cq, rfl, _, _, hnq, hrq⟩ := hp.out
                      have HNq := Sh.mk hnq.out
                      have Rq := Lib.hid hrq.out
                      have PW5 := Lib.hid (PW3.out.below hb)
                      have B5 := Lib.hid (B4.out.trans (hb.mono B4.out.size))
                      clear hp hb hnq hrq LI HT3 PW3 B4 DW
                      have PW3 := PW5
                      have B4 := B5
                      clear PW5 B5
                      have hnm : nq = m := by have := HNq.out; have := HM.out; omega
                      subst hnm
                      have RW := Lib.hid (show Rd w6 w6.heap.size 2 Aw nq (pz L) from PW3.out.rd)
                      clear cx K3 PW3
                      have BS := Lib.hid (Below.refl w6.heap.size w6)
                      go_wp2_with fail
                      go_loopw [14] (fun iv wr2 => ∃ (i : Nat), i ≤ nq ∧ iv = .int .i64 (i : Nat) ∧ Hid (Below w6.heap.size w6 wr2)) (fun iv _ => nq - (intOf iv).toNat)
                      case atStart => exact ⟨0, Nat.zero_le _, rfl, BS⟩
                      case round =>
                        clear BS
                        obtain ⟨k, hk, rfl, B6⟩ := hrel
                        by_cases hkq : k < nq
                        · have hkq' : (k : Int) < (nq : Int) := by omega
                          have hk0 : (0 : Int) ≤ (k : Int) := by omega
                          have ek : IntKind.i64.wrap ((k : Int) + 1) = (k : Int) + 1 := by rw [IntKind.wrap_i64]; omega
                          obtain ⟨rb, off, x2, y2, rfl, hrb, hx, hy, HX1⟩ := RW.out.pz hkq
                          obtain ⟨rb2, off2, x3, y3, rfl, hrb2, hx3, hy3, HX2⟩ := Rq.out.pz hkq
                          have he := HX1.out.symm.trans HX2.out
                          injection he with he
                          injection he with he1 he2
                          subst he1 he2
                          have LX := Lib.hid (show ∀ j v, [Value.int .i64 x2, .int .i64 y2][j]? = some v → wr.cell? ⟨rb, off + k * 2 + j, none⟩ = some v from fun j v hj => by
                            match j, hj with
                            | 0, hj => exact ((B6.out.cell (p := ⟨rb, off + k * 2, none⟩) hrb).trans hx).trans hj
                            | 1, hj => exact ((B6.out.cell (p := ⟨rb, off + k * 2 + 1, none⟩) hrb).trans hy).trans hj)
                          have LY := Lib.hid (show ∀ j v, [Value.int .i64 x2, .int .i64 y2][j]? = some v → wr.cell? ⟨rb2, off2 + k * 2 + j, none⟩ = some v from fun j v hj => by
                            match j, hj with
                            | 0, hj => exact ((B6.out.cell (p := ⟨rb2, off2 + k * 2, none⟩) hrb2).trans hx3).trans hj
                            | 1, hj => exact ((B6.out.cell (p := ⟨rb2, off2 + k * 2 + 1, none⟩) hrb2).trans hy3).trans hj)
                          have EQ := ad_neq x2 y2 x2 y2
                          rw [decide_eq_true rfl] at EQ
                          clear hx hy hx3 hy3 HX1 HX2
                          go_wp2_with fail
                          refine wp_ext (by kernel_rfl) (by kernel_rfl) (fun QQ hQ => ?_)
                          (first | (refine x_load _ (by rfl) rfl rfl (by assumption) (by kernel_rfl) ?_; simp only [Act.put, List.setIfInBounds_toArray, List.set_cons_zero, List.set_cons_succ]) | (refine x_val (v := ?_) (by rfl) (fun w' hx => ?_) ?_; rotate_left; (focus (go_simp; (try with_reducible rfl))); (try simp only [Act.put, List.setIfInBounds_toArray, List.set_cons_zero, List.set_cons_succ])))
                          (first | (refine x_load _ (by rfl) rfl rfl (by assumption) (by kernel_rfl) ?_; simp only [Act.put, List.setIfInBounds_toArray, List.set_cons_zero, List.set_cons_succ]) | (refine x_val (v := ?_) (by rfl) (fun w' hx => ?_) ?_; rotate_left; (focus (go_simp; (try with_reducible rfl))); (try simp only [Act.put, List.setIfInBounds_toArray, List.set_cons_zero, List.set_cons_succ])))
                          (first | (refine x_load _ (by rfl) rfl rfl (by assumption) (by kernel_rfl) ?_; simp only [Act.put, List.setIfInBounds_toArray, List.set_cons_zero, List.set_cons_succ]) | (refine x_val (v := ?_) (by rfl) (fun w' hx => ?_) ?_; rotate_left; (focus (go_simp; (try with_reducible rfl))); (try simp only [Act.put, List.setIfInBounds_toArray, List.set_cons_zero, List.set_cons_succ])))
                          refine x_loads _ [.int .i64 x2, .int .i64 y2] (by rfl) rfl rfl (LY.out) (Nat.succ_pos _) (by kernel_rfl) (by kernel_rfl) ?_; simp only [Act.put, List.setIfInBounds_toArray, List.set_cons_zero, List.set_cons_succ]
                          (first | (refine x_load _ (by rfl) rfl rfl (by assumption) (by kernel_rfl) ?_; simp only [Act.put, List.setIfInBounds_toArray, List.set_cons_zero, List.set_cons_succ]) | (refine x_val (v := ?_) (by rfl) (fun w' hx => ?_) ?_; rotate_left; (focus (go_simp; (try with_reducible rfl))); (try simp only [Act.put, List.setIfInBounds_toArray, List.set_cons_zero, List.set_cons_succ])))
                          (first | (refine x_load _ (by rfl) rfl rfl (by assumption) (by kernel_rfl) ?_; simp only [Act.put, List.setIfInBounds_toArray, List.set_cons_zero, List.set_cons_succ]) | (refine x_val (v := ?_) (by rfl) (fun w' hx => ?_) ?_; rotate_left; (focus (go_simp; (try with_reducible rfl))); (try simp only [Act.put, List.setIfInBounds_toArray, List.set_cons_zero, List.set_cons_succ])))
                          (first | (refine x_load _ (by rfl) rfl rfl (by assumption) (by kernel_rfl) ?_; simp only [Act.put, List.setIfInBounds_toArray, List.set_cons_zero, List.set_cons_succ]) | (refine x_val (v := ?_) (by rfl) (fun w' hx => ?_) ?_; rotate_left; (focus (go_simp; (try with_reducible rfl))); (try simp only [Act.put, List.setIfInBounds_toArray, List.set_cons_zero, List.set_cons_succ])))
                          refine x_loads _ [.int .i64 x2, .int .i64 y2] (by rfl) rfl rfl (LX.out) (Nat.succ_pos _) (by kernel_rfl) (by kernel_rfl) ?_; simp only [Act.put, List.setIfInBounds_toArray, List.set_cons_zero, List.set_cons_succ]
                          (first | (refine x_load _ (by rfl) rfl rfl (by assumption) (by kernel_rfl) ?_; simp only [Act.put, List.setIfInBounds_toArray, List.set_cons_zero, List.set_cons_succ]) | (refine x_val (v := ?_) (by rfl) (fun w' hx => ?_) ?_; rotate_left; (focus (go_simp; (try with_reducible rfl))); (try simp only [Act.put, List.setIfInBounds_toArray, List.set_cons_zero, List.set_cons_succ])))
                          refine x_nil (hQ.out _ ?_); clear hQ QQ
                          intro w7 hb
                          have B7 := Lib.hid (B6.out.trans (hb.mono B6.out.size))
                          clear hb EQ LX LY
                          go_wp2_with fail
                          go_roundw
                          case rel => exact ⟨k + 1, by omega, by go_num, B7⟩
                          case measure => simp [intOf]; omega
                        · have hkq' : ¬ (k : Int) < (nq : Int) := by omega
                          have B8 := Lib.hid (B4.out.trans (B6.out.mono B4.out.size))
                          have AL := Lib.hid (adAlive wr)
                          clear hkq
                          go_wp2_with fail
                          refine AL.out.mono ?_
                          rintro e w9 ⟨rfl, hb⟩
                          have B9 := Lib.hid (B8.out.trans (hb.mono B8.out.size))
                          clear hb
                          go_wp2_with fail
                          go_ret
                          exact ⟨by simp, B9.out⟩
                    · have h4' : ¬ (m : Int) < 8 := by omega
                      have h4d : decide (m < 8) = false := decide_eq_false h4
                      have HAD := Lib.hid (ad_add w0.heap.size g b v2 8 4 64 L x y w3 HT3.out (by have := HL8.out; omega) (by omega) (by omega))
                      rw [add_not (a := (x, y)) NO.out (.inr (by have := HM.out; omega))] at HAD
                      have cy : w3.cell? ⟨X, 1, none⟩ = some (.int .i64 y) := by rw [K3.out.cell]; rfl
                      go_wp2_with fail
                      refine HAD.out.mono ?_
                      rintro e w4 ⟨v3, rfl, ht, hkt⟩
                      have B5 := Lib.hid (B4.out.trans ((HT3.out.below hkt).mono W0.out))
                      obtain ⟨pw, dw⟩ := hkt.row HT3.out PW3.out DW.out
                      have K5 := Lib.hid (K3.out.below (HT3.out.below hkt) XL.out)
                      have HT5 := Lib.hid (show TB w4 w0.heap.size g b v3 8 4 64 (L) from ht)
                      clear ht hkt HT3 PW3 DW B4 K3 HAD cx cy
                      have HT3 := HT5
                      have PW3 := Lib.hid pw
                      have DW := Lib.hid dw
                      have B4 := B5
                      have K3 := K5
                      have cx : w4.cell? ⟨X, 0, none⟩ = some (.int .i64 x) := by rw [K3.out.cell]; rfl
                      have cy : w4.cell? ⟨X, 1, none⟩ = some (.int .i64 y) := by rw [K3.out.cell]; rfl
                      clear HT5 pw dw B5 K5
                      have HG := Lib.hid (ad_gone w0.heap.size g b v3 8 4 64 (L) x w4 HT3.out (by have := HL8.out; omega))
                      rw [gone_no NO.out] at HG
                      go_wp2_with fail
                      refine HG.out.mono ?_
                      rintro e w5 ⟨v4, rfl, ht, hkt⟩
                      have B5 := Lib.hid (B4.out.trans ((HT3.out.below hkt).mono W0.out))
                      obtain ⟨pw, dw⟩ := hkt.row HT3.out PW3.out DW.out
                      have K5 := Lib.hid (K3.out.below (HT3.out.below hkt) XL.out)
                      have HT5 := Lib.hid ht
                      clear ht hkt HT3 PW3 DW B4 K3 HG cx
                      have HT3 := HT5
                      have PW3 := Lib.hid pw
                      have DW := Lib.hid dw
                      have B4 := B5
                      have K3 := K5
                      have cx : w5.cell? ⟨X, 0, none⟩ = some (.int .i64 x) := by rw [K3.out.cell]; rfl
                      clear HT5 pw dw B5 K5
                      clear cy
                      have LI := Lib.hid (ad_list w0.heap.size g b v4 8 4 64 (L) w5 HT3.out (by have := HL8.out; omega))
                      go_wp2_with fail
                      refine LI.out.mono ?_
                      rintro e w6 ⟨vn, rfl, hp, hb⟩
                      obtain ⟨Aq, nq, cq, rfl, _, _, hnq, hrq⟩ := hp.out
                      have HNq := Sh.mk hnq.out
                      have Rq := Lib.hid hrq.out
                      have PW5 := Lib.hid (PW3.out.below hb)
                      have B5 := Lib.hid (B4.out.trans (hb.mono B4.out.size))
                      clear hp hb hnq hrq LI HT3 PW3 B4 DW
                      have PW3 := PW5
                      have B4 := B5
                      clear PW5 B5
                      have hnm : nq = m := by have := HNq.out; have := HM.out; omega
                      subst hnm
                      have RW := Lib.hid (show Rd w6 w6.heap.size 2 Aw nq (pz L) from PW3.out.rd)
                      clear cx K3 PW3
                      have BS := Lib.hid (Below.refl w6.heap.size w6)
                      go_wp2_with fail
                      go_loopw [14] (fun iv wr2 => ∃ (i : Nat), i ≤ nq ∧ iv = .int .i64 (i : Nat) ∧ Hid (Below w6.heap.size w6 wr2)) (fun iv _ => nq - (intOf iv).toNat)
                      case atStart => exact ⟨0, Nat.zero_le _, rfl, BS⟩
                      case round =>
                        clear BS
                        obtain ⟨k, hk, rfl, B6⟩ := hrel
                        by_cases hkq : k < nq
                        · have hkq' : (k : Int) < (nq : Int) := by omega
                          have hk0 : (0 : Int) ≤ (k : Int) := by omega
                          have ek : IntKind.i64.wrap ((k : Int) + 1) = (k : Int) + 1 := by rw [IntKind.wrap_i64]; omega
                          obtain ⟨rb, off, x2, y2, rfl, hrb, hx, hy, HX1⟩ := RW.out.pz hkq
                          obtain ⟨rb2, off2, x3, y3, rfl, hrb2, hx3, hy3, HX2⟩ := Rq.out.pz hkq
                          have he := HX1.out.symm.trans HX2.out
                          injection he with he
                          injection he with he1 he2
                          subst he1 he2
                          have LX := Lib.hid (show ∀ j v, [Value.int .i64 x2, .int .i64 y2][j]? = some v → wr.cell? ⟨rb, off + k * 2 + j, none⟩ = some v from fun j v hj => by
                            match j, hj with
                            | 0, hj => exact ((B6.out.cell (p := ⟨rb, off + k * 2, none⟩) hrb).trans hx).trans hj
                            | 1, hj => exact ((B6.out.cell (p := ⟨rb, off + k * 2 + 1, none⟩) hrb).trans hy).trans hj)
                          have LY := Lib.hid (show ∀ j v, [Value.int .i64 x2, .int .i64 y2][j]? = some v → wr.cell? ⟨rb2, off2 + k * 2 + j, none⟩ = some v from fun j v hj => by
                            match j, hj with
                            | 0, hj => exact ((B6.out.cell (p := ⟨rb2, off2 + k * 2, none⟩) hrb2).trans hx3).trans hj
                            | 1, hj => exact ((B6.out.cell (p := ⟨rb2, off2 + k * 2 + 1, none⟩) hrb2).trans hy3).trans hj)
                          have EQ := ad_neq x2 y2 x2 y2
                          rw [decide_eq_true rfl] at EQ
                          clear hx hy hx3 hy3 HX1 HX2
                          go_wp2_with fail
                          refine wp_ext (by kernel_rfl) (by kernel_rfl) (fun QQ hQ => ?_)
                          (first | (refine x_load _ (by rfl) rfl rfl (by assumption) (by kernel_rfl) ?_; simp only [Act.put, List.setIfInBounds_toArray, List.set_cons_zero, List.set_cons_succ]) | (refine x_val (v := ?_) (by rfl) (fun w' hx => ?_) ?_; rotate_left; (focus (go_simp; (try with_reducible rfl))); (try simp only [Act.put, List.setIfInBounds_toArray, List.set_cons_zero, List.set_cons_succ])))
                          (first | (refine x_load _ (by rfl) rfl rfl (by assumption) (by kernel_rfl) ?_; simp only [Act.put, List.setIfInBounds_toArray, List.set_cons_zero, List.set_cons_succ]) | (refine x_val (v := ?_) (by rfl) (fun w' hx => ?_) ?_; rotate_left; (focus (go_simp; (try with_reducible rfl))); (try simp only [Act.put, List.setIfInBounds_toArray, List.set_cons_zero, List.set_cons_succ])))
                          (first | (refine x_load _ (by rfl) rfl rfl (by assumption) (by kernel_rfl) ?_; simp only [Act.put, List.setIfInBounds_toArray, List.set_cons_zero, List.set_cons_succ]) | (refine x_val (v := ?_) (by rfl) (fun w' hx => ?_) ?_; rotate_left; (focus (go_simp; (try with_reducible rfl))); (try simp only [Act.put, List.setIfInBounds_toArray, List.set_cons_zero, List.set_cons_succ])))
                          refine x_loads _ [.int .i64 x2, .int .i64 y2] (by rfl) rfl rfl (LY.out) (Nat.succ_pos _) (by kernel_rfl) (by kernel_rfl) ?_; simp only [Act.put, List.setIfInBounds_toArray, List.set_cons_zero, List.set_cons_succ]
                          (first | (refine x_load _ (by rfl) rfl rfl (by assumption) (by kernel_rfl) ?_; simp only [Act.put, List.setIfInBounds_toArray, List.set_cons_zero, List.set_cons_succ]) | (refine x_val (v := ?_) (by rfl) (fun w' hx => ?_) ?_; rotate_left; (focus (go_simp; (try with_reducible rfl))); (try simp only [Act.put, List.setIfInBounds_toArray, List.set_cons_zero, List.set_cons_succ])))
                          (first | (refine x_load _ (by rfl) rfl rfl (by assumption) (by kernel_rfl) ?_; simp only [Act.put, List.setIfInBounds_toArray, List.set_cons_zero, List.set_cons_succ]) | (refine x_val (v := ?_) (by rfl) (fun w' hx => ?_) ?_; rotate_left; (focus (go_simp; (try with_reducible rfl))); (try simp only [Act.put, List.setIfInBounds_toArray, List.set_cons_zero, List.set_cons_succ])))
                          (first | (refine x_load _ (by rfl) rfl rfl (by assumption) (by kernel_rfl) ?_; simp only [Act.put, List.setIfInBounds_toArray, List.set_cons_zero, List.set_cons_succ]) | (refine x_val (v := ?_) (by rfl) (fun w' hx => ?_) ?_; rotate_left; (focus (go_simp; (try with_reducible rfl))); (try simp only [Act.put, List.setIfInBounds_toArray, List.set_cons_zero, List.set_cons_succ])))
                          refine x_loads _ [.int .i64 x2, .int .i64 y2] (by rfl) rfl rfl (LX.out) (Nat.succ_pos _) (by kernel_rfl) (by kernel_rfl) ?_; simp only [Act.put, List.setIfInBounds_toArray, List.set_cons_zero, List.set_cons_succ]
                          (first | (refine x_load _ (by rfl) rfl rfl (by assumption) (by kernel_rfl) ?_; simp only [Act.put, List.setIfInBounds_toArray, List.set_cons_zero, List.set_cons_succ]) | (refine x_val (v := ?_) (by rfl) (fun w' hx => ?_) ?_; rotate_left; (focus (go_simp; (try with_reducible rfl))); (try simp only [Act.put, List.setIfInBounds_toArray, List.set_cons_zero, List.set_cons_succ])))
                          refine x_nil (hQ.out _ ?_); clear hQ QQ
                          intro w7 hb
                          have B7 := Lib.hid (B6.out.trans (hb.mono B6.out.size))
                          clear hb EQ LX LY
                          go_wp2_with fail
                          go_roundw
                          case rel => exact ⟨k + 1, by omega, by go_num, B7⟩
                          case measure => simp [intOf]; omega
                        · have hkq' : ¬ (k : Int) < (nq : Int) := by omega
                          have B8 := Lib.hid (B4.out.trans (B6.out.mono B4.out.size))
                          have AL := Lib.hid (adAlive wr)
                          clear hkq
                          go_wp2_with fail
                          refine AL.out.mono ?_
                          rintro e w9 ⟨rfl, hb⟩
                          have B9 := Lib.hid (B8.out.trans (hb.mono B8.out.size))
                          clear hb
                          go_wp2_with fail
                          go_ret
                          exact ⟨by simp, B9.out⟩
                  · have h3d : decide (y < 4) = false := decide_eq_false h3
                    have HAD := Lib.hid (ad_add w0.heap.size g b v2 8 4 64 L x y w3 HT3.out (by have := HL8.out; omega) (by omega) (by omega))
                    rw [add_not (a := (x, y)) NO.out (.inl (by unfold mayB; rw [decide_eq_false (show ¬ y < ((4 : Nat) : Int) by omega)]; simp))] at HAD
                    have cy : w3.cell? ⟨X, 1, none⟩ = some (.int .i64 y) := by rw [K3.out.cell]; rfl
                    go_wp2_with fail
                    refine HAD.out.mono ?_
                    rintro e w4 ⟨v3, rfl, ht, hkt⟩
                    have B5 := Lib.hid (B4.out.trans ((HT3.out.below hkt).mono W0.out))
                    obtain ⟨pw, dw⟩ := hkt.row HT3.out PW3.out DW.out
                    have K5 := Lib.hid (K3.out.below (HT3.out.below hkt) XL.out)
                    have HT5 := Lib.hid (show TB w4 w0.heap.size g b v3 8 4 64 (L) from ht)
                    clear ht hkt HT3 PW3 DW B4 K3 HAD cx cy
                    have HT3 := HT5
                    have PW3 := Lib.hid pw
                    have DW := Lib.hid dw
                    have B4 := B5
                    have K3 := K5
                    have cx : w4.cell? ⟨X, 0, none⟩ = some (.int .i64 x) := by rw [K3.out.cell]; rfl
                    have cy : w4.cell? ⟨X, 1, none⟩ = some (.int .i64 y) := by rw [K3.out.cell]; rfl
                    clear HT5 pw dw B5 K5
                    have HG := Lib.hid (ad_gone w0.heap.size g b v3 8 4 64 (L) x w4 HT3.out (by have := HL8.out; omega))
                    rw [gone_no NO.out] at HG
                    go_wp2_with fail
                    refine HG.out.mono ?_
                    rintro e w5 ⟨v4, rfl, ht, hkt⟩
                    have B5 := Lib.hid (B4.out.trans ((HT3.out.below hkt).mono W0.out))
                    obtain ⟨pw, dw⟩ := hkt.row HT3.out PW3.out DW.out
                    have K5 := Lib.hid (K3.out.below (HT3.out.below hkt) XL.out)
                    have HT5 := Lib.hid ht
                    clear ht hkt HT3 PW3 DW B4 K3 HG cx
                    have HT3 := HT5
                    have PW3 := Lib.hid pw
                    have DW := Lib.hid dw
                    have B4 := B5
                    have K3 := K5
                    have cx : w5.cell? ⟨X, 0, none⟩ = some (.int .i64 x) := by rw [K3.out.cell]; rfl
                    clear HT5 pw dw B5 K5
                    clear cy
                    have LI := Lib.hid (ad_list w0.heap.size g b v4 8 4 64 (L) w5 HT3.out (by have := HL8.out; omega))
                    go_wp2_with fail
                    refine LI.out.mono ?_
                    rintro e w6 ⟨vn, rfl, hp, hb⟩
                    obtain ⟨Aq, nq, cq, rfl, _, _, hnq, hrq⟩ := hp.out
                    have HNq := Sh.mk hnq.out
                    have Rq := Lib.hid hrq.out
                    have PW5 := Lib.hid (PW3.out.below hb)
                    have B5 := Lib.hid (B4.out.trans (hb.mono B4.out.size))
                    clear hp hb hnq hrq LI HT3 PW3 B4 DW
                    have PW3 := PW5
                    have B4 := B5
                    clear PW5 B5
                    have hnm : nq = m := by have := HNq.out; have := HM.out; omega
                    subst hnm
                    have RW := Lib.hid (show Rd w6 w6.heap.size 2 Aw nq (pz L) from PW3.out.rd)
                    clear cx K3 PW3
                    have BS := Lib.hid (Below.refl w6.heap.size w6)
                    go_wp2_with fail
                    go_loopw [14] (fun iv wr2 => ∃ (i : Nat), i ≤ nq ∧ iv = .int .i64 (i : Nat) ∧ Hid (Below w6.heap.size w6 wr2)) (fun iv _ => nq - (intOf iv).toNat)
                    case atStart => exact ⟨0, Nat.zero_le _, rfl, BS⟩
                    case round =>
                      clear BS
                      obtain ⟨k, hk, rfl, B6⟩ := hrel
                      by_cases hkq : k < nq
                      · have hkq' : (k : Int) < (nq : Int) := by omega
                        have hk0 : (0 : Int) ≤ (k : Int) := by omega
                        have ek : IntKind.i64.wrap ((k : Int) + 1) = (k : Int) + 1 := by rw [IntKind.wrap_i64]; omega
                        obtain ⟨rb, off, x2, y2, rfl, hrb, hx, hy, HX1⟩ := RW.out.pz hkq
                        obtain ⟨rb2, off2, x3, y3, rfl, hrb2, hx3, hy3, HX2⟩ := Rq.out.pz hkq
                        have he := HX1.out.symm.trans HX2.out
                        injection he with he
                        injection he with he1 he2
                        subst he1 he2
                        have LX := Lib.hid (show ∀ j v, [Value.int .i64 x2, .int .i64 y2][j]? = some v → wr.cell? ⟨rb, off + k * 2 + j, none⟩ = some v from fun j v hj => by
                          match j, hj with
                          | 0, hj => exact ((B6.out.cell (p := ⟨rb, off + k * 2, none⟩) hrb).trans hx).trans hj
                          | 1, hj => exact ((B6.out.cell (p := ⟨rb, off + k * 2 + 1, none⟩) hrb).trans hy).trans hj)
                        have LY := Lib.hid (show ∀ j v, [Value.int .i64 x2, .int .i64 y2][j]? = some v → wr.cell? ⟨rb2, off2 + k * 2 + j, none⟩ = some v from fun j v hj => by
                          match j, hj with
                          | 0, hj => exact ((B6.out.cell (p := ⟨rb2, off2 + k * 2, none⟩) hrb2).trans hx3).trans hj
                          | 1, hj => exact ((B6.out.cell (p := ⟨rb2, off2 + k * 2 + 1, none⟩) hrb2).trans hy3).trans hj)
                        have EQ := ad_neq x2 y2 x2 y2
                        rw [decide_eq_true rfl] at EQ
                        clear hx hy hx3 hy3 HX1 HX2
                        go_wp2_with fail
                        refine wp_ext (by kernel_rfl) (by kernel_rfl) (fun QQ hQ => ?_)
                        (first | (refine x_load _ (by rfl) rfl rfl (by assumption) (by kernel_rfl) ?_; simp only [Act.put, List.setIfInBounds_toArray, List.set_cons_zero, List.set_cons_succ]) | (refine x_val (v := ?_) (by rfl) (fun w' hx => ?_) ?_; rotate_left; (focus (go_simp; (try with_reducible rfl))); (try simp only [Act.put, List.setIfInBounds_toArray, List.set_cons_zero, List.set_cons_succ])))
                        (first | (refine x_load _ (by rfl) rfl rfl (by assumption) (by kernel_rfl) ?_; simp only [Act.put, List.setIfInBounds_toArray, List.set_cons_zero, List.set_cons_succ]) | (refine x_val (v := ?_) (by rfl) (fun w' hx => ?_) ?_; rotate_left; (focus (go_simp; (try with_reducible rfl))); (try simp only [Act.put, List.setIfInBounds_toArray, List.set_cons_zero, List.set_cons_succ])))
                        (first | (refine x_load _ (by rfl) rfl rfl (by assumption) (by kernel_rfl) ?_; simp only [Act.put, List.setIfInBounds_toArray, List.set_cons_zero, List.set_cons_succ]) | (refine x_val (v := ?_) (by rfl) (fun w' hx => ?_) ?_; rotate_left; (focus (go_simp; (try with_reducible rfl))); (try simp only [Act.put, List.setIfInBounds_toArray, List.set_cons_zero, List.set_cons_succ])))
                        refine x_loads _ [.int .i64 x2, .int .i64 y2] (by rfl) rfl rfl (LY.out) (Nat.succ_pos _) (by kernel_rfl) (by kernel_rfl) ?_; simp only [Act.put, List.setIfInBounds_toArray, List.set_cons_zero, List.set_cons_succ]
                        (first | (refine x_load _ (by rfl) rfl rfl (by assumption) (by kernel_rfl) ?_; simp only [Act.put, List.setIfInBounds_toArray, List.set_cons_zero, List.set_cons_succ]) | (refine x_val (v := ?_) (by rfl) (fun w' hx => ?_) ?_; rotate_left; (focus (go_simp; (try with_reducible rfl))); (try simp only [Act.put, List.setIfInBounds_toArray, List.set_cons_zero, List.set_cons_succ])))
                        (first | (refine x_load _ (by rfl) rfl rfl (by assumption) (by kernel_rfl) ?_; simp only [Act.put, List.setIfInBounds_toArray, List.set_cons_zero, List.set_cons_succ]) | (refine x_val (v := ?_) (by rfl) (fun w' hx => ?_) ?_; rotate_left; (focus (go_simp; (try with_reducible rfl))); (try simp only [Act.put, List.setIfInBounds_toArray, List.set_cons_zero, List.set_cons_succ])))
                        (first | (refine x_load _ (by rfl) rfl rfl (by assumption) (by kernel_rfl) ?_; simp only [Act.put, List.setIfInBounds_toArray, List.set_cons_zero, List.set_cons_succ]) | (refine x_val (v := ?_) (by rfl) (fun w' hx => ?_) ?_; rotate_left; (focus (go_simp; (try with_reducible rfl))); (try simp only [Act.put, List.setIfInBounds_toArray, List.set_cons_zero, List.set_cons_succ])))
                        refine x_loads _ [.int .i64 x2, .int .i64 y2] (by rfl) rfl rfl (LX.out) (Nat.succ_pos _) (by kernel_rfl) (by kernel_rfl) ?_; simp only [Act.put, List.setIfInBounds_toArray, List.set_cons_zero, List.set_cons_succ]
                        (first | (refine x_load _ (by rfl) rfl rfl (by assumption) (by kernel_rfl) ?_; simp only [Act.put, List.setIfInBounds_toArray, List.set_cons_zero, List.set_cons_succ]) | (refine x_val (v := ?_) (by rfl) (fun w' hx => ?_) ?_; rotate_left; (focus (go_simp; (try with_reducible rfl))); (try simp only [Act.put, List.setIfInBounds_toArray, List.set_cons_zero, List.set_cons_succ])))
                        refine x_nil (hQ.out _ ?_); clear hQ QQ
                        intro w7 hb
                        have B7 := Lib.hid (B6.out.trans (hb.mono B6.out.size))
                        clear hb EQ LX LY
                        go_wp2_with fail
                        go_roundw
                        case rel => exact ⟨k + 1, by omega, by go_num, B7⟩
                        case measure => simp [intOf]; omega
                      · have hkq' : ¬ (k : Int) < (nq : Int) := by omega
                        have B8 := Lib.hid (B4.out.trans (B6.out.mono B4.out.size))
                        have AL := Lib.hid (adAlive wr)
                        clear hkq
                        go_wp2_with fail
                        refine AL.out.mono ?_
                        rintro e w9 ⟨rfl, hb⟩
                        have B9 := Lib.hid (B8.out.trans (hb.mono B8.out.size))
                        clear hb
                        go_wp2_with fail
                        go_ret
                        exact ⟨by simp, B9.out⟩
                · have h2d : decide (0 ≤ y) = false := decide_eq_false h2
                  have HAD := Lib.hid (ad_add w0.heap.size g b v2 8 4 64 L x y w3 HT3.out (by have := HL8.out; omega) (by omega) (by omega))
                  rw [add_not (a := (x, y)) NO.out (.inl (by unfold mayB; rw [decide_eq_false h2]; simp))] at HAD
                  have cy : w3.cell? ⟨X, 1, none⟩ = some (.int .i64 y) := by rw [K3.out.cell]; rfl
                  go_wp2_with fail
                  refine HAD.out.mono ?_
                  rintro e w4 ⟨v3, rfl, ht, hkt⟩
                  have B5 := Lib.hid (B4.out.trans ((HT3.out.below hkt).mono W0.out))
                  obtain ⟨pw, dw⟩ := hkt.row HT3.out PW3.out DW.out
                  have K5 := Lib.hid (K3.out.below (HT3.out.below hkt) XL.out)
                  have HT5 := Lib.hid (show TB w4 w0.heap.size g b v3 8 4 64 (L) from ht)
                  clear ht hkt HT3 PW3 DW B4 K3 HAD cx cy
                  have HT3 := HT5
                  have PW3 := Lib.hid pw
                  have DW := Lib.hid dw
                  have B4 := B5
                  have K3 := K5
                  have cx : w4.cell? ⟨X, 0, none⟩ = some (.int .i64 x) := by rw [K3.out.cell]; rfl
                  have cy : w4.cell? ⟨X, 1, none⟩ = some (.int .i64 y) := by rw [K3.out.cell]; rfl
                  clear HT5 pw dw B5 K5
                  have HG := Lib.hid (ad_gone w0.heap.size g b v3 8 4 64 (L) x w4 HT3.out (by have := HL8.out; omega))
                  rw [gone_no NO.out] at HG
                  go_wp2_with fail
                  refine HG.out.mono ?_
                  rintro e w5 ⟨v4, rfl, ht, hkt⟩
                  have B5 := Lib.hid (B4.out.trans ((HT3.out.below hkt).mono W0.out))
                  obtain ⟨pw, dw⟩ := hkt.row HT3.out PW3.out DW.out
                  have K5 := Lib.hid (K3.out.below (HT3.out.below hkt) XL.out)
                  have HT5 := Lib.hid ht
                  clear ht hkt HT3 PW3 DW B4 K3 HG cx
                  have HT3 := HT5
                  have PW3 := Lib.hid pw
                  have DW := Lib.hid dw
                  have B4 := B5
                  have K3 := K5
                  have cx : w5.cell? ⟨X, 0, none⟩ = some (.int .i64 x) := by rw [K3.out.cell]; rfl
                  clear HT5 pw dw B5 K5
                  clear cy
                  have LI := Lib.hid (ad_list w0.heap.size g b v4 8 4 64 (L) w5 HT3.out (by have := HL8.out; omega))
                  go_wp2_with fail
                  refine LI.out.mono ?_
                  rintro e w6 ⟨vn, rfl, hp, hb⟩
                  obtain ⟨Aq, nq, cq, rfl, _, _, hnq, hrq⟩ := hp.out
                  have HNq := Sh.mk hnq.out
                  have Rq := Lib.hid hrq.out
                  have PW5 := Lib.hid (PW3.out.below hb)
                  have B5 := Lib.hid (B4.out.trans (hb.mono B4.out.size))
                  clear hp hb hnq hrq LI HT3 PW3 B4 DW
                  have PW3 := PW5
                  have B4 := B5
                  clear PW5 B5
                  have hnm : nq = m := by have := HNq.out; have := HM.out; omega
                  subst hnm
                  have RW := Lib.hid (show Rd w6 w6.heap.size 2 Aw nq (pz L) from PW3.out.rd)
                  clear cx K3 PW3
                  have BS := Lib.hid (Below.refl w6.heap.size w6)
                  go_wp2_with fail
                  go_loopw [14] (fun iv wr2 => ∃ (i : Nat), i ≤ nq ∧ iv = .int .i64 (i : Nat) ∧ Hid (Below w6.heap.size w6 wr2)) (fun iv _ => nq - (intOf iv).toNat)
                  case atStart => exact ⟨0, Nat.zero_le _, rfl, BS⟩
                  case round =>
                    clear BS
                    obtain ⟨k, hk, rfl, B6⟩ := hrel
                    by_cases hkq : k < nq
                    · have hkq' : (k : Int) < (nq : Int) := by omega
                      have hk0 : (0 : Int) ≤ (k : Int) := by omega
                      have ek : IntKind.i64.wrap ((k : Int) + 1) = (k : Int) + 1 := by rw [IntKind.wrap_i64]; omega
                      obtain ⟨rb, off, x2, y2, rfl, hrb, hx, hy, HX1⟩ := RW.out.pz hkq
                      obtain ⟨rb2, off2, x3, y3, rfl, hrb2, hx3, hy3, HX2⟩ := Rq.out.pz hkq
                      have he := HX1.out.symm.trans HX2.out
                      injection he with he
                      injection he with he1 he2
                      subst he1 he2
                      have LX := Lib.hid (show ∀ j v, [Value.int .i64 x2, .int .i64 y2][j]? = some v → wr.cell? ⟨rb, off + k * 2 + j, none⟩ = some v from fun j v hj => by
                        match j, hj with
                        | 0, hj => exact ((B6.out.cell (p := ⟨rb, off + k * 2, none⟩) hrb).trans hx).trans hj
                        | 1, hj => exact ((B6.out.cell (p := ⟨rb, off + k * 2 + 1, none⟩) hrb).trans hy).trans hj)
                      have LY := Lib.hid (show ∀ j v, [Value.int .i64 x2, .int .i64 y2][j]? = some v → wr.cell? ⟨rb2, off2 + k * 2 + j, none⟩ = some v from fun j v hj => by
                        match j, hj with
                        | 0, hj => exact ((B6.out.cell (p := ⟨rb2, off2 + k * 2, none⟩) hrb2).trans hx3).trans hj
                        | 1, hj => exact ((B6.out.cell (p := ⟨rb2, off2 + k * 2 + 1, none⟩) hrb2).trans hy3).trans hj)
                      have EQ := ad_neq x2 y2 x2 y2
                      rw [decide_eq_true rfl] at EQ
                      clear hx hy hx3 hy3 HX1 HX2
                      go_wp2_with fail
                      refine wp_ext (by kernel_rfl) (by kernel_rfl) (fun QQ hQ => ?_)
                      (first | (refine x_load _ (by rfl) rfl rfl (by assumption) (by kernel_rfl) ?_; simp only [Act.put, List.setIfInBounds_toArray, List.set_cons_zero, List.set_cons_succ]) | (refine x_val (v := ?_) (by rfl) (fun w' hx => ?_) ?_; rotate_left; (focus (go_simp; (try with_reducible rfl))); (try simp only [Act.put, List.setIfInBounds_toArray, List.set_cons_zero, List.set_cons_succ])))
                      (first | (refine x_load _ (by rfl) rfl rfl (by assumption) (by kernel_rfl) ?_; simp only [Act.put, List.setIfInBounds_toArray, List.set_cons_zero, List.set_cons_succ]) | (refine x_val (v := ?_) (by rfl) (fun w' hx => ?_) ?_; rotate_left; (focus (go_simp; (try with_reducible rfl))); (try simp only [Act.put, List.setIfInBounds_toArray, List.set_cons_zero, List.set_cons_succ])))
                      (first | (refine x_load _ (by rfl) rfl rfl (by assumption) (by kernel_rfl) ?_; simp only [Act.put, List.setIfInBounds_toArray, List.set_cons_zero, List.set_cons_succ]) | (refine x_val (v := ?_) (by rfl) (fun w' hx => ?_) ?_; rotate_left; (focus (go_simp; (try with_reducible rfl))); (try simp only [Act.put, List.setIfInBounds_toArray, List.set_cons_zero, List.set_cons_succ])))
                      refine x_loads _ [.int .i64 x2, .int .i64 y2] (by rfl) rfl rfl (LY.out) (Nat.succ_pos _) (by kernel_rfl) (by kernel_rfl) ?_; simp only [Act.put, List.setIfInBounds_toArray, List.set_cons_zero, List.set_cons_succ]
                      (first | (refine x_load _ (by rfl) rfl rfl (by assumption) (by kernel_rfl) ?_; simp only [Act.put, List.setIfInBounds_toArray, List.set_cons_zero, List.set_cons_succ]) | (refine x_val (v := ?_) (by rfl) (fun w' hx => ?_) ?_; rotate_left; (focus (go_simp; (try with_reducible rfl))); (try simp only [Act.put, List.setIfInBounds_toArray, List.set_cons_zero, List.set_cons_succ])))
                      (first | (refine x_load _ (by rfl) rfl rfl (by assumption) (by kernel_rfl) ?_; simp only [Act.put, List.setIfInBounds_toArray, List.set_cons_zero, List.set_cons_succ]) | (refine x_val (v := ?_) (by rfl) (fun w' hx => ?_) ?_; rotate_left; (focus (go_simp; (try with_reducible rfl))); (try simp only [Act.put, List.setIfInBounds_toArray, List.set_cons_zero, List.set_cons_succ])))
                      (first | (refine x_load _ (by rfl) rfl rfl (by assumption) (by kernel_rfl) ?_; simp only [Act.put, List.setIfInBounds_toArray, List.set_cons_zero, List.set_cons_succ]) | (refine x_val (v := ?_) (by rfl) (fun w' hx => ?_) ?_; rotate_left; (focus (go_simp; (try with_reducible rfl))); (try simp only [Act.put, List.setIfInBounds_toArray, List.set_cons_zero, List.set_cons_succ])))
                      refine x_loads _ [.int .i64 x2, .int .i64 y2] (by rfl) rfl rfl (LX.out) (Nat.succ_pos _) (by kernel_rfl) (by kernel_rfl) ?_; simp only [Act.put, List.setIfInBounds_toArray, List.set_cons_zero, List.set_cons_succ]
                      (first | (refine x_load _ (by rfl) rfl rfl (by assumption) (by kernel_rfl) ?_; simp only [Act.put, List.setIfInBounds_toArray, List.set_cons_zero, List.set_cons_succ]) | (refine x_val (v := ?_) (by rfl) (fun w' hx => ?_) ?_; rotate_left; (focus (go_simp; (try with_reducible rfl))); (try simp only [Act.put, List.setIfInBounds_toArray, List.set_cons_zero, List.set_cons_succ])))
                      refine x_nil (hQ.out _ ?_); clear hQ QQ
                      intro w7 hb
                      have B7 := Lib.hid (B6.out.trans (hb.mono B6.out.size))
                      clear hb EQ LX LY
                      go_wp2_with fail
                      go_roundw
                      case rel => exact ⟨k + 1, by omega, by go_num, B7⟩
                      case measure => simp [intOf]; omega
                    · have hkq' : ¬ (k : Int) < (nq : Int) := by omega
                      have B8 := Lib.hid (B4.out.trans (B6.out.mono B4.out.size))
                      have AL := Lib.hid (adAlive wr)
                      clear hkq
                      go_wp2_with fail
                      refine AL.out.mono ?_
                      rintro e w9 ⟨rfl, hb⟩
                      have B9 := Lib.hid (B8.out.trans (hb.mono B8.out.size))
                      clear hb
                      go_wp2_with fail
                      go_ret
                      exact ⟨by simp, B9.out⟩
              · have h1d : decide (x ≤ 255) = false := decide_eq_false h1
                have HAD := Lib.hid (ad_add w0.heap.size g b v2 8 4 64 L x y w3 HT3.out (by have := HL8.out; omega) (by omega) (by omega))
                rw [add_not (a := (x, y)) NO.out (.inl (by unfold mayB; rw [decide_eq_false h1]; simp))] at HAD
                have cy : w3.cell? ⟨X, 1, none⟩ = some (.int .i64 y) := by rw [K3.out.cell]; rfl
                go_wp2_with fail
                refine HAD.out.mono ?_
                rintro e w4 ⟨v3, rfl, ht, hkt⟩
                have B5 := Lib.hid (B4.out.trans ((HT3.out.below hkt).mono W0.out))
                obtain ⟨pw, dw⟩ := hkt.row HT3.out PW3.out DW.out
                have K5 := Lib.hid (K3.out.below (HT3.out.below hkt) XL.out)
                have HT5 := Lib.hid (show TB w4 w0.heap.size g b v3 8 4 64 (L) from ht)
                clear ht hkt HT3 PW3 DW B4 K3 HAD cx cy
                have HT3 := HT5
                have PW3 := Lib.hid pw
                have DW := Lib.hid dw
                have B4 := B5
                have K3 := K5
                have cx : w4.cell? ⟨X, 0, none⟩ = some (.int .i64 x) := by rw [K3.out.cell]; rfl
                have cy : w4.cell? ⟨X, 1, none⟩ = some (.int .i64 y) := by rw [K3.out.cell]; rfl
                clear HT5 pw dw B5 K5
                have HG := Lib.hid (ad_gone w0.heap.size g b v3 8 4 64 (L) x w4 HT3.out (by have := HL8.out; omega))
                rw [gone_no NO.out] at HG
                go_wp2_with fail
                refine HG.out.mono ?_
                rintro e w5 ⟨v4, rfl, ht, hkt⟩
                have B5 := Lib.hid (B4.out.trans ((HT3.out.below hkt).mono W0.out))
                obtain ⟨pw, dw⟩ := hkt.row HT3.out PW3.out DW.out
                have K5 := Lib.hid (K3.out.below (HT3.out.below hkt) XL.out)
                have HT5 := Lib.hid ht
                clear ht hkt HT3 PW3 DW B4 K3 HG cx
                have HT3 := HT5
                have PW3 := Lib.hid pw
                have DW := Lib.hid dw
                have B4 := B5
                have K3 := K5
                have cx : w5.cell? ⟨X, 0, none⟩ = some (.int .i64 x) := by rw [K3.out.cell]; rfl
                clear HT5 pw dw B5 K5
                clear cy
                have LI := Lib.hid (ad_list w0.heap.size g b v4 8 4 64 (L) w5 HT3.out (by have := HL8.out; omega))
                go_wp2_with fail
                refine LI.out.mono ?_
                rintro e w6 ⟨vn, rfl, hp, hb⟩
                obtain ⟨Aq, nq, cq, rfl, _, _, hnq, hrq⟩ := hp.out
                have HNq := Sh.mk hnq.out
                have Rq := Lib.hid hrq.out
                have PW5 := Lib.hid (PW3.out.below hb)
                have B5 := Lib.hid (B4.out.trans (hb.mono B4.out.size))
                clear hp hb hnq hrq LI HT3 PW3 B4 DW
                have PW3 := PW5
                have B4 := B5
                clear PW5 B5
                have hnm : nq = m := by have := HNq.out; have := HM.out; omega
                subst hnm
                have RW := Lib.hid (show Rd w6 w6.heap.size 2 Aw nq (pz L) from PW3.out.rd)
                clear cx K3 PW3
                have BS := Lib.hid (Below.refl w6.heap.size w6)
                go_wp2_with fail
                go_loopw [14] (fun iv wr2 => ∃ (i : Nat), i ≤ nq ∧ iv = .int .i64 (i : Nat) ∧ Hid (Below w6.heap.size w6 wr2)) (fun iv _ => nq - (intOf iv).toNat)
                case atStart => exact ⟨0, Nat.zero_le _, rfl, BS⟩
                case round =>
                  clear BS
                  obtain ⟨k, hk, rfl, B6⟩ := hrel
                  by_cases hkq : k < nq
                  · have hkq' : (k : Int) < (nq : Int) := by omega
                    have hk0 : (0 : Int) ≤ (k : Int) := by omega
                    have ek : IntKind.i64.wrap ((k : Int) + 1) = (k : Int) + 1 := by rw [IntKind.wrap_i64]; omega
                    obtain ⟨rb, off, x2, y2, rfl, hrb, hx, hy, HX1⟩ := RW.out.pz hkq
                    obtain ⟨rb2, off2, x3, y3, rfl, hrb2, hx3, hy3, HX2⟩ := Rq.out.pz hkq
                    have he := HX1.out.symm.trans HX2.out
                    injection he with he
                    injection he with he1 he2
                    subst he1 he2
                    have LX := Lib.hid (show ∀ j v, [Value.int .i64 x2, .int .i64 y2][j]? = some v → wr.cell? ⟨rb, off + k * 2 + j, none⟩ = some v from fun j v hj => by
                      match j, hj with
                      | 0, hj => exact ((B6.out.cell (p := ⟨rb, off + k * 2, none⟩) hrb).trans hx).trans hj
                      | 1, hj => exact ((B6.out.cell (p := ⟨rb, off + k * 2 + 1, none⟩) hrb).trans hy).trans hj)
                    have LY := Lib.hid (show ∀ j v, [Value.int .i64 x2, .int .i64 y2][j]? = some v → wr.cell? ⟨rb2, off2 + k * 2 + j, none⟩ = some v from fun j v hj => by
                      match j, hj with
                      | 0, hj => exact ((B6.out.cell (p := ⟨rb2, off2 + k * 2, none⟩) hrb2).trans hx3).trans hj
                      | 1, hj => exact ((B6.out.cell (p := ⟨rb2, off2 + k * 2 + 1, none⟩) hrb2).trans hy3).trans hj)
                    have EQ := ad_neq x2 y2 x2 y2
                    rw [decide_eq_true rfl] at EQ
                    clear hx hy hx3 hy3 HX1 HX2
                    go_wp2_with fail
                    refine wp_ext (by kernel_rfl) (by kernel_rfl) (fun QQ hQ => ?_)
                    (first | (refine x_load _ (by rfl) rfl rfl (by assumption) (by kernel_rfl) ?_; simp only [Act.put, List.setIfInBounds_toArray, List.set_cons_zero, List.set_cons_succ]) | (refine x_val (v := ?_) (by rfl) (fun w' hx => ?_) ?_; rotate_left; (focus (go_simp; (try with_reducible rfl))); (try simp only [Act.put, List.setIfInBounds_toArray, List.set_cons_zero, List.set_cons_succ])))
                    (first | (refine x_load _ (by rfl) rfl rfl (by assumption) (by kernel_rfl) ?_; simp only [Act.put, List.setIfInBounds_toArray, List.set_cons_zero, List.set_cons_succ]) | (refine x_val (v := ?_) (by rfl) (fun w' hx => ?_) ?_; rotate_left; (focus (go_simp; (try with_reducible rfl))); (try simp only [Act.put, List.setIfInBounds_toArray, List.set_cons_zero, List.set_cons_succ])))
                    (first | (refine x_load _ (by rfl) rfl rfl (by assumption) (by kernel_rfl) ?_; simp only [Act.put, List.setIfInBounds_toArray, List.set_cons_zero, List.set_cons_succ]) | (refine x_val (v := ?_) (by rfl) (fun w' hx => ?_) ?_; rotate_left; (focus (go_simp; (try with_reducible rfl))); (try simp only [Act.put, List.setIfInBounds_toArray, List.set_cons_zero, List.set_cons_succ])))
                    refine x_loads _ [.int .i64 x2, .int .i64 y2] (by rfl) rfl rfl (LY.out) (Nat.succ_pos _) (by kernel_rfl) (by kernel_rfl) ?_; simp only [Act.put, List.setIfInBounds_toArray, List.set_cons_zero, List.set_cons_succ]
                    (first | (refine x_load _ (by rfl) rfl rfl (by assumption) (by kernel_rfl) ?_; simp only [Act.put, List.setIfInBounds_toArray, List.set_cons_zero, List.set_cons_succ]) | (refine x_val (v := ?_) (by rfl) (fun w' hx => ?_) ?_; rotate_left; (focus (go_simp; (try with_reducible rfl))); (try simp only [Act.put, List.setIfInBounds_toArray, List.set_cons_zero, List.set_cons_succ])))
                    (first | (refine x_load _ (by rfl) rfl rfl (by assumption) (by kernel_rfl) ?_; simp only [Act.put, List.setIfInBounds_toArray, List.set_cons_zero, List.set_cons_succ]) | (refine x_val (v := ?_) (by rfl) (fun w' hx => ?_) ?_; rotate_left; (focus (go_simp; (try with_reducible rfl))); (try simp only [Act.put, List.setIfInBounds_toArray, List.set_cons_zero, List.set_cons_succ])))
                    (first | (refine x_load _ (by rfl) rfl rfl (by assumption) (by kernel_rfl) ?_; simp only [Act.put, List.setIfInBounds_toArray, List.set_cons_zero, List.set_cons_succ]) | (refine x_val (v := ?_) (by rfl) (fun w' hx => ?_) ?_; rotate_left; (focus (go_simp; (try with_reducible rfl))); (try simp only [Act.put, List.setIfInBounds_toArray, List.set_cons_zero, List.set_cons_succ])))
                    refine x_loads _ [.int .i64 x2, .int .i64 y2] (by rfl) rfl rfl (LX.out) (Nat.succ_pos _) (by kernel_rfl) (by kernel_rfl) ?_; simp only [Act.put, List.setIfInBounds_toArray, List.set_cons_zero, List.set_cons_succ]
                    (first | (refine x_load _ (by rfl) rfl rfl (by assumption) (by kernel_rfl) ?_; simp only [Act.put, List.setIfInBounds_toArray, List.set_cons_zero, List.set_cons_succ]) | (refine x_val (v := ?_) (by rfl) (fun w' hx => ?_) ?_; rotate_left; (focus (go_simp; (try with_reducible rfl))); (try simp only [Act.put, List.setIfInBounds_toArray, List.set_cons_zero, List.set_cons_succ])))
                    refine x_nil (hQ.out _ ?_); clear hQ QQ
                    intro w7 hb
                    have B7 := Lib.hid (B6.out.trans (hb.mono B6.out.size))
                    clear hb EQ LX LY
                    go_wp2_with fail
                    go_roundw
                    case rel => exact ⟨k + 1, by omega, by go_num, B7⟩
                    case measure => simp [intOf]; omega
                  · have hkq' : ¬ (k : Int) < (nq : Int) := by omega
                    have B8 := Lib.hid (B4.out.trans (B6.out.mono B4.out.size))
                    have AL := Lib.hid (adAlive wr)
                    clear hkq
                    go_wp2_with fail
                    refine AL.out.mono ?_
                    rintro e w9 ⟨rfl, hb⟩
                    have B9 := Lib.hid (B8.out.trans (hb.mono B8.out.size))
                    clear hb
                    go_wp2_with fail
                    go_ret
                    exact ⟨by simp, B9.out⟩
            · have h0d : decide (0 ≤ x) = false := decide_eq_false h0
              have HAD := Lib.hid (ad_add w0.heap.size g b v2 8 4 64 L x y w3 HT3.out (by have := HL8.out; omega) (by omega) (by omega))
              rw [add_not (a := (x, y)) NO.out (.inl (by unfold mayB; rw [decide_eq_false h0]; simp))] at HAD
              have cy : w3.cell? ⟨X, 1, none⟩ = some (.int .i64 y) := by rw [K3.out.cell]; rfl
              go_wp2_with fail
              refine HAD.out.mono ?_
              rintro e w4 ⟨v3, rfl, ht, hkt⟩
              have B5 := Lib.hid (B4.out.trans ((HT3.out.below hkt).mono W0.out))
              obtain ⟨pw, dw⟩ := hkt.row HT3.out PW3.out DW.out
              have K5 := Lib.hid (K3.out.below (HT3.out.below hkt) XL.out)
              have HT5 := Lib.hid (show TB w4 w0.heap.size g b v3 8 4 64 (L) from ht)
              clear ht hkt HT3 PW3 DW B4 K3 HAD cx cy
              have HT3 := HT5
              have PW3 := Lib.hid pw
              have DW := Lib.hid dw
              have B4 := B5
              have K3 := K5
              have cx : w4.cell? ⟨X, 0, none⟩ = some (.int .i64 x) := by rw [K3.out.cell]; rfl
              have cy : w4.cell? ⟨X, 1, none⟩ = some (.int .i64 y) := by rw [K3.out.cell]; rfl
              clear HT5 pw dw B5 K5
              have HG := Lib.hid (ad_gone w0.heap.size g b v3 8 4 64 (L) x w4 HT3.out (by have := HL8.out; omega))
              rw [gone_no NO.out] at HG
              go_wp2_with fail
              refine HG.out.mono ?_
              rintro e w5 ⟨v4, rfl, ht, hkt⟩
              have B5 := Lib.hid (B4.out.trans ((HT3.out.below hkt).mono W0.out))
              obtain ⟨pw, dw⟩ := hkt.row HT3.out PW3.out DW.out
              have K5 := Lib.hid (K3.out.below (HT3.out.below hkt) XL.out)
              have HT5 := Lib.hid ht
              clear ht hkt HT3 PW3 DW B4 K3 HG cx
              have HT3 := HT5
              have PW3 := Lib.hid pw
              have DW := Lib.hid dw
              have B4 := B5
              have K3 := K5
              have cx : w5.cell? ⟨X, 0, none⟩ = some (.int .i64 x) := by rw [K3.out.cell]; rfl
              clear HT5 pw dw B5 K5
              clear cy
              have LI := Lib.hid (ad_list w0.heap.size g b v4 8 4 64 (L) w5 HT3.out (by have := HL8.out; omega))
              go_wp2_with fail
              refine LI.out.mono ?_
              rintro e w6 ⟨vn, rfl, hp, hb⟩
              obtain ⟨Aq, nq, cq, rfl, _, _, hnq, hrq⟩ := hp.out
              have HNq := Sh.mk hnq.out
              have Rq := Lib.hid hrq.out
              have PW5 := Lib.hid (PW3.out.below hb)
              have B5 := Lib.hid (B4.out.trans (hb.mono B4.out.size))
              clear hp hb hnq hrq LI HT3 PW3 B4 DW
              have PW3 := PW5
              have B4 := B5
              clear PW5 B5
              have hnm : nq = m := by have := HNq.out; have := HM.out; omega
              subst hnm
              have RW := Lib.hid (show Rd w6 w6.heap.size 2 Aw nq (pz L) from PW3.out.rd)
              clear cx K3 PW3
              have BS := Lib.hid (Below.refl w6.heap.size w6)
              go_wp2_with fail
              go_loopw [14] (fun iv wr2 => ∃ (i : Nat), i ≤ nq ∧ iv = .int .i64 (i : Nat) ∧ Hid (Below w6.heap.size w6 wr2)) (fun iv _ => nq - (intOf iv).toNat)
              case atStart => exact ⟨0, Nat.zero_le _, rfl, BS⟩
              case round =>
                clear BS
                obtain ⟨k, hk, rfl, B6⟩ := hrel
                by_cases hkq : k < nq
                · have hkq' : (k : Int) < (nq : Int) := by omega
                  have hk0 : (0 : Int) ≤ (k : Int) := by omega
                  have ek : IntKind.i64.wrap ((k : Int) + 1) = (k : Int) + 1 := by rw [IntKind.wrap_i64]; omega
                  obtain ⟨rb, off, x2, y2, rfl, hrb, hx, hy, HX1⟩ := RW.out.pz hkq
                  obtain ⟨rb2, off2, x3, y3, rfl, hrb2, hx3, hy3, HX2⟩ := Rq.out.pz hkq
                  have he := HX1.out.symm.trans HX2.out
                  injection he with he
                  injection he with he1 he2
                  subst he1 he2
                  have LX := Lib.hid (show ∀ j v, [Value.int .i64 x2, .int .i64 y2][j]? = some v → wr.cell? ⟨rb, off + k * 2 + j, none⟩ = some v from fun j v hj => by
                    match j, hj with
                    | 0, hj => exact ((B6.out.cell (p := ⟨rb, off + k * 2, none⟩) hrb).trans hx).trans hj
                    | 1, hj => exact ((B6.out.cell (p := ⟨rb, off + k * 2 + 1, none⟩) hrb).trans hy).trans hj)
                  have LY := Lib.hid (show ∀ j v, [Value.int .i64 x2, .int .i64 y2][j]? = some v → wr.cell? ⟨rb2, off2 + k * 2 + j, none⟩ = some v from fun j v hj => by
                    match j, hj with
                    | 0, hj => exact ((B6.out.cell (p := ⟨rb2, off2 + k * 2, none⟩) hrb2).trans hx3).trans hj
                    | 1, hj => exact ((B6.out.cell (p := ⟨rb2, off2 + k * 2 + 1, none⟩) hrb2).trans hy3).trans hj)
                  have EQ := ad_neq x2 y2 x2 y2
                  rw [decide_eq_true rfl] at EQ
                  clear hx hy hx3 hy3 HX1 HX2
                  go_wp2_with fail
                  refine wp_ext (by kernel_rfl) (by kernel_rfl) (fun QQ hQ => ?_)
                  (first | (refine x_load _ (by rfl) rfl rfl (by assumption) (by kernel_rfl) ?_; simp only [Act.put, List.setIfInBounds_toArray, List.set_cons_zero, List.set_cons_succ]) | (refine x_val (v := ?_) (by rfl) (fun w' hx => ?_) ?_; rotate_left; (focus (go_simp; (try with_reducible rfl))); (try simp only [Act.put, List.setIfInBounds_toArray, List.set_cons_zero, List.set_cons_succ])))
                  (first | (refine x_load _ (by rfl) rfl rfl (by assumption) (by kernel_rfl) ?_; simp only [Act.put, List.setIfInBounds_toArray, List.set_cons_zero, List.set_cons_succ]) | (refine x_val (v := ?_) (by rfl) (fun w' hx => ?_) ?_; rotate_left; (focus (go_simp; (try with_reducible rfl))); (try simp only [Act.put, List.setIfInBounds_toArray, List.set_cons_zero, List.set_cons_succ])))
                  (first | (refine x_load _ (by rfl) rfl rfl (by assumption) (by kernel_rfl) ?_; simp only [Act.put, List.setIfInBounds_toArray, List.set_cons_zero, List.set_cons_succ]) | (refine x_val (v := ?_) (by rfl) (fun w' hx => ?_) ?_; rotate_left; (focus (go_simp; (try with_reducible rfl))); (try simp only [Act.put, List.setIfInBounds_toArray, List.set_cons_zero, List.set_cons_succ])))
                  refine x_loads _ [.int .i64 x2, .int .i64 y2] (by rfl) rfl rfl (LY.out) (Nat.succ_pos _) (by kernel_rfl) (by kernel_rfl) ?_; simp only [Act.put, List.setIfInBounds_toArray, List.set_cons_zero, List.set_cons_succ]
                  (first | (refine x_load _ (by rfl) rfl rfl (by assumption) (by kernel_rfl) ?_; simp only [Act.put, List.setIfInBounds_toArray, List.set_cons_zero, List.set_cons_succ]) | (refine x_val (v := ?_) (by rfl) (fun w' hx => ?_) ?_; rotate_left; (focus (go_simp; (try with_reducible rfl))); (try simp only [Act.put, List.setIfInBounds_toArray, List.set_cons_zero, List.set_cons_succ])))
                  (first | (refine x_load _ (by rfl) rfl rfl (by assumption) (by kernel_rfl) ?_; simp only [Act.put, List.setIfInBounds_toArray, List.set_cons_zero, List.set_cons_succ]) | (refine x_val (v := ?_) (by rfl) (fun w' hx => ?_) ?_; rotate_left; (focus (go_simp; (try with_reducible rfl))); (try simp only [Act.put, List.setIfInBounds_toArray, List.set_cons_zero, List.set_cons_succ])))
                  (first | (refine x_load _ (by rfl) rfl rfl (by assumption) (by kernel_rfl) ?_; simp only [Act.put, List.setIfInBounds_toArray, List.set_cons_zero, List.set_cons_succ]) | (refine x_val (v := ?_) (by rfl) (fun w' hx => ?_) ?_; rotate_left; (focus (go_simp; (try with_reducible rfl))); (try simp only [Act.put, List.setIfInBounds_toArray, List.set_cons_zero, List.set_cons_succ])))
                  refine x_loads _ [.int .i64 x2, .int .i64 y2] (by rfl) rfl rfl (LX.out) (Nat.succ_pos _) (by kernel_rfl) (by kernel_rfl) ?_; simp only [Act.put, List.setIfInBounds_toArray, List.set_cons_zero, List.set_cons_succ]
                  (first | (refine x_load _ (by rfl) rfl rfl (by assumption) (by kernel_rfl) ?_; simp only [Act.put, List.setIfInBounds_toArray, List.set_cons_zero, List.set_cons_succ]) | (refine x_val (v := ?_) (by rfl) (fun w' hx => ?_) ?_; rotate_left; (focus (go_simp; (try with_reducible rfl))); (try simp only [Act.put, List.setIfInBounds_toArray, List.set_cons_zero, List.set_cons_succ])))
                  refine x_nil (hQ.out _ ?_); clear hQ QQ
                  intro w7 hb
                  have B7 := Lib.hid (B6.out.trans (hb.mono B6.out.size))
                  clear hb EQ LX LY
                  go_wp2_with fail
                  go_roundw
                  case rel => exact ⟨k + 1, by omega, by go_num, B7⟩
                  case measure => simp [intOf]; omega
                · have hkq' : ¬ (k : Int) < (nq : Int) := by omega
                  have B8 := Lib.hid (B4.out.trans (B6.out.mono B4.out.size))
                  have AL := Lib.hid (adAlive wr)
                  clear hkq
                  go_wp2_with fail
                  refine AL.out.mono ?_
                  rintro e w9 ⟨rfl, hb⟩
                  have B9 := Lib.hid (B8.out.trans (hb.mono B8.out.size))
                  clear hb
                  go_wp2_with fail
                  go_ret
                  exact ⟨by simp, B9.out⟩
          · obtain ⟨L1, g1, g2, g3⟩ := gone_hit HOK.out (id := x) (by
              have := HA.out.symm
              rw [List.any_eq_true] at this
              obtain ⟨a, ha, he⟩ := this
              exact ⟨a, ha, of_decide_eq_true he⟩)
            have G1 := Sh.mk g1
            have G2 := Sh.mk g2
            have G3 := Sh.mk g3
            clear g1 g2 g3
            have HG := Lib.hid (ad_gone w0.heap.size g b v 8 4 64 (L) x wr HT3.out (by have := HL8.out; omega))
            rw [G1.out] at HG
            go_wp2_with fail
            refine HG.out.mono ?_
            rintro e w3 ⟨v2, rfl, ht, hkt⟩
            have B5 := Lib.hid (B4.out.trans ((HT3.out.below hkt).mono W0.out))
            obtain ⟨pw, dw⟩ := hkt.row HT3.out PW3.out DW.out
            have K5 := Lib.hid (K3.out.below (HT3.out.below hkt) XL.out)
            have HT5 := Lib.hid ht
            clear ht hkt HT3 PW3 DW B4 K3 HG cx
            have HT3 := HT5
            have PW3 := Lib.hid pw
            have DW := Lib.hid dw
            have B4 := B5
            have K3 := K5
            have cx : w3.cell? ⟨X, 0, none⟩ = some (.int .i64 x) := by rw [K3.out.cell]; rfl
            clear HT5 pw dw B5 K5
            have HG := Lib.hid (ad_gone w0.heap.size g b v2 8 4 64 (L1) x w3 HT3.out (by have := HL8.out; have := G3.out; omega))
            rw [G2.out] at HG
            go_wp2_with fail
            refine HG.out.mono ?_
            rintro e w4 ⟨v3, rfl, ht, hkt⟩
            have B5 := Lib.hid (B4.out.trans ((HT3.out.below hkt).mono W0.out))
            obtain ⟨pw, dw⟩ := hkt.row HT3.out PW3.out DW.out
            have K5 := Lib.hid (K3.out.below (HT3.out.below hkt) XL.out)
            have HT5 := Lib.hid ht
            clear ht hkt HT3 PW3 DW B4 K3 HG cx
            have HT3 := HT5
            have PW3 := Lib.hid pw
            have DW := Lib.hid dw
            have B4 := B5
            have K3 := K5
            have cx : w4.cell? ⟨X, 0, none⟩ = some (.int .i64 x) := by rw [K3.out.cell]; rfl
            clear HT5 pw dw B5 K5
            have LI := Lib.hid (ad_list w0.heap.size g b v3 8 4 64 (L1) w4 HT3.out (by have := HL8.out; have := G3.out; omega))
            go_wp2_with fail
            refine LI.out.mono ?_
            rintro e w5 ⟨vn, rfl, hp, hb⟩
            obtain ⟨An, nq, cn, rfl, _, _, hnq, hrn⟩ := hp.out
            have HNq := Sh.mk hnq.out
            have Rn := Lib.hid hrn.out
            have PW5 := Lib.hid (PW3.out.below hb)
            have B5 := Lib.hid (B4.out.trans (hb.mono B4.out.size))
            clear hp hb hnq hrn LI HT3 PW3 B4 DW
            have PW3 := PW5
            have B4 := B5
            clear PW5 B5
            have hnm : nq + 1 = m := by have := HNq.out; have := HM.out; have := G3.out; omega
            have em : (m : Int) - 1 = (nq : Int) := by omega
            have ew : IntKind.i64.wrap (nq : Int) = (nq : Int) := by rw [IntKind.wrap_i64]; omega
            clear hnm
            have AL := Lib.hid (adAlive w5)
            go_wp2_with fail
            refine AL.out.mono ?_
            rintro e w9 ⟨rfl, hb⟩
            have B9 := Lib.hid (B4.out.trans (hb.mono B4.out.size))
            clear hb
            go_wp2_with fail
            go_ret
            exact ⟨by simp, B9.out⟩
end Go.Proofs.Ytdcpmfodkggpeaa
