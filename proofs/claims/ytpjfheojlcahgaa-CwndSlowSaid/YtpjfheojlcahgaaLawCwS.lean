/- Layer 13: the law CwndSlow answers true. -/
import Derived.Test.YtpjfheojlcahgaaLawCwA
namespace Go.Proofs.Ytpjfheojlcahgaa
open Go.RowKit
set_option linter.unusedVariables false
set_option linter.unusedSimpArgs false
theorem rd_tou {w0 w' : World} {g : Nat} {t : TypeId} {x y : Int} (hg : g < w0.heap.size) (h : Tou g (w0.alloc (.cells #[.int .i64 x, .int .i64 y] t)) w') : Rd w' w'.heap.size 2 (some ⟨w0.heap.size, 0, none⟩) 1 (pz [(x, y)]) := by
  have h0 : Rd (w0.alloc (.cells #[.int .i64 x, .int .i64 y] t)) (w0.heap.size + 1) 2 (some ⟨w0.heap.size, 0, none⟩) 1 (pz [(x, y)]) := Rd.made w0 t #[.int .i64 x, .int .i64 y] rfl
  have hsz : (w0.alloc (.cells #[.int .i64 x, .int .i64 y] t)).heap.size ≤ w'.heap.size := h.1.size
  refine ⟨h0.1, fun hn => ?_⟩
  obtain ⟨b, off, e, hb, hc⟩ := h0.2 hn
  injection e with e
  injection e with e1 e2
  subst e1 e2
  refine ⟨_, _, rfl, Nat.lt_of_lt_of_le (by simp) hsz, fun j hj => ?_⟩
  rw [← hc j hj]
  exact World.cell?_of_block (a := ⟨w0.heap.size, 0 + j, none⟩) (h.2 w0.heap.size (by simp) (show w0.heap.size ≠ g by omega))
theorem slow_add {m s a : Nat} (h1 : 1 ≤ m) (hs : 12 * m ≤ s) (ha : a ≤ 1024 * (m * m) / s) : 12 * a ≤ 1024 * m := by
  have e1 : a * s ≤ 1024 * (m * m) := Nat.le_trans (Nat.mul_le_mul_right s ha) (Nat.div_mul_le_self _ _)
  have e2 : a * (12 * m) ≤ 1024 * (m * m) := Nat.le_trans (Nat.mul_le_mul_left a hs) e1
  have e3 : (12 * a) * m ≤ (1024 * m) * m := by
    rw [Nat.mul_assoc 1024 m m, show 12 * a * m = a * (12 * m) by rw [Nat.mul_comm 12 a, Nat.mul_assoc]]
    exact e2
  exact Nat.le_of_mul_le_mul_right e3 (by omega)
theorem slow_end {m s p k : Nat} (h1 : 1 ≤ m) (hs : 12 * m ≤ s) (h : 12 * (1024 * s + p) ≤ 12 * (1024 * (12 * m)) + k * (1024 * m)) : s - 12 * m ≤ k * m * m / (12 * m) := by
  rw [Nat.mul_div_mul_right _ _ (by omega)]
  rw [Nat.le_div_iff_mul_le (by omega)]
  have : k * (1024 * m) = 1024 * (k * m) := by rw [Nat.mul_left_comm]
  rw [this] at h
  omega
set_option maxRecDepth 20000 in
set_option maxHeartbeats 8000000 in
theorem cwndSlow_walk (a b c : Int) (w : World) (ha : (Lit.int .i64 a).wf = true) (hb : (Lit.int .i64 b).wf = true) (hc : (Lit.int .i64 c).wf = true) :
    Calls Try.prog 5 #[.int .i64 a, .int .i64 b, .int .i64 c] w fun e w' => e = .returned (.bool true) ∧ Below w.heap.size w w' := by
  by_cases h0 : a < 1
  · go_enter Try.func5, Try.ntmps5
    go_wp2_with fail
    go_ret
    exact ⟨rfl, Below.refl _ _⟩
  by_cases h1 : 1000 < a
  · go_enter Try.func5, Try.ntmps5
    go_wp2_with fail
    go_ret
    exact ⟨rfl, Below.refl _ _⟩
  by_cases h2 : b < 0
  · go_enter Try.func5, Try.ntmps5
    go_wp2_with fail
    go_ret
    exact ⟨rfl, Below.refl _ _⟩
  by_cases h3 : 300 < b
  · go_enter Try.func5, Try.ntmps5
    go_wp2_with fail
    go_ret
    exact ⟨rfl, Below.refl _ _⟩
  by_cases h4 : c < 1
  · go_enter Try.func5, Try.ntmps5
    go_wp2_with fail
    go_ret
    exact ⟨rfl, Below.refl _ _⟩
  by_cases h5 : 500 < c
  · go_enter Try.func5, Try.ntmps5
    go_wp2_with fail
    go_ret
    exact ⟨rfl, Below.refl _ _⟩
  obtain ⟨m, rfl⟩ : ∃ m : Nat, a = (m : Int) := ⟨a.toNat, by omega⟩
  obtain ⟨k, rfl⟩ : ∃ k : Nat, b = (k : Int) := ⟨b.toNat, by omega⟩
  obtain ⟨t, rfl⟩ : ∃ t : Nat, c = (t : Int) := ⟨c.toNat, by omega⟩
  have hm1 : 1 ≤ m := by omega
  have hm2 : m ≤ 1000 := by omega
  have hk : k ≤ 300 := by omega
  have ht1 : 1 ≤ t := by omega
  have ht2 : t ≤ 500 := by omega
  have hmw := Lib.hid ha
  have hmw2 : (Lit.int .i64 (m : Nat)).wf = true := ha
  have HN := Lib.hid (cwnew_any (m : Int) w ha)
  rw [clN_of (show 1 ≤ m by omega) (show m ≤ 1024 by omega)] at HN
  have OK0 := Lib.hid (WOk.init hm1 (show m ≤ 1024 by omega))
  obtain ⟨M, hM⟩ : ∃ M, M = 64 * m := ⟨_, rfl⟩
  have HBD := Lib.hid (show bdB (m : Int) = m from clN_of (by omega) (by omega))
  rw [← hM] at OK0 HN
  have HM := Lib.hid hM
  have g0 : decide ((m : Int) < 1) = false := decide_eq_false h0
  have g1 : decide ((1000 : Int) < (m : Int)) = false := decide_eq_false h1
  have g2 : decide ((k : Int) < 0) = false := decide_eq_false h2
  have g3 : decide ((300 : Int) < (k : Int)) = false := decide_eq_false h3
  have g4 : decide ((t : Int) < 1) = false := decide_eq_false h4
  have g5 : decide ((500 : Int) < (t : Int)) = false := decide_eq_false h5
  clear h0 h1 h2 h3 h4 h5 ha hb hc hM hmw2
  go_enter Try.func5, Try.ntmps5
  go_wp2_with fail
  refine HN.out.mono ?_
  rintro e w1 ⟨rfl, h1, hb1⟩
  clear g0 g1 g2 g3 g4 g5
  have W1 := Lib.hid h1
  have B1 := Lib.hid hb1
  clear h1 hb1 HN
  go_wp2_with fail
  go_loopw [8] (fun iv wr => ∃ (i s : Nat), i ≤ 20 ∧ iv = .int .i64 (i : Nat) ∧ Hid (s = (4 + i) * m) ∧ Hid (Wn wr w.heap.size m s M 0 0) ∧ Hid (Below w.heap.size w wr)) (fun iv _ => 20 - (intOf iv).toNat)
  case atStart => exact ⟨0, 4 * m, by omega, rfl, Lib.hid rfl, W1, B1⟩
  case round =>
    clear W1 B1 OK0
    obtain ⟨i, s, hi, rfl, HS, HW, BB⟩ := hrel
    by_cases hlt : i < 20
    · have hlt' : (i : Int) < 20 := by omega
      have hs1 : m ≤ s := by rw [HS.out]; exact Nat.le_mul_of_pos_left m (by omega)
      have hs2 : s + m ≤ M := by
        have := Nat.mul_le_mul_right m (show 4 + i + 1 ≤ 64 by omega)
        rw [Nat.succ_mul] at this
        rw [HS.out, HM.out]
        omega
      have hs3 : s < M := by omega
      have HA := Lib.hid (cwacked_any w.heap.size m s M 0 0 (m : Int) none 0 0 [] wr HW.out ⟨hm1, by omega, hs1, by rw [← HM.out]; omega, by rw [HM.out]; omega, by omega, by omega⟩ hmw.out (fun w' _ => rdNone _ _ _) (Nat.le_refl _) (Nat.zero_le _) (by simp))
      have HS2 := Lib.hid (show s + m = (4 + (i + 1)) * m from by rw [HS.out, ← Nat.add_assoc, Nat.succ_mul])
      obtain ⟨s2, hs20⟩ : ∃ s2, s2 = s + m := ⟨_, rfl⟩
      have e1 : ackS m s M 0 m [] = s2 := by unfold ackS grS; rw [if_pos hs3, ← HM.out, hs20]; exact Nat.min_eq_left hs2
      have e2 : ackP m s M 0 m [] = 0 := by unfold ackP; rw [if_pos hs3]
      rw [HBD.out, e1, e2, show 0 - m = 0 by omega] at HA
      rw [← hs20] at HS2
      clear e1 e2 hs20 hs3 hs2 hs1
      go_wp2_with fail
      refine HA.out.mono ?_
      rintro e w2 ⟨rfl, h2, t2⟩
      have W2 := Lib.hid h2
      have B2 := Lib.hid (BB.out.trans t2.1)
      clear h2 t2 HA HW BB HS
      go_wp2_with fail
      go_roundw
      case rel => exact ⟨i + 1, s2, by omega, by go_num, HS2, W2, B2⟩
      case measure => simp [intOf]; omega
    · have hge : ¬ (i : Int) < 20 := by omega
      obtain rfl : i = 20 := by omega
      obtain ⟨h, hh⟩ : ∃ h, h = 12 * m := ⟨_, rfl⟩
      have HH := Lib.hid hh
      have hs24 : s = 24 * m := HS.out
      have e1 : (s : Int) / 2 = (h : Nat) := by omega
      have hsz := Lib.hid (cwsize_any w.heap.size m s M 0 0 wr HW.out)
      have HLO := Lib.hid (cwlost_any w.heap.size m s M 0 0 0 wr HW.out ⟨hm1, by omega, by omega, by omega, by rw [HM.out]; omega, by omega, by omega⟩ (by decide))
      rw [show max (s / 2) (2 * m) = h by omega, show 0 - bdB 0 = 0 from rfl] at HLO
      have hsb : s ≤ 24000 := by omega
      have hhb : h ≤ 12000 := by omega
      clear hs24 hh HS
      go_wp2_with fail
      refine hsz.out.mono ?_
      rintro e w2 ⟨rfl, rfl⟩
      go_wp2_with fail
      refine HLO.out.mono ?_
      rintro e w3 ⟨rfl, h3, t3⟩
      have W3 := Lib.hid h3
      have B3 := Lib.hid (BB.out.trans t3.1)
      clear h3 t3 hsz HLO HW BB e1 hge hlt hi
      go_wp2_with fail
      go_loopw [10, 11] (fun iv xv wr => ∃ (i s : Nat), i ≤ 11 ∧ iv = .int .i64 (i : Nat) ∧ Hid (s = (1 + i) * m) ∧ Hid (Wn wr w.heap.size m s h 0 0) ∧ Hid (Below w.heap.size w wr)) (fun iv _ _ => 11 - (intOf iv).toNat)
      case atStart => exact ⟨0, m, by omega, rfl, Lib.hid (by omega), W3, B3⟩
      case round =>
        clear W3 B3 hsb
        obtain ⟨i, s, hi, rfl, HS, HW, BB⟩ := hrel
        have i60 : decide ((i : Int) < 60) = true := decide_eq_true (by omega)
        have i60' : (i : Int) < 60 := by omega
        have hsz := Lib.hid (cwsize_any w.heap.size m s h 0 0 wr HW.out)
        by_cases hlt : i < 11
        · have hs1 : m ≤ s := by rw [HS.out]; exact Nat.le_mul_of_pos_left m (by omega)
          have hs2 : s + m ≤ h := by
            have := Nat.mul_le_mul_right m (show 1 + i + 1 ≤ 12 by omega)
            rw [Nat.succ_mul] at this
            rw [HS.out, HH.out]
            omega
          have hs3 : s < h := by omega
          have hs3' : decide ((s : Int) < (h : Int)) = true := decide_eq_true (by omega)
          have HA := Lib.hid (cwacked_any w.heap.size m s h 0 0 (m : Int) none 0 0 [] wr HW.out ⟨hm1, by omega, hs1, by have := HH.out; omega, by omega, by omega, by omega⟩ hmw.out (fun w' _ => rdNone _ _ _) (Nat.le_refl _) (Nat.zero_le _) (by simp))
          have HS2 := Lib.hid (show s + m = (1 + (i + 1)) * m from by rw [HS.out, ← Nat.add_assoc, Nat.succ_mul])
          obtain ⟨s2, hs20⟩ : ∃ s2, s2 = s + m := ⟨_, rfl⟩
          have e1 : ackS m s h 0 m [] = s2 := by unfold ackS grS; rw [if_pos hs3, hs20]; exact Nat.min_eq_left (by have := HH.out; omega)
          have e2 : ackP m s h 0 m [] = 0 := by unfold ackP; rw [if_pos hs3]
          rw [HBD.out, e1, e2, show 0 - m = 0 by omega] at HA
          have e3 : (s : Int) + (m : Int) = (s2 : Nat) := by omega
          have hs2b : s2 ≤ 12000 := by omega
          rw [← hs20] at HS2
          clear e1 e2 hs20 hs2 hs1
          go_wp2_with fail
          refine hsz.out.mono ?_
          rintro e w5 ⟨rfl, rfl⟩
          go_wp2_with fail
          refine hsz.out.mono ?_
          rintro e w6 ⟨rfl, rfl⟩
          go_wp2_with fail
          refine HA.out.mono ?_
          rintro e w2 ⟨rfl, h2, t2⟩
          have W2 := Lib.hid h2
          have B2 := Lib.hid (BB.out.trans t2.1)
          clear h2 t2 HA HW BB HS hsz
          go_wp2_with fail
          refine (cwsize_any w.heap.size m s2 h 0 0 w2 W2.out).mono ?_
          rintro e w7 ⟨rfl, rfl⟩
          go_wp2_with fail
          go_roundw
          case rel => exact ⟨i + 1, s2, by omega, by go_num, HS2, W2, B2⟩
          case measure => simp [intOf]; omega
        · obtain rfl : i = 11 := by omega
          have hsh : s = h := by rw [HS.out, HH.out]
          subst hsh
          go_wp2_with fail
          refine hsz.out.mono ?_
          rintro e w5 ⟨rfl, rfl⟩
          clear hsz
          go_wp2_with fail
          refine (cwsize_any w.heap.size m s s 0 0 w5 HW.out).mono ?_
          rintro e w6 ⟨rfl, rfl⟩
          go_wp2_with fail
          have hsm : s = 12 * m := HH.out
          have HSM := Lib.hid hsm
          have hsb2 : s ≤ 12000 := by omega
          clear hsm HS HH
          go_loopw [13, 14] (fun yv jv wr => ∃ (j v p y : Nat), j ≤ k ∧ jv = .int .i64 (j : Nat) ∧ yv = .int .i64 (y : Nat) ∧ Hid (y = j * m ∧ s ≤ v ∧ v ≤ 64 * m ∧ p ≤ 1023 ∧ 12 * (1024 * v + p) ≤ 12 * (1024 * s) + j * (1024 * m)) ∧ Hid (Wn wr w.heap.size m v s p 0) ∧ Hid (Below w.heap.size w wr)) (fun _ jv _ => k - (intOf jv).toNat)
          case atStart => exact ⟨0, s, 0, 0, by omega, rfl, rfl, Lib.hid ⟨by omega, Nat.le_refl _, by have := HSM.out; omega, by omega, by omega⟩, HW, BB⟩
          case round =>
            clear HW BB
            obtain ⟨j, v, p, y, hj, rfl, rfl, HI, HW, BB⟩ := hrel
            have hsz := Lib.hid (cwsize_any w.heap.size m v s p 0 wr HW.out)
            have hyb : y ≤ 300000 := by rw [HI.out.1]; exact Nat.mul_le_mul (show j ≤ 300 by omega) hm2
            by_cases hlt : j < k
            · have hlt' : (j : Int) < (k : Int) := by omega
              have OK := Lib.hid (show WOk m v s p 0 from ⟨hm1, by omega, by have := HI.out.2.1; have := HSM.out; omega, HI.out.2.2.1, by omega, HI.out.2.2.2.1, by omega⟩)
              have hvb := OK.out.s3
              have hvw : (Lit.int .i64 (v : Nat)).wf = true := WalkArith.wf_i64 (by omega)
              have htw : (Lit.int .i64 (t : Nat)).wf = true := WalkArith.wf_i64 (by omega)
              have HA := Lib.hid (fun (w' : World) (hw' : Wn w' w.heap.size m v s p 0) => cwacked_any w.heap.size m v s p 0 (m : Int) (some ⟨w'.heap.size, 0, none⟩) 1 1 [((v : Nat), (t : Nat))] (w'.alloc (.cells #[.int .i64 (v : Nat), .int .i64 (t : Nat)] 45)) (Blk.alloc hw' _) OK.out hmw.out (fun w9 t9 => rd_tou (Blk.lt hw') t9) (Nat.le_refl _) (by decide) (by simp; exact ⟨hvw, htw⟩))
              have hns : ¬ v < s := by have := HI.out.2.1; omega
              obtain ⟨a, ha⟩ : ∃ a, a = ackA m v m [((v : Nat), (t : Nat))] := ⟨_, rfl⟩
              have hab : 12 * a ≤ 1024 * m := slow_add (s := v) hm1 (by have := HI.out.2.1; have := HSM.out; omega) (by rw [ha]; exact Nat.min_le_right _ _)
              obtain ⟨v2, hv2⟩ : ∃ v2, v2 = grS m v ((p + a) / 1024) := ⟨_, rfl⟩
              obtain ⟨p2, hp2⟩ : ∃ p2, p2 = (p + a) % 1024 := ⟨_, rfl⟩
              have e1 : ackS m v s p m [((v : Nat), (t : Nat))] = v2 := by unfold ackS; rw [if_neg hns, hv2, ha]
              have e2 : ackP m v s p m [((v : Nat), (t : Nat))] = p2 := by unfold ackP; rw [if_neg hns, hp2, ha]
              rw [HBD.out, e1, e2, show 0 - m = 0 by omega] at HA
              obtain ⟨y2, hy2⟩ : ∃ y2, y2 = y + m := ⟨_, rfl⟩
              have e3 : (y : Int) + (m : Int) = (y2 : Nat) := by omega
              have hy2b : y2 ≤ 301000 := by omega
              have HI2 := Lib.hid (show y2 = (j + 1) * m ∧ s ≤ v2 ∧ v2 ≤ 64 * m ∧ p2 ≤ 1023 ∧ 12 * (1024 * v2 + p2) ≤ 12 * (1024 * s) + (j + 1) * (1024 * m) from by
                have h1 := HI.out.1
                have h2 := HI.out.2.1
                have h3 := HI.out.2.2.1
                have h4 := HI.out.2.2.2.2
                rw [Nat.succ_mul j m, Nat.succ_mul j (1024 * m)]
                refine ⟨by omega, ?_, ?_, by omega, ?_⟩
                · have := grS_mono (n := (p + a) / 1024) h3; omega
                · rw [hv2]; unfold grS; omega
                · have h5 : v2 ≤ v + (p + a) / 1024 := by rw [hv2]; unfold grS; omega
                  omega)
              clear e1 e2 ha hab hv2 hp2 hns hvw htw hy2
              go_wp2_with fail
              refine hsz.out.mono ?_
              rintro e w7 ⟨rfl, rfl⟩
              clear hsz
              go_wp2_with fail
              refine (HA.out w7 HW.out).mono ?_
              rintro e w8 ⟨rfl, h8, t8⟩
              have W8 := Lib.hid h8
              have B8 := Lib.hid (BB.out.trans (((Below.refl w7.heap.size w7).alloc (Nat.le_refl _) (.cells #[.int .i64 (v : Nat), .int .i64 (t : Nat)] 45)).mono BB.out.size |>.trans t8.1))
              clear h8 t8 HA HW BB
              go_wp2_with fail
              go_roundw
              case rel => exact ⟨j + 1, v2, p2, y2, by omega, by go_num, rfl, HI2, W8, B8⟩
              case measure => simp [intOf]; omega
            · have hge : ¬ (j : Int) < (k : Int) := by omega
              obtain rfl : j = k := by omega
              have hvs := HI.out.2.1
              have hEND := slow_end (m := m) (s := v) (p := p) (k := j) hm1 (by have := HSM.out; omega) (by have := HI.out.2.2.2.2; have := HSM.out; omega)
              rw [← HSM.out, ← HI.out.1] at hEND
              obtain ⟨ym, hym⟩ : ∃ ym, ym = y * m := ⟨_, rfl⟩
              obtain ⟨q, hq⟩ : ∃ q, q = ym / s := ⟨_, rfl⟩
              rw [← hym, ← hq] at hEND
              have hymb : ym ≤ 300000000 := by rw [hym]; exact Nat.mul_le_mul hyb hm2
              have hs0 : s ≠ 0 := by have := HSM.out; omega
              have e1 : (y : Int) * (m : Int) = (ym : Nat) := by rw [hym]; push_cast; rfl
              have e2 : (ym : Int) / (s : Int) = (q : Nat) := by rw [hq]; push_cast; rfl
              have hqb : q ≤ 300000000 := Nat.le_trans (by rw [hq]; exact Nat.div_le_self _ _) hymb
              have w1' : IntKind.i64.wrap (ym : Int) = (ym : Nat) := by rw [IntKind.wrap_i64]; omega
              have w2' : IntKind.i64.wrap (q : Int) = (q : Nat) := by rw [IntKind.wrap_i64]; omega
              obtain ⟨d, hd⟩ : ∃ d, d = v - s := ⟨_, rfl⟩
              have hvb : v ≤ 65536 := by have := HI.out.2.2.1; omega
              have e3 : (v : Int) - (s : Int) = (d : Nat) := by omega
              have w3' : IntKind.i64.wrap (d : Int) = (d : Nat) := by rw [IntKind.wrap_i64]; omega
              obtain ⟨q1, hq1⟩ : ∃ q1, q1 = q + 1 := ⟨_, rfl⟩
              have e4 : (q : Int) + 1 = (q1 : Nat) := by omega
              have w4' : IntKind.i64.wrap (q1 : Int) = (q1 : Nat) := by rw [IntKind.wrap_i64]; omega
              obtain ⟨sm, hsm⟩ : ∃ sm, sm = s + m := ⟨_, rfl⟩
              have e5 : (s : Int) + (m : Int) = (sm : Nat) := by omega
              have w5' : IntKind.i64.wrap (sm : Int) = (sm : Nat) := by rw [IntKind.wrap_i64]; omega
              have c1 : decide (s ≤ s) = true := decide_eq_true (Nat.le_refl _)
              have c2 : decide (s < sm) = true := decide_eq_true (by omega)
              have c3 : decide (s ≤ v) = true := decide_eq_true hvs
              have c4 : decide (d ≤ q1) = true := decide_eq_true (by omega)
              clear hym hq hd hq1 hsm hEND hvs hge hlt
              have HSZ := Lib.hid (fun w' h => (cwsize_any w.heap.size m v s p 0 w' h).mono (fun e w9 hq => (show e = .returned (.int .i64 (v : Nat)) ∧ Below w'.heap.size w' w9 from by obtain ⟨rfl, rfl⟩ := hq; exact ⟨rfl, Below.refl _ _⟩)))
              clear hsz
              go_upto_region 25 with fail
              refine GH.wp_ghl (M := false) 33 ((GH.SP.eq (.int .i64 (s : Nat))) :: (GH.SP.eq (.int .i64 (s : Nat))) :: (GH.SP.eq (.bool true)) :: (GH.SP.eq (.bool true)) :: (GH.SP.eq (.int .i64 (s : Nat))) :: (GH.SP.eq (.int .i64 (s : Nat))) :: (GH.SP.eq (.int .i64 (m : Nat))) :: (GH.SP.eq (.int .i64 (sm : Nat))) :: (GH.SP.eq (.bool true)) :: (GH.SP.eq (.bool true)) :: (GH.SP.eq (.bool true)) :: (GH.SP.eq (.pointer (some ⟨w.heap.size, 0, none⟩))) :: (GH.SP.eq (.int .i64 (v : Nat))) :: (GH.SP.eq (.int .i64 (s : Nat))) :: (GH.SP.eq (.bool true)) :: (GH.SP.eq (.bool true)) :: (GH.SP.eq (.bool true)) :: (GH.SP.eq (.pointer (some ⟨w.heap.size, 0, none⟩))) :: (GH.SP.eq (.int .i64 (v : Nat))) :: (GH.SP.eq (.int .i64 (s : Nat))) :: (GH.SP.eq (.int .i64 (d : Nat))) :: (GH.SP.eq (.int .i64 (y : Nat))) :: (GH.SP.eq (.int .i64 (m : Nat))) :: (GH.SP.eq (.int .i64 (ym : Nat))) :: (GH.SP.eq (.int .i64 (s : Nat))) :: (GH.SP.eq (.int .i64 (q : Nat))) :: (GH.SP.eq (.int .i64 (q1 : Nat))) :: (GH.SP.eq (.bool true)) :: (GH.SP.eq (.bool true)) :: (GH.SP.eq (.bool true)) :: (GH.SP.eq (.bool true)) :: (GH.SP.eq (.bool true)) :: (GH.SP.eq (.bool true)) :: []) (none :: none :: none :: none :: none :: none :: (some 32) :: none :: none :: none :: none :: none :: none :: none :: none :: none :: none :: none :: none :: none :: none :: none :: none :: none :: none :: none :: none :: none :: none :: none :: none :: none :: none :: none :: none :: none :: none :: none :: none :: none :: none :: none :: none :: none :: none :: none :: none :: none :: none :: none :: none :: none :: none :: none :: none :: none :: none :: none :: none :: none :: none :: none :: none :: none :: none :: none :: none :: none :: none :: none :: none :: none :: none :: none :: none :: none :: none :: none :: none :: none :: none :: none :: none :: none :: none :: none :: none :: none :: none :: none :: none :: none :: (some 0) :: (some 1) :: (some 2) :: (some 3) :: (some 4) :: (some 5) :: (some 6) :: (some 7) :: (some 8) :: (some 9) :: (some 10) :: (some 11) :: (some 12) :: (some 13) :: (some 14) :: (some 15) :: (some 16) :: (some 17) :: (some 18) :: (some 19) :: (some 20) :: (some 21) :: (some 22) :: (some 23) :: (some 24) :: (some 25) :: (some 26) :: (some 27) :: (some 28) :: (some 29) :: (some 30) :: (some 31) :: []) [92, 93, 94, 95, 96, 97, 98, 99, 100, 101, 102, 103, 104, 105, 106, 107, 108, 109, 110, 111, 112, 113, 114, 115, 116, 117, 118, 119, 120, 121, 122, 123, 6] (by rfl) (by kernel_rfl) (by kernel_rfl) ?_ ?_ ?_
              · intro S jx v hjx
                match jx, hjx with
                | 0, _ => rfl
                | 1, _ => rfl
                | 2, _ => rfl
                | 3, _ => rfl
                | 4, _ => rfl
                | 5, _ => rfl
                | 6, _ => rfl
                | 7, _ => rfl
                | 8, _ => rfl
                | 9, _ => rfl
                | 10, _ => rfl
                | 11, _ => rfl
                | 12, _ => rfl
                | 13, _ => rfl
                | 14, _ => rfl
                | 15, _ => rfl
                | 16, _ => rfl
                | 17, _ => rfl
                | 18, _ => rfl
                | 19, _ => rfl
                | 20, _ => rfl
                | 21, _ => rfl
                | 22, _ => rfl
                | 23, _ => rfl
                | 24, _ => rfl
                | 25, _ => rfl
                | 26, _ => rfl
                | 27, _ => rfl
                | 28, _ => rfl
                | 29, _ => rfl
                | 30, _ => rfl
                | 31, _ => rfl
                | 32, _ => rfl
                | nx + 33, hjx => omega
              · intro jx hjx S w' hb hd
                match jx, hjx, hd with
                | 0, _, hd =>
                  simp only [GH.mkL, List.getD_cons_succ, List.getD_cons_zero]
                  clear hd
                  refine GH.st_eq (by rfl) ?_
                  go_simp
                  (try with_reducible rfl)
                | 1, _, hd =>
                  simp only [GH.mkL, List.getD_cons_succ, List.getD_cons_zero]
                  clear hd
                  refine GH.st_eq (by rfl) ?_
                  go_simp
                  (try with_reducible rfl)
                | 2, _, hd =>
                  simp only [GH.mkL, List.getD_cons_succ, List.getD_cons_zero]
                  have d0 : S 0 = .int .i64 (s : Nat) := (hd 0 (by kernel_rfl)).2
                  rw [d0]
                  clear d0
                  have d1 : S 1 = .int .i64 (s : Nat) := (hd 1 (by kernel_rfl)).2
                  rw [d1]
                  clear d1
                  clear hd
                  refine GH.st_eq (by rfl) ?_
                  go_simp
                  (try simp only [c1])
                  (try with_reducible rfl)
                | 3, _, hd =>
                  simp only [GH.mkL, List.getD_cons_succ, List.getD_cons_zero]
                  have d2 : S 2 = .bool true := (hd 2 (by kernel_rfl)).2
                  rw [d2]
                  clear d2
                  clear hd
                  refine GH.st_eq (by rfl) ?_
                  go_simp
                  (try with_reducible rfl)
                | 4, _, hd =>
                  simp only [GH.mkL, List.getD_cons_succ, List.getD_cons_zero]
                  have d3 : S 3 = .bool true := (hd 3 (by kernel_rfl)).2
                  rw [d3]
                  clear d3
                  clear hd
                  refine GH.st_eq (by rfl) ?_
                  go_simp
                  (try with_reducible rfl)
                | 5, _, hd =>
                  simp only [GH.mkL, List.getD_cons_succ, List.getD_cons_zero]
                  have d3 : S 3 = .bool true := (hd 3 (by kernel_rfl)).2
                  rw [d3]
                  clear d3
                  clear hd
                  refine GH.st_eq (by rfl) ?_
                  go_simp
                  (try with_reducible rfl)
                | 6, _, hd =>
                  simp only [GH.mkL, List.getD_cons_succ, List.getD_cons_zero]
                  have d3 : S 3 = .bool true := (hd 3 (by kernel_rfl)).2
                  rw [d3]
                  clear d3
                  clear hd
                  refine GH.st_eq (by rfl) ?_
                  go_simp
                  (try with_reducible rfl)
                | 7, _, hd =>
                  simp only [GH.mkL, List.getD_cons_succ, List.getD_cons_zero]
                  have d3 : S 3 = .bool true := (hd 3 (by kernel_rfl)).2
                  rw [d3]
                  clear d3
                  have d5 : S 5 = .int .i64 (s : Nat) := (hd 5 (by kernel_rfl)).2
                  rw [d5]
                  clear d5
                  have d6 : S 6 = .int .i64 (m : Nat) := (hd 6 (by kernel_rfl)).2
                  rw [d6]
                  clear d6
                  clear hd
                  refine GH.st_eq (by rfl) ?_
                  go_simp
                  (try simp only [e5, w5'])
                  (try with_reducible rfl)
                | 8, _, hd =>
                  simp only [GH.mkL, List.getD_cons_succ, List.getD_cons_zero]
                  have d3 : S 3 = .bool true := (hd 3 (by kernel_rfl)).2
                  rw [d3]
                  clear d3
                  have d4 : S 4 = .int .i64 (s : Nat) := (hd 4 (by kernel_rfl)).2
                  rw [d4]
                  clear d4
                  have d7 : S 7 = .int .i64 (sm : Nat) := (hd 7 (by kernel_rfl)).2
                  rw [d7]
                  clear d7
                  clear hd
                  refine GH.st_eq (by rfl) ?_
                  go_simp
                  (try simp only [c2])
                  (try with_reducible rfl)
                | 9, _, hd =>
                  simp only [GH.mkL, List.getD_cons_succ, List.getD_cons_zero]
                  have d3 : S 3 = .bool true := (hd 3 (by kernel_rfl)).2
                  rw [d3]
                  clear d3
                  have d8 : S 8 = .bool true := (hd 8 (by kernel_rfl)).2
                  rw [d8]
                  clear d8
                  clear hd
                  refine GH.st_eq (by rfl) ?_
                  go_simp
                  (try with_reducible rfl)
                | 10, _, hd =>
                  simp only [GH.mkL, List.getD_cons_succ, List.getD_cons_zero]
                  have d3 : S 3 = .bool true := (hd 3 (by kernel_rfl)).2
                  rw [d3]
                  clear d3
                  have d9 : S 9 = .bool true := (hd 9 (by kernel_rfl)).2
                  rw [d9]
                  clear d9
                  clear hd
                  refine GH.st_eq (by rfl) ?_
                  go_simp
                  (try with_reducible rfl)
                | 11, _, hd =>
                  simp only [GH.mkL, List.getD_cons_succ, List.getD_cons_zero]
                  have d10 : S 10 = .bool true := (hd 10 (by kernel_rfl)).2
                  rw [d10]
                  clear d10
                  clear hd
                  refine GH.st_eq (by rfl) ?_
                  go_simp
                  (try with_reducible rfl)
                | 12, _, hd =>
                  simp only [GH.mkL, List.getD_cons_succ, List.getD_cons_zero]
                  have d10 : S 10 = .bool true := (hd 10 (by kernel_rfl)).2
                  rw [d10]
                  clear d10
                  have d11 : S 11 = .pointer (some ⟨w.heap.size, 0, none⟩) := (hd 11 (by kernel_rfl)).2
                  rw [d11]
                  clear d11
                  clear hd
                  refine GH.st_call (by rfl) hb.below.size (by go_simp) ((HSZ.out w' (Blk.below HW.out hb.below (Blk.lt HW.out))).mono ?_)
                  rintro e w9 ⟨rfl, hb9⟩
                  exact ⟨_, rfl, hb9, rfl⟩
                | 13, _, hd =>
                  simp only [GH.mkL, List.getD_cons_succ, List.getD_cons_zero]
                  have d10 : S 10 = .bool true := (hd 10 (by kernel_rfl)).2
                  rw [d10]
                  clear d10
                  clear hd
                  refine GH.st_eq (by rfl) ?_
                  go_simp
                  (try with_reducible rfl)
                | 14, _, hd =>
                  simp only [GH.mkL, List.getD_cons_succ, List.getD_cons_zero]
                  have d10 : S 10 = .bool true := (hd 10 (by kernel_rfl)).2
                  rw [d10]
                  clear d10
                  have d12 : S 12 = .int .i64 (v : Nat) := (hd 12 (by kernel_rfl)).2
                  rw [d12]
                  clear d12
                  have d13 : S 13 = .int .i64 (s : Nat) := (hd 13 (by kernel_rfl)).2
                  rw [d13]
                  clear d13
                  clear hd
                  refine GH.st_eq (by rfl) ?_
                  go_simp
                  (try simp only [c3])
                  (try with_reducible rfl)
                | 15, _, hd =>
                  simp only [GH.mkL, List.getD_cons_succ, List.getD_cons_zero]
                  have d10 : S 10 = .bool true := (hd 10 (by kernel_rfl)).2
                  rw [d10]
                  clear d10
                  have d14 : S 14 = .bool true := (hd 14 (by kernel_rfl)).2
                  rw [d14]
                  clear d14
                  clear hd
                  refine GH.st_eq (by rfl) ?_
                  go_simp
                  (try with_reducible rfl)
                | 16, _, hd =>
                  simp only [GH.mkL, List.getD_cons_succ, List.getD_cons_zero]
                  have d12 : S 12 = .int .i64 (v : Nat) := (hd 12 (by kernel_rfl)).2
                  rw [d12]
                  clear d12
                  have d15 : S 15 = .bool true := (hd 15 (by kernel_rfl)).2
                  rw [d15]
                  clear d15
                  clear hd
                  refine GH.st_eq (by rfl) ?_
                  go_simp
                  (try with_reducible rfl)
                | 17, _, hd =>
                  simp only [GH.mkL, List.getD_cons_succ, List.getD_cons_zero]
                  have d16 : S 16 = .bool true := (hd 16 (by kernel_rfl)).2
                  rw [d16]
                  clear d16
                  clear hd
                  refine GH.st_eq (by rfl) ?_
                  go_simp
                  (try with_reducible rfl)
                | 18, _, hd =>
                  simp only [GH.mkL, List.getD_cons_succ, List.getD_cons_zero]
                  have d16 : S 16 = .bool true := (hd 16 (by kernel_rfl)).2
                  rw [d16]
                  clear d16
                  have d17 : S 17 = .pointer (some ⟨w.heap.size, 0, none⟩) := (hd 17 (by kernel_rfl)).2
                  rw [d17]
                  clear d17
                  clear hd
                  refine GH.st_call (by rfl) hb.below.size (by go_simp) ((HSZ.out w' (Blk.below HW.out hb.below (Blk.lt HW.out))).mono ?_)
                  rintro e w9 ⟨rfl, hb9⟩
                  exact ⟨_, rfl, hb9, rfl⟩
                | 19, _, hd =>
                  simp only [GH.mkL, List.getD_cons_succ, List.getD_cons_zero]
                  have d16 : S 16 = .bool true := (hd 16 (by kernel_rfl)).2
                  rw [d16]
                  clear d16
                  clear hd
                  refine GH.st_eq (by rfl) ?_
                  go_simp
                  (try with_reducible rfl)
                | 20, _, hd =>
                  simp only [GH.mkL, List.getD_cons_succ, List.getD_cons_zero]
                  have d16 : S 16 = .bool true := (hd 16 (by kernel_rfl)).2
                  rw [d16]
                  clear d16
                  have d18 : S 18 = .int .i64 (v : Nat) := (hd 18 (by kernel_rfl)).2
                  rw [d18]
                  clear d18
                  have d19 : S 19 = .int .i64 (s : Nat) := (hd 19 (by kernel_rfl)).2
                  rw [d19]
                  clear d19
                  clear hd
                  refine GH.st_eq (by rfl) ?_
                  go_simp
                  (try simp only [e3, w3'])
                  (try with_reducible rfl)
                | 21, _, hd =>
                  simp only [GH.mkL, List.getD_cons_succ, List.getD_cons_zero]
                  have d16 : S 16 = .bool true := (hd 16 (by kernel_rfl)).2
                  rw [d16]
                  clear d16
                  clear hd
                  refine GH.st_eq (by rfl) ?_
                  go_simp
                  (try with_reducible rfl)
                | 22, _, hd =>
                  simp only [GH.mkL, List.getD_cons_succ, List.getD_cons_zero]
                  have d16 : S 16 = .bool true := (hd 16 (by kernel_rfl)).2
                  rw [d16]
                  clear d16
                  clear hd
                  refine GH.st_eq (by rfl) ?_
                  go_simp
                  (try with_reducible rfl)
                | 23, _, hd =>
                  simp only [GH.mkL, List.getD_cons_succ, List.getD_cons_zero]
                  have d16 : S 16 = .bool true := (hd 16 (by kernel_rfl)).2
                  rw [d16]
                  clear d16
                  have d21 : S 21 = .int .i64 (y : Nat) := (hd 21 (by kernel_rfl)).2
                  rw [d21]
                  clear d21
                  have d22 : S 22 = .int .i64 (m : Nat) := (hd 22 (by kernel_rfl)).2
                  rw [d22]
                  clear d22
                  clear hd
                  refine GH.st_eq (by rfl) ?_
                  go_simp
                  (try simp only [e1, w1'])
                  (try with_reducible rfl)
                | 24, _, hd =>
                  simp only [GH.mkL, List.getD_cons_succ, List.getD_cons_zero]
                  have d16 : S 16 = .bool true := (hd 16 (by kernel_rfl)).2
                  rw [d16]
                  clear d16
                  clear hd
                  refine GH.st_eq (by rfl) ?_
                  go_simp
                  (try with_reducible rfl)
                | 25, _, hd =>
                  simp only [GH.mkL, List.getD_cons_succ, List.getD_cons_zero]
                  have d16 : S 16 = .bool true := (hd 16 (by kernel_rfl)).2
                  rw [d16]
                  clear d16
                  have d23 : S 23 = .int .i64 (ym : Nat) := (hd 23 (by kernel_rfl)).2
                  rw [d23]
                  clear d23
                  have d24 : S 24 = .int .i64 (s : Nat) := (hd 24 (by kernel_rfl)).2
                  rw [d24]
                  clear d24
                  clear hd
                  refine GH.st_eq (by rfl) ?_
                  go_simp
                  (try simp only [hs0, e2, w2', if_false])
                  (try with_reducible rfl)
                | 26, _, hd =>
                  simp only [GH.mkL, List.getD_cons_succ, List.getD_cons_zero]
                  have d16 : S 16 = .bool true := (hd 16 (by kernel_rfl)).2
                  rw [d16]
                  clear d16
                  have d25 : S 25 = .int .i64 (q : Nat) := (hd 25 (by kernel_rfl)).2
                  rw [d25]
                  clear d25
                  clear hd
                  refine GH.st_eq (by rfl) ?_
                  go_simp
                  (try simp only [e4, w4'])
                  (try with_reducible rfl)
                | 27, _, hd =>
                  simp only [GH.mkL, List.getD_cons_succ, List.getD_cons_zero]
                  have d16 : S 16 = .bool true := (hd 16 (by kernel_rfl)).2
                  rw [d16]
                  clear d16
                  have d20 : S 20 = .int .i64 (d : Nat) := (hd 20 (by kernel_rfl)).2
                  rw [d20]
                  clear d20
                  have d26 : S 26 = .int .i64 (q1 : Nat) := (hd 26 (by kernel_rfl)).2
                  rw [d26]
                  clear d26
                  clear hd
                  refine GH.st_eq (by rfl) ?_
                  go_simp
                  (try simp only [c4])
                  (try with_reducible rfl)
                | 28, _, hd =>
                  simp only [GH.mkL, List.getD_cons_succ, List.getD_cons_zero]
                  have d16 : S 16 = .bool true := (hd 16 (by kernel_rfl)).2
                  rw [d16]
                  clear d16
                  have d27 : S 27 = .bool true := (hd 27 (by kernel_rfl)).2
                  rw [d27]
                  clear d27
                  clear hd
                  refine GH.st_eq (by rfl) ?_
                  go_simp
                  (try with_reducible rfl)
                | 29, _, hd =>
                  simp only [GH.mkL, List.getD_cons_succ, List.getD_cons_zero]
                  have d18 : S 18 = .int .i64 (v : Nat) := (hd 18 (by kernel_rfl)).2
                  rw [d18]
                  clear d18
                  have d28 : S 28 = .bool true := (hd 28 (by kernel_rfl)).2
                  rw [d28]
                  clear d28
                  clear hd
                  refine GH.st_eq (by rfl) ?_
                  go_simp
                  (try with_reducible rfl)
                | 30, _, hd =>
                  simp only [GH.mkL, List.getD_cons_succ, List.getD_cons_zero]
                  have d29 : S 29 = .bool true := (hd 29 (by kernel_rfl)).2
                  rw [d29]
                  clear d29
                  clear hd
                  refine GH.st_call (by rfl) hb.below.size (by go_simp) ((alive13 w').mono ?_)
                  rintro e w9 ⟨rfl, hb9⟩
                  exact ⟨_, rfl, hb9, rfl⟩
                | 31, _, hd =>
                  simp only [GH.mkL, List.getD_cons_succ, List.getD_cons_zero]
                  have d29 : S 29 = .bool true := (hd 29 (by kernel_rfl)).2
                  rw [d29]
                  clear d29
                  have d30 : S 30 = .bool true := (hd 30 (by kernel_rfl)).2
                  rw [d30]
                  clear d30
                  clear hd
                  refine GH.st_eq (by rfl) ?_
                  go_simp
                  (try with_reducible rfl)
                | 32, _, hd =>
                  simp only [GH.mkL, List.getD_cons_succ, List.getD_cons_zero]
                  have d0 : S 0 = .int .i64 (s : Nat) := (hd 0 (by kernel_rfl)).2
                  rw [d0]
                  clear d0
                  have d1 : S 1 = .int .i64 (s : Nat) := (hd 1 (by kernel_rfl)).2
                  rw [d1]
                  clear d1
                  have d2 : S 2 = .bool true := (hd 2 (by kernel_rfl)).2
                  rw [d2]
                  clear d2
                  have d3 : S 3 = .bool true := (hd 3 (by kernel_rfl)).2
                  rw [d3]
                  clear d3
                  have d4 : S 4 = .int .i64 (s : Nat) := (hd 4 (by kernel_rfl)).2
                  rw [d4]
                  clear d4
                  have d5 : S 5 = .int .i64 (s : Nat) := (hd 5 (by kernel_rfl)).2
                  rw [d5]
                  clear d5
                  have d6 : S 6 = .int .i64 (m : Nat) := (hd 6 (by kernel_rfl)).2
                  rw [d6]
                  clear d6
                  have d7 : S 7 = .int .i64 (sm : Nat) := (hd 7 (by kernel_rfl)).2
                  rw [d7]
                  clear d7
                  have d8 : S 8 = .bool true := (hd 8 (by kernel_rfl)).2
                  rw [d8]
                  clear d8
                  have d9 : S 9 = .bool true := (hd 9 (by kernel_rfl)).2
                  rw [d9]
                  clear d9
                  have d10 : S 10 = .bool true := (hd 10 (by kernel_rfl)).2
                  rw [d10]
                  clear d10
                  have d11 : S 11 = .pointer (some ⟨w.heap.size, 0, none⟩) := (hd 11 (by kernel_rfl)).2
                  rw [d11]
                  clear d11
                  have d12 : S 12 = .int .i64 (v : Nat) := (hd 12 (by kernel_rfl)).2
                  rw [d12]
                  clear d12
                  have d13 : S 13 = .int .i64 (s : Nat) := (hd 13 (by kernel_rfl)).2
                  rw [d13]
                  clear d13
                  have d14 : S 14 = .bool true := (hd 14 (by kernel_rfl)).2
                  rw [d14]
                  clear d14
                  have d15 : S 15 = .bool true := (hd 15 (by kernel_rfl)).2
                  rw [d15]
                  clear d15
                  have d16 : S 16 = .bool true := (hd 16 (by kernel_rfl)).2
                  rw [d16]
                  clear d16
                  have d17 : S 17 = .pointer (some ⟨w.heap.size, 0, none⟩) := (hd 17 (by kernel_rfl)).2
                  rw [d17]
                  clear d17
                  have d18 : S 18 = .int .i64 (v : Nat) := (hd 18 (by kernel_rfl)).2
                  rw [d18]
                  clear d18
                  have d19 : S 19 = .int .i64 (s : Nat) := (hd 19 (by kernel_rfl)).2
                  rw [d19]
                  clear d19
                  have d20 : S 20 = .int .i64 (d : Nat) := (hd 20 (by kernel_rfl)).2
                  rw [d20]
                  clear d20
                  have d21 : S 21 = .int .i64 (y : Nat) := (hd 21 (by kernel_rfl)).2
                  rw [d21]
                  clear d21
                  have d22 : S 22 = .int .i64 (m : Nat) := (hd 22 (by kernel_rfl)).2
                  rw [d22]
                  clear d22
                  have d23 : S 23 = .int .i64 (ym : Nat) := (hd 23 (by kernel_rfl)).2
                  rw [d23]
                  clear d23
                  have d24 : S 24 = .int .i64 (s : Nat) := (hd 24 (by kernel_rfl)).2
                  rw [d24]
                  clear d24
                  have d25 : S 25 = .int .i64 (q : Nat) := (hd 25 (by kernel_rfl)).2
                  rw [d25]
                  clear d25
                  have d26 : S 26 = .int .i64 (q1 : Nat) := (hd 26 (by kernel_rfl)).2
                  rw [d26]
                  clear d26
                  have d27 : S 27 = .bool true := (hd 27 (by kernel_rfl)).2
                  rw [d27]
                  clear d27
                  have d28 : S 28 = .bool true := (hd 28 (by kernel_rfl)).2
                  rw [d28]
                  clear d28
                  have d29 : S 29 = .bool true := (hd 29 (by kernel_rfl)).2
                  rw [d29]
                  clear d29
                  have d30 : S 30 = .bool true := (hd 30 (by kernel_rfl)).2
                  rw [d30]
                  clear d30
                  have d31 : S 31 = .bool true := (hd 31 (by kernel_rfl)).2
                  rw [d31]
                  clear d31
                  clear hd
                  refine GH.st_eq (by rfl) ?_
                  go_simp
                  (try with_reducible rfl)
                | nx + 33, hjx, _ => omega
              intro S w' hb hG
              simp only [GH.mkL, List.drop_succ_cons, List.drop_zero]
              have d32 : S 32 = .bool true := hG 32 (by omega)
              rw [d32]
              clear d32
              clear hG
              have B9 := Lib.hid (BB.out.trans (hb.below.mono BB.out.size))
              clear hb
              refine wpList_nil ?_
              go_wp2_with fail
              go_ret
              exact ⟨rfl, B9.out⟩
end Go.Proofs.Ytpjfheojlcahgaa
