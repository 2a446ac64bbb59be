/- AddrsFlood: the walk. -/
import Derived.Test.YtdcpmfodkggpeaaLawAd0
namespace Go.Proofs.Ytdcpmfodkggpeaa
open Go.RowKit
set_option linter.unusedVariables false
set_option linter.unusedSimpArgs false
theorem bdN_one : bdN 1 = 1 := by decide
theorem tick_le (left k : Nat) (h : left ≤ 64) : tickN left k 1 64 ≤ 64 ∧ tickN left k 1 64 ≤ left + k := ⟨tickN_le _ _ _ _, by have := tickN_le' left k 1 64; omega⟩
theorem add_spent (most paths left : Nat) (l : List (Int × Int)) (a : Int × Int) : ((adAdd most paths left l a).2.2 = true → (adAdd most paths left l a).1 + 16 = left) ∧ ((adAdd most paths left l a).2.2 = false → (adAdd most paths left l a).1 = left) := by
  unfold adAdd
  split
  · exact ⟨fun h => (by cases h), fun _ => rfl⟩
  · rename_i h
    have h3 : ¬ left < 16 := fun x => h (.inr (.inr (.inl x)))
    exact ⟨fun _ => (by dsimp only; omega), fun h => (by cases h)⟩
/-- A tick of a table's bucket. -/
theorem TB.tick {w w' : World} {B g b most paths left k : Nat} {v : Value} {l : List (Int × Int)} (h : TB w B g b v most paths left l) (hk : Bkt w' b 64 1 k) (hs : Tou b w w') : TB w' B g b v most paths k l :=
  ⟨h.bg, h.bb, h.ne, Nat.le_trans h.hw hs.1.size, hs.blk h.blk h.ne, hk, own_kept h.row fun q hq => hs.2 q (World.ownsRow.lt h.row q hq).2 fun e => own_nt h.row h.bkt (by decide) (by rw [hq, e])⟩
theorem KT.tick {w w' : World} {g b : Nat} {v : Value} (h : Tou b w w') : KT g b v v w w' := ⟨h.1.os, h.1.tape, h.1.output, h.1.size, fun k hk _ h2 _ => h.2 k hk h2, NewOr.same rfl⟩
set_option maxRecDepth 20000 in
set_option maxHeartbeats 4000000 in
theorem addrsFlood_walk (m0 : Int) (A : Option Addr) (n c : Nat) (l : List Op4) (w : World) (h1 : (Lit.int .i64 m0).wf = true) (hr : Rd w w.heap.size 4 A n (op4s l)) (hnc : n ≤ c) (hc : c ≤ maxLen) (hl : ∀ p ∈ l, True) :
    Calls Try.prog 4 #[.int .i64 m0, .slice A n c] w fun e w' => e = .returned (.bool true) ∧ Below w.heap.size w w' := by
  have HR := Lib.hid hr
  clear hr hl hnc hc h1
  by_cases h300 : 300 < n
  · have h300' : (300 : Int) < (n : Int) := by omega
    go_enter Try.func4, Try.ntmps4
    go_wp2
    exact bodyPost_ret (by kernel_rfl) rfl ⟨rfl, Below.refl _ _⟩
  have hn : n ≤ 300 := by omega
  have h300' : ¬ (300 : Int) < (n : Int) := by omega
  have HN := Lib.hid (ad_new m0 4 w)
  clear h300
  go_enter Try.func4, Try.ntmps4
  go_wp2_with fail
  refine HN.out.mono ?_
  rintro e w1 ⟨g, b, rfl, ht, hb⟩
  rw [show clN 1 4 4 = 4 by decide] at ht
  obtain ⟨M, hM⟩ : ∃ M, M = clN 0 8 m0 := ⟨_, rfl⟩
  rw [← hM] at ht
  have HM8 : M ≤ 8 := by rw [hM]; exact clN_le (by omega) _
  have H1 := Lib.hid ht
  have B1 := Lib.hid hb
  have c0 := ht.c0
  clear ht hb HN h300' hM
  go_wp2_with fail
  clear c0
  go_loopw [6, 7, 8] (fun hv tv iv wr => ∃ (i hd tk left : Nat) (v : Value) (L : List (Int × Int)), i ≤ n ∧ hd ≤ i ∧ tk ≤ i ∧ 16 * hd + left ≤ 64 + tk ∧ iv = .int .i64 (i : Nat) ∧ hv = .int .i64 (hd : Nat) ∧ tv = .int .i64 (tk : Nat) ∧ Hid (TB wr w.heap.size g b v M 4 left L) ∧ Hid (AdOk M 4 left L) ∧ Hid (Below w.heap.size w wr)) (fun _ _ iv _ => n - (intOf iv).toNat)
  case atStart => exact ⟨0, 0, 0, 64, _, [], Nat.zero_le _, Nat.le_refl _, Nat.le_refl _, by omega, rfl, rfl, rfl, H1, Lib.hid (AdOk.new HM8 (Nat.le_refl _)), B1⟩
  case round =>
    clear H1 B1
    obtain ⟨i, hd, tk, left, v, L, hi, hhd, htk, hsum, rfl, rfl, rfl, HT, HOK, BB⟩ := hrel
    by_cases hlt : i < n
    · have hlt' : (i : Int) < (n : Int) := by omega
      have hi0 : (0 : Int) ≤ (i : Int) := by omega
      have ei : IntKind.i64.wrap ((i : Int) + 1) = (i : Int) + 1 := by rw [IntKind.wrap_i64]; omega
      have eh : IntKind.i64.wrap ((hd : Int) + 1) = (hd : Int) + 1 := by rw [IntKind.wrap_i64]; omega
      have et : IntKind.i64.wrap ((tk : Int) + 1) = (tk : Int) + 1 := by rw [IntKind.wrap_i64]; omega
      obtain ⟨rb, off, kd, nn, x, y, rfl, hrb, hc0, hc1, hc2, hc3, HX⟩ := HR.out.op4 hlt
      have a0 := (BB.out.cell (p := ⟨rb, off + i * 4, none⟩) hrb).trans hc0
      have a2 := (BB.out.cell (p := ⟨rb, off + i * 4 + 2, none⟩) hrb).trans hc2
      have a3 := (BB.out.cell (p := ⟨rb, off + i * 4 + 3, none⟩) hrb).trans hc3
      have c0 := HT.out.c0
      clear hc0 hc1 hc2 hc3 HX
      by_cases hk : kd.tmod 4 = 0
      · have hk' : (kd.tmod 4 == 0) = true := by simpa using hk
        have HTK := Lib.hid (bkt_tick b 64 1 left 1 wr HT.out.bkt (by have := HOK.out.left64; omega) (by omega) (by decide))
        rw [bdN_one] at HTK
        obtain ⟨k, hkk⟩ : ∃ k, k = tickN left 1 1 64 := ⟨_, rfl⟩
        have hkb := tick_le left 1 HOK.out.left64
        rw [← hkk] at HTK hkb
        clear hkk hk a2 a3
        go_wp2_with fail
        refine HTK.out.mono ?_
        rintro e w2 ⟨rfl, hbk, htou⟩
        have HT2 := Lib.hid (HT.out.tick hbk htou)
        have B2 := Lib.hid (BB.out.trans (HT.out.below (KT.tick htou)))
        have OK2 := Lib.hid (HOK.out.setLeft hkb.1)
        clear hbk htou HT HOK BB HTK c0 a0
        go_wp2_with fail
        go_roundw
        case rel => exact ⟨i + 1, hd, tk + 1, k, v, L, by omega, by omega, by omega, by omega, by go_num, rfl, by go_num, HT2, OK2, B2⟩
        case measure => simp [intOf]; omega
      · have hk' : (kd.tmod 4 == 0) = false := by simpa using hk
        have HA := Lib.hid (ad_add w.heap.size g b v M 4 left L x y wr HT.out HOK.out.len HM8 HOK.out.left64)
        have OK2 := Lib.hid (HOK.out.add (x, y))
        have SP := add_spent M 4 left L (x, y)
        obtain ⟨r, hrr⟩ : ∃ r, r = adAdd M 4 left L (x, y) := ⟨_, rfl⟩
        rw [← hrr] at HA OK2 SP
        obtain ⟨left2, L2, ok⟩ := r
        dsimp only at HA OK2 SP
        clear hrr hk
        go_wp2_with fail
        refine HA.out.mono ?_
        rintro e w2 ⟨v2, rfl, ht, hkt⟩
        have HT2 := Lib.hid ht
        have B2 := Lib.hid (BB.out.trans (HT.out.below hkt))
        clear ht hkt HT HOK BB HA c0 a0 a2 a3
        cases ok
        · have hsp := SP.2 rfl
          subst hsp
          have hq : tk / 16 ≤ 300 := by omega
          obtain ⟨q, hqq⟩ : ∃ q, q = tk / 16 := ⟨_, rfl⟩
          have eq1 : (tk : Int) / 16 = (q : Int) := by omega
          obtain ⟨s, hs⟩ : ∃ s, s = 4 + q := ⟨_, rfl⟩
          have es : (4 : Int) + (q : Int) = (s : Int) := by omega
          have ew : IntKind.i64.wrap (s : Int) = (s : Int) := by rw [IntKind.wrap_i64]; omega
          have hgt : ¬ (s : Int) < (hd : Int) := by omega
          have hgd : decide (s < hd) = false := decide_eq_false (by omega)
          have hgi : decide ((s : Int) < (hd : Int)) = false := decide_eq_false hgt
          have LI := Lib.hid (ad_list w.heap.size g b v2 M 4 left2 L2 w2 HT2.out (by have := OK2.out.len; omega))
          have hl8 : L2.length ≤ 8 := by have := OK2.out.len; omega
          clear hqq hs hq SP
          go_wp2_with fail
          refine LI.out.mono ?_
          rintro e w3 ⟨v3, rfl, hp, hb⟩
          obtain ⟨A3, n3, c3, rfl, _, _, hn3, _⟩ := hp.out
          have hn38 : n3 ≤ 8 := by have := hn3.out; omega
          have h8 : ¬ (8 : Int) < (n3 : Int) := by omega
          have h8d : decide (8 < n3) = false := decide_eq_false (by omega)
          have HT3 := Lib.hid (HT2.out.into hb)
          have B3 := Lib.hid (B2.out.trans (hb.mono B2.out.size))
          have PA := Lib.hid (ad_paths w.heap.size g b v2 M 4 left2 L2 w3 HT3.out (by have := OK2.out.len; omega))
          rw [pthR_eq OK2.out] at PA
          clear hp hb hn3 LI HT2 B2
          go_wp2_with fail
          refine PA.out.mono ?_
          rintro e w4 ⟨v4, rfl, hp, hb⟩
          obtain ⟨A4, n4, c4, rfl, _, hn4, _⟩ := hp.out
          have hn44 : n4 ≤ 4 := by have := hn4.out; have := pthR_len L2; omega
          have h4 : ¬ (4 : Int) < (n4 : Int) := by omega
          have h4d : decide (4 < n4) = false := decide_eq_false (by omega)
          have HT4 := Lib.hid (HT3.out.into hb)
          have B4 := Lib.hid (B3.out.trans (hb.mono B3.out.size))
          clear hp hb hn4 PA HT3 B3
          go_wp2_with fail
          go_roundw
          case rel => exact ⟨i + 1, hd, tk, left2, v2, L2, by omega, by omega, by omega, by omega, by go_num, by first | rfl | go_num, rfl, HT4, OK2, B4⟩
          case measure => simp [intOf]; omega
        · have hsp := SP.1 rfl
          obtain ⟨hd1, hhd1⟩ : ∃ hd1, hd1 = hd + 1 := ⟨_, rfl⟩
          have eh1 : (hd : Int) + 1 = (hd1 : Int) := by omega
          have eh2 : IntKind.i64.wrap (hd1 : Int) = (hd1 : Int) := by rw [IntKind.wrap_i64]; omega
          have hsum1 : 16 * hd1 + left2 ≤ 64 + tk := by omega
          have hh1 : hd1 ≤ i + 1 := by omega
          clear eh hhd1 hsum hsp
          have hq : tk / 16 ≤ 300 := by omega
          obtain ⟨q, hqq⟩ : ∃ q, q = tk / 16 := ⟨_, rfl⟩
          have eq1 : (tk : Int) / 16 = (q : Int) := by omega
          obtain ⟨s, hs⟩ : ∃ s, s = 4 + q := ⟨_, rfl⟩
          have es : (4 : Int) + (q : Int) = (s : Int) := by omega
          have ew : IntKind.i64.wrap (s : Int) = (s : Int) := by rw [IntKind.wrap_i64]; omega
          have hgt : ¬ (s : Int) < (hd1 : Int) := by omega
          have hgd : decide (s < hd1) = false := decide_eq_false (by omega)
          have hgi : decide ((s : Int) < (hd1 : Int)) = false := decide_eq_false hgt
          have LI := Lib.hid (ad_list w.heap.size g b v2 M 4 left2 L2 w2 HT2.out (by have := OK2.out.len; omega))
          have hl8 : L2.length ≤ 8 := by have := OK2.out.len; omega
          clear hqq hs hq SP
          go_wp2_with fail
          refine LI.out.mono ?_
          rintro e w3 ⟨v3, rfl, hp, hb⟩
          obtain ⟨A3, n3, c3, rfl, _, _, hn3, _⟩ := hp.out
          have hn38 : n3 ≤ 8 := by have := hn3.out; omega
          have h8 : ¬ (8 : Int) < (n3 : Int) := by omega
          have h8d : decide (8 < n3) = false := decide_eq_false (by omega)
          have HT3 := Lib.hid (HT2.out.into hb)
          have B3 := Lib.hid (B2.out.trans (hb.mono B2.out.size))
          have PA := Lib.hid (ad_paths w.heap.size g b v2 M 4 left2 L2 w3 HT3.out (by have := OK2.out.len; omega))
          rw [pthR_eq OK2.out] at PA
          clear hp hb hn3 LI HT2 B2
          go_wp2_with fail
          refine PA.out.mono ?_
          rintro e w4 ⟨v4, rfl, hp, hb⟩
          obtain ⟨A4, n4, c4, rfl, _, hn4, _⟩ := hp.out
          have hn44 : n4 ≤ 4 := by have := hn4.out; have := pthR_len L2; omega
          have h4 : ¬ (4 : Int) < (n4 : Int) := by omega
          have h4d : decide (4 < n4) = false := decide_eq_false (by omega)
          have HT4 := Lib.hid (HT3.out.into hb)
          have B4 := Lib.hid (B3.out.trans (hb.mono B3.out.size))
          clear hp hb hn4 PA HT3 B3
          go_wp2_with fail
          go_roundw
          case rel => exact ⟨i + 1, hd1, tk, left2, v2, L2, by omega, by omega, by omega, by omega, by go_num, by first | rfl | go_num, rfl, HT4, OK2, B4⟩
          case measure => simp [intOf]; omega
    · have hlt' : ¬ (i : Int) < (n : Int) := by omega
      have AL := Lib.hid (adAlive wr)
      clear hlt
      go_wp2_with fail
      refine AL.out.mono ?_
      rintro e w2 ⟨rfl, hb⟩
      have B2 := Lib.hid (BB.out.trans (hb.mono BB.out.size))
      clear hb
      go_wp2_with fail
      go_ret
      exact ⟨rfl, B2.out⟩
end Go.Proofs.Ytdcpmfodkggpeaa
