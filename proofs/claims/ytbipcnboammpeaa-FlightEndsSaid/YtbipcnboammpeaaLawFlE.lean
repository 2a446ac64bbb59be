/- Layer 16: the law FlightEnds. -/
import Derived.Test.YtbipcnboammpeaaFlr6
import Derived.Test.YtbipcnboammpeaaCpy
namespace Go.Proofs.Ytbipcnboammpeaa
open Go.RowKit
set_option linter.unusedVariables false
set_option linter.unusedSimpArgs false
/-- Pieces one behind the other, from a number on, up to a number. -/
def Chn (a : Nat) : List Chk → Nat → Prop
  | [], b => a = b
  | c :: l, b => c.fr = a ∧ 1 ≤ c.len ∧ c.len ≤ 1000 ∧ c.fin = false ∧ Chn (a + c.len.toNat) l b
theorem Chn.le {a b : Nat} {l : List Chk} (h : Chn a l b) : a ≤ b := by
  induction l generalizing a with
  | nil => exact Nat.le_of_eq h
  | cons c l ih => have := ih h.2.2.2.2; omega
theorem Chn.snoc {a b : Nat} {l : List Chk} {c : Chk} (h : Chn a l b) (h1 : c.fr = b) (h2 : 1 ≤ c.len) (h3 : c.len ≤ 1000) (h4 : c.fin = false) : Chn a (l ++ [c]) (b + c.len.toNat) := by
  induction l generalizing a with
  | nil => subst h; exact ⟨h1, h2, h3, h4, rfl⟩
  | cons d l ih => exact ⟨h.1, h.2.1, h.2.2.1, h.2.2.2.1, ih h.2.2.2.2⟩
theorem toN_chn {a : Nat} {c : Chk} (h1 : c.fr = a) (h3 : c.fin = false) (hb : a + c.len.toNat < 18446744073709551616) : toN c = a + c.len.toNat := by
  unfold toN
  rw [h1, h3]
  simp
  omega
theorem Chn.all {a b to : Nat} {l : List Chk} (h : Chn a l b) (hb : b < 18446744073709551616) (ht : to < a) : akG to l = [] ∧ akK to l = l := by
  induction l generalizing a with
  | nil => exact ⟨rfl, rfl⟩
  | cons c l ih =>
    obtain ⟨h1, h2, h3, h4, h5⟩ := h
    have hle := h5.le
    have hn := toN_chn h1 h4 (by omega)
    obtain ⟨i1, i2⟩ := ih h5 (by omega)
    have hlt : to < toN c := by rw [hn]; omega
    refine ⟨?_, ?_⟩
    · unfold akG at *
      rw [List.filter_cons_of_neg (by simp [hlt])]
      exact i1
    · unfold akK at *
      rw [List.filter_cons_of_pos (by simp [hlt])]
      rw [i2]
theorem Chn.split {a b to : Nat} {l : List Chk} (h : Chn a l b) (hb : b < 18446744073709551616) : ∃ s, Chn a (akG to l) s ∧ Chn s (akK to l) b ∧ (akG to l).length + (akK to l).length = l.length := by
  induction l generalizing a with
  | nil => exact ⟨a, rfl, h, rfl⟩
  | cons c l ih =>
    obtain ⟨h1, h2, h3, h4, h5⟩ := h
    have hle := h5.le
    have hn := toN_chn h1 h4 (by omega)
    by_cases hlt : to < toN c
    · obtain ⟨i1, i2⟩ := h5.all (to := to) hb (by rw [← hn]; exact hlt)
      have e1 : akG to (c :: l) = [] := by unfold akG at *; rw [List.filter_cons_of_neg (by simp [hlt])]; exact i1
      have e2 : akK to (c :: l) = c :: l := by unfold akK at *; rw [List.filter_cons_of_pos (by simp [hlt]), i2]
      rw [e1, e2]
      exact ⟨a, rfl, ⟨h1, h2, h3, h4, h5⟩, by simp⟩
    · obtain ⟨s, i1, i2, i3⟩ := ih h5
      have e1 : akG to (c :: l) = c :: akG to l := by unfold akG; rw [List.filter_cons_of_pos (by simp [hlt])]
      have e2 : akK to (c :: l) = akK to l := by unfold akK; rw [List.filter_cons_of_neg (by simp [hlt])]
      rw [e1, e2]
      exact ⟨s, ⟨h1, h2, h3, h4, i1⟩, i2, by simp; omega⟩
theorem Chn.mark {a b : Nat} {l : List Chk} {g : Int} (h : Chn a l b) : Chn a (mkA (fGone g) wasLost l) b := by
  induction l generalizing a with
  | nil => exact h
  | cons c l ih =>
    obtain ⟨h1, h2, h3, h4, h5⟩ := h
    unfold mkA at *
    rw [List.map_cons]
    split
    · exact ⟨h1, h2, h3, h4, ih h5⟩
    · exact ⟨h1, h2, h3, h4, ih h5⟩
theorem mark_lost {l : List Chk} {g : Int} (h : ∀ c ∈ l, c.lost = false) : ∀ c ∈ mkA (fGone g) wasLost l, c.lost = decide (c.flow = g) := by
  intro c hc
  simp only [mkA, List.mem_map] at hc
  obtain ⟨d, hd, rfl⟩ := hc
  have hl := h d hd
  by_cases hf : d.flow = g
  · have : fGone g d = true := by unfold fGone; simp [hf, hl]
    rw [if_pos this]
    simp [wasLost, hf]
  · have : fGone g d = false := by unfold fGone; simp [hf]
    rw [this]
    simp [hl, hf]
/-- One step along. -/
theorem Chn.step {s b k : Nat} {l : List Chk} {c : Chk} (h : Chn s (l.drop k) b) (hb : b < 18446744073709551616) (hx : l[k]? = some c) : c.fr = s ∧ toN c < 18446744073709551616 ∧ Chn (toN c) (l.drop (k + 1)) b := by
  rw [nth_drop (Lib.hid hx)] at h
  obtain ⟨h1, h2, h3, h4, h5⟩ := h
  have hle := h5.le
  rw [toN_chn h1 h4 (by omega)]
  exact ⟨h1, by omega, h5⟩
theorem mem_akG {to : Nat} {l : List Chk} {c : Chk} (h : c ∈ akG to l) : c ∈ l ∧ toN c ≤ to := by
  unfold akG at h
  have := List.mem_filter.1 h
  exact ⟨this.1, by have := this.2; simp at this; omega⟩
theorem mem_akK {to : Nat} {l : List Chk} {c : Chk} (h : c ∈ akK to l) : c ∈ l ∧ to < toN c := by
  unfold akK at h
  have := List.mem_filter.1 h
  exact ⟨this.1, by have := this.2; simpa using this⟩
set_option maxRecDepth 20000 in
set_option maxHeartbeats 20000000 in
theorem flightEnds_walk (A : Option Addr) (n c : Nat) (l : List Int) (to : Nat) (gone : Int) (w : World) (hr : Rd w w.heap.size 1 A n (zs .i64 l)) (hnc : n ≤ c) (hc : c ≤ maxLen) (hto : to < 18446744073709551616) (hgo : (Lit.int .i64 gone).wf = true) :
    Calls Try.prog 4 #[.slice A n c, .int .u64 (to : Nat), .int .i64 gone] w fun e w' => e = .returned (.bool true) ∧ Below w.heap.size w w' := by
  have HR := Lib.hid hr
  have HLN := Lib.hid hr.intLen
  unfold maxLen at hc
  have HNW := Lib.hid (show Calls Try.prog 5 #[.int .i64 64] w fun e w' => e = .returned (.pointer (some ⟨w.heap.size, 0, none⟩)) ∧ FL w' w.heap.size w.heap.size 64 [] ∧ Below w.heap.size w w' from fl_new 64 w (by decide))
  clear hr hgo
  by_cases h6 : 60 < n
  · have h6' : (60 : Int) < (n : Int) := by omega
    go_enter Try.func4, Try.ntmps4
    go_wp2_with fail
    go_ret
    exact ⟨rfl, Below.refl _ _⟩
  have h6' : ¬ (60 : Int) < (n : Int) := by omega
  have hn : n ≤ 60 := by omega
  go_enter Try.func4, Try.ntmps4
  go_wp2_with fail
  refine HNW.out.mono ?_
  rintro e w2 ⟨rfl, h2, b2⟩
  have F2 := Lib.hid h2
  have B2 := Lib.hid b2
  clear h2 b2 h6 h6' HNW
  go_wp2_with fail
  go_loopw [8, 9] (fun av iv wr => ∃ (i a : Nat) (L : List Chk), i ≤ n ∧ iv = .int .i64 (i : Nat) ∧ av = .int .u64 (a : Nat) ∧ Hid (FL wr w.heap.size w.heap.size 64 L) ∧ Hid (L.length = i) ∧ Hid (Chn 0 L a) ∧ a ≤ 1000 * i ∧ Hid (∀ c ∈ L, c.ok) ∧ Hid (∀ c ∈ L, c.lost = false) ∧ Hid (Below w.heap.size w wr)) (fun _ iv _ => n - (intOf iv).toNat)
  case atStart => exact ⟨0, 0, [], Nat.zero_le _, rfl, rfl, F2, Lib.hid rfl, Lib.hid rfl, Nat.zero_le _, Lib.hid (by simp), Lib.hid (by simp), B2⟩
  case round =>
    clear F2 B2
    obtain ⟨i, a, L, hi, rfl, rfl, FF, HLL, HCH, hai, HOK, HLO, BB⟩ := hrel
    by_cases hlt : i < n
    · have hlt' : (i : Int) < (n : Int) := by omega
      have hi0 : ¬ (i : Int) < 0 := by omega
      obtain ⟨rb, off, z, hA, hrb, hcz, HX⟩ := HR.out.nthz hlt
      subst hA
      have c0 := (BB.out.cell (p := ⟨rb, off + i, none⟩) hrb).trans hcz
      clear hcz
      by_cases h1 : z < 1
      · go_wp2_with fail
        go_ret
        exact ⟨rfl, BB.out⟩
      by_cases h2 : 1000 < z
      · go_wp2_with fail
        go_ret
        exact ⟨rfl, BB.out⟩
      obtain ⟨zn, hzn⟩ : ∃ zn : Nat, z = (zn : Int) := ⟨z.toNat, by omega⟩
      have HZN := Lib.hid hzn
      obtain ⟨m3, hm3⟩ : ∃ m3, m3 = i % 3 := ⟨_, rfl⟩
      have hmi : (i : Int) % 3 = (m3 : Nat) := by omega
      have hmt : (i : Int).tmod 3 = (m3 : Nat) := by rw [Int.tmod_eq_emod_of_nonneg (by omega)]; exact hmi
      have hm3b : m3 < 3 := by omega
      obtain ⟨a2, ha2⟩ : ∃ a2, a2 = a + zn := ⟨_, rfl⟩
      have hwz : IntKind.u64.wrap z = (zn : Nat) := by rw [IntKind.wrap_u64]; omega
      have haz : (a : Int) + (zn : Nat) = (a2 : Nat) := by omega
      have hwa : IntKind.u64.wrap (a2 : Int) = (a2 : Nat) := by rw [IntKind.wrap_u64]; omega
      have ha2b : a2 ≤ 1000 * (i + 1) := by omega
      have HCN : Hid (Chn 0 (L ++ [⟨a, z, false, m3, 0, 0, 0, false, false⟩]) a2) := Lib.hid (by
        have h9 := HCH.out.snoc (c := ⟨a, z, false, m3, 0, 0, 0, false, false⟩) rfl (by show 1 ≤ z; omega) (by show z ≤ 1000; omega) rfl
        rw [ha2, show zn = z.toNat by omega]
        exact h9)
      have HOKN : Hid (Chk.ok ⟨a, z, false, m3, 0, 0, 0, false, false⟩) := Lib.hid ⟨by show a < _; omega, by show _ ∧ _; dsimp only; omega, by show _ ∧ _; dsimp only; omega, by unfold U32; dsimp only; omega, by dsimp only; omega, by dsimp only; omega⟩
      have AD := Lib.hid (fl_add w.heap.size w.heap.size 64 L ⟨a, z, false, m3, 0, 0, 0, false, false⟩ wr FF.out (by rw [HLL.out]; omega) (by omega))
      rw [decide_eq_true (show L.length < 64 by rw [HLL.out]; omega), if_pos (show L.length < 64 by rw [HLL.out]; omega)] at AD
      clear hzn hm3 ha2 HCH
      go_wp2_with fail
      refine AD.out.mono ?_
      rintro e w3 ⟨rfl, f3, k3⟩
      have F3 := Lib.hid f3
      have B3 := Lib.hid (BB.out.trans (k3.below (Nat.le_refl _) (Nat.le_refl _) BB.out.size))
      have c0 := (B3.out.cell (p := ⟨rb, off + i, none⟩) hrb).trans (((BB.out.cell (p := ⟨rb, off + i, none⟩) hrb).symm).trans c0)
      clear f3 k3 AD FF BB
      go_wp2_with fail
      go_roundw
      case rel => exact ⟨i + 1, a2, L ++ [⟨a, z, false, m3, 0, 0, 0, false, false⟩], by omega, by go_num, rfl, F3, Lib.hid (by rw [List.length_append, HLL.out]; rfl), HCN, by omega, Lib.hid (fun c hc => by
        rcases List.mem_append.1 hc with hc | hc
        · exact HOK.out c hc
        · simp at hc; subst hc; exact HOKN.out), Lib.hid (fun c hc => by
        rcases List.mem_append.1 hc with hc | hc
        · exact HLO.out c hc
        · simp at hc; subst hc; rfl), B3⟩
      case measure => simp [intOf]; omega
    · have hin : n = i := by omega
      subst hin
      have hab : a ≤ 60000 := by omega
      have HL64 := Lib.hid (show L.length ≤ 64 by rw [HLL.out]; omega)
      clear hlt hi hai
      go_wp2_with fail
      refine (fl_gone w.heap.size w.heap.size 64 L gone wr FF.out HL64.out).mono ?_
      rintro e w3 ⟨vg, rfl, f3, _, k3⟩
      obtain ⟨L2, hL2⟩ : ∃ L2, L2 = mkA (fGone gone) wasLost L := ⟨_, rfl⟩
      have HC2 : Hid (Chn 0 L2 a) := Lib.hid (by rw [hL2]; exact HCH.out.mark)
      have HLO2 : Hid (∀ c ∈ L2, c.lost = decide (c.flow = gone)) := Lib.hid (by rw [hL2]; exact mark_lost HLO.out)
      have HOK2 : Hid (∀ c ∈ L2, c.ok) := Lib.hid (by rw [hL2]; exact ok_mkA HOK.out (fun c => ok_lost))
      have HLL2 : Hid (L2.length = n) := Lib.hid (by rw [hL2, mkA_len, HLL.out])
      rw [← hL2] at f3
      have F3 := Lib.hid f3
      have B3 := Lib.hid (BB.out.trans (k3.below (Nat.le_refl _) (Nat.le_refl _) BB.out.size))
      clear f3 k3 FF BB HCH HLO HOK HLL HL64 hL2
      have HL64 := Lib.hid (show L2.length ≤ 64 by rw [HLL2.out]; omega)
      go_wp2_with fail
      refine (fl_acked w.heap.size w.heap.size 64 L2 to w3 F3.out HL64.out HOK2.out).mono ?_
      rintro e w4 ⟨va, rfl, f4, q4, k4⟩
      have F4 := Lib.hid f4
      have B4 := Lib.hid (B3.out.trans (k4.below (Nat.le_refl _) (Nat.le_refl _) B3.out.size))
      obtain ⟨s0, hs1, hs2, hs3⟩ := HC2.out.split (to := to) (by omega)
      have HS1 := Lib.hid hs1
      have HS2 := Lib.hid hs2
      have HS3 := Lib.hid hs3
      have hs0a : s0 ≤ a := hs2.le
      obtain ⟨A4, n4, c4, rfl, hn4c, hc4m, hn4, R4⟩ := own_open2 q4
      have hn4b : n4 ≤ 60 := by have := hn4.out; have := HLL2.out; omega
      have HB4 := Lib.hid B4.out.size
      have RB4 := Lib.hid (show Rd w4 w4.heap.size 9 A4 n4 (chs (akG to L2)) from R4.out)
      clear f4 q4 k4 F3 B3 hs1 hs2 hs3 R4
      unfold maxLen at hc4m
      go_wp2_with fail
      go_loopw [11, 12] (fun sv iv wr => ∃ (k s : Nat), k ≤ n4 ∧ iv = .int .i64 (k : Nat) ∧ sv = .int .u64 (s : Nat) ∧ Hid (Chn s ((akG to L2).drop k) s0) ∧ Hid (Below w4.heap.size w4 wr)) (fun _ iv _ => n4 - (intOf iv).toNat)
      case atStart => exact ⟨0, 0, Nat.zero_le _, rfl, rfl, HS1, Lib.hid (Below.refl _ _)⟩
      case round =>
        obtain ⟨k, s, hk, rfl, rfl, HCK, BK⟩ := hrel
        by_cases hkl : k < n4
        · have hkl' : (k : Int) < (n4 : Int) := by omega
          have hk0 : ¬ (k : Int) < 0 := by omega
          obtain ⟨rb, off, x, hA, hrb, HC, HX⟩ := RB4.out.chk hkl
          subst hA
          obtain ⟨hfr, htn, hnx⟩ := HCK.out.step (by omega) HX.out
          have hmem := mem_akG (List.mem_of_getElem? HX.out)
          have CT := Lib.hid (fun w' => flto_any x w' (HOK2.out x hmem.1))
          obtain ⟨a0, a1, a2, a3, a4, a5, a6, a7, a8⟩ := ck9 (w := wr) (o := off + k * 9) (fun j v hj => (BK.out.cell (p := ⟨rb, off + k * 9 + j, none⟩) hrb).trans (HC.out j v hj))
          obtain ⟨t, ht⟩ : ∃ t, t = toN x := ⟨_, rfl⟩
          rw [← ht] at CT htn hnx hmem
          have HNX := Lib.hid hnx
          have hle : ¬ ((to : Nat) : Int) < (t : Nat) := by have := hmem.2; omega
          rw [hfr] at a0
          simp only [hfr] at CT
          have HFR := Lib.hid hfr
          clear ht hnx hmem hfr
          go_wp2_with fail
          refine (CT.out wr).mono ?_
          rintro e w5 ⟨rfl, hb5⟩
          have B5 := Lib.hid (BK.out.trans (hb5.mono BK.out.size))
          clear hb5 a0 a1 a2 a3 a4 a5 a6 a7 a8 BK
          obtain ⟨a0, a1, a2, a3, a4, a5, a6, a7, a8⟩ := ck9 (w := w5) (o := off + k * 9) (fun j v hj => (B5.out.cell (p := ⟨rb, off + k * 9 + j, none⟩) hrb).trans (HC.out j v hj))
          rw [HFR.out] at a0
          go_wp2_with fail
          refine (CT.out w5).mono ?_
          rintro e w6 ⟨rfl, hb6⟩
          have B6 := Lib.hid (B5.out.trans (hb6.mono B5.out.size))
          clear hb6 a0 a1 a2 a3 a4 a5 a6 a7 a8 B5
          go_wp2_with fail
          go_roundw
          case rel => exact ⟨k + 1, t, by omega, by go_num, rfl, HNX, B6⟩
          case measure => simp [intOf]; omega
        · have hkn : n4 = k := by omega
          subst hkn
          have hss : s = s0 := by have := HCK.out; rw [List.drop_of_length_le (by have := hn4.out; omega)] at this; exact this
          subst hss
          have F5 := Lib.hid (F4.out.into BK.out)
          have B5 := Lib.hid (B4.out.trans (BK.out.mono HB4.out))
          have HAL := Lib.hid (fun w' h => fl_all w.heap.size w.heap.size 64 (akK to L2) w' h (Nat.le_trans akK_le HL64.out))
          clear hkl HCK BK F4 B4 RB4 hk
          go_wp2_with fail
          refine (HAL.out _ F5.out).mono ?_
          rintro e w6 ⟨v6, rfl, q6, hb6⟩
          have B6 := Lib.hid (B5.out.trans (hb6.mono B5.out.size))
          obtain ⟨A6, n6, c6, rfl, hn6c, hc6m, hn6, R6⟩ := own_open2 q6
          have hn6b : n6 ≤ 60 := by have := hn6.out; have := HLL2.out; have := HS3.out; omega
          have hnn : n4 + n6 = n := by have := hn6.out; have := hn4.out; have := HLL2.out; have := HS3.out; omega
          have HNN := Lib.hid hnn
          clear q6 hb6 F5 B5 HAL hnn
          unfold maxLen at hc6m
          go_wp2_with fail
          go_loopw [11, 14] (fun sv iv wr => ∃ (k s : Nat), k ≤ n6 ∧ iv = .int .i64 (k : Nat) ∧ sv = .int .u64 (s : Nat) ∧ Hid (Chn s ((akK to L2).drop k) a) ∧ Hid (Below w6.heap.size w6 wr)) (fun _ iv _ => n6 - (intOf iv).toNat)
          case atStart => exact ⟨0, s, Nat.zero_le _, rfl, rfl, HS2, Lib.hid (Below.refl _ _)⟩
          case round =>
            obtain ⟨k, s2, hk, rfl, rfl, HCK, BK⟩ := hrel
            by_cases hkl : k < n6
            · have hkl' : (k : Int) < (n6 : Int) := by omega
              have hk0 : ¬ (k : Int) < 0 := by omega
              have hk0' : (0 : Int) ≤ (k : Int) := by omega
              obtain ⟨rb, off, x, hA, hrb, HC, HX⟩ := R6.out.chk hkl
              subst hA
              obtain ⟨hfr, htn, hnx⟩ := HCK.out.step (by omega) HX.out
              have hmem := mem_akK (List.mem_of_getElem? HX.out)
              have CT := Lib.hid (fun w' => flto_any x w' (HOK2.out x hmem.1))
              have hlo := HLO2.out x hmem.1
              have CXX := Lib.hid (fun w' (hb : Below w6.heap.size w6 w') j v (hj : x.el[j]? = some v) => (hb.cell (p := ⟨rb, off + k * 9 + j, none⟩) hrb).trans (HC.out j v hj))
              obtain ⟨a0, a1, a2, a3, a4, a5, a6, a7, a8⟩ := ck9 (w := wr) (o := off + k * 9) (CXX.out wr BK.out)
              obtain ⟨t, ht⟩ : ∃ t, t = toN x := ⟨_, rfl⟩
              rw [← ht] at CT htn hnx hmem
              have HNX := Lib.hid hnx
              have hle : ¬ ((t : Nat) : Int) ≤ (to : Nat) := by have := hmem.2; omega
              have hle2 : ¬ t ≤ to := by have := hmem.2; omega
              rw [hfr] at a0
              obtain ⟨lo, hlo2⟩ : ∃ lo : Bool, lo = x.lost := ⟨_, rfl⟩
              obtain ⟨fl, hfl⟩ : ∃ fl : Int, fl = x.flow := ⟨_, rfl⟩
              rw [← hlo2] at a8 hlo
              rw [← hfl] at a3 hlo
              have HLOX := Lib.hid hlo2
              clear ht hnx hmem hfr a1 a2 a4 a5 a6 a7 hlo2 hfl
              by_cases hfg : fl = gone
              · have hlt2 : lo = true := by rw [hlo]; simp [hfg]
                subst hlt2
                have hfg' : (fl == gone) = true := by simp [hfg]
                clear hlo
                go_upto_region 28 with fail
                refine wp_ext (by kernel_rfl) (by kernel_rfl) (fun QQ hQ => ?_)
                (first | (refine x_load _ (by rfl) rfl rfl (by assumption) (by kernel_rfl) ?_; simp only [Act.put, List.setIfInBounds_toArray, List.set_cons_zero, List.set_cons_succ]) | (refine x_val (v := ?_) (by rfl) (fun w' hx => ?_) ?_; rotate_left; (focus (go_simp; (try with_reducible rfl))); (try simp only [Act.put, List.setIfInBounds_toArray, List.set_cons_zero, List.set_cons_succ])))
                (first | (refine x_load _ (by rfl) rfl rfl (by assumption) (by kernel_rfl) ?_; simp only [Act.put, List.setIfInBounds_toArray, List.set_cons_zero, List.set_cons_succ]) | (refine x_val (v := ?_) (by rfl) (fun w' hx => ?_) ?_; rotate_left; (focus (go_simp; (try with_reducible rfl))); (try simp only [Act.put, List.setIfInBounds_toArray, List.set_cons_zero, List.set_cons_succ])))
                (first | (refine x_load _ (by rfl) rfl rfl (by assumption) (by kernel_rfl) ?_; simp only [Act.put, List.setIfInBounds_toArray, List.set_cons_zero, List.set_cons_succ]) | (refine x_val (v := ?_) (by rfl) (fun w' hx => ?_) ?_; rotate_left; (focus (go_simp; (try with_reducible rfl))); (try simp only [Act.put, List.setIfInBounds_toArray, List.set_cons_zero, List.set_cons_succ])))
                (first | (refine x_load _ (by rfl) rfl rfl (by assumption) (by kernel_rfl) ?_; simp only [Act.put, List.setIfInBounds_toArray, List.set_cons_zero, List.set_cons_succ]) | (refine x_val (v := ?_) (by rfl) (fun w' hx => ?_) ?_; rotate_left; (focus (go_simp; (try with_reducible rfl))); (try simp only [Act.put, List.setIfInBounds_toArray, List.set_cons_zero, List.set_cons_succ])))
                (first | (refine x_load _ (by rfl) rfl rfl (by assumption) (by kernel_rfl) ?_; simp only [Act.put, List.setIfInBounds_toArray, List.set_cons_zero, List.set_cons_succ]) | (refine x_val (v := ?_) (by rfl) (fun w' hx => ?_) ?_; rotate_left; (focus (go_simp; (try with_reducible rfl))); (try simp only [Act.put, List.setIfInBounds_toArray, List.set_cons_zero, List.set_cons_succ])))
                (first | (refine x_load _ (by rfl) rfl rfl (by assumption) (by kernel_rfl) ?_; simp only [Act.put, List.setIfInBounds_toArray, List.set_cons_zero, List.set_cons_succ]) | (refine x_val (v := ?_) (by rfl) (fun w' hx => ?_) ?_; rotate_left; (focus (go_simp; (try with_reducible rfl))); (try simp only [Act.put, List.setIfInBounds_toArray, List.set_cons_zero, List.set_cons_succ])))
                (first | (refine x_load _ (by rfl) rfl rfl (by assumption) (by kernel_rfl) ?_; simp only [Act.put, List.setIfInBounds_toArray, List.set_cons_zero, List.set_cons_succ]) | (refine x_val (v := ?_) (by rfl) (fun w' hx => ?_) ?_; rotate_left; (focus (go_simp; (try with_reducible rfl))); (try simp only [Act.put, List.setIfInBounds_toArray, List.set_cons_zero, List.set_cons_succ])))
                (first | (refine x_load _ (by rfl) rfl rfl (by assumption) (by kernel_rfl) ?_; simp only [Act.put, List.setIfInBounds_toArray, List.set_cons_zero, List.set_cons_succ]) | (refine x_val (v := ?_) (by rfl) (fun w' hx => ?_) ?_; rotate_left; (focus (go_simp; (try with_reducible rfl))); (try simp only [Act.put, List.setIfInBounds_toArray, List.set_cons_zero, List.set_cons_succ])))
                (first | (refine x_load _ (by rfl) rfl rfl (by assumption) (by kernel_rfl) ?_; simp only [Act.put, List.setIfInBounds_toArray, List.set_cons_zero, List.set_cons_succ]) | (refine x_val (v := ?_) (by rfl) (fun w' hx => ?_) ?_; rotate_left; (focus (go_simp; (try with_reducible rfl))); (try simp only [Act.put, List.setIfInBounds_toArray, List.set_cons_zero, List.set_cons_succ])))
                (first | (refine x_load _ (by rfl) rfl rfl (by assumption) (by kernel_rfl) ?_; simp only [Act.put, List.setIfInBounds_toArray, List.set_cons_zero, List.set_cons_succ]) | (refine x_val (v := ?_) (by rfl) (fun w' hx => ?_) ?_; rotate_left; (focus (go_simp; (try with_reducible rfl))); (try simp only [Act.put, List.setIfInBounds_toArray, List.set_cons_zero, List.set_cons_succ])))
                (first | (refine x_load _ (by rfl) rfl rfl (by assumption) (by kernel_rfl) ?_; simp only [Act.put, List.setIfInBounds_toArray, List.set_cons_zero, List.set_cons_succ]) | (refine x_val (v := ?_) (by rfl) (fun w' hx => ?_) ?_; rotate_left; (focus (go_simp; (try with_reducible rfl))); (try simp only [Act.put, List.setIfInBounds_toArray, List.set_cons_zero, List.set_cons_succ])))
                refine x_loads _ [.int .u64 (x.fr : Nat), .int .i64 x.len, .bool x.fin, .int .i64 x.flow, .int .u32 x.en, .int .i64 x.sent, .int .i64 x.tries, .bool x.came, .bool x.lost] (by rfl) rfl rfl (CXX.out wr BK.out) (Nat.succ_pos _) (by kernel_rfl) (by kernel_rfl) ?_; simp only [Act.put, List.setIfInBounds_toArray, List.set_cons_zero, List.set_cons_succ]
                refine x_call (by rfl) (fun w' hx => by go_simp) (fun w' hx => CT.out w') ?_; simp only [Act.put, List.setIfInBounds_toArray, List.set_cons_zero, List.set_cons_succ]
                (first | (refine x_load _ (by rfl) rfl rfl (by assumption) (by kernel_rfl) ?_; simp only [Act.put, List.setIfInBounds_toArray, List.set_cons_zero, List.set_cons_succ]) | (refine x_val (v := ?_) (by rfl) (fun w' hx => ?_) ?_; rotate_left; (focus (go_simp; (try with_reducible rfl))); (try simp only [Act.put, List.setIfInBounds_toArray, List.set_cons_zero, List.set_cons_succ])))
                (first | (refine x_load _ (by rfl) rfl rfl (by assumption) (by kernel_rfl) ?_; simp only [Act.put, List.setIfInBounds_toArray, List.set_cons_zero, List.set_cons_succ]) | (refine x_val (v := ?_) (by rfl) (fun w' hx => ?_) ?_; rotate_left; (focus (go_simp; (try with_reducible rfl))); (try simp only [Act.put, List.setIfInBounds_toArray, List.set_cons_zero, List.set_cons_succ])))
                (first | (refine x_load _ (by rfl) rfl rfl (by assumption) (by kernel_rfl) ?_; simp only [Act.put, List.setIfInBounds_toArray, List.set_cons_zero, List.set_cons_succ]) | (refine x_val (v := ?_) (by rfl) (fun w' hx => ?_) ?_; rotate_left; (focus (go_simp; (try with_reducible rfl))); (try simp only [Act.put, List.setIfInBounds_toArray, List.set_cons_zero, List.set_cons_succ])))
                (first | (refine x_load _ (by rfl) rfl rfl (by assumption) (by kernel_rfl) ?_; simp only [Act.put, List.setIfInBounds_toArray, List.set_cons_zero, List.set_cons_succ]) | (refine x_val (v := ?_) (by rfl) (fun w' hx => ?_) ?_; rotate_left; (focus (go_simp; (try with_reducible rfl))); (try simp only [Act.put, List.setIfInBounds_toArray, List.set_cons_zero, List.set_cons_succ])))
                (first | (refine x_load _ (by rfl) rfl rfl (by assumption) (by kernel_rfl) ?_; simp only [Act.put, List.setIfInBounds_toArray, List.set_cons_zero, List.set_cons_succ]) | (refine x_val (v := ?_) (by rfl) (fun w' hx => ?_) ?_; rotate_left; (focus (go_simp; (try with_reducible rfl))); (try simp only [Act.put, List.setIfInBounds_toArray, List.set_cons_zero, List.set_cons_succ])))
                (first | (refine x_load _ (by rfl) rfl rfl (by assumption) (by kernel_rfl) ?_; simp only [Act.put, List.setIfInBounds_toArray, List.set_cons_zero, List.set_cons_succ]) | (refine x_val (v := ?_) (by rfl) (fun w' hx => ?_) ?_; rotate_left; (focus (go_simp; (try with_reducible rfl))); (try simp only [Act.put, List.setIfInBounds_toArray, List.set_cons_zero, List.set_cons_succ])))
                (first | (refine x_load _ (by rfl) rfl rfl (by assumption) (by kernel_rfl) ?_; simp only [Act.put, List.setIfInBounds_toArray, List.set_cons_zero, List.set_cons_succ]) | (refine x_val (v := ?_) (by rfl) (fun w' hx => ?_) ?_; rotate_left; (focus (go_simp; (try with_reducible rfl))); (try simp only [Act.put, List.setIfInBounds_toArray, List.set_cons_zero, List.set_cons_succ])))
                (first | (refine x_load _ (by rfl) rfl rfl (by assumption) (by kernel_rfl) ?_; simp only [Act.put, List.setIfInBounds_toArray, List.set_cons_zero, List.set_cons_succ]) | (refine x_val (v := ?_) (by rfl) (fun w' hx => ?_) ?_; rotate_left; (focus (go_simp; (try with_reducible rfl))); (try simp only [Act.put, List.setIfInBounds_toArray, List.set_cons_zero, List.set_cons_succ])))
                (first | (refine x_load _ (by rfl) rfl rfl (by assumption) (by kernel_rfl) ?_; simp only [Act.put, List.setIfInBounds_toArray, List.set_cons_zero, List.set_cons_succ]) | (refine x_val (v := ?_) (by rfl) (fun w' hx => ?_) ?_; rotate_left; (focus (go_simp; (try with_reducible rfl))); (try simp only [Act.put, List.setIfInBounds_toArray, List.set_cons_zero, List.set_cons_succ])))
                (first | (refine x_load _ (by rfl) rfl rfl (by assumption) (by kernel_rfl) ?_; simp only [Act.put, List.setIfInBounds_toArray, List.set_cons_zero, List.set_cons_succ]) | (refine x_val (v := ?_) (by rfl) (fun w' hx => ?_) ?_; rotate_left; (focus (go_simp; (try with_reducible rfl))); (try simp only [Act.put, List.setIfInBounds_toArray, List.set_cons_zero, List.set_cons_succ])))
                (first | (refine x_load _ (by rfl) rfl rfl (by assumption) (by kernel_rfl) ?_; simp only [Act.put, List.setIfInBounds_toArray, List.set_cons_zero, List.set_cons_succ]) | (refine x_val (v := ?_) (by rfl) (fun w' hx => ?_) ?_; rotate_left; (focus (go_simp; (try with_reducible rfl))); (try simp only [Act.put, List.setIfInBounds_toArray, List.set_cons_zero, List.set_cons_succ])))
                (first | (refine x_load _ (by rfl) rfl rfl (by assumption) (by kernel_rfl) ?_; simp only [Act.put, List.setIfInBounds_toArray, List.set_cons_zero, List.set_cons_succ]) | (refine x_val (v := ?_) (by rfl) (fun w' hx => ?_) ?_; rotate_left; (focus (go_simp; (try with_reducible rfl))); (try simp only [Act.put, List.setIfInBounds_toArray, List.set_cons_zero, List.set_cons_succ])))
                (first | (refine x_load _ (by rfl) rfl rfl (by assumption) (by kernel_rfl) ?_; simp only [Act.put, List.setIfInBounds_toArray, List.set_cons_zero, List.set_cons_succ]) | (refine x_val (v := ?_) (by rfl) (fun w' hx => ?_) ?_; rotate_left; (focus (go_simp; (try with_reducible rfl))); (try simp only [Act.put, List.setIfInBounds_toArray, List.set_cons_zero, List.set_cons_succ])))
                (first | (refine x_load _ (by rfl) rfl rfl (by assumption) (by kernel_rfl) ?_; simp only [Act.put, List.setIfInBounds_toArray, List.set_cons_zero, List.set_cons_succ]) | (refine x_val (v := ?_) (by rfl) (fun w' hx => ?_) ?_; rotate_left; (focus (go_simp; (try with_reducible rfl))); (try simp only [Act.put, List.setIfInBounds_toArray, List.set_cons_zero, List.set_cons_succ])))
                (first | (refine x_load _ (by rfl) rfl rfl (by assumption) (by kernel_rfl) ?_; simp only [Act.put, List.setIfInBounds_toArray, List.set_cons_zero, List.set_cons_succ]) | (refine x_val (v := ?_) (by rfl) (fun w' hx => ?_) ?_; rotate_left; (focus (go_simp; (try with_reducible rfl))); (try simp only [Act.put, List.setIfInBounds_toArray, List.set_cons_zero, List.set_cons_succ])))
                (first | (refine x_load _ (by rfl) rfl rfl (by assumption) (by kernel_rfl) ?_; simp only [Act.put, List.setIfInBounds_toArray, List.set_cons_zero, List.set_cons_succ]) | (refine x_val (v := ?_) (by rfl) (fun w' hx => ?_) ?_; rotate_left; (focus (go_simp; (try with_reducible rfl))); (try simp only [Act.put, List.setIfInBounds_toArray, List.set_cons_zero, List.set_cons_succ])))
                (first | (refine x_load _ (by rfl) rfl rfl (by assumption) (by kernel_rfl) ?_; simp only [Act.put, List.setIfInBounds_toArray, List.set_cons_zero, List.set_cons_succ]) | (refine x_val (v := ?_) (by rfl) (fun w' hx => ?_) ?_; rotate_left; (focus (go_simp; (try with_reducible rfl))); (try simp only [Act.put, List.setIfInBounds_toArray, List.set_cons_zero, List.set_cons_succ])))
                (first | (refine x_load _ (by rfl) rfl rfl (by assumption) (by kernel_rfl) ?_; simp only [Act.put, List.setIfInBounds_toArray, List.set_cons_zero, List.set_cons_succ]) | (refine x_val (v := ?_) (by rfl) (fun w' hx => ?_) ?_; rotate_left; (focus (go_simp; (try with_reducible rfl))); (try simp only [Act.put, List.setIfInBounds_toArray, List.set_cons_zero, List.set_cons_succ])))
                refine x_nil (hQ.out _ ?_); clear hQ QQ
                intro w7 hb7
                have B7 := Lib.hid (BK.out.trans (hb7.mono BK.out.size))
                clear hb7 a0 a3 a8 BK
                obtain ⟨a0, a1, a2, a3, a4, a5, a6, a7, a8⟩ := ck9 (w := w7) (o := off + k * 9) (CXX.out w7 B7.out)
                go_wp2_with fail
                refine (CT.out w7).mono ?_
                rintro e w8 ⟨rfl, hb8⟩
                have B8 := Lib.hid (B7.out.trans (hb8.mono B7.out.size))
                clear hb8 a0 a1 a2 a3 a4 a5 a6 a7 a8 B7 CXX
                go_wp2_with fail
                go_roundw
                case rel => exact ⟨k + 1, t, by omega, by go_num, rfl, HNX, B8⟩
                case measure => simp [intOf]; omega
              · have hlt2 : lo = false := by rw [hlo]; simp [hfg]
                subst hlt2
                have hfg' : (fl == gone) = false := by simp [hfg]
                clear hlo
                go_upto_region 28 with fail
                refine wp_ext (by kernel_rfl) (by kernel_rfl) (fun QQ hQ => ?_)
                (first | (refine x_load _ (by rfl) rfl rfl (by assumption) (by kernel_rfl) ?_; simp only [Act.put, List.setIfInBounds_toArray, List.set_cons_zero, List.set_cons_succ]) | (refine x_val (v := ?_) (by rfl) (fun w' hx => ?_) ?_; rotate_left; (focus (go_simp; (try with_reducible rfl))); (try simp only [Act.put, List.setIfInBounds_toArray, List.set_cons_zero, List.set_cons_succ])))
                (first | (refine x_load _ (by rfl) rfl rfl (by assumption) (by kernel_rfl) ?_; simp only [Act.put, List.setIfInBounds_toArray, List.set_cons_zero, List.set_cons_succ]) | (refine x_val (v := ?_) (by rfl) (fun w' hx => ?_) ?_; rotate_left; (focus (go_simp; (try with_reducible rfl))); (try simp only [Act.put, List.setIfInBounds_toArray, List.set_cons_zero, List.set_cons_succ])))
                (first | (refine x_load _ (by rfl) rfl rfl (by assumption) (by kernel_rfl) ?_; simp only [Act.put, List.setIfInBounds_toArray, List.set_cons_zero, List.set_cons_succ]) | (refine x_val (v := ?_) (by rfl) (fun w' hx => ?_) ?_; rotate_left; (focus (go_simp; (try with_reducible rfl))); (try simp only [Act.put, List.setIfInBounds_toArray, List.set_cons_zero, List.set_cons_succ])))
                (first | (refine x_load _ (by rfl) rfl rfl (by assumption) (by kernel_rfl) ?_; simp only [Act.put, List.setIfInBounds_toArray, List.set_cons_zero, List.set_cons_succ]) | (refine x_val (v := ?_) (by rfl) (fun w' hx => ?_) ?_; rotate_left; (focus (go_simp; (try with_reducible rfl))); (try simp only [Act.put, List.setIfInBounds_toArray, List.set_cons_zero, List.set_cons_succ])))
                (first | (refine x_load _ (by rfl) rfl rfl (by assumption) (by kernel_rfl) ?_; simp only [Act.put, List.setIfInBounds_toArray, List.set_cons_zero, List.set_cons_succ]) | (refine x_val (v := ?_) (by rfl) (fun w' hx => ?_) ?_; rotate_left; (focus (go_simp; (try with_reducible rfl))); (try simp only [Act.put, List.setIfInBounds_toArray, List.set_cons_zero, List.set_cons_succ])))
                (first | (refine x_load _ (by rfl) rfl rfl (by assumption) (by kernel_rfl) ?_; simp only [Act.put, List.setIfInBounds_toArray, List.set_cons_zero, List.set_cons_succ]) | (refine x_val (v := ?_) (by rfl) (fun w' hx => ?_) ?_; rotate_left; (focus (go_simp; (try with_reducible rfl))); (try simp only [Act.put, List.setIfInBounds_toArray, List.set_cons_zero, List.set_cons_succ])))
                (first | (refine x_load _ (by rfl) rfl rfl (by assumption) (by kernel_rfl) ?_; simp only [Act.put, List.setIfInBounds_toArray, List.set_cons_zero, List.set_cons_succ]) | (refine x_val (v := ?_) (by rfl) (fun w' hx => ?_) ?_; rotate_left; (focus (go_simp; (try with_reducible rfl))); (try simp only [Act.put, List.setIfInBounds_toArray, List.set_cons_zero, List.set_cons_succ])))
                (first | (refine x_load _ (by rfl) rfl rfl (by assumption) (by kernel_rfl) ?_; simp only [Act.put, List.setIfInBounds_toArray, List.set_cons_zero, List.set_cons_succ]) | (refine x_val (v := ?_) (by rfl) (fun w' hx => ?_) ?_; rotate_left; (focus (go_simp; (try with_reducible rfl))); (try simp only [Act.put, List.setIfInBounds_toArray, List.set_cons_zero, List.set_cons_succ])))
                (first | (refine x_load _ (by rfl) rfl rfl (by assumption) (by kernel_rfl) ?_; simp only [Act.put, List.setIfInBounds_toArray, List.set_cons_zero, List.set_cons_succ]) | (refine x_val (v := ?_) (by rfl) (fun w' hx => ?_) ?_; rotate_left; (focus (go_simp; (try with_reducible rfl))); (try simp only [Act.put, List.setIfInBounds_toArray, List.set_cons_zero, List.set_cons_succ])))
                (first | (refine x_load _ (by rfl) rfl rfl (by assumption) (by kernel_rfl) ?_; simp only [Act.put, List.setIfInBounds_toArray, List.set_cons_zero, List.set_cons_succ]) | (refine x_val (v := ?_) (by rfl) (fun w' hx => ?_) ?_; rotate_left; (focus (go_simp; (try with_reducible rfl))); (try simp only [Act.put, List.setIfInBounds_toArray, List.set_cons_zero, List.set_cons_succ])))
                (first | (refine x_load _ (by rfl) rfl rfl (by assumption) (by kernel_rfl) ?_; simp only [Act.put, List.setIfInBounds_toArray, List.set_cons_zero, List.set_cons_succ]) | (refine x_val (v := ?_) (by rfl) (fun w' hx => ?_) ?_; rotate_left; (focus (go_simp; (try with_reducible rfl))); (try simp only [Act.put, List.setIfInBounds_toArray, List.set_cons_zero, List.set_cons_succ])))
                refine x_loads _ [.int .u64 (x.fr : Nat), .int .i64 x.len, .bool x.fin, .int .i64 x.flow, .int .u32 x.en, .int .i64 x.sent, .int .i64 x.tries, .bool x.came, .bool x.lost] (by rfl) rfl rfl (CXX.out wr BK.out) (Nat.succ_pos _) (by kernel_rfl) (by kernel_rfl) ?_; simp only [Act.put, List.setIfInBounds_toArray, List.set_cons_zero, List.set_cons_succ]
                refine x_call (by rfl) (fun w' hx => by go_simp) (fun w' hx => CT.out w') ?_; simp only [Act.put, List.setIfInBounds_toArray, List.set_cons_zero, List.set_cons_succ]
                (first | (refine x_load _ (by rfl) rfl rfl (by assumption) (by kernel_rfl) ?_; simp only [Act.put, List.setIfInBounds_toArray, List.set_cons_zero, List.set_cons_succ]) | (refine x_val (v := ?_) (by rfl) (fun w' hx => ?_) ?_; rotate_left; (focus (go_simp; (try with_reducible rfl))); (try simp only [Act.put, List.setIfInBounds_toArray, List.set_cons_zero, List.set_cons_succ])))
                (first | (refine x_load _ (by rfl) rfl rfl (by assumption) (by kernel_rfl) ?_; simp only [Act.put, List.setIfInBounds_toArray, List.set_cons_zero, List.set_cons_succ]) | (refine x_val (v := ?_) (by rfl) (fun w' hx => ?_) ?_; rotate_left; (focus (go_simp; (try with_reducible rfl))); (try simp only [Act.put, List.setIfInBounds_toArray, List.set_cons_zero, List.set_cons_succ])))
                (first | (refine x_load _ (by rfl) rfl rfl (by assumption) (by kernel_rfl) ?_; simp only [Act.put, List.setIfInBounds_toArray, List.set_cons_zero, List.set_cons_succ]) | (refine x_val (v := ?_) (by rfl) (fun w' hx => ?_) ?_; rotate_left; (focus (go_simp; (try with_reducible rfl))); (try simp only [Act.put, List.setIfInBounds_toArray, List.set_cons_zero, List.set_cons_succ])))
                (first | (refine x_load _ (by rfl) rfl rfl (by assumption) (by kernel_rfl) ?_; simp only [Act.put, List.setIfInBounds_toArray, List.set_cons_zero, List.set_cons_succ]) | (refine x_val (v := ?_) (by rfl) (fun w' hx => ?_) ?_; rotate_left; (focus (go_simp; (try with_reducible rfl))); (try simp only [Act.put, List.setIfInBounds_toArray, List.set_cons_zero, List.set_cons_succ])))
                (first | (refine x_load _ (by rfl) rfl rfl (by assumption) (by kernel_rfl) ?_; simp only [Act.put, List.setIfInBounds_toArray, List.set_cons_zero, List.set_cons_succ]) | (refine x_val (v := ?_) (by rfl) (fun w' hx => ?_) ?_; rotate_left; (focus (go_simp; (try with_reducible rfl))); (try simp only [Act.put, List.setIfInBounds_toArray, List.set_cons_zero, List.set_cons_succ])))
                (first | (refine x_load _ (by rfl) rfl rfl (by assumption) (by kernel_rfl) ?_; simp only [Act.put, List.setIfInBounds_toArray, List.set_cons_zero, List.set_cons_succ]) | (refine x_val (v := ?_) (by rfl) (fun w' hx => ?_) ?_; rotate_left; (focus (go_simp; (try with_reducible rfl))); (try simp only [Act.put, List.setIfInBounds_toArray, List.set_cons_zero, List.set_cons_succ])))
                (first | (refine x_load _ (by rfl) rfl rfl (by assumption) (by kernel_rfl) ?_; simp only [Act.put, List.setIfInBounds_toArray, List.set_cons_zero, List.set_cons_succ]) | (refine x_val (v := ?_) (by rfl) (fun w' hx => ?_) ?_; rotate_left; (focus (go_simp; (try with_reducible rfl))); (try simp only [Act.put, List.setIfInBounds_toArray, List.set_cons_zero, List.set_cons_succ])))
                (first | (refine x_load _ (by rfl) rfl rfl (by assumption) (by kernel_rfl) ?_; simp only [Act.put, List.setIfInBounds_toArray, List.set_cons_zero, List.set_cons_succ]) | (refine x_val (v := ?_) (by rfl) (fun w' hx => ?_) ?_; rotate_left; (focus (go_simp; (try with_reducible rfl))); (try simp only [Act.put, List.setIfInBounds_toArray, List.set_cons_zero, List.set_cons_succ])))
                (first | (refine x_load _ (by rfl) rfl rfl (by assumption) (by kernel_rfl) ?_; simp only [Act.put, List.setIfInBounds_toArray, List.set_cons_zero, List.set_cons_succ]) | (refine x_val (v := ?_) (by rfl) (fun w' hx => ?_) ?_; rotate_left; (focus (go_simp; (try with_reducible rfl))); (try simp only [Act.put, List.setIfInBounds_toArray, List.set_cons_zero, List.set_cons_succ])))
                (first | (refine x_load _ (by rfl) rfl rfl (by assumption) (by kernel_rfl) ?_; simp only [Act.put, List.setIfInBounds_toArray, List.set_cons_zero, List.set_cons_succ]) | (refine x_val (v := ?_) (by rfl) (fun w' hx => ?_) ?_; rotate_left; (focus (go_simp; (try with_reducible rfl))); (try simp only [Act.put, List.setIfInBounds_toArray, List.set_cons_zero, List.set_cons_succ])))
                (first | (refine x_load _ (by rfl) rfl rfl (by assumption) (by kernel_rfl) ?_; simp only [Act.put, List.setIfInBounds_toArray, List.set_cons_zero, List.set_cons_succ]) | (refine x_val (v := ?_) (by rfl) (fun w' hx => ?_) ?_; rotate_left; (focus (go_simp; (try with_reducible rfl))); (try simp only [Act.put, List.setIfInBounds_toArray, List.set_cons_zero, List.set_cons_succ])))
                (first | (refine x_load _ (by rfl) rfl rfl (by assumption) (by kernel_rfl) ?_; simp only [Act.put, List.setIfInBounds_toArray, List.set_cons_zero, List.set_cons_succ]) | (refine x_val (v := ?_) (by rfl) (fun w' hx => ?_) ?_; rotate_left; (focus (go_simp; (try with_reducible rfl))); (try simp only [Act.put, List.setIfInBounds_toArray, List.set_cons_zero, List.set_cons_succ])))
                (first | (refine x_load _ (by rfl) rfl rfl (by assumption) (by kernel_rfl) ?_; simp only [Act.put, List.setIfInBounds_toArray, List.set_cons_zero, List.set_cons_succ]) | (refine x_val (v := ?_) (by rfl) (fun w' hx => ?_) ?_; rotate_left; (focus (go_simp; (try with_reducible rfl))); (try simp only [Act.put, List.setIfInBounds_toArray, List.set_cons_zero, List.set_cons_succ])))
                (first | (refine x_load _ (by rfl) rfl rfl (by assumption) (by kernel_rfl) ?_; simp only [Act.put, List.setIfInBounds_toArray, List.set_cons_zero, List.set_cons_succ]) | (refine x_val (v := ?_) (by rfl) (fun w' hx => ?_) ?_; rotate_left; (focus (go_simp; (try with_reducible rfl))); (try simp only [Act.put, List.setIfInBounds_toArray, List.set_cons_zero, List.set_cons_succ])))
                (first | (refine x_load _ (by rfl) rfl rfl (by assumption) (by kernel_rfl) ?_; simp only [Act.put, List.setIfInBounds_toArray, List.set_cons_zero, List.set_cons_succ]) | (refine x_val (v := ?_) (by rfl) (fun w' hx => ?_) ?_; rotate_left; (focus (go_simp; (try with_reducible rfl))); (try simp only [Act.put, List.setIfInBounds_toArray, List.set_cons_zero, List.set_cons_succ])))
                (first | (refine x_load _ (by rfl) rfl rfl (by assumption) (by kernel_rfl) ?_; simp only [Act.put, List.setIfInBounds_toArray, List.set_cons_zero, List.set_cons_succ]) | (refine x_val (v := ?_) (by rfl) (fun w' hx => ?_) ?_; rotate_left; (focus (go_simp; (try with_reducible rfl))); (try simp only [Act.put, List.setIfInBounds_toArray, List.set_cons_zero, List.set_cons_succ])))
                (first | (refine x_load _ (by rfl) rfl rfl (by assumption) (by kernel_rfl) ?_; simp only [Act.put, List.setIfInBounds_toArray, List.set_cons_zero, List.set_cons_succ]) | (refine x_val (v := ?_) (by rfl) (fun w' hx => ?_) ?_; rotate_left; (focus (go_simp; (try with_reducible rfl))); (try simp only [Act.put, List.setIfInBounds_toArray, List.set_cons_zero, List.set_cons_succ])))
                (first | (refine x_load _ (by rfl) rfl rfl (by assumption) (by kernel_rfl) ?_; simp only [Act.put, List.setIfInBounds_toArray, List.set_cons_zero, List.set_cons_succ]) | (refine x_val (v := ?_) (by rfl) (fun w' hx => ?_) ?_; rotate_left; (focus (go_simp; (try with_reducible rfl))); (try simp only [Act.put, List.setIfInBounds_toArray, List.set_cons_zero, List.set_cons_succ])))
                refine x_nil (hQ.out _ ?_); clear hQ QQ
                intro w7 hb7
                have B7 := Lib.hid (BK.out.trans (hb7.mono BK.out.size))
                clear hb7 a0 a3 a8 BK
                obtain ⟨a0, a1, a2, a3, a4, a5, a6, a7, a8⟩ := ck9 (w := w7) (o := off + k * 9) (CXX.out w7 B7.out)
                go_wp2_with fail
                refine (CT.out w7).mono ?_
                rintro e w8 ⟨rfl, hb8⟩
                have B8 := Lib.hid (B7.out.trans (hb8.mono B7.out.size))
                clear hb8 a0 a1 a2 a3 a4 a5 a6 a7 a8 B7 CXX
                go_wp2_with fail
                go_roundw
                case rel => exact ⟨k + 1, t, by omega, by go_num, rfl, HNX, B8⟩
                case measure => simp [intOf]; omega
            · have hkn : n6 = k := by omega
              subst hkn
              have hss : s2 = a := by have := HCK.out; rw [List.drop_of_length_le (by have := hn6.out; omega)] at this; exact this
              subst hss
              have hsum : (n4 : Int) + (n6 : Int) = (n : Int) := by have := HNN.out; omega
              have hwn : IntKind.i64.wrap (n : Int) = (n : Int) := by rw [IntKind.wrap_i64]; omega
              have B7 := Lib.hid (B6.out.trans (BK.out.mono B6.out.size))
              clear hkl HCK BK R6 B6 hk
              go_wp2_with fail
              refine (alive16 _).mono ?_
              rintro e w9 ⟨rfl, hb9⟩
              have B9 := Lib.hid (B7.out.trans (hb9.mono B7.out.size))
              clear hb9 B7
              go_wp2_with fail
              go_ret
              exact ⟨rfl, B9.out⟩
end Go.Proofs.Ytbipcnboammpeaa
