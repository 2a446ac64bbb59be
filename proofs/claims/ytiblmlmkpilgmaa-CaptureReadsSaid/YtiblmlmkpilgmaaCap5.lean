/- Layer 34: the document's sum. -/
import Derived.Test.YtiblmlmkpilgmaaCap4
namespace Go.Proofs.Ytiblmlmkpilgmaa
open Go.RowKit
set_option linter.unusedVariables false
set_option linter.unusedSimpArgs false
/-- The document's state ahead of the byte i. -/
def sumAt (l : List Nat) (i x y : Nat) : Prop :=
  (y < 65535 ∧ x < 65535 ∧ sumF 0 0 l = sumF x y (l.drop i) ∧ (i % 2 = 0 ∨ l.length ≤ i)) ∨
  (y < 65535 ∧ x < 65535 + 65536 ∧ i % 2 = 1 ∧ ∃ b r, l.drop i = b :: r ∧ sumF 0 0 l = sumF ((x + b) % 65535) ((y + (x + b) % 65535) % 65535) r)
theorem sumAt_0 (l : List Nat) : sumAt l 0 0 0 := .inl ⟨by omega, by omega, rfl, .inl rfl⟩
theorem sumAt_end {l : List Nat} {i x y : Nat} (h : sumAt l i x y) (hi : l.length ≤ i) : sumS l = y * 65536 + x ∧ x < 65535 ∧ y < 65535 := by
  rcases h with ⟨h1, h2, h3, _⟩ | ⟨_, _, _, b, r, h, _⟩
  · rw [List.drop_of_length_le hi] at h3
    unfold sumS
    rw [h3]
    exact ⟨rfl, h2, h1⟩
  · rw [List.drop_of_length_le hi] at h
    cases h
theorem sumAt_bd {l : List Nat} {i x y : Nat} (h : sumAt l i x y) : x < 131071 ∧ y < 65535 := by
  rcases h with ⟨h1, h2, _⟩ | ⟨h1, h2, _⟩ <;> omega
theorem drop_cons {l : List Nat} {i a : Nat} (h : l[i]? = some a) : l.drop i = a :: l.drop (i + 1) := nth_drop (Lib.hid h)
/-- An even place that isn't the last one. -/
theorem sumAt_even {l : List Nat} {i x y a : Nat} (h : sumAt l i x y) (ha : l[i]? = some a) (hb : a < 256) (he : i % 2 = 0) (hl : i + 1 < l.length) : sumAt l (i + 1) (x + a * 256) y := by
  rcases h with ⟨h1, h2, h3, _⟩ | ⟨_, _, h3, _⟩
  · rw [drop_cons ha] at h3
    obtain ⟨b, hbb⟩ : ∃ b, l[i + 1]? = some b := ⟨l[i + 1], List.getElem?_eq_getElem hl⟩
    rw [drop_cons hbb] at h3
    refine .inr ⟨h1, by omega, by omega, b, _, drop_cons hbb, ?_⟩
    rw [h3, show x + a * 256 + b = x + (a * 256 + b) by omega]
    rfl
  · omega
theorem sumAt_last {l : List Nat} {i x y a : Nat} (h : sumAt l i x y) (ha : l[i]? = some a) (he : i % 2 = 0) (hl : i + 1 = l.length) : sumAt l (i + 1) ((x + a * 256) % 65535) ((y + (x + a * 256) % 65535) % 65535) := by
  rcases h with ⟨h1, h2, h3, _⟩ | ⟨_, _, h3, _⟩
  · rw [drop_cons ha, List.drop_of_length_le (by omega : l.length ≤ i + 1)] at h3
    refine .inl ⟨by omega, by omega, ?_, .inr (by omega)⟩
    rw [List.drop_of_length_le (by omega : l.length ≤ i + 1), h3]
    rfl
  · omega
theorem sumAt_odd {l : List Nat} {i x y a : Nat} (h : sumAt l i x y) (ha : l[i]? = some a) (ho : i % 2 = 1) : sumAt l (i + 1) ((x + a) % 65535) ((y + (x + a) % 65535) % 65535) := by
  have hi : i < l.length := (List.getElem?_eq_some_iff.1 ha).1
  rcases h with ⟨_, _, _, h | h⟩ | ⟨h1, h2, _, b, r, hd, h3⟩
  · omega
  · omega
  · rw [drop_cons ha] at hd
    injection hd with e1 e2
    subst e1 e2
    exact .inl ⟨by omega, by omega, h3, .inl (by omega)⟩
set_option maxRecDepth 20000 in
set_option maxHeartbeats 4000000 in
theorem rsum_any (A : Option Addr) (n c : Nat) (l : List Nat) (w : World) (h : Rd w w.heap.size 1 A n (ns .u8 l)) (hb : ∀ x ∈ l, x < 256) (hn : n ≤ 100000000) :
    Calls Try.prog 62 #[.slice A n c] w fun e w' => e = .returned (.int .u32 (sumS l : Int)) ∧ Below w.heap.size w w' := by
  have HR := Lib.hid h
  have HB := Lib.hid hb
  have HL := Lib.hid h.natLen
  clear h hb
  go_enter Try.func62, Try.ntmps62
  go_wp2_with fail
  go_loopw [3, 4, 5] (fun xv yv iv wr => ∃ (k x y : Nat), k ≤ n ∧ iv = .int .i64 k ∧ xv = .int .u64 (x : Int) ∧ yv = .int .u64 (y : Int) ∧ Hid (sumAt l k x y) ∧ x < 131071 ∧ y < 65535 ∧ Hid (wr = w)) (fun _ _ iv _ => n - (intOf iv).toNat)
  case atStart => exact ⟨0, 0, 0, Nat.zero_le _, rfl, rfl, rfl, Lib.hid (sumAt_0 l), by omega, by omega, Lib.hid rfl⟩
  case round =>
    obtain ⟨k, x, y, hk, rfl, rfl, rfl, hS, hx, hy, hw⟩ := hrel
    have hw := hw.out
    subst hw
    by_cases hlt : k < n
    · have hlt' : (k : Int) < (n : Int) := by omega
      obtain ⟨b, off, a, rfl, hbb, hc, ha⟩ := HR.out.nth hlt
      have ha8 := HB.out _ (nth_mem ha)
      have wa : IntKind.u64.wrap (a : Int) = (a : Int) := by rw [IntKind.wrap_u64]; omega
      rcases Nat.mod_two_eq_zero_or_one k with hp | hp
      · have kp : (k : Int).tmod 2 = 0 := by rw [Int.tmod_eq_emod_of_nonneg (by omega)]; omega
        obtain ⟨a2, ha2⟩ : ∃ a2, a2 = a * 256 := ⟨_, rfl⟩
        have e1 : (a : Int) * 256 = (a2 : Int) := by omega
        have w1 : IntKind.u64.wrap ((a : Int) * 256) = (a2 : Int) := by rw [e1, IntKind.wrap_u64]; omega
        obtain ⟨x1, hx1⟩ : ∃ x1, x1 = x + a2 := ⟨_, rfl⟩
        have e2 : (x : Int) + (a2 : Int) = (x1 : Int) := by omega
        have w2 : IntKind.u64.wrap ((x : Int) + (a2 : Int)) = (x1 : Int) := by rw [e2, IntKind.wrap_u64]; omega
        by_cases hlast : k + 1 = n
        · have hkn : ((k : Int) == (n : Int) - 1) = true := by simp; omega
          have hkn' : (k : Int) = (n : Int) - 1 := by omega
          obtain ⟨n1, hn1⟩ : ∃ n1 : Nat, n1 = n - 1 := ⟨_, rfl⟩
          have en1 : (n : Int) - 1 = (n1 : Int) := by omega
          have wn1 : IntKind.i64.wrap ((n : Int) - 1) = (n1 : Int) := by rw [en1, IntKind.wrap_i64]; omega
          have ekn : k = n1 := by omega
          obtain ⟨x2, hx2⟩ : ∃ x2, x2 = x1 % 65535 := ⟨_, rfl⟩
          have e3 : (x1 : Int).tmod 65535 = (x2 : Int) := by rw [hx2, Int.tmod_eq_emod_of_nonneg (by omega)]; omega
          have w3 : IntKind.u64.wrap (x2 : Int) = (x2 : Int) := by rw [IntKind.wrap_u64]; omega
          obtain ⟨s2, hs2⟩ : ∃ s2, s2 = y + x2 := ⟨_, rfl⟩
          have e4 : (y : Int) + (x2 : Int) = (s2 : Int) := by omega
          have w4 : IntKind.u64.wrap ((y : Int) + (x2 : Int)) = (s2 : Int) := by rw [e4, IntKind.wrap_u64]; omega
          obtain ⟨y2, hy2⟩ : ∃ y2, y2 = s2 % 65535 := ⟨_, rfl⟩
          have e5 : (s2 : Int).tmod 65535 = (y2 : Int) := by rw [hy2, Int.tmod_eq_emod_of_nonneg (by omega)]; omega
          have w5 : IntKind.u64.wrap (y2 : Int) = (y2 : Int) := by rw [IntKind.wrap_u64]; omega
          have HSN := Lib.hid (show sumAt l (k + 1) x2 y2 by rw [hy2, hs2, hx2, hx1, ha2]; exact sumAt_last hS.out ha.out hp (by rw [HL.out]; exact hlast))
          have hx2b : x2 < 131071 := by omega
          have hy2b : y2 < 65535 := by omega
          have hk1 : k + 1 ≤ n := by omega
          subst ekn
          clear ha2 e1 hx1 e2 hx2 hs2 e4 hy2 hS hlast hn1 en1 hkn hkn' hp ha
          go_wp2_with fail
          go_roundw
          case rel => exact ⟨k + 1, x2, y2, hk1, by go_num, rfl, rfl, HSN, hx2b, hy2b, Lib.hid (by first | trivial | rfl)⟩
          case measure => simp [intOf]; omega
        · obtain ⟨n1, hn1⟩ : ∃ n1 : Nat, n1 = n - 1 := ⟨_, rfl⟩
          have en1 : (n : Int) - 1 = (n1 : Int) := by omega
          have wn1 : IntKind.i64.wrap ((n : Int) - 1) = (n1 : Int) := by rw [en1, IntKind.wrap_i64]; omega
          have hkn : ((k : Int) == (n1 : Int)) = false := by simp; omega
          have hkn' : ¬ k = n1 := by omega
          have HSN := Lib.hid (show sumAt l (k + 1) x1 y by rw [hx1, ha2]; exact sumAt_even hS.out ha.out ha8 hp (by rw [HL.out]; omega))
          have hx1b : x1 < 131071 := (sumAt_bd HSN.out).1
          clear ha2 e1 hx1 e2 hS hlast hn1 en1 hp ha
          go_wp2_with fail
          go_roundw
          case rel => exact ⟨k + 1, x1, y, by omega, by go_num, rfl, rfl, HSN, hx1b, hy, Lib.hid (by first | trivial | rfl)⟩
          case measure => simp [intOf]; omega
      · have kp : (k : Int).tmod 2 = 1 := by rw [Int.tmod_eq_emod_of_nonneg (by omega)]; omega
        obtain ⟨x1, hx1⟩ : ∃ x1, x1 = x + a := ⟨_, rfl⟩
        have e2 : (x : Int) + (a : Int) = (x1 : Int) := by omega
        have w2 : IntKind.u64.wrap ((x : Int) + (a : Int)) = (x1 : Int) := by rw [e2, IntKind.wrap_u64]; omega
        obtain ⟨x2, hx2⟩ : ∃ x2, x2 = x1 % 65535 := ⟨_, rfl⟩
        have e3 : (x1 : Int).tmod 65535 = (x2 : Int) := by rw [hx2, Int.tmod_eq_emod_of_nonneg (by omega)]; omega
        have w3 : IntKind.u64.wrap (x2 : Int) = (x2 : Int) := by rw [IntKind.wrap_u64]; omega
        obtain ⟨s2, hs2⟩ : ∃ s2, s2 = y + x2 := ⟨_, rfl⟩
        have e4 : (y : Int) + (x2 : Int) = (s2 : Int) := by omega
        have w4 : IntKind.u64.wrap ((y : Int) + (x2 : Int)) = (s2 : Int) := by rw [e4, IntKind.wrap_u64]; omega
        obtain ⟨y2, hy2⟩ : ∃ y2, y2 = s2 % 65535 := ⟨_, rfl⟩
        have e5 : (s2 : Int).tmod 65535 = (y2 : Int) := by rw [hy2, Int.tmod_eq_emod_of_nonneg (by omega)]; omega
        have w5 : IntKind.u64.wrap (y2 : Int) = (y2 : Int) := by rw [IntKind.wrap_u64]; omega
        have HSN := Lib.hid (show sumAt l (k + 1) x2 y2 by rw [hy2, hs2, hx2, hx1]; exact sumAt_odd hS.out ha.out hp)
        have hx2b : x2 < 131071 := by omega
        have hy2b : y2 < 65535 := by omega
        clear hx1 e2 hx2 hs2 e4 hy2 hS hp ha
        go_wp2_with fail
        go_roundw
        case rel => exact ⟨k + 1, x2, y2, by omega, by go_num, rfl, rfl, HSN, hx2b, hy2b, Lib.hid (by first | trivial | rfl)⟩
        case measure => simp [intOf]; omega
    · have hge : ¬ (k : Int) < (n : Int) := by omega
      obtain ⟨hs, hx3, hy3⟩ := sumAt_end hS.out (by rw [HL.out]; omega)
      obtain ⟨y2, hy2⟩ : ∃ y2, y2 = y * 65536 := ⟨_, rfl⟩
      have e1 : (y : Int) * 65536 = (y2 : Int) := by omega
      have w1 : IntKind.u64.wrap ((y : Int) * 65536) = (y2 : Int) := by rw [e1, IntKind.wrap_u64]; omega
      obtain ⟨s, hss⟩ : ∃ s, s = y2 + x := ⟨_, rfl⟩
      have e2 : (y2 : Int) + (x : Int) = (s : Int) := by omega
      have w2 : IntKind.u64.wrap ((y2 : Int) + (x : Int)) = (s : Int) := by rw [e2, IntKind.wrap_u64]; omega
      have w3 : IntKind.u32.wrap (s : Int) = (s : Int) := by rw [IntKind.wrap_u32]; omega
      have HF := Lib.hid (show sumS l = s by rw [hs, hss, hy2])
      clear hs hy2 e1 hss e2 hS
      go_wp2_with fail
      go_ret
      exact ⟨ret_int (by rw [HF.out]), Below.refl _ _⟩
end Go.Proofs.Ytiblmlmkpilgmaa
