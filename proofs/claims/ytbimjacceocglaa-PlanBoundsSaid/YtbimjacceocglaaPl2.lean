/- A row of paths is turned round. -/
import Derived.Test.YtbimjacceocglaaPl1
namespace Go.Proofs.Ytbimjacceocglaa
open Go.RowKit Go.Sort
set_option linter.unusedVariables false
set_option linter.unusedSimpArgs false
set_option maxRecDepth 20000 in
set_option maxHeartbeats 4000000 in
theorem pl_rot (rb c a m b n cp : Nat) (d : Array Plp) (fv : Value) (w : World) (h : PW w rb c d) (hn : n = d.size) (ham : a < m) (hmb : m < b) (hb : b ≤ n) (hb2 : n < 4611686018427387904) :
    Calls Try.prog 29 #[.slice (some ⟨rb, 0, none⟩) n cp, .int .i64 (a : Nat), .int .i64 (m : Nat), .int .i64 (b : Nat), fv] w fun e w' => e = .returned (.tuple #[]) ∧ ∃ d', PW w' rb c d' ∧ Tou rb w w' ∧ d'.size = d.size ∧ Rot d d' a m b ∧ PermIn a b d d' := by
  have S0 := Lib.hid h
  have HN := Lib.hid hn
  have HB2 := Lib.hid hb2
  have HAM := Lib.hid (show a < m ∧ m < b ∧ b ≤ n from ⟨ham, hmb, hb⟩)
  obtain ⟨i0, hi0⟩ : ∃ i, i = m - a := ⟨_, rfl⟩
  obtain ⟨j0, hj0⟩ : ∃ j, j = b - m := ⟨_, rfl⟩
  have e1 : IntKind.i64.wrap ((m : Int) - (a : Int)) = (i0 : Int) := by rw [IntKind.wrap_i64]; have := HB2.out; omega
  have e2 : IntKind.i64.wrap ((b : Int) - (m : Int)) = (j0 : Int) := by rw [IntKind.wrap_i64]; have := HB2.out; omega
  have HR0 : Hid (∀ d', Rot d d' (m - i0) m (m + j0) → Rot d d' a m b) := Lib.hid (fun d' hr => by rw [hi0, hj0, show m - (m - a) = a by omega, show m + (b - m) = b by omega] at hr; exact hr)
  have hb0 : 0 < i0 ∧ 0 < j0 ∧ a + i0 ≤ m ∧ m + j0 ≤ b := by omega
  clear h hn hb2 ham hmb hb hi0 hj0
  go_enter Try.func29, Try.ntmps29
  go_wp2_with fail
  go_loopw [10, 11] (fun iv jv wr => ∃ (i j : Nat) (dk : Array Plp), iv = .int .i64 (i : Nat) ∧ jv = .int .i64 (j : Nat) ∧ (0 < i ∧ 0 < j ∧ a + i ≤ m ∧ m + j ≤ b) ∧ Hid (PW wr rb c dk) ∧ Hid (Tou rb w wr) ∧ Hid (dk.size = d.size) ∧ Hid (∀ d', Rot dk d' (m - i) m (m + j) → Rot d d' a m b) ∧ Hid (PermIn a b d dk)) (fun iv jv _ => (intOf iv).toNat + (intOf jv).toNat)
  case atStart => exact ⟨i0, j0, d, rfl, rfl, hb0, S0, Lib.hid (Tou.refl _ _), Lib.hid rfl, HR0, Lib.hid (permIn_refl _ _ _)⟩
  case round =>
    clear S0 HR0 hb0 e1 e2
    obtain ⟨i, j, dk, rfl, rfl, hij, S1, T1, HS, HR, HP⟩ := hrel
    have HIJ := Lib.hid hij
    obtain ⟨p, hp⟩ : ∃ p, p = m - i := ⟨_, rfl⟩
    have e1 : IntKind.i64.wrap ((m : Int) - (i : Int)) = (p : Int) := by have := HAM.out; rw [IntKind.wrap_i64]; have := HB2.out; omega
    have HPE := Lib.hid hp
    clear hij hp
    rcases Nat.lt_trichotomy i j with hc | hc | hc
    · have hne : ¬ (i : Int) = (j : Int) := by omega
      have hgt : ¬ (j : Int) < (i : Int) := by omega
      obtain ⟨q, hq⟩ : ∃ q, q = m + j - i := ⟨_, rfl⟩
      obtain ⟨k, hk⟩ : ∃ k, k = j - i := ⟨_, rfl⟩
      have e2 : IntKind.i64.wrap ((m : Int) + (j : Int)) = (m : Int) + (j : Int) := by have := HAM.out; have := HIJ.out; rw [IntKind.wrap_i64]; have := HB2.out; omega
      have e3 : IntKind.i64.wrap ((m : Int) + (j : Int) - (i : Int)) = (q : Int) := by have := HAM.out; have := HIJ.out; rw [IntKind.wrap_i64]; have := HB2.out; omega
      have e4 : IntKind.i64.wrap ((j : Int) - (i : Int)) = (k : Int) := by have := HAM.out; have := HIJ.out; rw [IntKind.wrap_i64]; have := HB2.out; omega
      have HQ := Lib.hid (show q = m + j - i ∧ k = j - i ∧ i < j from ⟨hq, hk, hc⟩)
      clear hq hk
      go_wp2_with fail
      refine (pl_swap rb c p q i n cp dk fv wr S1.out (HN.out.trans HS.out.symm) (by have := HIJ.out; have := HQ.out; have := HPE.out; omega) (by have := HIJ.out; have := HQ.out; have := HPE.out; have := HAM.out; omega) HB2.out).mono ?_
      rintro e w2 ⟨rfl, d1, h1, t1, z1, x1, p1⟩

      have P4 := Lib.hid (show PermIn a b d d1 from permIn_trans _ _ _ _ _ HP.out (permIn_in p1 (by have := HIJ.out; have := HQ.out; have := HPE.out; omega) (by have := HIJ.out; have := HQ.out; have := HPE.out; omega) (by rw [HS.out, ← HN.out]; exact HAM.out.2.2)))
      have S4 := Lib.hid h1
      have T4 := Lib.hid (show Tou rb w w2 from T1.out.tou t1)
      have Z4 := Lib.hid (z1.trans HS.out)

      have R4 : Hid (∀ d', Rot d1 d' (m - i) m (m + k) → Rot d d' a m b) := Lib.hid (fun d' hr => HR.out d' (Rot.less (by have := HIJ.out; omega) HQ.out.2.2 (by rw [← HPE.out, ← HQ.out.1]; exact x1) (by rw [← HQ.out.2.1]; exact hr)))
      have hij2 : 0 < i ∧ 0 < k ∧ a + i ≤ m ∧ m + k ≤ b := by have := HIJ.out; have := HQ.out; omega
      have hkj : k < j := by have := HIJ.out; have := HQ.out; omega
      clear h1 t1 z1 x1 p1 e1 e2 e3 hne hgt HR HP HS HIJ HPE HQ S1 T1 hc
      go_wp2_with fail
      go_roundw
      case rel => exact ⟨i, k, d1, rfl, rfl, hij2, S4, T4, Z4, R4, P4⟩
      case measure => simp [intOf]; omega
    · have hne : (i : Int) = (j : Int) := by omega
      subst hc
      clear hne
      go_wp2_with fail
      refine (pl_swap rb c p m i n cp dk fv wr S1.out (HN.out.trans HS.out.symm) (by have := HIJ.out; have := HPE.out; omega) (by have := HIJ.out; have := HPE.out; have := HAM.out; omega) HB2.out).mono ?_
      rintro e w2 ⟨rfl, d1, h1, t1, z1, x1, p1⟩

      have P4 := Lib.hid (show PermIn a b d d1 from permIn_trans _ _ _ _ _ HP.out (permIn_in p1 (by have := HIJ.out; have := HPE.out; omega) (by have := HIJ.out; have := HPE.out; omega) (by rw [HS.out, ← HN.out]; exact HAM.out.2.2)))
      have S4 := Lib.hid h1
      have T4 := Lib.hid (show Tou rb w w2 from T1.out.tou t1)
      have Z4 := Lib.hid (z1.trans HS.out)

      have R4 := Lib.hid (HR.out d1 (Rot.same (by have := HIJ.out; omega) (by rw [← HPE.out]; exact x1)))
      clear h1 t1 z1 x1 p1 e1 HR HP HS HIJ HPE S1 T1
      go_wp2_with fail
      go_end0
      exact ⟨rfl, d1, S4.out, T4.out, Z4.out, R4.out, P4.out⟩
    · have hne : ¬ (i : Int) = (j : Int) := by omega
      have hgt : (j : Int) < (i : Int) := by omega
      obtain ⟨k, hk⟩ : ∃ k, k = i - j := ⟨_, rfl⟩
      have e4 : IntKind.i64.wrap ((i : Int) - (j : Int)) = (k : Int) := by have := HAM.out; have := HIJ.out; rw [IntKind.wrap_i64]; have := HB2.out; omega
      have HQ := Lib.hid (show k = i - j ∧ j < i from ⟨hk, hc⟩)
      clear hk
      go_wp2_with fail
      refine (pl_swap rb c p m j n cp dk fv wr S1.out (HN.out.trans HS.out.symm) (by have := HIJ.out; have := HQ.out; have := HPE.out; omega) (by have := HIJ.out; have := HQ.out; have := HPE.out; have := HAM.out; omega) HB2.out).mono ?_
      rintro e w2 ⟨rfl, d1, h1, t1, z1, x1, p1⟩

      have P4 := Lib.hid (show PermIn a b d d1 from permIn_trans _ _ _ _ _ HP.out (permIn_in p1 (by have := HIJ.out; have := HQ.out; have := HPE.out; omega) (by have := HIJ.out; have := HQ.out; have := HPE.out; omega) (by rw [HS.out, ← HN.out]; exact HAM.out.2.2)))
      have S4 := Lib.hid h1
      have T4 := Lib.hid (show Tou rb w w2 from T1.out.tou t1)
      have Z4 := Lib.hid (z1.trans HS.out)

      have R4 : Hid (∀ d', Rot d1 d' (m - k) m (m + j) → Rot d d' a m b) := Lib.hid (fun d' hr => HR.out d' (Rot.more (by have := HIJ.out; omega) HQ.out.2 (by rw [← HPE.out]; exact x1) (by rw [← HQ.out.1]; exact hr)))
      have hij2 : 0 < k ∧ 0 < j ∧ a + k ≤ m ∧ m + j ≤ b := by have := HIJ.out; have := HQ.out; omega
      have hkj : k < i := by have := HIJ.out; have := HQ.out; omega
      clear h1 t1 z1 x1 p1 e1 hne hgt HR HP HS HIJ HPE HQ S1 T1 hc
      go_wp2_with fail
      go_roundw
      case rel => exact ⟨k, j, d1, rfl, rfl, hij2, S4, T4, Z4, R4, P4⟩
      case measure => simp [intOf]; omega
end Go.Proofs.Ytbimjacceocglaa
