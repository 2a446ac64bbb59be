/- A row of paths is sorted. -/
import Derived.Test.YtbimjacceocglaaPl5
namespace Go.Proofs.Ytbimjacceocglaa
open Go.RowKit Go.Sort
set_option linter.unusedVariables false
set_option linter.unusedSimpArgs false
set_option maxRecDepth 20000 in
set_option maxHeartbeats 8000000 in
theorem pl_stable (rb c n cp : Nat) (cf : Plp → Plp → Int) (F : Nat) (hcl : PCL cf F) (hso : SWO (ltOf cf)) (d : Array Plp) (w : World) (h : PW w rb c d) (hn : n = d.size) (hb2 : n ≤ 65536) :
    Calls Try.prog 25 #[.slice (some ⟨rb, 0, none⟩) n cp, .int .i64 (n : Nat), .func (.func F) #[] #[]] w fun e w' => e = .returned (.tuple #[]) ∧ ∃ d', PW w' rb c d' ∧ Tou rb w w' ∧ d'.size = d.size ∧ PermIn 0 n d d' ∧ SortedIn (ltOf cf) 0 n d' := by
  have S0 := Lib.hid h
  have HN := Lib.hid hn
  have HCL := Lib.hid hcl
  have ef := hcl.1
  have HSO := Lib.hid hso
  have HB2 := Lib.hid hb2
  have HST := Lib.hid (pl_sym rb c n cp cf F hcl hso hb2 (n + 1))
  clear h hn hcl hso
  go_enter Try.func25, Try.ntmps25
  go_wp2_with fail
  go_loopw [7, 8] (fun av bv wr => ∃ (u a b : Nat) (dk : Array Plp), av = .int .i64 (a : Nat) ∧ bv = .int .i64 (b : Nat) ∧ (a ≤ n) ∧ Sh (a = u * 20 ∧ b = a + 20) ∧ Hid (PW wr rb c dk) ∧ Hid (Tou rb w wr) ∧ Sh (dk.size = d.size) ∧ Hid (∀ t, t < u → BlkS (ltOf cf) 20 n t dk) ∧ Hid (PermIn 0 n d dk)) (fun av bv _ => n + 1 - (intOf av).toNat)
  case atStart => exact ⟨0, 0, 20, d, rfl, rfl, Nat.zero_le _, ⟨rfl, rfl⟩, S0, Lib.hid (Tou.refl _ _), ⟨rfl⟩, Lib.hid (fun t ht => absurd ht (Nat.not_lt_zero _)), Lib.hid (permIn_refl _ _ _)⟩
  case round =>
    clear S0
    obtain ⟨u, a, b, dk, rfl, rfl, ha, HA, S1, T1, HS, HK, HP⟩ := hrel
    by_cases hbn : b ≤ n
    · have hbn' : (b : Int) ≤ (n : Int) := by omega
      obtain ⟨b9, hb9⟩ : ∃ x, x = b + 20 := ⟨_, rfl⟩
      have e1 : IntKind.i64.wrap ((b : Int) + 20) = (b9 : Int) := by rw [IntKind.wrap_i64]; omega
      have HB9 := Sh.mk hb9
      have HBN := Lib.hid hbn
      clear hb9
      go_wp2_with fail
      refine (pl_ins rb c a b n cp cf F HCL.out HSO.out dk wr S1.out (HN.out.trans HS.out.symm) HBN.out HB2.out ha).mono ?_
      rintro e w2 ⟨rfl, d2, h2, t2, z2, p2, q2⟩
      have S2 := Lib.hid h2
      have T2 := Lib.hid (T1.out.tou t2)
      have Z2 := Sh.mk (z2.trans HS.out)
      have K2 := Lib.hid (blk1_step HK.out HA.out.1 HA.out.2 HBN.out p2 q2)
      have P2 := Lib.hid (permIn_trans _ _ _ _ _ HP.out (permIn_in p2 (Nat.zero_le _) HBN.out (by rw [HS.out, ← HN.out]; exact Nat.le_refl _)))
      have A2 : Sh (b = (u + 1) * 20 ∧ b9 = b + 20) := ⟨by have := HA.out; omega, HB9.out⟩
      have hab : a < b := by have := HA.out; omega
      clear h2 t2 z2 p2 q2 S1 T1 HS HK HP HA
      go_wp2_with fail
      go_roundw
      case rel => exact ⟨u + 1, b, b9, d2, rfl, rfl, HBN.out, A2, S2, T2, Z2, K2, P2⟩
      case measure => simp [intOf]; omega
    · have hbn' : ¬ (b : Int) ≤ (n : Int) := by omega
      have HBN := Lib.hid (show n < a + 20 by have := HA.out; omega)
      go_wp2_with fail
      refine (pl_ins rb c a n n cp cf F HCL.out HSO.out dk wr S1.out (HN.out.trans HS.out.symm) (Nat.le_refl _) HB2.out ha).mono ?_
      rintro e w2 ⟨rfl, d2, h2, t2, z2, p2, q2⟩
      have S2 := Lib.hid h2
      have T2 := Lib.hid (T1.out.tou t2)
      have Z2 := Sh.mk (z2.trans HS.out)
      have K2 := Lib.hid (blk1_end HK.out HA.out.1 HBN.out p2 q2)
      have P2 := Lib.hid (permIn_trans _ _ _ _ _ HP.out (permIn_in p2 (Nat.zero_le _) (Nat.le_refl _) (by rw [HS.out, ← HN.out]; exact Nat.le_refl _)))
      clear h2 t2 z2 p2 q2 S1 T1 HS HK HP HA hbn hbn'
      go_wp2_with fail
      go_loopw [6] (fun sv wr => ∃ (bs : Nat) (dk : Array Plp), sv = .int .i64 (bs : Nat) ∧ (0 < bs ∧ bs ≤ 131092) ∧ Hid (PW wr rb c dk) ∧ Hid (Tou rb w wr) ∧ Sh (dk.size = d.size) ∧ Hid (∀ t, BlkS (ltOf cf) bs n t dk) ∧ Hid (PermIn 0 n d dk)) (fun sv _ => 131093 - (intOf sv).toNat)
      case atStart => exact ⟨20, d2, rfl, ⟨by omega, by omega⟩, S2, T2, Z2, K2, P2⟩
      case round =>
        clear S2 T2 Z2 K2 P2
        obtain ⟨bs, dk0, rfl, hbs, S1, T1, HS, HK, HP⟩ := hrel
        by_cases hlt : bs < n
        · have hlt' : (bs : Int) < (n : Int) := by omega
          obtain ⟨b2s, hb2s⟩ : ∃ x, x = 2 * bs := ⟨_, rfl⟩
          have e1 : IntKind.i64.wrap (2 * (bs : Int)) = (b2s : Int) := by rw [IntKind.wrap_i64]; omega
          have e2 : IntKind.i64.wrap ((bs : Int) * 2) = (b2s : Int) := by rw [IntKind.wrap_i64]; omega
          have HBS := Sh.mk (show b2s = 2 * bs ∧ 0 < bs ∧ bs < n ∧ n ≤ 65536 from ⟨hb2s, by omega, hlt, hb2⟩)
          have HK2 : Hid (∀ t, 2 * 0 ≤ t → BlkS (ltOf cf) bs n t dk0) := Lib.hid (fun t _ => HK.out t)
          have hbig : b2s ≤ 131072 ∧ bs < b2s := by omega
          clear hb2s HK
          go_wp2_with fail
          go_loopw [7, 8] (fun av bv wr => ∃ (u a b : Nat) (dk : Array Plp), av = .int .i64 (a : Nat) ∧ bv = .int .i64 (b : Nat) ∧ (a ≤ n ∧ b ≤ 196608) ∧ Sh (a = u * (2 * bs) ∧ b = a + 2 * bs) ∧ Hid (PW wr rb c dk) ∧ Hid (Tou rb w wr) ∧ Sh (dk.size = d.size) ∧ Hid (∀ t, t < u → BlkS (ltOf cf) (2 * bs) n t dk) ∧ Hid (∀ t, 2 * u ≤ t → BlkS (ltOf cf) bs n t dk) ∧ Hid (PermIn 0 n d dk)) (fun av bv _ => n + 1 - (intOf av).toNat)
          case atStart => exact ⟨0, 0, b2s, dk0, rfl, rfl, ⟨Nat.zero_le _, by omega⟩, ⟨by omega, by have := HBS.out; omega⟩, S1, T1, HS, Lib.hid (fun t ht => absurd ht (Nat.not_lt_zero _)), HK2, HP⟩
          case round =>
            clear S1 T1 HS HK2 HP
            obtain ⟨u, a, b, dk, rfl, rfl, hab, HA, S1, T1, HS, HK, HL, HP⟩ := hrel
            obtain ⟨m, hm⟩ : ∃ x, x = a + bs := ⟨_, rfl⟩
            have e3 : IntKind.i64.wrap ((a : Int) + (bs : Int)) = (m : Int) := by rw [IntKind.wrap_i64]; omega
            have HM := Sh.mk hm
            clear hm
            by_cases hbn : b ≤ n
            · have hbn' : (b : Int) ≤ (n : Int) := by omega
              obtain ⟨b9, hb9⟩ : ∃ x, x = b + b2s := ⟨_, rfl⟩
              have e4 : IntKind.i64.wrap ((b : Int) + (b2s : Int)) = (b9 : Int) := by rw [IntKind.wrap_i64]; omega
              have HB9 := Sh.mk hb9
              have HBN := Lib.hid hbn
              have hb9b : b9 ≤ 196608 := by omega
              clear hb9
              go_wp2_with fail
              refine (HST.out a m b dk wr (by omega) S1.out (HN.out.trans HS.out.symm) (by have := HM.out; have := HBS.out; omega) (by have := HM.out; have := HBS.out; have := HA.out; omega) HBN.out (by rw [HM.out]; exact blk2_l HL.out HA.out.1 (by have := HA.out; omega)) (by rw [HM.out]; exact blk2_r HL.out HA.out.1 (by have := HA.out; omega))).mono ?_
              rintro e w2 ⟨rfl, d2, h2, t2, z2, p2, q2⟩
              have S2 := Lib.hid h2
              have T2 := Lib.hid (T1.out.tou t2)
              have Z2 := Sh.mk (z2.trans HS.out)
              have K2 := Lib.hid (blk1_step HK.out HA.out.1 HA.out.2 HBN.out p2 q2)
              have L2 := Lib.hid (blk2_keep HL.out HA.out.1 HA.out.2 p2)
              have P2 := Lib.hid (permIn_trans _ _ _ _ _ HP.out (permIn_in p2 (Nat.zero_le _) HBN.out (by rw [HS.out, ← HN.out]; exact Nat.le_refl _)))
              have A2 : Sh (b = (u + 1) * (2 * bs) ∧ b9 = b + 2 * bs) := ⟨by have := HA.out; rw [Nat.add_mul, Nat.one_mul]; omega, by rw [HB9.out, HBS.out.1]⟩
              have hab2 : a < b := by have := HA.out; have := HBS.out; omega
              clear h2 t2 z2 p2 q2 S1 T1 HS HK HL HP HA
              go_wp2_with fail
              go_roundw
              case rel => exact ⟨u + 1, b, b9, d2, rfl, rfl, ⟨HBN.out, hb9b⟩, A2, S2, T2, Z2, K2, L2, P2⟩
              case measure => simp [intOf]; omega
            · have hbn' : ¬ (b : Int) ≤ (n : Int) := by omega
              have HBN := Lib.hid (show n < a + 2 * bs by have := HA.out; omega)
              by_cases hmn : m < n
              · have hmn' : (m : Int) < (n : Int) := by omega
                have HMN := Lib.hid hmn
                go_wp2_with fail
                refine (HST.out a m n dk wr (by omega) S1.out (HN.out.trans HS.out.symm) (by have := HM.out; have := HBS.out; omega) HMN.out (Nat.le_refl _) (by rw [HM.out]; exact blk2_l HL.out HA.out.1 (by have := HM.out; have := HMN.out; omega)) (by rw [HM.out]; exact blk2_r HL.out HA.out.1 (by have := HBN.out; omega))).mono ?_
                rintro e w2 ⟨rfl, d2, h2, t2, z2, p2, q2⟩
                have S2 := Lib.hid h2
                have T2 := Lib.hid (T1.out.tou t2)
                have Z2 := Sh.mk (z2.trans HS.out)
                have K2 := Lib.hid (show ∀ t, BlkS (ltOf cf) b2s n t d2 by rw [HBS.out.1]; exact blk1_end HK.out HA.out.1 HBN.out p2 q2)
                have P2 := Lib.hid (permIn_trans _ _ _ _ _ HP.out (permIn_in p2 (Nat.zero_le _) (Nat.le_refl _) (by rw [HS.out, ← HN.out]; exact Nat.le_refl _)))
                clear h2 t2 z2 p2 q2 S1 T1 HS HK HL HP HA hbn hbn'
                go_wp2_with fail
                go_roundw
                case rel => exact ⟨b2s, d2, rfl, ⟨by omega, by omega⟩, S2, T2, Z2, K2, P2⟩
                case measure => simp [intOf]; omega
              · have hmn' : ¬ (m : Int) < (n : Int) := by omega
                have K2 := Lib.hid (show ∀ t, BlkS (ltOf cf) b2s n t dk by rw [HBS.out.1]; exact blk2_no HK.out HL.out HA.out.1 (by have := HM.out; omega))
                clear HK HL HA
                go_wp2_with fail
                go_roundw
                case rel => exact ⟨b2s, dk, rfl, ⟨by omega, by omega⟩, S1, T1, HS, K2, HP⟩
                case measure => simp [intOf]; omega
        · have hlt' : ¬ (bs : Int) < (n : Int) := by omega
          have Q5 := Lib.hid (blk_all HK.out (by omega))
          go_wp2_with fail
          go_end0
          exact ⟨rfl, dk0, S1.out, T1.out, HS.out, HP.out, Q5.out⟩
set_option maxRecDepth 20000 in
set_option maxHeartbeats 8000000 in
theorem pl_sort (rb c n cp : Nat) (cf : Plp → Plp → Int) (F : Nat) (hcl : PCL cf F) (hso : SWO (ltOf cf)) (d : Array Plp) (w : World) (h : PW w rb c d) (hn : n = d.size) (hb2 : n ≤ 65536) :
    Calls Try.prog 17 #[.slice (some ⟨rb, 0, none⟩) n cp, .func (.func F) #[] #[]] w fun e w' => e = .returned (.tuple #[]) ∧ ∃ d', PW w' rb c d' ∧ Tou rb w w' ∧ d'.size = d.size ∧ PermIn 0 n d d' ∧ SortedIn (ltOf cf) 0 n d' := by
  have HC := Lib.hid (pl_stable rb c n cp cf F hcl hso d w h hn hb2)
  clear h hn hcl hso
  go_enter Try.func17, Try.ntmps17
  go_wp2_with fail
  refine HC.out.mono ?_
  rintro e w2 ⟨rfl, hq⟩
  have HQ := Lib.hid hq
  clear hq HC
  go_wp2_with fail
  go_end0
  exact ⟨rfl, HQ.out⟩
set_option maxRecDepth 20000 in
set_option maxHeartbeats 8000000 in
theorem pl_ins0 (fv : Value) (w : World) : Calls Try.prog 27 #[.slice none 0 0, .int .i64 0, .int .i64 0, fv] w fun e w' => e = .returned (.tuple #[]) ∧ w' = w := by
  go_enter Try.func27, Try.ntmps27
  go_wp2_with fail
  go_loopw [8] (fun iv wr => iv = .int .i64 1 ∧ Sh (wr = w)) (fun iv _ => 0)
  case atStart => exact ⟨by go_num, ⟨rfl⟩⟩
  case round =>
    obtain ⟨rfl, hw⟩ := hrel
    go_wp2_with fail
    go_end0
    exact ⟨rfl, hw.out⟩
set_option maxRecDepth 20000 in
set_option maxHeartbeats 8000000 in
theorem pl_stable0 (fv : Value) (w : World) : Calls Try.prog 25 #[.slice none 0 0, .int .i64 0, fv] w fun e w' => e = .returned (.tuple #[]) ∧ w' = w := by
  go_enter Try.func25, Try.ntmps25
  go_wp2_with fail
  go_loopw [7, 8] (fun av bv wr => av = .int .i64 0 ∧ bv = .int .i64 20 ∧ Sh (wr = w)) (fun av bv _ => 0)
  case atStart => exact ⟨rfl, rfl, ⟨rfl⟩⟩
  case round =>
    obtain ⟨rfl, rfl, hw⟩ := hrel
    go_wp2_with fail
    refine (pl_ins0 fv wr).mono ?_
    rintro e w2 ⟨rfl, hw2⟩
    have HW := Sh.mk (hw2.trans hw.out)
    clear hw hw2
    go_wp2_with fail
    go_loopw [6] (fun sv wr => sv = .int .i64 20 ∧ Sh (wr = w)) (fun sv _ => 0)
    case atStart => exact ⟨rfl, HW⟩
    case round =>
      obtain ⟨rfl, hw⟩ := hrel
      go_wp2_with fail
      go_end0
      exact ⟨rfl, hw.out⟩
set_option maxRecDepth 20000 in
set_option maxHeartbeats 8000000 in
theorem pl_sort0 (fv : Value) (w : World) : Calls Try.prog 17 #[.slice none 0 0, fv] w fun e w' => e = .returned (.tuple #[]) ∧ w' = w := by
  go_enter Try.func17, Try.ntmps17
  go_wp2_with fail
  refine (pl_stable0 fv w).mono ?_
  rintro e w2 ⟨rfl, hw⟩
  have HW := Sh.mk hw
  clear hw
  go_wp2_with fail
  go_end0
  exact ⟨rfl, HW.out⟩
end Go.Proofs.Ytbimjacceocglaa
