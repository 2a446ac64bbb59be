/- The document of layer 44: Least, Row; what both tell of a number and of a row. -/
import Derived.Test.YtioebcjhmfndnaaHi1
namespace Go.Proofs.Ytioebcjhmfndnaa
open Go.RowKit
set_option linter.unusedVariables false
set_option linter.unusedSimpArgs false
set_option maxRecDepth 20000 in
set_option maxHeartbeats 4000000 in
theorem rleast_any (n : Int) (w : World) (hn : (Lit.int .i64 n).wf = true) : Calls Try.prog 8 #[.int .i64 n] w fun e w' => e = .returned (.int .i64 (leastN (clN 0 120 n) : Nat)) ∧ w' = w := by
  obtain ⟨x, hx⟩ : ∃ x, x = clN 0 120 n := ⟨_, rfl⟩
  have hxb : x ≤ 120 := by rw [hx]; exact clN_le (by omega) n
  have HX := Lib.hid (show (∀ r : Nat, r < x → (r : Int) < n ∧ (r : Int) < 120) ∧ (¬ (x : Int) < n ∨ x = 120) from by
    rw [hx]; unfold clN
    constructor
    · intro r hr
      split at hr
      · omega
      · split at hr <;> omega
    · split
      · omega
      · split <;> omega)
  rw [← hx]
  clear hx
  go_enter Try.func8, Try.ntmps8
  go_wp2_with fail
  go_loopw [3, 4] (fun nv kv wr => ∃ (k s : Nat), k ≤ x ∧ kv = .int .i64 (k : Nat) ∧ nv = .int .i64 (s : Nat) ∧ Hid (s = leastN k) ∧ wr = w) (fun _ kv _ => x - (intOf kv).toNat)
  case atStart => exact ⟨0, 0, Nat.zero_le _, rfl, rfl, Lib.hid rfl, rfl⟩
  case round =>
    obtain ⟨k, s, hk, rfl, rfl, hs, rfl⟩ := hrel
    by_cases hlt : k < x
    · obtain ⟨h1, h2⟩ := HX.out.1 k hlt
      have h2' : k < 120 := by omega
      obtain ⟨s2, hs2⟩ : ∃ s2, s2 = s + wideN k := ⟨_, rfl⟩
      have S2 := Lib.hid (show s2 = leastN (k + 1) by rw [hs2, hs.out, leastN_succ k h2'])
      have hsb : s2 ≤ 2147483648 := by rw [S2.out]; exact leastN_le _ (by omega)
      have HW := Lib.hid (rwide_any k wr h2')
      obtain ⟨v, hv⟩ : ∃ v, v = wideN k := ⟨_, rfl⟩
      rw [← hv] at HW hs2
      have hsi : (s : Int) + (v : Int) = (s2 : Nat) := by omega
      clear hv hs2 hs
      go_wp2_with fail
      refine HW.out.mono ?_
      rintro e w1 ⟨rfl, rfl⟩
      go_wp2_with fail
      go_roundw
      case rel => exact ⟨k + 1, s2, by omega, by go_num, by go_num, S2, trivial⟩
      case measure => simp [intOf]; omega
    · obtain rfl : k = x := by omega
      have e := Lib.hid hs.out
      clear hs
      rcases HX.out.2 with h1 | h1
      · go_wp2_with fail
        go_ret
        exact ⟨by rw [← e.out]; rfl, rfl⟩
      · subst h1
        have h2 : ¬ ((120 : Nat) : Int) < 120 := by omega
        by_cases h3 : (120 : Int) < n
        · go_wp2_with fail
          go_ret
          exact ⟨by rw [← e.out]; rfl, rfl⟩
        · go_wp2_with fail
          go_ret
          exact ⟨by rw [← e.out]; rfl, rfl⟩
set_option maxRecDepth 20000 in
set_option maxHeartbeats 4000000 in
theorem rrow_any (n : Int) (w : World) (hn : (Lit.int .i64 n).wf = true) : Calls Try.prog 6 #[.int .i64 n] w fun e w' => e = .returned (.int .i64 (rowN (inN n) : Nat)) ∧ w' = w := by
  have C := Lib.hid (rwithin_any n w hn)
  have hlt := inN_lt n
  obtain ⟨x, hx⟩ : ∃ x, x = inN n := ⟨_, rfl⟩
  rw [← hx] at C hlt ⊢
  clear hx
  go_enter Try.func6, Try.ntmps6
  go_wp2_with fail
  go_loopw [3, 4] (fun rv lv wr => ∃ (r m : Nat), r ≤ 119 ∧ rv = .int .i64 (r : Nat) ∧ lv = .int .i64 (m : Nat) ∧ Hid (m = leastN (r + 1)) ∧ Hid (leastN r ≤ x) ∧ wr = w) (fun rv _ _ => 119 - (intOf rv).toNat)
  case atStart => exact ⟨0, 1, by omega, rfl, rfl, Lib.hid rfl, Lib.hid (Nat.zero_le _), rfl⟩
  case round =>
    obtain ⟨r, m, hr, rfl, rfl, hm, hl, rfl⟩ := hrel
    have hmb : m ≤ 2147483648 := by rw [hm.out]; exact leastN_le _ (by omega)
    by_cases h9 : r < 119
    · have h9' : (r : Int) < 119 := by omega
      by_cases hle : m ≤ x
      · have hle' : (m : Int) ≤ (x : Int) := by omega
        obtain ⟨m2, hm2⟩ : ∃ m2, m2 = m + wideN (r + 1) := ⟨_, rfl⟩
        have M2 := Lib.hid (show m2 = leastN (r + 1 + 1) by rw [hm2, hm.out, leastN_succ (r + 1) (by omega)])
        have hm2b : m2 ≤ 2147483648 := by rw [M2.out]; exact leastN_le _ (by omega)
        have L2 := Lib.hid (show leastN (r + 1) ≤ x by rw [← hm.out]; exact hle)
        have HW := Lib.hid (rwide_any (r + 1) wr (by omega))
        obtain ⟨v, hv⟩ : ∃ v, v = wideN (r + 1) := ⟨_, rfl⟩
        obtain ⟨r1, hr1⟩ : ∃ r1, r1 = r + 1 := ⟨_, rfl⟩
        rw [← hv] at HW hm2
        have hri : (r : Int) + 1 = (r1 : Nat) := by omega
        rw [← hr1] at HW
        have hsi : (m : Int) + (v : Int) = (m2 : Nat) := by omega
        have hr1b : r1 ≤ 119 := by omega
        have R1 := Lib.hid hr1
        clear hv hm2 hm hl hr1
        go_wp2_with fail
        refine C.out.mono ?_
        rintro e w1 ⟨rfl, rfl⟩
        go_wp2_with fail
        refine HW.out.mono ?_
        rintro e w2 ⟨rfl, rfl⟩
        go_wp2_with fail
        go_roundw
        case rel => exact ⟨r1, m2, hr1b, rfl, by go_num, by rw [R1.out]; exact M2, by rw [R1.out]; exact L2, trivial⟩
        case measure => have := R1.out; simp [intOf]; omega
      · have hle' : ¬ (m : Int) ≤ (x : Int) := by omega
        have e := Lib.hid (rowN_of (r := r) (by omega) hlt hl.out (by rw [← hm.out]; omega))
        clear hm hl
        go_wp2_with fail
        refine C.out.mono ?_
        rintro e w1 ⟨rfl, rfl⟩
        go_wp2_with fail
        go_ret
        exact ⟨by rw [e.out]; rfl, rfl⟩
    · obtain rfl : r = 119 := by omega
      have e := Lib.hid (rowN_of (r := 119) (by omega) hlt hl.out (by rw [leastN_top]; exact hlt))
      clear hm hl
      go_wp2_with fail
      go_ret
      exact ⟨by rw [e.out]; rfl, rfl⟩
end Go.Proofs.Ytioebcjhmfndnaa
