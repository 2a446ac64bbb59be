/- Package hist and the document: Row, Least. -/
import Derived.Test.YtioebcjhmfndnaaHiM
import Derived.Test.YtioebcjhmfndnaaBlkS
import Derived.Test.YtioebcjhmfndnaaTou
import Derived.Test.YtioebcjhmfndnaaOrd
import Derived.Test.YtioebcjhmfndnaaGhoP
import Derived.Test.YtioebcjhmfndnaaGho2
import Derived.Test.YtioebcjhmfndnaaPut
import Derived.Test.YtioebcjhmfndnaaShelf
import Derived.Lib.ItoaNum
import Derived.Test.YtioebcjhmfndnaaRows
import Derived.OwnWalk
import Derived.BigQuiet
import Derived.RegionTactic
import Derived.LoopTactic
import Derived.ChangeAlike
import Derived.Deep.Cut
namespace Go.Proofs.Ytioebcjhmfndnaa
open Go.RowKit
set_option linter.unusedVariables false
set_option linter.unusedSimpArgs false
theorem bitLen_dbl {n : Nat} (h : n < 2147483648) : Lib.bitLen n - 3 = dblN n := by
  have hb : Lib.bitLen n = if n = 0 then 0 else Nat.log2 n + 1 := by
    by_cases h0 : n = 0
    · subst h0; rfl
    · rw [if_neg h0]
      obtain ⟨s1, s2, s3⟩ := Lib.bitLenAux_bounds 64 n (by omega) h0
      have e : Nat.log2 n = Lib.bitLen n - 1 := (Nat.log2_eq_iff h0).2 ⟨s2, by
        have e1 : Lib.bitLen n - 1 + 1 = Lib.bitLen n := Nat.sub_add_cancel s1
        rw [e1]
        exact s3⟩
      have s1' : 1 ≤ Lib.bitLen n := s1
      omega
  unfold dblN
  rw [hb]
  split
  · rename_i h0; subst h0; decide
  · rfl
theorem rowN_eq {n : Nat} (h : n < 2147483648) : rowN n = 4 * dblN n + n / 2 ^ dblN n := by
  unfold rowN
  split
  · rcases (show n = 0 ∨ n = 1 ∨ n = 2 ∨ n = 3 ∨ n = 4 ∨ n = 5 ∨ n = 6 ∨ n = 7 by omega) with rfl | rfl | rfl | rfl | rfl | rfl | rfl | rfl <;> decide
  · rfl
theorem dblN_le {n : Nat} (h : n < 2147483648) : dblN n ≤ 29 := by
  have s := (rowN_spec h).1
  rw [rowN_eq h] at s
  generalize n / 2 ^ dblN n = q at s
  omega
theorem hwithin_any (n : Int) (k : Nat) (w : World) (hn : (Lit.int .i64 n).wf = true) (hk : k ≤ 9000000000) : Calls Try.prog 13 #[.int .i64 n, .int .i64 (k : Nat)] w fun e w' => e = .returned (.int .i64 (clN 0 k n : Nat)) ∧ w' = w := by
  by_cases h0 : n < 0
  · have e : clN 0 k n = 0 := by unfold clN; rw [if_pos (by simpa using h0)]
    rw [e]
    have h1 : max n 0 = 0 := by omega
    have h2 : ¬ (k : Int) < 0 := by omega
    go_enter Try.func13, Try.ntmps13
    go_wp2
    go_ret
    refine ⟨ret_int (by omega), rfl⟩
  by_cases h4 : (k : Int) < n
  · have e : clN 0 k n = k := clN_hi (by simpa using h0) h4
    rw [e]
    go_enter Try.func13, Try.ntmps13
    go_wp2
    go_ret
    exact ⟨ret_int (by omega), rfl⟩
  · have e : ((clN 0 k n : Nat) : Int) = n := clN_in (by simpa using h0) h4
    rw [e]
    go_enter Try.func13, Try.ntmps13
    go_wp2
    go_ret
    exact ⟨ret_int (by omega), rfl⟩
theorem rwithin_any (n : Int) (w : World) (hn : (Lit.int .i64 n).wf = true) : Calls Try.prog 15 #[.int .i64 n] w fun e w' => e = .returned (.int .i64 (inN n : Nat)) ∧ w' = w := by
  unfold inN
  by_cases h0 : n < 0
  · rw [clN_lo (by simpa using h0)]
    go_enter Try.func15, Try.ntmps15
    go_wp2
    go_ret
    exact ⟨rfl, rfl⟩
  by_cases h4 : 2147483647 < n
  · rw [clN_hi (by simpa using h0) h4]
    go_enter Try.func15, Try.ntmps15
    go_wp2
    go_ret
    exact ⟨rfl, rfl⟩
  · rw [clN_in (by simpa using h0) h4]
    go_enter Try.func15, Try.ntmps15
    go_wp2
    go_ret
    exact ⟨rfl, rfl⟩
theorem roften_any (n : Int) (w : World) (hn : (Lit.int .i64 n).wf = true) : Calls Try.prog 26 #[.int .i64 n] w fun e w' => e = .returned (.int .i64 (ofN n : Nat)) ∧ w' = w := by
  unfold ofN
  by_cases h0 : n < 0
  · rw [clN_lo (by simpa using h0)]
    go_enter Try.func26, Try.ntmps26
    go_wp2
    go_ret
    exact ⟨rfl, rfl⟩
  by_cases h4 : 1048576 < n
  · rw [clN_hi (by simpa using h0) h4]
    go_enter Try.func26, Try.ntmps26
    go_wp2
    go_ret
    exact ⟨rfl, rfl⟩
  · rw [clN_in (by simpa using h0) h4]
    go_enter Try.func26, Try.ntmps26
    go_wp2
    go_ret
    exact ⟨rfl, rfl⟩
set_option maxRecDepth 20000 in
set_option maxHeartbeats 4000000 in
theorem hrow_any (n : Int) (w : World) (hn : (Lit.int .i64 n).wf = true) : Calls Try.prog 5 #[.int .i64 n] w fun e w' => e = .returned (.int .i64 (rowN (inN n) : Nat)) ∧ w' = w := by
  have C := Lib.hid (hwithin_any n 2147483647 w hn (by omega))
  have hlt := inN_lt n
  unfold inN at hlt ⊢
  obtain ⟨x, hx⟩ : ∃ x, x = clN 0 2147483647 n := ⟨_, rfl⟩
  rw [← hx] at C hlt ⊢
  have HL := Lib.hid (Try.bits_Len (x : Int) w (by omega) (by omega))
  have hbl := bitLen_dbl hlt
  have hre := rowN_eq hlt
  have hdl := dblN_le hlt
  obtain ⟨d, hd⟩ : ∃ d, d = dblN x := ⟨_, rfl⟩
  obtain ⟨b, hb⟩ : ∃ b, b = Lib.bitLen x := ⟨_, rfl⟩
  rw [show (x : Int).toNat = x by simp, ← hb] at HL
  rw [← hd, ← hb] at hbl
  rw [← hd] at hre hdl
  rw [hre]
  have hb31 : b ≤ 40 := by omega
  obtain ⟨s, hs⟩ : ∃ s, s = x / 2 ^ d := ⟨_, rfl⟩
  have hsl : s ≤ x := by rw [hs]; exact Nat.div_le_self _ _
  have hsi : (x : Int) / 2 ^ d = (s : Int) := by rw [hs]; push_cast; rfl
  clear hd hb hre hx
  go_enter Try.func5, Try.ntmps5
  go_wp2_with fail
  refine C.out.mono ?_
  rintro e w1 ⟨rfl, rfl⟩
  go_wp2_with fail
  refine HL.out.mono ?_
  rintro e w2 ⟨rfl, rfl⟩
  go_wp2_with fail
  go_ret
  refine ⟨ret_int ?_, rfl⟩
  have hm : max ((b : Int) - 2 - 1) 0 = (d : Int) := by omega
  rw [hm, Int.toNat_natCast, hsi, ← hs]
  unfold wrap64
  omega
set_option maxRecDepth 20000 in
set_option maxHeartbeats 4000000 in
theorem hleast_any (n : Int) (w : World) (hn : (Lit.int .i64 n).wf = true) : Calls Try.prog 7 #[.int .i64 n] w fun e w' => e = .returned (.int .i64 (leastN (clN 0 120 n) : Nat)) ∧ w' = w := by
  have C := Lib.hid (hwithin_any n 120 w hn (by omega))
  have hlt := clN_le (show 0 ≤ 120 by omega) n
  obtain ⟨x, hx⟩ : ∃ x, x = clN 0 120 n := ⟨_, rfl⟩
  rw [← hx] at C hlt ⊢
  obtain ⟨d, hd⟩ : ∃ d, d = x / 4 - 1 := ⟨_, rfl⟩
  have hll := leastN_le x hlt
  unfold leastN at hll ⊢
  rw [← hd] at hll ⊢
  obtain ⟨m, hm⟩ : ∃ m, m = x - 4 * d := ⟨_, rfl⟩
  rw [← hm] at hll ⊢
  obtain ⟨p, hp⟩ : ∃ p, p = m * 2 ^ d := ⟨_, rfl⟩
  have hpi : (m : Int) * 2 ^ d = (p : Int) := by rw [hp]; push_cast; rfl
  have hp' := hp
  rw [← hp] at hll ⊢
  have hd29 : d ≤ 29 := by omega
  clear hp hx
  go_enter Try.func7, Try.ntmps7
  go_wp2_with fail
  refine C.out.mono ?_
  rintro e w1 ⟨rfl, rfl⟩
  go_wp2_with fail
  go_ret
  refine ⟨ret_int ?_, rfl⟩
  have h1 : max (((x : Int) / 4) - 1) 0 = (d : Int) := by omega
  have h2 : (x : Int) - 4 * (d : Int) = (m : Int) := by omega
  rw [h1, h2, Int.toNat_natCast, hpi]
  unfold wrap64
  omega
set_option maxRecDepth 20000 in
set_option maxHeartbeats 4000000 in
theorem rwide_any (r : Nat) (w : World) (hr : r < 120) : Calls Try.prog 16 #[.int .i64 (r : Nat)] w fun e w' => e = .returned (.int .i64 (wideN r : Nat)) ∧ w' = w := by
  have hw := wideN_le r hr
  have HW := Lib.hid hw
  clear hw
  go_enter Try.func16, Try.ntmps16
  go_wp2_with fail
  go_loopw [3, 4] (fun nv kv wr => ∃ (k j n : Nat), kv = .int .i64 (k : Nat) ∧ nv = .int .i64 (n : Nat) ∧ Hid (k = 4 * j + 8) ∧ Hid (j = 0 ∨ 4 * j + 4 ≤ r) ∧ k ≤ 124 ∧ Hid (n = 2 ^ j) ∧ wr = w) (fun _ kv _ => 200 - (intOf kv).toNat)
  case atStart => exact ⟨8, 0, 1, rfl, rfl, Lib.hid rfl, Lib.hid (Or.inl rfl), by omega, Lib.hid rfl, rfl⟩
  case round =>
    obtain ⟨k, j, n, rfl, rfl, hk, hj, hk4, hn, rfl⟩ := hrel
    by_cases hle : k ≤ r
    · have hle' : (k : Int) ≤ (r : Int) := by omega
      obtain ⟨n2, hn2⟩ : ∃ n2, n2 = n * 2 := ⟨_, rfl⟩
      have N2 := Lib.hid (show n2 = 2 ^ (j + 1) by rw [hn2, hn.out, Nat.pow_succ])
      have hnb : n ≤ 4294967296 := by
        rw [hn.out]
        have := Nat.pow_le_pow_right (show 0 < 2 by omega) (show j ≤ 32 by have := hk.out; omega)
        omega
      have hni : (n : Int) * 2 = (n2 : Nat) := by omega
      have hn2b : n2 ≤ 8589934592 := by omega
      have K2 := Lib.hid (show k + 4 = 4 * (j + 1) + 8 by have := hk.out; omega)
      have J2 := Lib.hid (show j + 1 = 0 ∨ 4 * (j + 1) + 4 ≤ r by have := hk.out; omega)
      clear hn2 hk hj hn
      go_wp2_with fail
      go_roundw
      case rel => exact ⟨k + 4, j + 1, n2, by go_num, by go_num, K2, J2, by omega, N2, trivial⟩
      case measure => simp [intOf]; omega
    · have e : wideN r = n := by
        unfold wideN
        rw [hn.out]
        have := hk.out
        have := hj.out
        by_cases h8 : r < 8
        · obtain rfl : j = 0 := by omega
          rw [show r / 4 - 1 = 0 by omega]
        · rw [show r / 4 - 1 = j by omega]
      clear hk hj hn
      go_wp2_with fail
      go_ret
      exact ⟨by rw [e]; rfl, rfl⟩
end Go.Proofs.Ytioebcjhmfndnaa
