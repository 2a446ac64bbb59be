/- Package hist: Many, Mean, Below, Join. -/
import Derived.Test.YtioebcjhmfndnaaHi3
import Derived.Deep.MidRow
namespace Go.Proofs.Ytioebcjhmfndnaa
open Go.RowKit
set_option linter.unusedVariables false
set_option linter.unusedSimpArgs false
theorem hload {w : World} {g s : Nat} {f : Nat → Nat} (h : HF w g f s) : (Instr.loadAt 26 (.pointer (some ⟨g, 0, none⟩))).run Try.prog w = .ok (.agg (HRow f).toArray) w :=
  run_loadAt_mid w g 0 26 (HRow f) _ h.loads Try.underlying26 rfl (by rw [HRow_len]; kernel_rfl)
theorem hsize (f : Nat → Nat) : (Try.prog.info? 26).map (·.size) = some (HRow f).length := by rw [HRow_len]; kernel_rfl
theorem hindex (f : Nat → Nat) {k : Nat} (hk : k < 120) (w : World) : (Instr.index 26 (.agg (HRow f).toArray) (.int .i64 (k : Nat))).run Try.prog w = .ok (.int .i64 (f k : Nat)) w := by
  have hg := HRow_get f hk
  obtain ⟨R, hR⟩ : ∃ R, R = (HRow f).toArray := ⟨_, rfl⟩
  have hgR : R[k]? = some (.int .i64 (f k : Nat)) := by rw [hR, List.getElem?_toArray]; exact hg
  rw [← hR]
  have h1 : (sizeOf 3).run Try.prog w = .ok 1 w := by kernel_rfl
  have h2 : (isAgg 3).run Try.prog w = .ok false w := by kernel_rfl
  have h3 : (0 : Int) ≤ (k : Int) ∧ (k : Int) < ((120 : Nat) : Int) := by omega
  unfold Instr.index
  simp only [asIntOf, Sem.run_bind, Sem.run_pure, Result.andThen_ok, run_underlying Try.underlying26]
  rw [if_pos h3]
  simp [part, Sem.run_bind, Sem.run_pure, h1, h2, hgR]
set_option maxRecDepth 20000 in
set_option maxHeartbeats 4000000 in
theorem h_many (g s M : Nat) (f : Nat → Nat) (w : World) (h : HF w g f s) (hM : upTo f 120 = M) (hb : M ≤ 100000000) :
    Calls Try.prog 17 #[.pointer (some ⟨g, 0, none⟩)] w fun e w' => e = .returned (.int .i64 (M : Nat)) ∧ w' = w := by
  have HM := Lib.hid (show ∀ k, k ≤ 120 → upTo f k ≤ 100000000 from fun k hk => upTo_le (by omega) hk)
  have HE := Lib.hid hM
  have HLD := Lib.hid (show w.rangeAt g 0 (HRow f) from h.loads)
  have HSZ := Lib.hid (hsize f)
  have HI := Lib.hid (fun (k : Nat) (hk : k < 120) => hindex f hk w)
  obtain ⟨R, hR⟩ : ∃ R, R = HRow f := ⟨_, rfl⟩
  rw [← hR] at HLD HI HSZ
  clear h hR hM hb
  go_enter Try.func17, Try.ntmps17
  go_wp2_with fail
  refine wp_load_mid 26 _ rfl g 0 rfl R _ HLD.out Try.underlying26 rfl HSZ.out ?_
  clear HLD
  go_wp2_with fail
  go_loopw [3, 10] (fun sv kv wr => ∃ (k t : Nat), k ≤ 120 ∧ kv = .int .i64 (k : Nat) ∧ sv = .int .i64 (t : Nat) ∧ Hid (t = upTo f k) ∧ wr = w) (fun _ kv _ => 120 - (intOf kv).toNat)
  case atStart => exact ⟨0, 0, by omega, rfl, rfl, Lib.hid rfl, rfl⟩
  case round =>
    obtain ⟨k, t, hk, rfl, rfl, ht, rfl⟩ := hrel
    by_cases hlt : k < 120
    · have hlt' : (k : Int) < 120 := by omega
      have hix := HI.out k hlt
      obtain ⟨v, hv⟩ : ∃ v, v = f k := ⟨_, rfl⟩
      rw [← hv] at hix
      obtain ⟨t2, ht2⟩ : ∃ t2, t2 = t + v := ⟨_, rfl⟩
      have T2 := Lib.hid (show t2 = upTo f (k + 1) by rw [ht2, upTo_succ, ht.out, hv])
      have htb : t2 ≤ 100000000 := by rw [T2.out]; exact HM.out _ hlt
      have hti : (t : Int) + (v : Int) = (t2 : Nat) := by omega
      clear hv ht2 ht
      go_wp2_with fail
      go_roundw
      case rel => exact ⟨k + 1, t2, by omega, by go_num, by go_num, T2, trivial⟩
      case measure => simp [intOf]; omega
    · obtain rfl : k = 120 := by omega
      have e := Lib.hid (HE.out.symm.trans ht.out.symm)
      clear ht
      go_wp2_with fail
      go_ret
      exact ⟨by rw [e.out]; rfl, rfl⟩
set_option maxRecDepth 20000 in
set_option maxHeartbeats 4000000 in
theorem h_mean (g s M : Nat) (f : Nat → Nat) (w : World) (h : HF w g f s) (hM : upTo f 120 = M) (hb : M ≤ 100000000) (hs : s ≤ 1000000000000000000) :
    Calls Try.prog 18 #[.pointer (some ⟨g, 0, none⟩)] w fun e w' => e = .returned (.int .i64 (s / M : Nat)) ∧ w' = w := by
  have C := Lib.hid (h_many g s M f w h hM hb)
  have c1 := h.sum
  obtain ⟨q, hq⟩ : ∃ q, q = s / M := ⟨_, rfl⟩
  have hqb : q ≤ s := by rw [hq]; exact Nat.div_le_self _ _
  have hqi : (s : Int) / (M : Int) = (q : Nat) := by rw [hq]; push_cast; rfl
  have hqt : (s : Int).tdiv (M : Int) = (q : Nat) := by rw [Int.tdiv_eq_ediv_of_nonneg (by omega)]; exact hqi
  rw [← hq]
  have HQ := Lib.hid hq
  clear h hM hq
  by_cases h0 : M = 0
  · subst h0
    have : q = 0 := by rw [HQ.out]; exact Nat.div_zero _
    subst this
    clear hqi hqt
    go_enter Try.func18, Try.ntmps18
    go_wp2_with fail
    refine C.out.mono ?_
    rintro e w1 ⟨rfl, rfl⟩
    go_wp2_with fail
    go_ret
    exact ⟨rfl, rfl⟩
  · have h0' : ¬ (M : Int) = 0 := by omega
    go_enter Try.func18, Try.ntmps18
    go_wp2_with fail
    refine C.out.mono ?_
    rintro e w1 ⟨rfl, rfl⟩
    go_wp2_with fail
    go_ret
    exact ⟨rfl, rfl⟩
set_option maxRecDepth 20000 in
set_option maxHeartbeats 4000000 in
theorem h_below (g s M : Nat) (f : Nat → Nat) (n : Int) (w : World) (h : HF w g f s) (hM : upTo f 120 = M) (hb : M ≤ 100000000) (hn : (Lit.int .i64 n).wf = true) :
    Calls Try.prog 22 #[.pointer (some ⟨g, 0, none⟩), .int .i64 n] w fun e w' => e = .returned (.int .i64 (belN f M (clN 0 1000 n) : Nat)) ∧ w' = w := by
  have C := Lib.hid (h_many g s M f w h hM hb)
  have CW := Lib.hid (hwithin_any n 1000 w hn (by omega))
  have hpb := clN_le (show 0 ≤ 1000 by omega) n
  obtain ⟨p, hp⟩ : ∃ p, p = clN 0 1000 n := ⟨_, rfl⟩
  rw [← hp] at CW hpb ⊢
  have HM := Lib.hid (show ∀ k, k ≤ 120 → upTo f k ≤ 100000000 from fun k hk => upTo_le (by omega) hk)
  have HLD := Lib.hid (show w.rangeAt g 0 (HRow f) from h.loads)
  have HSZ := Lib.hid (hsize f)
  have HI := Lib.hid (fun (k : Nat) (hk : k < 120) => hindex f hk w)
  obtain ⟨R, hR⟩ : ∃ R, R = HRow f := ⟨_, rfl⟩
  rw [← hR] at HLD HI HSZ
  obtain ⟨q, hq⟩ : ∃ q, q = M / 1000 := ⟨_, rfl⟩
  obtain ⟨m, hm⟩ : ∃ m, m = M % 1000 := ⟨_, rfl⟩
  obtain ⟨a, ha⟩ : ∃ a, a = q * p := ⟨_, rfl⟩
  obtain ⟨b, hbb⟩ : ∃ b, b = m * p := ⟨_, rfl⟩
  obtain ⟨c, hc⟩ : ∃ c, c = (b + 999) / 1000 := ⟨_, rfl⟩
  obtain ⟨wt, hwt⟩ : ∃ wt, wt = a + c := ⟨_, rfl⟩
  have HW := Lib.hid (show ∀ t, wt ≤ t ↔ M * p ≤ t * 1000 from fun t => by rw [hwt, hc, hbb, ha, hm, hq]; exact wanted_iff)
  have hqb : q ≤ 100000 := by omega
  have hmb : m < 1000 := by omega
  have hab : a ≤ 100000 * 1000 := by rw [ha]; exact Nat.mul_le_mul hqb hpb
  have hbb2 : b ≤ 1000 * 1000 := by rw [hbb]; exact Nat.mul_le_mul (by omega) hpb
  have hqi : (M : Int) / 1000 = (q : Nat) := by omega
  have hqt : (M : Int).tdiv 1000 = (q : Nat) := by rw [Int.tdiv_eq_ediv_of_nonneg (by omega)]; exact hqi
  have hmi : (M : Int) % 1000 = (m : Nat) := by omega
  have hmt : (M : Int).tmod 1000 = (m : Nat) := by rw [Int.tmod_eq_emod_of_nonneg (by omega)]; exact hmi
  have hai : (q : Int) * (p : Int) = (a : Nat) := by rw [ha]; push_cast; rfl
  have hbi : (m : Int) * (p : Int) = (b : Nat) := by rw [hbb]; push_cast; rfl
  obtain ⟨b9, hb9⟩ : ∃ b9, b9 = b + 999 := ⟨_, rfl⟩
  have hb9i : (b : Int) + 1000 - 1 = (b9 : Nat) := by omega
  have hci : (b9 : Int) / 1000 = (c : Nat) := by omega
  have hct : (b9 : Int).tdiv 1000 = (c : Nat) := by rw [Int.tdiv_eq_ediv_of_nonneg (by omega)]; exact hci
  have hwti : (a : Int) + (c : Int) = (wt : Nat) := by omega
  have hcb : c ≤ 2000 := by omega
  have hwb : wt ≤ 200000000 := by omega
  clear h hR hp hq hm ha hbb hc hwt hM hb9
  go_enter Try.func22, Try.ntmps22
  go_wp2_with fail
  refine C.out.mono ?_
  rintro e w1 ⟨rfl, rfl⟩
  go_wp2_with fail
  refine CW.out.mono ?_
  rintro e w2 ⟨rfl, rfl⟩
  go_wp2_with fail
  refine wp_load_mid 26 _ rfl g 0 rfl R _ HLD.out Try.underlying26 rfl HSZ.out ?_
  clear HLD C CW hqb hmb hab hbb2 hqi hqt hmi hmt hai hbi hb9i hci hct hwti hcb
  go_wp2_with fail
  go_loopw [6, 30] (fun sv kv wr => ∃ (k t : Nat), k ≤ 120 ∧ kv = .int .i64 (k : Nat) ∧ sv = .int .i64 (t : Nat) ∧ Hid (t = upTo f k) ∧ Hid (belN f M p = bel f M p (120 - k) k) ∧ wr = w2) (fun _ kv _ => 120 - (intOf kv).toNat)
  case atStart => exact ⟨0, 0, by omega, rfl, rfl, Lib.hid rfl, Lib.hid rfl, rfl⟩
  case round =>
    obtain ⟨k, t, hk, rfl, rfl, ht, hB, rfl⟩ := hrel
    by_cases hlt : k < 120
    · have hlt' : (k : Int) < 120 := by omega
      have hix := HI.out k hlt
      obtain ⟨v, hv⟩ : ∃ v, v = f k := ⟨_, rfl⟩
      rw [← hv] at hix
      obtain ⟨t2, ht2⟩ : ∃ t2, t2 = t + v := ⟨_, rfl⟩
      have T2 := Lib.hid (show t2 = upTo f (k + 1) by rw [ht2, upTo_succ, ht.out, hv])
      have htb : t2 ≤ 100000000 := by rw [T2.out]; exact HM.out _ hlt
      have hti : (t : Int) + (v : Int) = (t2 : Nat) := by omega
      have HV := Lib.hid hv
      clear hv ht2 ht
      by_cases hv0 : 0 < v
      · have hv0' : (0 : Int) < (v : Int) := by omega
        by_cases hge : wt ≤ t2
        · have hge' : (wt : Int) ≤ (t2 : Int) := by omega
          have e := Lib.hid (hB.out.trans (bel_hit hlt ⟨by rw [← HV.out]; exact hv0, by rw [← T2.out]; exact (HW.out t2).1 hge⟩))
          have CL := Lib.hid (hleast_any (k : Int) wr (by exact WalkArith.wf_i64 ⟨by omega, by omega⟩))
          rw [clN_of (Nat.zero_le _) (by omega)] at CL
          clear hB hge
          go_wp2_with fail
          refine CL.out.mono ?_
          rintro e9 w9 ⟨rfl, rfl⟩
          go_wp2_with fail
          go_ret
          exact ⟨by rw [e.out]; rfl, rfl⟩
        · have hge' : ¬ (wt : Int) ≤ (t2 : Int) := by omega
          have B2 := Lib.hid (hB.out.trans (bel_miss hlt fun h => hge ((HW.out t2).2 (by rw [T2.out]; exact h.2))))
          clear hB hge
          go_wp2_with fail
          go_roundw
          case rel => exact ⟨k + 1, t2, by omega, by go_num, by go_num, T2, B2, trivial⟩
          case measure => simp [intOf]; omega
      · obtain rfl : v = 0 := by omega
        have B2 := Lib.hid (hB.out.trans (bel_miss hlt fun h => by have := h.1; rw [← HV.out] at this; omega))
        clear hB
        go_wp2_with fail
        go_roundw
        case rel => exact ⟨k + 1, t2, by omega, by go_num, by go_num, T2, B2, trivial⟩
        case measure => simp [intOf]; omega
    · obtain rfl : k = 120 := by omega
      have e := Lib.hid hB.out
      clear ht hB
      go_wp2_with fail
      go_ret
      exact ⟨by rw [e.out]; rfl, rfl⟩
end Go.Proofs.Ytioebcjhmfndnaa
