/- Layer 1: the law NumTexts answers true, and nothing that was there has turned. -/
import Derived.Test.YtefnojomjdeghaaDoorNumR
import Derived.Test.YtefnojomjdeghaaDoorNumT
import Derived.Test.YtefnojomjdeghaaDoorNum7
import Derived.Test.YtefnojomjdeghaaDoorOpen
namespace Go.Proofs.YtefnojomjdeghaaDoor
open Go.RowKit
set_option linter.unusedVariables false
theorem rtext_int (n : Int) (w : World) (h0 : -9223372036854775808 ≤ n) (h1 : n ≤ 9223372036854775807) :
    Calls Tryd.prog 9 #[.int .i64 n] w fun e w' => e = .returned (.string (decT n.toNat)) ∧ ∃ k, w' = w.drewN k := by
  by_cases hn : n < 0
  · have e0 : n.toNat = 0 := by omega
    rw [e0, decT_small (by omega)]
    have hc := dig_cut ⟨0, by omega⟩
    simp only at hc
    have hn' : n < 10 := by omega
    have HC := Lib.hid hc
    clear hc e0 h0 h1
    go_enter Tryd.func9, Tryd.ntmps9
    go_wp2_with fail
    go_ret
    exact ⟨by rw [← HC.out]; rfl, 0, rfl⟩
  · obtain ⟨m, rfl⟩ : ∃ m : Nat, n = (m : Int) := ⟨n.toNat, by omega⟩
    rw [Int.toNat_natCast]
    exact rtext_any m w (by omega)
set_option maxHeartbeats 1000000 in
set_option maxRecDepth 20000 in
theorem numTexts_walk (n : Int) (s : ByteArray) (w : World) (hn : (Lit.int .i64 n).wf = true) (hs : s.size ≤ 9223372036854775807) (ht : Tb w) :
    Calls Tryd.prog 3 #[.int .i64 n, .string s] w fun e w' => e = .returned (.bool true) ∧ Below w.heap.size w w' := by
  have hb := bounds_i64 hn
  by_cases h2 : 4096 < s.size
  · have h2' : (4096 : Int) < (s.size : Int) := by omega
    clear hs hn hb
    go_enter Tryd.func3, Tryd.ntmps3
    go_wp2_with fail
    go_ret
    exact ⟨rfl, Below.refl _ _⟩
  have hsz : s.size ≤ 4096 := by omega
  have hsz' : (s.size : Int) ≤ 4096 := by omega
  clear h2 hs hn
  obtain ⟨T, hT⟩ : ∃ T, T = decT n.toNat := ⟨_, rfl⟩
  have hTs : T.size ≤ 100000 := by
    rw [hT]
    have := decT_size n.toNat (by omega)
    omega
  have HNB := Lib.hid hb
  have HT := Lib.hid hT
  have HTB := Lib.hid ht
  have htx : ∀ w', Below w.heap.size w w' → Calls Tryd.prog 8 #[.int .i64 n] w' fun e w'' => e = .returned (.string T) ∧ Below w'.heap.size w' w'' := by
    intro w' hb'
    rw [HT.out]
    exact text_any n w' HNB.out.1 HNB.out.2 (HTB.out.below hb')
  have hrt : ∀ w', Calls Tryd.prog 9 #[.int .i64 n] w' fun e w'' => e = .returned (.string T) ∧ ∃ k, w'' = w'.drewN k := by
    intro w'
    rw [HT.out]
    exact rtext_int n w' HNB.out.1 HNB.out.2
  have HTX := Lib.hid htx
  have HRT := Lib.hid hrt
  obtain ⟨pV, hpV⟩ : ∃ x, x = prV (nats s) := ⟨_, rfl⟩
  obtain ⟨pE, hpE⟩ : ∃ x, x = prE (nats s) := ⟨_, rfl⟩
  obtain ⟨tV, htV⟩ : ∃ x, x = prV (nats T) := ⟨_, rfl⟩
  obtain ⟨tE, htE⟩ : ∃ x, x = prE (nats T) := ⟨_, rfl⟩
  have HPV := Lib.hid hpV; have HPE := Lib.hid hpE; have HTV := Lib.hid htV; have HTE := Lib.hid htE
  clear htx hrt hb hT ht hpV hpE htV htE
  go_enter Tryd.func3, Tryd.ntmps3
  go_wp2_with fail
  refine (parse_any s w (by omega)).mono ?_
  rintro e w1 ⟨rfl, hb1⟩
  rw [← HPV.out, ← HPE.out]
  go_wp2_with fail
  refine (rparse_any s w1 (by omega)).mono ?_
  rintro e w2 ⟨rfl, rfl⟩
  rw [← HPV.out, ← HPE.out]
  go_wp2_with fail
  refine (HTX.out w2 hb1).mono ?_
  rintro e w3 ⟨rfl, hb3⟩
  replace hb3 := hb1.trans (hb3.mono hb1.size)
  clear hb1
  go_wp2_with fail
  refine (parse_any T w3 hTs).mono ?_
  rintro e w4 ⟨rfl, hb4⟩
  rw [← HTV.out, ← HTE.out]
  replace hb4 := hb3.trans (hb4.mono hb3.size)
  clear hb3
  go_wp2_with fail
  refine (HTX.out w4 hb4).mono ?_
  rintro e w5 ⟨rfl, hb5⟩
  replace hb5 := hb4.trans (hb5.mono hb4.size)
  clear hb4
  go_wp2_with fail
  refine (HRT.out w5).mono ?_
  rintro e w6 ⟨rfl, q, hq⟩
  have hb6 : Below w.heap.size w w6 := hq ▸ below_drewN hb5 q
  clear hb5 hq
  have hsT := beq_self_eq_true T.toList
  cases ho : okp (nats s) with
  | true =>
    have hq1 := (parse_yes ho)
    rw [← HPV.out, ← HPE.out] at hq1
    obtain ⟨hq1, hq2⟩ := hq1
    subst hq2
    have hst : decT pV = s := by rw [hq1]; exact decT_of_ok ho
    have hpb : pV ≤ 2147483647 := by
      rw [hq1]
      unfold okp at ho
      simp only [Bool.and_eq_true, decide_eq_true_eq] at ho
      exact ho.2.2.2.2
    have htv : ∀ w', Below w.heap.size w w' → Calls Tryd.prog 8 #[.int .i64 (pV : Int)] w' fun e w'' => e = .returned (.string s) ∧ Below w'.heap.size w' w'' := by
      intro w' hb'
      have := text_any (pV : Int) w' (by omega) (by omega) (HTB.out.below hb')
      rw [Int.toNat_natCast, hst] at this
      exact this
    have HTV2 := Lib.hid htv
    clear hst hpb htv
    clear hq1 ho HPV HPE
    rcases (show n < 0 ∨ (0 ≤ n ∧ n < 2147483648) ∨ 2147483648 ≤ n by omega) with hc | ⟨hc1, hc2⟩ | hc
    · go_wp2_with fail
      refine (HTV2.out w6 hb6).mono ?_
      rintro e w7 ⟨rfl, hb7⟩
      replace hb7 := hb6.trans (hb7.mono hb6.size)
      go_wp2_with fail
      refine (alive_any w7).mono ?_
      rintro e w9 ⟨rfl, hb9⟩
      go_wp2_with fail
      go_ret
      exact ⟨rfl, hb7.trans (hb9.mono hb7.size)⟩
    · have hk := okp_decN (n := n.toNat) (by omega)
      have hTd : nats T = decN n.toNat := by rw [HT.out, nats_decT]
      have hy := parse_yes (s := T) (by rw [hTd]; exact hk.1)
      rw [← HTV.out, ← HTE.out, hTd, hk.2] at hy
      obtain ⟨hy1, hy2⟩ := hy
      subst hy2
      have hy3 : ((tV : Int) == n) = true := by rw [beq_iff_eq]; omega
      clear hk hTd hy1 HTV HTE HT
      go_wp2_with fail
      refine (HTV2.out w6 hb6).mono ?_
      rintro e w7 ⟨rfl, hb7⟩
      replace hb7 := hb6.trans (hb7.mono hb6.size)
      go_wp2_with fail
      refine (alive_any w7).mono ?_
      rintro e w9 ⟨rfl, hb9⟩
      go_wp2_with fail
      go_ret
      exact ⟨rfl, hb7.trans (hb9.mono hb7.size)⟩
    · have hc0 : 0 ≤ n := by omega
      go_wp2_with fail
      refine (HTV2.out w6 hb6).mono ?_
      rintro e w7 ⟨rfl, hb7⟩
      replace hb7 := hb6.trans (hb7.mono hb6.size)
      go_wp2_with fail
      refine (alive_any w7).mono ?_
      rintro e w9 ⟨rfl, hb9⟩
      go_wp2_with fail
      go_ret
      exact ⟨rfl, hb7.trans (hb9.mono hb7.size)⟩
  | false =>
    have hq1 := (parse_no ho)
    rw [← HPV.out, ← HPE.out] at hq1
    obtain ⟨hq1, hq2⟩ := hq1
    subst hq2
    clear hq1 ho HPV HPE
    rcases (show n < 0 ∨ (0 ≤ n ∧ n < 2147483648) ∨ 2147483648 ≤ n by omega) with hc | ⟨hc1, hc2⟩ | hc
    · go_wp2_with fail
      refine (alive_any w6).mono ?_
      rintro e w9 ⟨rfl, hb9⟩
      go_wp2_with fail
      go_ret
      exact ⟨rfl, hb6.trans (hb9.mono hb6.size)⟩
    · have hk := okp_decN (n := n.toNat) (by omega)
      have hTd : nats T = decN n.toNat := by rw [HT.out, nats_decT]
      have hy := parse_yes (s := T) (by rw [hTd]; exact hk.1)
      rw [← HTV.out, ← HTE.out, hTd, hk.2] at hy
      obtain ⟨hy1, hy2⟩ := hy
      subst hy2
      have hy3 : ((tV : Int) == n) = true := by rw [beq_iff_eq]; omega
      clear hk hTd hy1 HTV HTE HT
      go_wp2_with fail
      refine (alive_any w6).mono ?_
      rintro e w9 ⟨rfl, hb9⟩
      go_wp2_with fail
      go_ret
      exact ⟨rfl, hb6.trans (hb9.mono hb6.size)⟩
    · have hc0 : 0 ≤ n := by omega
      go_wp2_with fail
      refine (alive_any w6).mono ?_
      rintro e w9 ⟨rfl, hb9⟩
      go_wp2_with fail
      go_ret
      exact ⟨rfl, hb6.trans (hb9.mono hb6.size)⟩
end Go.Proofs.YtefnojomjdeghaaDoor
