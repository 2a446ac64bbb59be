/- Layer 2, PackGets: the law answers true, and nothing that was there has turned. -/
import Derived.Test.YtnnhndgeedlpgaaPk8
namespace Go.Proofs.Ytnnhndgeedlpgaa
open Go.RowKit
set_option linter.unusedVariables false

theorem cut_le : ∀ {ss : List Int} {b xs rest : List Nat}, cut b ss = some (xs, rest) → xs.length ≤ b.length
  | [], b, xs, rest, h => by simp [cut] at h; rw [h.1]; exact Nat.zero_le _
  | s :: ss, b, xs, rest, h => by
    rw [cut] at h
    split at h
    · rename_i hs
      simp only [okS, Bool.and_eq_true, decide_eq_true_eq] at hs
      cases hc : cut (b.drop s.toNat) ss with
      | none => rw [hc] at h; cases h
      | some p =>
        rw [hc] at h
        simp only [Option.map_some, Option.some.injEq, Prod.mk.injEq] at h
        have := cut_le hc
        rw [← h.1]
        simp only [List.length_drop, List.length_cons] at this ⊢
        omega
    · cases h

set_option maxRecDepth 20000 in
set_option maxHeartbeats 1000000 in
theorem packGets_walk (A : Option Addr) (n c : Nat) (lb : List Nat) (C : Option Addr) (m d : Nat) (ss : List Int) (w : World)
    (hr : Rd w w.heap.size 1 A n (ns .u8 lb)) (hnc : n ≤ c) (hmax : c ≤ maxLen) (hb : ∀ x ∈ lb, x < 256) (hs : Rd w w.heap.size 1 C m (zs .i64 ss)) (hmd : m ≤ d) (hmax2 : d ≤ maxLen) (_ : ∀ x ∈ ss, -9223372036854775808 ≤ x ∧ x < 9223372036854775808) :
    Calls Try.prog 4 #[.slice A n c, .slice C m d] w fun e w' => e = .returned (.bool true) ∧ Below w.heap.size w w' := by
  have HR := Lib.hid hr; have HB := Lib.hid hb; have HS := Lib.hid hs
  clear hr hb hs
  unfold maxLen at hmax hmax2
  by_cases hn : 4096 < n
  · go_enter Try.func4, Try.ntmps4
    go_wp2_with fail
    go_ret
    exact ⟨rfl, Below.refl _ _⟩
  by_cases hm : 200 < m
  · go_enter Try.func4, Try.ntmps4
    go_wp2_with fail
    go_ret
    exact ⟨rfl, Below.refl _ _⟩
  have hM : m ≤ 200 := by omega
  have hN : n ≤ 4096 := by omega
  have HLB := Lib.hid HR.out.natLen
  clear hmax hmax2
  have HP := Lib.hid (pget_any A C n m c d lb ss w HR.out HS.out hnc HB.out (by omega) (by omega))
  go_enter Try.func4, Try.ntmps4
  go_wp2_with fail
  refine HP.out.mono ?_
  clear HP
  rintro e w1 ⟨hb1, hc1⟩
  have HQ := Lib.hid (rall_any A C n m c d lb ss w1 (HR.out.into hb1) (HS.out.into hb1) hnc HB.out (by omega) hmd (by omega))
  rcases hc1 with ⟨xs, rest, v, u, hcut, rfl, hv, hu, hle⟩ | ⟨hcut, rfl⟩
  · go_wp2_with fail
    refine HQ.out.mono ?_
    clear HQ
    rintro e w2 ⟨hb2, hc2⟩
    have hbl2 := hb1.trans (hb2.mono hb1.size)
    rw [hcut] at hc2
    rcases hc2 with ⟨xs2, rest2, v2, A2, n2, c2, hcut2, rfl, hv2, hn2, hn3, hrest⟩ | ⟨hcut2, _⟩
    · injection hcut2 with hcut2
      injection hcut2 with h1 h2
      subst h1 h2
      have HC := Lib.hid hcut
      clear hcut
      have hv := hv.below hb2
      have hu := hu.below hb2
      obtain ⟨A3, n3, c3, rfl, hc3, hl3, hr3⟩ := hv.out
      obtain ⟨A4, n4, c4, rfl, hc4, hl4, hr4⟩ := hu.out
      obtain ⟨A5, n5, c5, rfl, hc5, hl5, hr5⟩ := hv2.out
      have HRE := Lib.hid ((hrest.below hb2).mono hb2.size)
      clear hv hu hv2 hrest
      go_wp2_with fail
      refine (same_any A3 A5 n3 n5 c3 c5 xs xs w2 hr3.out hr5.out (by have := cut_le HC.out; have := HLB.out; have := hl3.out; omega) (by have := cut_le HC.out; have := HLB.out; have := hl5.out; omega)).mono ?_
      rintro e w3 ⟨rfl, q, rfl⟩
      rw [decide_eq_true rfl]
      have hbl3 := below_drewN hbl2 q
      have hr3 := Lib.hid (hr3.out.drewN q)
      have hr4 := Lib.hid (hr4.out.drewN q)
      have hr5 := Lib.hid (hr5.out.drewN q)
      have HRE := Lib.hid (HRE.out.drewN q)
      have HSELF := strN_self rest
      have HK := Lib.hid (pall_any A C n m c d lb ss (w2.drewN q) (HR.out.into hbl3) (HS.out.into hbl3) hnc HB.out (by omega) (by omega))
      by_cases h0 : n2 = 0
      · subst h0
        obtain rfl : rest = [] := List.eq_nil_of_length_eq_zero HRE.out.natLen
        go_wp2_with (first | refine wpList_conv Try.underlying22 Try.underlying5 Try.underlying9 rfl _ rfl rfl hr4.out ?_ | refine wpList_conv Try.underlying22 Try.underlying5 Try.underlying9 rfl _ rfl rfl HRE.out ?_)
        refine HK.out.mono ?_
        clear HK
        rintro e w4 ⟨hb4, hc4⟩
        have hbl4 := hbl3.trans (hb4.mono hbl3.size)
        rcases hc4 with ⟨ys, v4, hcut4, rfl, hv4⟩ | ⟨hno, _⟩
        · obtain rfl : xs = ys := by have := HC.out.symm.trans hcut4; injection this with this; injection this
          have hr5 := Lib.hid (hr5.out.into hb4)
          obtain ⟨A6, n6, c6, rfl, hc6, hl6, hr6⟩ := hv4.out
          clear hcut4 hv4
          go_wp2_with fail
          refine (same_any A6 A5 n6 n5 c6 c5 xs xs w4 hr6.out hr5.out (by have := cut_le HC.out; have := HLB.out; have := hl6.out; omega) (by have := cut_le HC.out; have := HLB.out; have := hl5.out; omega)).mono ?_
          rintro e w5 ⟨rfl, q5, rfl⟩
          rw [decide_eq_true rfl]
          have hbl5 := below_drewN hbl4 q5
          go_wp2_with fail
          refine (alive02 _).mono ?_
          rintro e w6 ⟨rfl, hb6⟩
          go_wp2_with fail
          go_ret
          exact ⟨rfl, hbl5.trans (hb6.mono hbl5.size)⟩
        · exact absurd HC.out (hno xs)
      · have h1 : ((n2 : Int) == 0) = false := by simp; omega
        go_wp2_with (first | refine wpList_conv Try.underlying22 Try.underlying5 Try.underlying9 rfl _ rfl rfl hr4.out ?_ | refine wpList_conv Try.underlying22 Try.underlying5 Try.underlying9 rfl _ rfl rfl HRE.out ?_)
        refine HK.out.mono ?_
        clear HK
        rintro e w4 ⟨hb4, hc4⟩
        have hbl4 := hbl3.trans (hb4.mono hbl3.size)
        rcases hc4 with ⟨ys, v4, hcut4, rfl, hv4⟩ | ⟨hno, rfl⟩
        · have h2 : rest = [] := by have := HC.out.symm.trans hcut4; injection this with this; injection this
          subst h2
          exact absurd HRE.out.natLen.symm h0
        · clear hno
          go_wp2_with fail
          refine (alive02 _).mono ?_
          rintro e w6 ⟨rfl, hb6⟩
          go_wp2_with fail
          go_ret
          exact ⟨rfl, hbl4.trans (hb6.mono hbl4.size)⟩
    · cases hcut2
  · go_wp2_with fail
    refine HQ.out.mono ?_
    clear HQ
    rintro e w2 ⟨hb2, hc2⟩
    have hbl2 := hb1.trans (hb2.mono hb1.size)
    rw [hcut] at hc2
    rcases hc2 with ⟨xs2, rest2, v2, A2, n2, c2, hcut2, _⟩ | ⟨_, rfl⟩
    · cases hcut2
    have HC := Lib.hid hcut
    clear hcut
    go_wp2_with fail
    refine (same_any none none 0 0 0 0 [] [] w2 (Rd.nil _ _ _ _) (Rd.nil _ _ _ _) (by omega) (by omega)).mono ?_
    rintro e w3 ⟨rfl, q, rfl⟩
    rw [decide_eq_true rfl]
    have hbl3 := below_drewN hbl2 q
    have HSELF := strN_self []
    have HE : Rd (w2.drewN q) w2.heap.size 1 none 0 (ns .u8 []) := Rd.nil _ _ _ _
    have HK := Lib.hid (pall_any A C n m c d lb ss (w2.drewN q) (HR.out.into hbl3) (HS.out.into hbl3) hnc HB.out (by omega) (by omega))
    go_wp2_with (refine wpList_conv Try.underlying22 Try.underlying5 Try.underlying9 rfl _ rfl rfl HE ?_)
    refine HK.out.mono ?_
    clear HK
    rintro e w4 ⟨hb4, hc4⟩
    have hbl4 := hbl3.trans (hb4.mono hbl3.size)
    rcases hc4 with ⟨ys, v4, hcut4, rfl, hv4⟩ | ⟨hno, rfl⟩
    · have := HC.out.symm.trans hcut4; cases this
    · clear hno
      go_wp2_with fail
      refine (alive02 _).mono ?_
      rintro e w6 ⟨rfl, hb6⟩
      go_wp2_with fail
      go_ret
      exact ⟨rfl, hbl4.trans (hb6.mono hbl4.size)⟩
end Go.Proofs.Ytnnhndgeedlpgaa
