/- Package inlet: Put. -/
import Derived.Test.YtnngjbieoakanaaG30InletTwice
import Derived.Test.YtnngjbieoakanaaG29InletTwice

namespace Go.Proofs.Ytnngjbieoakanaa
open Go.RowKit
set_option linter.unusedVariables false
set_option linter.unusedSimpArgs false
theorem come_no {s : Ist} {f : Nat} {bs : List Nat} (h : (s.come f bs).2 = false) : (s.come f bs).1 = s := by
  unfold Ist.come at *
  split
  · rename_i h1
    rw [if_pos h1] at h
    split
    · rename_i h2
      rw [if_pos h2] at h
      cases h
    · rfl
  · rename_i h1
    rw [if_neg h1] at h
    cases h
set_option maxRecDepth 20000 in
set_option maxHeartbeats 4000000 in
theorem in_put (B x g p s : Nat) (st : Ist) (f : Nat) (A : Option Addr) (n c : Nat) (bs : List Nat) (w : World) (h : IN w B x g p s st) (hf : f < pmax) (hl : bs.length = n) (hlt : ∀ y ∈ bs, y < 256) (hc : n ≤ c) (hn6 : n ≤ 1000000) (hap : Apart A n p) (hfar : FarI B x g p s w A n bs) :
    Calls Try.prog 9 #[.pointer (some ⟨x, 0, none⟩), .int .u64 (f : Int), .slice A n c] w fun e w' => e = .returned (.bool (st.put f bs).2) ∧ IN w' B x g p s (st.put f bs).1 ∧ IK B x g p s w w' := by
  have HH := Sh.mk h
  have HLT := Sh.mk hlt
  have HAP := Sh.mk hap
  have HF := Sh.mk hfar
  have HL := Sh.mk hl
  have HR := Sh.mk (show st.put f bs = if 18446744073709551616 ≤ f + n then (st, false)
  else if st.low f < st.high (f + n) then
    (if (st.come (st.low f) ((bs.drop (st.low f - f)).take (st.high (f + n) - st.low f))).2 then ((st.come (st.low f) ((bs.drop (st.low f - f)).take (st.high (f + n) - st.low f))).1, decide (f + n ≤ st.bound) || decide (n = 0)) else (st, false))
  else (st, decide (f + n ≤ st.bound) || decide (n = 0)) by rw [← hl]; rfl)
  generalize st.put f bs = R at HR ⊢
  unfold pmax at hf
  have hw0 : IntKind.u64.wrap (n : Int) = (n : Nat) := by rw [IntKind.wrap_u64]; omega
  by_cases hbig : 18446744073709551616 ≤ f + n
  · rw [if_pos hbig] at HR
    obtain ⟨t, ht⟩ : ∃ t, t = f + n - 18446744073709551616 := ⟨_, rfl⟩
    have hw1 : IntKind.u64.wrap ((f : Int) + (n : Int)) = (t : Nat) := by rw [IntKind.wrap_u64]; omega
    have hc1 : (t : Int) < (f : Int) := by omega
    clear h hf hl hlt hap hfar hbig ht hn6
    go_enter Try.func9, Try.ntmps9
    go_wp2_with fail
    go_ret
    rw [HR.out]
    exact ⟨rfl, HH.out, IK.refl⟩
  rw [if_neg hbig] at HR
  obtain ⟨t, ht⟩ : ∃ t, t = f + n := ⟨_, rfl⟩
  have hw1 : IntKind.u64.wrap ((f : Int) + (n : Int)) = (t : Nat) := by rw [IntKind.wrap_u64]; omega
  have hc1 : ¬ (t : Int) < (f : Int) := by omega
  have HB := Sh.mk (in_bound B x g p s st w h)
  have HN := Sh.mk fun n => in_next B x g p s st (w.drewN n) (h.drewN n)
  rw [← ht] at HR
  have hbl := st.bound_le
  obtain ⟨lo, hlo⟩ : ∃ lo, lo = st.low f := ⟨_, rfl⟩
  obtain ⟨hi, hhi⟩ : ∃ hi, hi = st.high t := ⟨_, rfl⟩
  rw [← hlo, ← hhi] at HR
  unfold Ist.low at hlo
  unfold Ist.high at hhi
  generalize hbd : st.bound = bd at HB HR hhi hbl
  generalize hnx : st.next = nx at HN hlo
  have HNX := Sh.mk hnx
  have hx1 : (if f < nx then (nx : Int) else (f : Int)) = (lo : Nat) := by split <;> omega
  have hx2 : (if t < bd then (t : Int) else (bd : Int)) = (hi : Nat) := by split <;> omega
  have hx3 : (if bd < t then (bd : Int) else (t : Int)) = (hi : Nat) := by split <;> omega
  by_cases hlh : lo < hi
  · rw [if_pos hlh] at HR
    have hlh' : (lo : Int) < (hi : Int) := by omega
    obtain ⟨j1, hj1⟩ : ∃ j1, j1 = lo - f := ⟨_, rfl⟩
    obtain ⟨j2, hj2⟩ : ∃ j2, j2 = hi - f := ⟨_, rfl⟩
    obtain ⟨j3, hj3⟩ : ∃ j3, j3 = j2 - j1 := ⟨_, rfl⟩
    have hw4 : IntKind.u64.wrap ((lo : Int) - (f : Int)) = (j1 : Nat) := by rw [IntKind.wrap_u64]; omega
    have hw5 : IntKind.u64.wrap ((hi : Int) - (f : Int)) = (j2 : Nat) := by rw [IntKind.wrap_u64]; omega
    have hU : Try.prog.underlying 24 = some (.slice (Try.prog.elem 24)) := by unfold Program.elem; rw [Try.underlying24]
    have hs1 : ∀ w, (Instr.slice 24 (.slice A n c) (some (.int .u64 (j1 : Int))) (some (.int .u64 (j2 : Int))) none).run Try.prog w = .ok (.slice (cutA A c j1 1) (j2 - j1) (c - j1)) w := fun w => run_cut_lhU elB A n c j1 j2 (by omega) (by omega) w
    have hs2 : ∀ w, (Instr.sliceAt 24 (.slice A n c) (some (.int .u64 (j1 : Int))) (some (.int .u64 (j2 : Int))) none).run Try.prog w = .ok (.slice (cutA A c j1 1) (j2 - j1) (c - j1)) w := fun w => (run_sliceAt_slice w _ _ _ _ _ hU).trans (hs1 w)
    have HR1 := Sh.mk fun w' (k' : IK B x g p s w w') => (hfar w' k').cutTo (h := j1) (k := j2) (by omega) (by omega) hc
    have HA1 := Sh.mk (Apart.cut (m := j2 - j1) (c := c) (h := j1) (sz := 1) (hfar w IK.refl) hap (by omega))
    have HC1 := Sh.mk (show j3 ≤ c - j1 ∧ nx ≤ lo ∧ lo + j3 ≤ st.base + st.size ∧ ((bs.drop j1).take j3).length = j3 from ⟨by omega, by omega, by omega, by rw [List.length_take, List.length_drop]; omega⟩)
    rw [← hj3] at hs1 hs2 HA1 HR1
    have e3 : hi - lo = j3 := by omega
    rw [← hj1, e3] at HR
    generalize cutA A c j1 1 = AC at hs1 hs2 HR1 HA1
    generalize c - j1 = cc at hs1 hs2 HC1
    have HS := Sh.mk fun w1 (h1 : IN w1 B x g p s st) (k1 : IK B x g p s w w1) => in_come B x g p s st lo AC j3 cc ((bs.drop j1).take j3) w1 h1 (by rw [HNX.out]; exact HC1.out.2.1) HC1.out.2.2.1 HC1.out.2.2.2 (fun y hy => HLT.out y (List.mem_of_mem_drop (List.mem_of_mem_take hy))) HC1.out.1 HA1.out (fun w2 k2 => (HR1.out w2 (k1.trans k2)).mono k1.size)
    have HFS := Sh.mk (show (st.come lo ((bs.drop j1).take j3)).2 = false → (st.come lo ((bs.drop j1).take j3)).1 = st from come_no)
    generalize st.come lo ((bs.drop j1).take j3) = S at HS HR HFS
    obtain ⟨st2, ok⟩ := S
    dsimp only at HS HR HFS
    clear h hf hl hlt hap hfar hbig hn6 hlo hhi hj1 hj2 hj3 e3 hbl hbd hnx hlh hU
    cases ok
    · rw [if_neg (by simp)] at HR
      replace HFS := Sh.mk (HFS.out rfl)
      clear ht
      go_enter Try.func9, Try.ntmps9
      go_wp2_with fail
      refine HB.out.mono ?_
      rintro e w1 ⟨rfl, q1, rfl⟩
      go_wp2_with fail
      refine (HN.out q1).mono ?_
      rintro e w2 ⟨rfl, q2, hq2⟩
      have HW := Sh.mk (show Below w.heap.size w w2 by rw [hq2]; exact below_drewN (below_drewN (Below.refl _ _) q1) q2)
      clear hq2
      have H2 := Sh.mk (HH.out.into HW.out)
      have KK := Sh.mk (IK.of HW.out : IK B x g p s w w2)
      clear HB HN
      go_wp2_with fail
      refine (HS.out w2 H2.out KK.out).mono ?_
      rintro e w3 ⟨rfl, h3, k3⟩
      have H3 := Sh.mk h3
      replace KK := Sh.mk (KK.out.trans k3)
      clear h3 k3 hx1 hx2 hx3 hw0 hw1 hw4 hw5 hs1 hs2 hlh' hc1 HS
      go_wp2_with fail
      go_ret
      rw [HR.out]
      refine ⟨rfl, ?_, KK.out⟩
      have e8 := HFS.out
      rw [← e8]
      exact H3.out
    · rw [if_pos rfl] at HR
      by_cases hz1 : t ≤ bd
      · have HZ2 := Sh.mk (show (t : Int) ≤ (bd : Int) ∧ t ≤ bd by omega)
        have e9 : (decide (t ≤ bd) || decide (n = 0)) = true := by simp [hz1]
        rw [e9] at HR
        clear e9 hz1 ht
        go_enter Try.func9, Try.ntmps9
        go_wp2_with fail
        refine HB.out.mono ?_
        rintro e w1 ⟨rfl, q1, rfl⟩
        go_wp2_with fail
        refine (HN.out q1).mono ?_
        rintro e w2 ⟨rfl, q2, hq2⟩
        have HW := Sh.mk (show Below w.heap.size w w2 by rw [hq2]; exact below_drewN (below_drewN (Below.refl _ _) q1) q2)
        clear hq2
        have H2 := Sh.mk (HH.out.into HW.out)
        have KK := Sh.mk (IK.of HW.out : IK B x g p s w w2)
        clear HB HN
        go_wp2_with fail
        refine (HS.out w2 H2.out KK.out).mono ?_
        rintro e w3 ⟨rfl, h3, k3⟩
        have H3 := Sh.mk h3
        replace KK := Sh.mk (KK.out.trans k3)
        clear h3 k3 hx1 hx2 hx3 hw0 hw1 hw4 hw5 hs1 hs2 hlh' hc1 HS
        have hz6 := HZ2.out.1
        have hz7 := HZ2.out.2
        go_wp2_with fail
        go_ret
        rw [HR.out]
        exact ⟨rfl, H3.out, KK.out⟩
      · have HZ2 := Sh.mk (show ¬ (t : Int) ≤ (bd : Int) ∧ ¬ t ≤ bd by omega)
        by_cases hz3 : n = 0
        · have e9 : (decide (t ≤ bd) || decide (n = 0)) = true := by simp [hz3]
          rw [e9] at HR
          have hz4 : (n == 0) = true := by simpa using hz3
          have hz5 : ((n : Int) == 0) = true := by simp; omega
          clear e9 hz1 ht hz3
          go_enter Try.func9, Try.ntmps9
          go_wp2_with fail
          refine HB.out.mono ?_
          rintro e w1 ⟨rfl, q1, rfl⟩
          go_wp2_with fail
          refine (HN.out q1).mono ?_
          rintro e w2 ⟨rfl, q2, hq2⟩
          have HW := Sh.mk (show Below w.heap.size w w2 by rw [hq2]; exact below_drewN (below_drewN (Below.refl _ _) q1) q2)
          clear hq2
          have H2 := Sh.mk (HH.out.into HW.out)
          have KK := Sh.mk (IK.of HW.out : IK B x g p s w w2)
          clear HB HN
          go_wp2_with fail
          refine (HS.out w2 H2.out KK.out).mono ?_
          rintro e w3 ⟨rfl, h3, k3⟩
          have H3 := Sh.mk h3
          replace KK := Sh.mk (KK.out.trans k3)
          clear h3 k3 hx1 hx2 hx3 hw0 hw1 hw4 hw5 hs1 hs2 hlh' hc1 HS
          have hz6 := HZ2.out.1
          have hz7 := HZ2.out.2
          go_wp2_with fail
          go_ret
          rw [HR.out]
          exact ⟨rfl, H3.out, KK.out⟩
        · have e9 : (decide (t ≤ bd) || decide (n = 0)) = false := by simp [hz3]; omega
          rw [e9] at HR
          have hz4 : (n == 0) = false := by simpa using hz3
          have hz5 : ((n : Int) == 0) = false := by simp; omega
          clear e9 hz1 ht hz3
          go_enter Try.func9, Try.ntmps9
          go_wp2_with fail
          refine HB.out.mono ?_
          rintro e w1 ⟨rfl, q1, rfl⟩
          go_wp2_with fail
          refine (HN.out q1).mono ?_
          rintro e w2 ⟨rfl, q2, hq2⟩
          have HW := Sh.mk (show Below w.heap.size w w2 by rw [hq2]; exact below_drewN (below_drewN (Below.refl _ _) q1) q2)
          clear hq2
          have H2 := Sh.mk (HH.out.into HW.out)
          have KK := Sh.mk (IK.of HW.out : IK B x g p s w w2)
          clear HB HN
          go_wp2_with fail
          refine (HS.out w2 H2.out KK.out).mono ?_
          rintro e w3 ⟨rfl, h3, k3⟩
          have H3 := Sh.mk h3
          replace KK := Sh.mk (KK.out.trans k3)
          clear h3 k3 hx1 hx2 hx3 hw0 hw1 hw4 hw5 hs1 hs2 hlh' hc1 HS
          have hz6 := HZ2.out.1
          have hz7 := HZ2.out.2
          go_wp2_with fail
          go_ret
          rw [HR.out]
          exact ⟨rfl, H3.out, KK.out⟩
  · rw [if_neg hlh] at HR
    have hlh' : ¬ (lo : Int) < (hi : Int) := by omega
    clear h hf hl hlt hap hfar hbig hn6 hlo hhi hbl hbd hnx hlh
    by_cases hz1 : t ≤ bd
    · have HZ2 := Sh.mk (show (t : Int) ≤ (bd : Int) ∧ t ≤ bd by omega)
      have e9 : (decide (t ≤ bd) || decide (n = 0)) = true := by simp [hz1]
      rw [e9] at HR
      clear e9 hz1 ht
      go_enter Try.func9, Try.ntmps9
      go_wp2_with fail
      refine HB.out.mono ?_
      rintro e w1 ⟨rfl, q1, rfl⟩
      go_wp2_with fail
      refine (HN.out q1).mono ?_
      rintro e w2 ⟨rfl, q2, hq2⟩
      have HW := Sh.mk (show Below w.heap.size w w2 by rw [hq2]; exact below_drewN (below_drewN (Below.refl _ _) q1) q2)
      clear hq2
      have H2 := Sh.mk (HH.out.into HW.out)
      have KK := Sh.mk (IK.of HW.out : IK B x g p s w w2)
      clear HB HN
      go_upto_region 8 with fail
      clear hx1 hx2 hx3 hw0 hw1 hlh' hc1
      have hz6 := HZ2.out.1
      have hz7 := HZ2.out.2
      go_wp2_with fail
      go_ret
      rw [HR.out]
      exact ⟨rfl, H2.out, KK.out⟩
    · have HZ2 := Sh.mk (show ¬ (t : Int) ≤ (bd : Int) ∧ ¬ t ≤ bd by omega)
      by_cases hz3 : n = 0
      · have e9 : (decide (t ≤ bd) || decide (n = 0)) = true := by simp [hz3]
        rw [e9] at HR
        have hz4 : (n == 0) = true := by simpa using hz3
        have hz5 : ((n : Int) == 0) = true := by simp; omega
        clear e9 hz1 ht hz3
        go_enter Try.func9, Try.ntmps9
        go_wp2_with fail
        refine HB.out.mono ?_
        rintro e w1 ⟨rfl, q1, rfl⟩
        go_wp2_with fail
        refine (HN.out q1).mono ?_
        rintro e w2 ⟨rfl, q2, hq2⟩
        have HW := Sh.mk (show Below w.heap.size w w2 by rw [hq2]; exact below_drewN (below_drewN (Below.refl _ _) q1) q2)
        clear hq2
        have H2 := Sh.mk (HH.out.into HW.out)
        have KK := Sh.mk (IK.of HW.out : IK B x g p s w w2)
        clear HB HN
        go_upto_region 8 with fail
        clear hx1 hx2 hx3 hw0 hw1 hlh' hc1
        have hz6 := HZ2.out.1
        have hz7 := HZ2.out.2
        go_wp2_with fail
        go_ret
        rw [HR.out]
        exact ⟨rfl, H2.out, KK.out⟩
      · have e9 : (decide (t ≤ bd) || decide (n = 0)) = false := by simp [hz3]; omega
        rw [e9] at HR
        have hz4 : (n == 0) = false := by simpa using hz3
        have hz5 : ((n : Int) == 0) = false := by simp; omega
        clear e9 hz1 ht hz3
        go_enter Try.func9, Try.ntmps9
        go_wp2_with fail
        refine HB.out.mono ?_
        rintro e w1 ⟨rfl, q1, rfl⟩
        go_wp2_with fail
        refine (HN.out q1).mono ?_
        rintro e w2 ⟨rfl, q2, hq2⟩
        have HW := Sh.mk (show Below w.heap.size w w2 by rw [hq2]; exact below_drewN (below_drewN (Below.refl _ _) q1) q2)
        clear hq2
        have H2 := Sh.mk (HH.out.into HW.out)
        have KK := Sh.mk (IK.of HW.out : IK B x g p s w w2)
        clear HB HN
        go_upto_region 8 with fail
        clear hx1 hx2 hx3 hw0 hw1 hlh' hc1
        have hz6 := HZ2.out.1
        have hz7 := HZ2.out.2
        go_wp2_with fail
        go_ret
        rw [HR.out]
        exact ⟨rfl, H2.out, KK.out⟩
end Go.Proofs.Ytnngjbieoakanaa
