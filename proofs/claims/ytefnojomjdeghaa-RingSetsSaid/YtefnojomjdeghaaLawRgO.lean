/- Layer 5: the law RingOrder answers true, and nothing that was there has turned. -/
import Derived.Test.YtefnojomjdeghaaRng7
import Derived.Test.YtefnojomjdeghaaPts
import Derived.Test.YtefnojomjdeghaaStr
namespace Go.Proofs.Ytefnojomjdeghaa
open Go.RowKit
set_option linter.unusedVariables false
theorem strN_size (l : List Nat) : (strN l).size = l.length := by
  unfold strN
  show ((l.map UInt8.ofNat).toArray).size = _
  simp
/-- Nothing is read. -/
theorem ro_none {si so : ByteArray} {L new : List Nat} {there k z : Nat} (h : nats si = nats so ++ L.take there) (hl : (spl L there new).length = z) (hn : new.length = k) (hk : there + k ≤ z) :
    nats si ++ new = nats so ++ (spl L there new).take (there + k) := by
  rw [h, List.append_assoc]
  congr 1
  unfold spl at *
  have hL : (L.take there).length = there := by
    simp at hl ⊢
    omega
  rw [List.take_left' (by rw [List.length_append, hL, hn])]
/-- Some are read. -/
theorem ro_read {si so : ByteArray} {L new : List Nat} {there k k2 z : Nat} (h : nats si = nats so ++ L.take there) (hl : (spl L there new).length = z) (hn : new.length = k) (hk : there + k ≤ z) (hk2 : k2 ≤ there + k) :
    nats si ++ new = nats so ++ (spl L there new).take k2 ++ ((spl L there new).drop k2 ++ List.replicate k2 0).take (there + k - k2) := by
  rw [ro_none h hl hn hk, List.append_assoc]
  congr 1
  have e : there + k = k2 + (there + k - k2) := by omega
  rw [List.take_append_of_le_length (by rw [List.length_drop]; omega)]
  conv => lhs; rw [e, List.take_add]
set_option maxHeartbeats 1000000 in
set_option maxRecDepth 20000 in
theorem ringOrder_walk (size : Int) (A A2 : Option Addr) (n c n2 c2 : Nat) (bss : List (List Nat)) (rs : List Int) (w : World) (hz : -9223372036854775808 ≤ size ∧ size < 9223372036854775808) (hp : Pts w w.heap.size A n bss) (hnc : n ≤ c) (hmax : c ≤ maxLen) (hb : ∀ bs ∈ bss, ∀ x ∈ bs, x < 256) (hmx : ∀ bs ∈ bss, bs.length ≤ maxLen)
    (hr : Rd w w.heap.size 1 A2 n2 (zs .i64 rs)) (hnc2 : n2 ≤ c2) (hmax2 : c2 ≤ maxLen) (hrs : ∀ x ∈ rs, -9223372036854775808 ≤ x ∧ x < 9223372036854775808) :
    Calls Try.prog 3 #[.int .i64 size, .slice A n c, .slice A2 n2 c2] w fun e w' => e = .returned (.bool true) ∧ Below w.heap.size w w' := by
  have HP := Lib.hid hp; have HB := Lib.hid hb; have HMX := Lib.hid hmx; have HR := Lib.hid hr; have HRS := Lib.hid hrs; have HZ := Lib.hid hz
  unfold maxLen at hmax hmax2
  have HM := Lib.hid hmax
  have HM2 := Lib.hid hmax2
  clear hp hb hmx hr hrs hz hmax hmax2
  by_cases h1 : size < 1
  · go_enter Try.func3, Try.ntmps3
    go_wp2_with fail
    go_ret
    exact ⟨rfl, Below.refl _ _⟩
  by_cases h2 : 1000 < size
  · go_enter Try.func3, Try.ntmps3
    go_wp2_with fail
    go_ret
    exact ⟨rfl, Below.refl _ _⟩
  obtain ⟨z, rfl⟩ : ∃ z : Nat, size = (z : Int) := ⟨size.toNat, by omega⟩
  have hz1 : 1 ≤ z := by omega
  have hz2 : z ≤ 1000 := by omega
  clear h1 h2
  have h1 : (1 : Int) ≤ (z : Int) := by omega
  have h2 : (z : Int) ≤ 1000 := by omega
  by_cases hn : 60 < n
  · have hn' : (60 : Int) < (n : Int) := by omega
    go_enter Try.func3, Try.ntmps3
    go_wp2_with fail
    go_ret
    exact ⟨rfl, Below.refl _ _⟩
  have hn2 : n ≤ 60 := by omega
  have hn2' : (n : Int) ≤ 60 := by omega
  clear hn
  go_enter Try.func3, Try.ntmps3
  go_wp2_with fail
  refine (new_any z w hz1 (by omega)).mono ?_
  rintro e w1 ⟨g, p, rfl, hg, hp, hb1, hr1⟩
  have HR1 := Lib.hid hr1
  clear hr1
  go_wp2_with fail
  go_loopw [9, 10, 11] (fun inv outv iv wr => ∃ (i there : Nat) (si so : ByteArray) (L : List Nat), i ≤ n ∧ iv = .int .i64 i ∧ inv = .string si ∧ outv = .string so ∧ si.size ≤ 300 * i ∧ Hid (so.size + there = si.size) ∧ there ≤ z ∧
    Hid (Ring wr g p z there L) ∧ Hid (nats si = nats so ++ L.take there) ∧ Below w.heap.size w wr) (fun _ _ iv _ => n - (intOf iv).toNat)
  case atStart => exact ⟨0, 0, ByteArray.empty, ByteArray.empty, List.replicate z 0, Nat.zero_le _, rfl, rfl, rfl, by decide, Lib.hid (by decide), by omega, HR1, Lib.hid (by simp [nats_empty]), hb1⟩
  case round =>
    obtain ⟨i, there, si, so, L, hi, rfl, rfl, rfl, hs1, hs2, hts, hring, hin, hbw⟩ := hrel
    clear HR1 hb1 w1
    by_cases hlt : i < n
    · obtain ⟨bb, off, A1, n1, c1, bs, rfl, hbb, hcell0, hbs, hl1, hc1, hr1⟩ := HP.out.nth hlt
      have hcell := (hbw.cell (p := ⟨bb, off + i, none⟩) hbb).trans hcell0
      clear hcell0
      have hmx := HMX.out bs (nth_mem hbs)
      unfold maxLen at hmx
      rw [hl1.out] at hmx
      by_cases hx : 300 < n1
      · have hx' : (300 : Int) < (n1 : Int) := by omega
        go_wp2_with fail
        go_ret
        exact ⟨rfl, hbw⟩
      · have hx' : (n1 : Int) ≤ 300 := by omega
        have hx2 : n1 ≤ 300 := by omega
        clear hx hmx
        go_wp2_with fail
        refine (write_any g p z there n1 c1 _ A1 L bs wr hring.out (hr1.out.below hbw) (HB.out bs (nth_mem hbs)) (hr1.out.apt hp) hc1 (by omega)).mono ?_
        rintro e w2 ⟨rfl, hd2, hr2⟩
        obtain ⟨k, hk⟩ : ∃ k, k = min n1 (z - there) := ⟨_, rfl⟩
        rw [← hk] at hr2 ⊢
        have hk1 : k ≤ n1 := by omega
        have hk2 : there + k ≤ z := by omega
        have hk3 : k < n1 → z - (there + k) = 0 := by omega
        have hbw2 := hbw.trans (hd2.below hg hp)
        have hcell2 := (hbw2.cell (p := ⟨bb, off + i, none⟩) hbb).trans (hbw.cell (p := ⟨bb, off + i, none⟩) hbb).symm |>.trans hcell
        have hr12 := hr1.out.below hbw2
        have HRw2 := Lib.hid hr2
        have HR12 := Lib.hid hr12
        clear hr2 hr12 hd2 hcell hk hring
        have hb256 : ∀ x ∈ bs, x < 256 := HB.out bs (nth_mem hbs)
        have htk : Hid ((bs.take k).length = k) := Lib.hid (by rw [List.length_take, hl1.out]; omega)
        have hb256' : Hid (∀ x ∈ bs.take k, x < 256) := Lib.hid fun x hx => hb256 x (List.mem_of_mem_take hx)
        have HCV := Lib.hid (HR12.out.takeN hk1)
        have HLT := Lib.hid (hr1.out.natLen)
        clear hb256
        clear HR12 HLT
        generalize bs.take k = new at htk hb256' HCV HRw2
        -- WAYS
        by_cases hkn : k < n1
        · have hz0 := hk3 hkn
          have hfr := freeR g p z (there + k) _ w2 HRw2.out
          rw [hz0] at hfr
          have hkn' : (k : Int) < (n1 : Int) := by omega
          have hkc : (k : Int) ≤ (c1 : Int) := by omega
          clear hz0 hk3
          go_wp2_with fail
          refine hfr.mono ?_
          rintro e w3 ⟨rfl, q, hq⟩
          have HCV3 := Lib.hid (hq ▸ HCV.out.drewN q : Rd w3 _ _ _ _ _)
          have HRw3 := Lib.hid (hq ▸ HRw2.out.drewN q : Ring w3 g p z (there + k) (spl L there new))
          have hbw3 : Below w.heap.size w w3 := hq ▸ below_drewN hbw2 q
          have hcell3 : w3.cell? ⟨bb, off + i, none⟩ = some (.slice A1 n1 c1) := hq ▸ hcell2
          clear hfr hq HCV HRw2 hbw2 hcell2
          have HCV := HCV3
          clear HCV3
          have hsb : si.size + (strN new).size ≤ 100000 := by have := strN_size new; rw [htk.out] at this; omega
          by_cases hir : i < n2
          · have hir' : (i : Int) < (n2 : Int) := by omega
            obtain ⟨b5, o5, x5, e5, hb5, hc5, hx5⟩ := (HR.out.below hbw3).nthz hir
            subst e5
            have hx6 := (HRS.out x5 (nth_mem hx5)).2
            have HX6 := Lib.hid hx6
            clear hx6
            go_wp2_with (refine wpList_conv Try.underlying28 Try.underlying5 Try.underlying9 rfl _ rfl rfl HCV.out ?_)
            refine (read_any g p z (there + k) x5 _ w3 HRw3.out HX6.out _ rfl).mono ?_
            rintro e w4 ⟨v, rfl, hn4, hb4, hr4⟩
            obtain ⟨A4, n4, c4, rfl, hc4, hl4, hrd4⟩ := hn4.out
            have HRD4 := hrd4
            have hb6 := hbw3.trans (hb4.mono (by omega))
            obtain ⟨k2, hk2'⟩ : ∃ k2, k2 = min x5.toNat (there + k) := ⟨_, rfl⟩
            rw [← hk2'] at hl4 HRD4 hr4
            have hk3' : k2 ≤ there + k := by omega
            have htk2 : ((spl L there new).take k2).length = k2 := by rw [List.length_take, HRw3.out.len]; omega
            have hrl : ∀ x ∈ (spl L there new).take k2, x < 256 := fun x hx => HRw3.out.lt x (List.mem_of_mem_take hx)
            have hap := ro_read (so := so) (L := L) (there := there) (k := k) (k2 := k2) (new := new) hin.out HRw3.out.len htk.out hk2 hk3'
            generalize (spl L there new).take k2 = got at htk2 hrl HRD4 hl4 hap
            have HRL := Lib.hid hr4
            have HTK2 := Lib.hid htk2
            have HGL := Lib.hid hrl
            have HAP := Lib.hid hap
            have hsb2 : so.size + (strN got).size ≤ 100000 := by
              have := strN_size got
              have := hs2.out
              omega
            clear hn4 hb4 hr4 hrd4 hk2' htk2 hrl hap
            go_wp2_with (refine wpList_conv Try.underlying28 Try.underlying5 Try.underlying9 rfl _ rfl rfl HRD4.out ?_)
            go_wp2_with fail
            refine (lenR g p z (there + k - k2) _ w4 HRL.out).mono ?_
            rintro e w5 ⟨rfl, rfl⟩
            obtain ⟨t, ht⟩ : ∃ t, t = there + k - k2 := ⟨_, rfl⟩
            rw [← ht] at HRL HAP ⊢
            have ht1 : t ≤ z := HRL.out.ts
            have ht2 : (t : Int) ≤ (z : Int) := by omega
            clear ht
            generalize ((spl L there new).drop k2 ++ List.replicate k2 0) = L2 at HRL HAP
            generalize hs1e : si ++ strN new = s1
            generalize hs2e : so ++ strN got = s2
            have N1 : nats s1 = nats si ++ new := by rw [← hs1e, nats_append, nats_strN _ hb256'.out]
            have N2 : nats s2 = nats so ++ got := by rw [← hs2e, nats_append, nats_strN _ HGL.out]
            have NN : nats s1 = nats s2 ++ L2.take t := by rw [N1, N2]; exact HAP.out
            have z1 : s1.size = si.size + k := by have := congrArg List.length N1; rw [nats_len, List.length_append, nats_len, htk.out] at this; exact this
            have z2 : s2.size + t = s1.size := by
              have := congrArg List.length NN
              rw [nats_len, List.length_append, nats_len, List.length_take, HRL.out.len] at this
              omega
            have z3 : s2.size = so.size + (strN got).size := by rw [strN_size]; have := congrArg List.length N2; rw [nats_len, List.length_append, nats_len] at this; exact this
            have EX : s1.extract 0 s2.size = s2 := nats_inj (by rw [nats_extract, NN, List.drop_zero, Nat.sub_zero, List.take_left' (nats_len s2)])
            have hle : s2.size ≤ s1.size := by omega
            have hle' : (s2.size : Int) ≤ (s1.size : Int) := by omega
            have hb1s : s1.size ≤ 100000 := by omega
            have E1 : (so.size : Int) + ((strN got).size : Int) + (t : Int) = (s1.size : Int) := by omega
            clear z3
            have NN' := Lib.hid NN
            have Z2 := Lib.hid z2
            have Z1 := Lib.hid z1
            clear NN N1 N2 z2 z1 hs1e hs2e
            go_wp2_with fail
            refine (lenR g p z t _ w5 HRL.out).mono ?_
            rintro e w6 ⟨rfl, rfl⟩
            go_wp2_with fail
            go_roundw
            case rel => exact ⟨i + 1, t, s1, s2, L2, by omega, by go_num, rfl, rfl, by have := Z1.out; omega, Z2, ht1, HRL, NN', hb6⟩
            case measure => simp [intOf]; omega
          · have hir' : (n2 : Int) ≤ (i : Int) := by omega
            have HRL := HRw3
            have HAP := Lib.hid <| ro_none (si := si) (so := so) (L := L) (there := there) (k := k) (new := new) hin.out HRw3.out.len htk.out hk2
            go_wp2_with (refine wpList_conv Try.underlying28 Try.underlying5 Try.underlying9 rfl _ rfl rfl HCV.out ?_)
            go_wp2_with fail
            refine (lenR g p z (there + k) _ w3 HRL.out).mono ?_
            rintro e w5 ⟨rfl, rfl⟩
            obtain ⟨t, ht⟩ : ∃ t, t = there + k := ⟨_, rfl⟩
            rw [← ht] at HRL HAP ⊢
            have ht1 : t ≤ z := HRL.out.ts
            have ht2 : (t : Int) ≤ (z : Int) := by omega
            clear ht
            generalize (spl L there new) = L2 at HRL HAP
            generalize hs1e : si ++ strN new = s1
            generalize hs2e : so = s2
            have N1 : nats s1 = nats si ++ new := by rw [← hs1e, nats_append, nats_strN _ hb256'.out]
            have N2 : nats s2 = nats so := by rw [hs2e]
            have NN : nats s1 = nats s2 ++ L2.take t := by rw [N1, N2]; exact HAP.out
            have z1 : s1.size = si.size + k := by have := congrArg List.length N1; rw [nats_len, List.length_append, nats_len, htk.out] at this; exact this
            have z2 : s2.size + t = s1.size := by
              have := congrArg List.length NN
              rw [nats_len, List.length_append, nats_len, List.length_take, HRL.out.len] at this
              omega
            have z3 : s2.size ≤ 100000 := by omega
            have EX : s1.extract 0 s2.size = s2 := nats_inj (by rw [nats_extract, NN, List.drop_zero, Nat.sub_zero, List.take_left' (nats_len s2)])
            have hle : s2.size ≤ s1.size := by omega
            have hle' : (s2.size : Int) ≤ (s1.size : Int) := by omega
            have hb1s : s1.size ≤ 100000 := by omega
            have E1 : (s2.size : Int) + (t : Int) = (s1.size : Int) := by omega
            have NN' := Lib.hid NN
            have Z2 := Lib.hid z2
            have Z1 := Lib.hid z1
            clear NN N1 N2 z2 z1 hs1e hs2e
            go_wp2_with fail
            refine (lenR g p z t _ w5 HRL.out).mono ?_
            rintro e w6 ⟨rfl, rfl⟩
            go_wp2_with fail
            go_roundw
            case rel => exact ⟨i + 1, t, s1, s2, L2, by omega, by go_num, rfl, rfl, by have := Z1.out; omega, Z2, ht1, HRL, NN', hbw3⟩
            case measure => simp [intOf]; omega
        · obtain rfl : k = n1 := by omega
          clear hk3
          have hsb : si.size + (strN new).size ≤ 100000 := by have := strN_size new; rw [htk.out] at this; omega
          by_cases hir : i < n2
          · have hir' : (i : Int) < (n2 : Int) := by omega
            obtain ⟨b5, o5, x5, e5, hb5, hc5, hx5⟩ := (HR.out.below hbw2).nthz hir
            subst e5
            have hx6 := (HRS.out x5 (nth_mem hx5)).2
            have HX6 := Lib.hid hx6
            clear hx6
            go_wp2_with (refine wpList_conv Try.underlying28 Try.underlying5 Try.underlying9 rfl _ rfl rfl HCV.out ?_)
            refine (read_any g p z (there + k) x5 _ w2 HRw2.out HX6.out _ rfl).mono ?_
            rintro e w4 ⟨v, rfl, hn4, hb4, hr4⟩
            obtain ⟨A4, n4, c4, rfl, hc4, hl4, hrd4⟩ := hn4.out
            have HRD4 := hrd4
            have hb6 := hbw2.trans (hb4.mono (by omega))
            obtain ⟨k2, hk2'⟩ : ∃ k2, k2 = min x5.toNat (there + k) := ⟨_, rfl⟩
            rw [← hk2'] at hl4 HRD4 hr4
            have hk3' : k2 ≤ there + k := by omega
            have htk2 : ((spl L there new).take k2).length = k2 := by rw [List.length_take, HRw2.out.len]; omega
            have hrl : ∀ x ∈ (spl L there new).take k2, x < 256 := fun x hx => HRw2.out.lt x (List.mem_of_mem_take hx)
            have hap := ro_read (so := so) (L := L) (there := there) (k := k) (k2 := k2) (new := new) hin.out HRw2.out.len htk.out hk2 hk3'
            generalize (spl L there new).take k2 = got at htk2 hrl HRD4 hl4 hap
            have HRL := Lib.hid hr4
            have HTK2 := Lib.hid htk2
            have HGL := Lib.hid hrl
            have HAP := Lib.hid hap
            have hsb2 : so.size + (strN got).size ≤ 100000 := by
              have := strN_size got
              have := hs2.out
              omega
            clear hn4 hb4 hr4 hrd4 hk2' htk2 hrl hap
            go_wp2_with (refine wpList_conv Try.underlying28 Try.underlying5 Try.underlying9 rfl _ rfl rfl HRD4.out ?_)
            go_wp2_with fail
            refine (lenR g p z (there + k - k2) _ w4 HRL.out).mono ?_
            rintro e w5 ⟨rfl, rfl⟩
            obtain ⟨t, ht⟩ : ∃ t, t = there + k - k2 := ⟨_, rfl⟩
            rw [← ht] at HRL HAP ⊢
            have ht1 : t ≤ z := HRL.out.ts
            have ht2 : (t : Int) ≤ (z : Int) := by omega
            clear ht
            generalize ((spl L there new).drop k2 ++ List.replicate k2 0) = L2 at HRL HAP
            generalize hs1e : si ++ strN new = s1
            generalize hs2e : so ++ strN got = s2
            have N1 : nats s1 = nats si ++ new := by rw [← hs1e, nats_append, nats_strN _ hb256'.out]
            have N2 : nats s2 = nats so ++ got := by rw [← hs2e, nats_append, nats_strN _ HGL.out]
            have NN : nats s1 = nats s2 ++ L2.take t := by rw [N1, N2]; exact HAP.out
            have z1 : s1.size = si.size + k := by have := congrArg List.length N1; rw [nats_len, List.length_append, nats_len, htk.out] at this; exact this
            have z2 : s2.size + t = s1.size := by
              have := congrArg List.length NN
              rw [nats_len, List.length_append, nats_len, List.length_take, HRL.out.len] at this
              omega
            have z3 : s2.size = so.size + (strN got).size := by rw [strN_size]; have := congrArg List.length N2; rw [nats_len, List.length_append, nats_len] at this; exact this
            have EX : s1.extract 0 s2.size = s2 := nats_inj (by rw [nats_extract, NN, List.drop_zero, Nat.sub_zero, List.take_left' (nats_len s2)])
            have hle : s2.size ≤ s1.size := by omega
            have hle' : (s2.size : Int) ≤ (s1.size : Int) := by omega
            have hb1s : s1.size ≤ 100000 := by omega
            have E1 : (so.size : Int) + ((strN got).size : Int) + (t : Int) = (s1.size : Int) := by omega
            clear z3
            have NN' := Lib.hid NN
            have Z2 := Lib.hid z2
            have Z1 := Lib.hid z1
            clear NN N1 N2 z2 z1 hs1e hs2e
            go_wp2_with fail
            refine (lenR g p z t _ w5 HRL.out).mono ?_
            rintro e w6 ⟨rfl, rfl⟩
            go_wp2_with fail
            go_roundw
            case rel => exact ⟨i + 1, t, s1, s2, L2, by omega, by go_num, rfl, rfl, by have := Z1.out; omega, Z2, ht1, HRL, NN', hb6⟩
            case measure => simp [intOf]; omega
          · have hir' : (n2 : Int) ≤ (i : Int) := by omega
            have HRL := HRw2
            have HAP := Lib.hid <| ro_none (si := si) (so := so) (L := L) (there := there) (k := k) (new := new) hin.out HRw2.out.len htk.out hk2
            go_wp2_with (refine wpList_conv Try.underlying28 Try.underlying5 Try.underlying9 rfl _ rfl rfl HCV.out ?_)
            go_wp2_with fail
            refine (lenR g p z (there + k) _ w2 HRL.out).mono ?_
            rintro e w5 ⟨rfl, rfl⟩
            obtain ⟨t, ht⟩ : ∃ t, t = there + k := ⟨_, rfl⟩
            rw [← ht] at HRL HAP ⊢
            have ht1 : t ≤ z := HRL.out.ts
            have ht2 : (t : Int) ≤ (z : Int) := by omega
            clear ht
            generalize (spl L there new) = L2 at HRL HAP
            generalize hs1e : si ++ strN new = s1
            generalize hs2e : so = s2
            have N1 : nats s1 = nats si ++ new := by rw [← hs1e, nats_append, nats_strN _ hb256'.out]
            have N2 : nats s2 = nats so := by rw [hs2e]
            have NN : nats s1 = nats s2 ++ L2.take t := by rw [N1, N2]; exact HAP.out
            have z1 : s1.size = si.size + k := by have := congrArg List.length N1; rw [nats_len, List.length_append, nats_len, htk.out] at this; exact this
            have z2 : s2.size + t = s1.size := by
              have := congrArg List.length NN
              rw [nats_len, List.length_append, nats_len, List.length_take, HRL.out.len] at this
              omega
            have z3 : s2.size ≤ 100000 := by omega
            have EX : s1.extract 0 s2.size = s2 := nats_inj (by rw [nats_extract, NN, List.drop_zero, Nat.sub_zero, List.take_left' (nats_len s2)])
            have hle : s2.size ≤ s1.size := by omega
            have hle' : (s2.size : Int) ≤ (s1.size : Int) := by omega
            have hb1s : s1.size ≤ 100000 := by omega
            have E1 : (s2.size : Int) + (t : Int) = (s1.size : Int) := by omega
            have NN' := Lib.hid NN
            have Z2 := Lib.hid z2
            have Z1 := Lib.hid z1
            clear NN N1 N2 z2 z1 hs1e hs2e
            go_wp2_with fail
            refine (lenR g p z t _ w5 HRL.out).mono ?_
            rintro e w6 ⟨rfl, rfl⟩
            go_wp2_with fail
            go_roundw
            case rel => exact ⟨i + 1, t, s1, s2, L2, by omega, by go_num, rfl, rfl, by have := Z1.out; omega, Z2, ht1, HRL, NN', hbw2⟩
            case measure => simp [intOf]; omega
        -- WAYS END
    · obtain rfl : i = n := by omega
      have htn := hring.out.lt
      have hLl := hring.out.len
      go_wp2_with fail
      refine (read_any g p z there (z : Int) L wr hring.out (by omega) there (by omega)).mono ?_
      rintro e w4 ⟨v, rfl, hn4, hb4, hr4⟩
      obtain ⟨A4, n4, c4, rfl, hc4, hl4, hrd4⟩ := hn4.out
      have HRD4 := hrd4
      have hb6 := hbw.trans (hb4.mono (by omega))
      have hg : ∀ x ∈ L.take there, x < 256 := fun x hx => htn x (List.mem_of_mem_take hx)
      have htk : (L.take there).length = there := by rw [List.length_take, hLl]; omega
      have hin2 := hin.out
      clear hn4 hb4 hr4 hrd4 htn hLl hin
      generalize L.take there = got at hg htk hin2 HRD4 hl4
      have EE : so ++ strN got = si := nats_inj (by rw [nats_append, nats_strN _ hg, hin2])
      have hsb2 : so.size + (strN got).size ≤ 100000 := by
        have := strN_size got
        have := hs2.out
        omega
      have HIN := Lib.hid hin2
      have HTK := Lib.hid htk
      have HG := Lib.hid hg
      clear hin2 htk hg
      go_wp2_with (refine wpList_conv Try.underlying28 Try.underlying5 Try.underlying9 rfl _ rfl rfl HRD4.out ?_)
      refine (alive05 w4).mono ?_
      rintro e w5 ⟨rfl, hb5⟩
      go_wp2_with fail
      go_ret
      exact ⟨rfl, hb6.trans (hb5.mono hb6.size)⟩
end Go.Proofs.Ytefnojomjdeghaa
