/- Layer 17: the law OutletOrder answers true, and nothing that was there has turned. -/
import Derived.Test.YtmkjclgdiikjdaaOt5
import Derived.Test.YtmkjclgdiikjdaaPts
import Derived.Test.YtmkjclgdiikjdaaStr
namespace Go.Proofs.Ytmkjclgdiikjdaa
open Go.RowKit
set_option linter.unusedVariables false
set_option linter.unusedSimpArgs false
/-- What the round's error may be. -/
theorem putE_or (size base len n : Nat) : putE size base false len n = 0 ∨ putE size base false len n ≠ 0 ∧ putK size base false len n = 0 := by
  unfold putE putK
  simp only [Bool.false_eq_true, if_false]
  split
  · exact .inl rfl
  split
  · exact .inr ⟨by omega, by omega⟩
  split
  · exact .inr ⟨by omega, by omega⟩
  · exact .inl rfl
theorem putK_le (size base len n : Nat) (cl : Bool) : putK size base cl len n ≤ n ∧ putK size base cl len n ≤ size - len := by
  unfold putK
  split <;> omega
theorem byL_base7 (base : Nat) (bs : List Nat) : byL base bs base 7 = bs.take 7 := by
  unfold byL
  rw [if_neg (by omega), Nat.sub_self, List.drop_zero]
  rfl
theorem take_drop_len (l : List Nat) (m n : Nat) (h : (l.take m).length = n) : l.take m ++ l.drop n = l := by
  rw [List.length_take] at h
  rcases Nat.le_total m l.length with a | a
  · rw [show n = m by omega, List.take_append_drop]
  · rw [List.take_of_length_le a, List.drop_eq_nil_of_le (by omega), List.append_nil]
theorem byL_base (base : Nat) (bs : List Nat) (m : Nat) : byL base bs base (m : Int) = bs.take m := by
  unfold byL
  rw [if_neg (by omega), Nat.sub_self, List.drop_zero]
  simp
set_option maxRecDepth 20000 in
set_option maxHeartbeats 8000000 in
theorem outletOrder_walk (size : Int) (A A2 : Option Addr) (n c n2 c2 : Nat) (bss : List (List Nat)) (rs : List Int) (w : World) (hz : -9223372036854775808 ≤ size ∧ size < 9223372036854775808) (hp : Pts w w.heap.size A n bss) (hnc : n ≤ c) (hmax : c ≤ maxLen) (hb : ∀ bs ∈ bss, ∀ x ∈ bs, x < 256) (hmx : ∀ bs ∈ bss, bs.length ≤ maxLen)
    (hr : Rd w w.heap.size 1 A2 n2 (zs .i64 rs)) (hnc2 : n2 ≤ c2) (hmax2 : c2 ≤ maxLen) (hrs : ∀ x ∈ rs, -9223372036854775808 ≤ x ∧ x < 9223372036854775808) :
    Calls Try.prog 4 #[.int .i64 size, .slice A n c, .slice A2 n2 c2] w fun e w' => e = .returned (.bool true) ∧ Below w.heap.size w w' := by
  have HP := Sh.mk hp; have HB := Sh.mk hb; have HMX := Sh.mk hmx; have HR := Sh.mk hr; have HRS := Sh.mk hrs; have HZ := Sh.mk hz
  unfold maxLen at hmax hmax2
  have HM := Sh.mk hmax
  have HM2 := Sh.mk hmax2
  clear hp hb hmx hr hrs hz hmax hmax2
  by_cases h1 : size < 1
  · go_enter Try.func4, Try.ntmps4
    go_wp2_with fail
    go_ret
    exact ⟨rfl, Below.refl _ _⟩
  by_cases h2 : 500 < size
  · go_enter Try.func4, Try.ntmps4
    go_wp2_with fail
    go_ret
    exact ⟨rfl, Below.refl _ _⟩
  obtain ⟨z, rfl⟩ : ∃ z : Nat, size = (z : Int) := ⟨size.toNat, by omega⟩
  have hz1 : 1 ≤ z := by omega
  have hz2 : z ≤ 500 := by omega
  clear h1 h2
  have h1 : (1 : Int) ≤ (z : Int) := by omega
  have h2 : (z : Int) ≤ 500 := by omega
  by_cases hn : 40 < n
  · have hn' : (40 : Int) < (n : Int) := by omega
    go_enter Try.func4, Try.ntmps4
    go_wp2_with fail
    go_ret
    exact ⟨rfl, Below.refl _ _⟩
  have hn2 : n ≤ 40 := by omega
  have hn2' : (n : Int) ≤ 40 := by omega
  clear hn
  by_cases hm : 300 < n2
  · have hm' : (300 : Int) < (n2 : Int) := by omega
    go_enter Try.func4, Try.ntmps4
    go_wp2_with fail
    go_ret
    exact ⟨rfl, Below.refl _ _⟩
  have hm2 : n2 ≤ 300 := by omega
  have hm2' : (n2 : Int) ≤ 300 := by omega
  clear hm
  go_enter Try.func4, Try.ntmps4
  go_wp2_with fail
  refine (ou_new z w hz1 (by omega)).mono ?_
  rintro e w1 ⟨o, g, p, rfl, ho, hg, hp, hb1, hu⟩
  have HU1 := Sh.mk hu
  have HB1 := Sh.mk hb1
  have c0 := hu.c0
  clear hu hb1
  go_wp2_with fail
  clear c0
  go_loopw [9, 10, 11] (fun inv outv iv wr => ∃ (i base : Nat) (si so : ByteArray) (bs : List Nat), i ≤ n ∧ iv = .int .i64 i ∧ inv = .string si ∧ outv = .string so ∧ si.size ≤ 300 * i ∧ Sh (so.size = base) ∧ Sh (base + bs.length = si.size) ∧
    Sh (OU wr o g p z base false false bs) ∧ Sh (nats si = nats so ++ bs) ∧ Below w.heap.size w wr) (fun _ _ iv _ => n - (intOf iv).toNat)
  case atStart => exact ⟨0, 0, ByteArray.empty, ByteArray.empty, [], Nat.zero_le _, rfl, rfl, rfl, by decide, Sh.mk (by decide), Sh.mk (by decide), HU1, Sh.mk (by simp [nats_empty]), HB1.out⟩
  case round =>
    obtain ⟨i, base, si, so, bs, hi, rfl, rfl, rfl, hs1, hs2, hs3, hou, hin, hbw⟩ := hrel
    clear HU1 HB1 w1
    by_cases hlt : i < n
    · obtain ⟨bb, off, A1, n1, c1, ls, rfl, hbb, hcell0, hls, hl1, hc1, hr1⟩ := HP.out.nth hlt
      have hcell := (hbw.cell (p := ⟨bb, off + i, none⟩) hbb).trans hcell0
      clear hcell0
      have hmx := HMX.out ls (nth_mem hls)
      unfold maxLen at hmx
      rw [hl1.out] at hmx
      by_cases hx : 300 < n1
      · have hx' : (300 : Int) < (n1 : Int) := by omega
        go_wp2_with fail
        go_ret
        exact ⟨rfl, hbw⟩
      have hx' : (n1 : Int) ≤ 300 := by omega
      have hx2 : n1 ≤ 300 := by omega
      clear hx hmx
      obtain ⟨k, hk⟩ : ∃ k, k = putK z base false bs.length n1 := ⟨_, rfl⟩
      obtain ⟨er, her⟩ : ∃ er, er = putE z base false bs.length n1 := ⟨_, rfl⟩
      have hk1 : k ≤ n1 := by rw [hk]; exact (putK_le _ _ _ _ _).1
      have hk2 : (k : Int) ≤ (n1 : Int) := by omega
      have hkc : (k : Int) ≤ (c1 : Int) := by omega
      have hkc2 : k ≤ c1 := by omega
      have hor := putE_or z base bs.length n1
      rw [← hk, ← her] at hor
      have HOR := Sh.mk hor
      have HK := Sh.mk (And.intro hk her)
      clear hk her hor
      go_wp2_with fail
      refine (ou_put o g p z base false false bs A1 n1 c1 _ ls wr hou.out (hr1.out.below hbw) (HB.out ls (nth_mem hls)) (hr1.out.apt hp) hc1 (by omega) k er HK.out.1 HK.out.2).mono ?_
      rintro e w2 ⟨rfl, t2, h2'⟩
      have HBW2 := Sh.mk (hbw.trans (t2.below ho hg hp))
      have hcell2 := (HBW2.out.cell (p := ⟨bb, off + i, none⟩) hbb).trans (hbw.cell (p := ⟨bb, off + i, none⟩) hbb).symm |>.trans hcell
      have hb256 : ∀ x ∈ ls, x < 256 := HB.out ls (nth_mem hls)
      have htk : Sh ((ls.take k).length = k) := Sh.mk (by rw [List.length_take, hl1.out]; omega)
      have hb256' : Sh (∀ x ∈ ls.take k, x < 256) := Sh.mk fun x hx => hb256 x (List.mem_of_mem_take hx)
      have HCV := Sh.mk ((hr1.out.below HBW2.out).takeN hk1)
      have H2 := Sh.mk h2'
      clear hb256 h2' t2 hcell hbw hou HK
      generalize ls.take k = new at htk hb256' HCV H2
      have hsb : si.size + (strN new).size ≤ 100000 := by have := strN_size new; rw [htk.out] at this; omega
      rcases HOR.out with a | ⟨a, b⟩
      · subst a
        have f7 : ¬ ((k : Int) < 0) := by omega
        have f8 : ¬ (n1 < k) := by omega
        by_cases hir : i < n2
        · have hir' : (i : Int) < (n2 : Int) := by omega
          obtain ⟨b5, o5, x5, e5, hb5, hc5, hx5⟩ := (HR.out.below HBW2.out).nthz hir
          subst e5
          obtain ⟨r1, hr1⟩ : ∃ r1 : Int, x5.tmod 50 = r1 := ⟨_, rfl⟩
          have hr1a : r1 < 50 := by rw [← hr1]; exact Int.tmod_lt_of_pos x5 (by omega)
          have hr1b : -50 < r1 := by rw [← hr1]; have := Int.lt_tmod_of_pos x5 (show (0 : Int) < 50 by omega); omega
          have hr1w : IntKind.i64.wrap r1 = r1 := by rw [IntKind.wrap_i64]; omega
          obtain ⟨s1, hs1e⟩ : ∃ s1 : Nat, r1 + 50 = (s1 : Int) := ⟨(r1 + 50).toNat, by omega⟩
          have hs1w : IntKind.i64.wrap (s1 : Int) = (s1 : Nat) := by rw [IntKind.wrap_i64]; omega
          obtain ⟨m, hm⟩ : ∃ m, m = s1 % 50 := ⟨_, rfl⟩
          have hmt : (s1 : Int).tmod 50 = (m : Nat) := by rw [Int.tmod_eq_emod_of_nonneg (by omega)]; omega
          have hmw : IntKind.i64.wrap (m : Int) = (m : Nat) := by rw [IntKind.wrap_i64]; omega
          have hm50 : m ≤ 50 := by omega
          clear hm hr1a hr1b
          go_wp2_with (refine wpList_conv Try.underlying29 Try.underlying5 Try.underlying9 rfl _ rfl rfl HCV.out ?_)
          go_wp2_with fail
          refine (ou_base o g p z base false false _ w2 H2.out).mono ?_
          rintro e w3 ⟨rfl, rfl⟩
          have HSZ := Sh.mk H2.out.lt
          go_wp2_with fail
          refine (ou_bytes o g p z base false false (bs ++ new) base (m : Int) _ H2.out (by have := hs3.out; omega) (by omega)).mono ?_
          rw [byL_base]
          rintro e w4 ⟨v, rfl, hn4, b4⟩
          have H4 := Sh.mk (H2.out.into b4)
          have HB4 := Sh.mk (HBW2.out.trans (b4.mono HBW2.out.size))
          obtain ⟨A4, n4, c4, rfl, hc4, hl4, hrd4⟩ := hn4.out
          have HN4 := Sh.mk hn4
          have HRD4 := Sh.mk hrd4.out
          have HC4 := Sh.mk hc4
          have HL4 := Sh.mk hl4.out
          have hl5 := hl4.out
          rw [List.length_take, List.length_append, htk.out] at hl5
          have HL5 := Sh.mk hl5
          have hnm : n4 ≤ m := by omega
          have hnm' : (n4 : Int) ≤ (m : Int) := by omega
          have HGL := Sh.mk (show ∀ x ∈ (bs ++ new).take m, x < 256 from fun x hx => H2.out.bytes x (List.mem_of_mem_take hx))
          have hsb2 : so.size + (strN ((bs ++ new).take m)).size ≤ 100000 := by
            have := strN_size ((bs ++ new).take m)
            rw [hl4.out] at this
            have := hs2.out
            have := hs3.out
            omega
          have HTD := Sh.mk (take_drop_len (bs ++ new) m n4 HL4.out)
          obtain ⟨b2, hb2⟩ : ∃ b2, b2 = base + n4 := ⟨_, rfl⟩
          have HB2 := Sh.mk hb2
          clear hn4 b4 hrd4 hc4 hl5 hl4 H2 HBW2 hcell2 HCV hb2
          rcases (show n4 = 0 ∨ 0 < n4 by omega) with a | a
          · have k2 : decide ((0 : Int) < (n4 : Int)) = false := by simp; omega
            have k3 : decide (0 < n4) = false := by simp; omega
            have H6 : Sh (OU w4 o g p z b2 false false ((bs ++ new).drop n4)) := Sh.mk (by have := HB2.out; rw [a, List.drop_zero]; rw [show b2 = base by omega]; exact H4.out)
            have HB6 := Sh.mk HB4.out
            have HRD6 := Sh.mk HRD4.out
            clear H4 HB4 HRD4 HN4 a HSZ
            generalize hgot : (bs ++ new).take m = got at HGL HTD HRD6 hsb2 HL4
            generalize hrest : (bs ++ new).drop n4 = rest at H6 HTD
            clear hgot hrest
            have z1 : (si ++ strN new).size = si.size + k := by rw [ByteArray.size_append, strN_size, htk.out]
            have z2 : (so ++ strN got).size = b2 := by have := HB2.out; have := hs2.out; rw [ByteArray.size_append, strN_size, HL4.out]; omega
            have NN : nats (si ++ strN new) = nats (so ++ strN got) ++ rest := by rw [nats_append, nats_append, nats_strN _ hb256'.out, nats_strN _ HGL.out, hin.out, List.append_assoc, List.append_assoc, HTD.out]
            have z3 : b2 + rest.length = (si ++ strN new).size := by have := congrArg List.length NN; rw [nats_len, List.length_append, nats_len, z2] at this; exact this.symm
            have Z1 := Sh.mk (And.intro z1 (And.intro z2 (And.intro z3 NN)))
            clear z1 z2 z3 NN
            go_wp2_with (refine wpList_conv Try.underlying29 Try.underlying5 Try.underlying9 rfl _ rfl rfl HRD6.out ?_)
            go_wp2_with fail
            go_roundw
            case rel => exact ⟨i + 1, b2, _, _, rest, by omega, by go_num, rfl, rfl, by have := Z1.out.1; omega, Sh.mk Z1.out.2.1, Sh.mk Z1.out.2.2.1, H6, Sh.mk Z1.out.2.2.2, HB6.out⟩
            case measure => simp [intOf]; omega
          · have k2 : (0 : Int) < (n4 : Int) := by omega
            have k3 : 0 < n4 := by omega
            have hw6 : IntKind.u64.wrap (n4 : Int) = (n4 : Nat) := by rw [IntKind.wrap_u64]; omega
            have hw7 : (base : Int) + (n4 : Int) = (b2 : Nat) := by have := HB2.out; omega
            have hw8 : IntKind.u64.wrap (b2 : Int) = (b2 : Nat) := by have := hs3.out; have := HB2.out; rw [IntKind.wrap_u64]; omega
            clear a
            go_wp2_with fail
            refine (ou_base o g p z base false false _ w4 H4.out).mono ?_
            rintro e w5 ⟨rfl, rfl⟩
            go_wp2_with fail
            refine (ou_acked_yes o g p z base false (bs ++ new) b2 _ H4.out (by have := HB2.out; omega) (by have := HB2.out; have := HL5.out; rw [List.length_append, htk.out]; simp; omega) b2 (by have := HB2.out; have := HL5.out; rw [List.length_append, htk.out]; omega)).mono ?_
            rintro e w6 ⟨rfl, t6, h6⟩
            have hd : decide (base + (bs ++ new).length < b2) = false := decide_eq_false (by have := HB2.out; have := HL5.out; rw [List.length_append, htk.out]; omega)
            rw [hd, show b2 - base = n4 by have := HB2.out; omega] at h6
            have H6 := Sh.mk h6
            have HB6 := Sh.mk (HB4.out.trans (t6.below ho hg hp))
            have HRD6 := Sh.mk ((t6.nats HN4.out HSZ.out.1 HSZ.out.2.1 HSZ.out.2.2).rd.re HL4.out)
            clear h6 t6 hd H4 HB4 HRD4 HN4 HSZ hw7 k2 k3
            generalize hgot : (bs ++ new).take m = got at HGL HTD HRD6 hsb2 HL4
            generalize hrest : (bs ++ new).drop n4 = rest at H6 HTD
            clear hgot hrest
            have z1 : (si ++ strN new).size = si.size + k := by rw [ByteArray.size_append, strN_size, htk.out]
            have z2 : (so ++ strN got).size = b2 := by have := HB2.out; have := hs2.out; rw [ByteArray.size_append, strN_size, HL4.out]; omega
            have NN : nats (si ++ strN new) = nats (so ++ strN got) ++ rest := by rw [nats_append, nats_append, nats_strN _ hb256'.out, nats_strN _ HGL.out, hin.out, List.append_assoc, List.append_assoc, HTD.out]
            have z3 : b2 + rest.length = (si ++ strN new).size := by have := congrArg List.length NN; rw [nats_len, List.length_append, nats_len, z2] at this; exact this.symm
            have Z1 := Sh.mk (And.intro z1 (And.intro z2 (And.intro z3 NN)))
            clear z1 z2 z3 NN
            go_wp2_with (refine wpList_conv Try.underlying29 Try.underlying5 Try.underlying9 rfl _ rfl rfl HRD6.out ?_)
            go_wp2_with fail
            go_roundw
            case rel => exact ⟨i + 1, b2, _, _, rest, by omega, by go_num, rfl, rfl, by have := Z1.out.1; omega, Sh.mk Z1.out.2.1, Sh.mk Z1.out.2.2.1, H6, Sh.mk Z1.out.2.2.2, HB6.out⟩
            case measure => simp [intOf]; omega
        · have hir' : (n2 : Int) ≤ (i : Int) := by omega
          go_wp2_with (refine wpList_conv Try.underlying29 Try.underlying5 Try.underlying9 rfl _ rfl rfl HCV.out ?_)
          go_wp2_with fail
          refine (ou_base o g p z base false false _ w2 H2.out).mono ?_
          rintro e w3 ⟨rfl, rfl⟩
          have HSZ := Sh.mk H2.out.lt
          go_wp2_with fail
          refine (ou_bytes o g p z base false false (bs ++ new) base 7 _ H2.out (by have := hs3.out; omega) (by omega)).mono ?_
          rw [byL_base7]
          rintro e w4 ⟨v, rfl, hn4, b4⟩
          have H4 := Sh.mk (H2.out.into b4)
          have HB4 := Sh.mk (HBW2.out.trans (b4.mono HBW2.out.size))
          obtain ⟨A4, n4, c4, rfl, hc4, hl4, hrd4⟩ := hn4.out
          have HN4 := Sh.mk hn4
          have HRD4 := Sh.mk hrd4.out
          have HC4 := Sh.mk hc4
          have HL4 := Sh.mk hl4.out
          have hl5 := hl4.out
          rw [List.length_take, List.length_append, htk.out] at hl5
          have HL5 := Sh.mk hl5
          have hnm : n4 ≤ 7 := by omega
          have hnm' : (n4 : Int) ≤ 7 := by omega
          have HGL := Sh.mk (show ∀ x ∈ (bs ++ new).take 7, x < 256 from fun x hx => H2.out.bytes x (List.mem_of_mem_take hx))
          have hsb2 : so.size + (strN ((bs ++ new).take 7)).size ≤ 100000 := by
            have := strN_size ((bs ++ new).take 7)
            rw [hl4.out] at this
            have := hs2.out
            have := hs3.out
            omega
          have HTD := Sh.mk (take_drop_len (bs ++ new) 7 n4 HL4.out)
          obtain ⟨b2, hb2⟩ : ∃ b2, b2 = base + n4 := ⟨_, rfl⟩
          have HB2 := Sh.mk hb2
          clear hn4 b4 hrd4 hc4 hl5 hl4 H2 HBW2 hcell2 HCV hb2
          rcases (show n4 = 0 ∨ 0 < n4 by omega) with a | a
          · have k2 : decide ((0 : Int) < (n4 : Int)) = false := by simp; omega
            have k3 : decide (0 < n4) = false := by simp; omega
            have H6 : Sh (OU w4 o g p z b2 false false ((bs ++ new).drop n4)) := Sh.mk (by have := HB2.out; rw [a, List.drop_zero]; rw [show b2 = base by omega]; exact H4.out)
            have HB6 := Sh.mk HB4.out
            have HRD6 := Sh.mk HRD4.out
            clear H4 HB4 HRD4 HN4 a HSZ
            generalize hgot : (bs ++ new).take 7 = got at HGL HTD HRD6 hsb2 HL4
            generalize hrest : (bs ++ new).drop n4 = rest at H6 HTD
            clear hgot hrest
            have z1 : (si ++ strN new).size = si.size + k := by rw [ByteArray.size_append, strN_size, htk.out]
            have z2 : (so ++ strN got).size = b2 := by have := HB2.out; have := hs2.out; rw [ByteArray.size_append, strN_size, HL4.out]; omega
            have NN : nats (si ++ strN new) = nats (so ++ strN got) ++ rest := by rw [nats_append, nats_append, nats_strN _ hb256'.out, nats_strN _ HGL.out, hin.out, List.append_assoc, List.append_assoc, HTD.out]
            have z3 : b2 + rest.length = (si ++ strN new).size := by have := congrArg List.length NN; rw [nats_len, List.length_append, nats_len, z2] at this; exact this.symm
            have Z1 := Sh.mk (And.intro z1 (And.intro z2 (And.intro z3 NN)))
            clear z1 z2 z3 NN
            go_wp2_with (refine wpList_conv Try.underlying29 Try.underlying5 Try.underlying9 rfl _ rfl rfl HRD6.out ?_)
            go_wp2_with fail
            go_roundw
            case rel => exact ⟨i + 1, b2, _, _, rest, by omega, by go_num, rfl, rfl, by have := Z1.out.1; omega, Sh.mk Z1.out.2.1, Sh.mk Z1.out.2.2.1, H6, Sh.mk Z1.out.2.2.2, HB6.out⟩
            case measure => simp [intOf]; omega
          · have k2 : (0 : Int) < (n4 : Int) := by omega
            have k3 : 0 < n4 := by omega
            have hw6 : IntKind.u64.wrap (n4 : Int) = (n4 : Nat) := by rw [IntKind.wrap_u64]; omega
            have hw7 : (base : Int) + (n4 : Int) = (b2 : Nat) := by have := HB2.out; omega
            have hw8 : IntKind.u64.wrap (b2 : Int) = (b2 : Nat) := by have := hs3.out; have := HB2.out; rw [IntKind.wrap_u64]; omega
            clear a
            go_wp2_with fail
            refine (ou_base o g p z base false false _ w4 H4.out).mono ?_
            rintro e w5 ⟨rfl, rfl⟩
            go_wp2_with fail
            refine (ou_acked_yes o g p z base false (bs ++ new) b2 _ H4.out (by have := HB2.out; omega) (by have := HB2.out; have := HL5.out; rw [List.length_append, htk.out]; simp; omega) b2 (by have := HB2.out; have := HL5.out; rw [List.length_append, htk.out]; omega)).mono ?_
            rintro e w6 ⟨rfl, t6, h6⟩
            have hd : decide (base + (bs ++ new).length < b2) = false := decide_eq_false (by have := HB2.out; have := HL5.out; rw [List.length_append, htk.out]; omega)
            rw [hd, show b2 - base = n4 by have := HB2.out; omega] at h6
            have H6 := Sh.mk h6
            have HB6 := Sh.mk (HB4.out.trans (t6.below ho hg hp))
            have HRD6 := Sh.mk ((t6.nats HN4.out HSZ.out.1 HSZ.out.2.1 HSZ.out.2.2).rd.re HL4.out)
            clear h6 t6 hd H4 HB4 HRD4 HN4 HSZ hw7 k2 k3
            generalize hgot : (bs ++ new).take 7 = got at HGL HTD HRD6 hsb2 HL4
            generalize hrest : (bs ++ new).drop n4 = rest at H6 HTD
            clear hgot hrest
            have z1 : (si ++ strN new).size = si.size + k := by rw [ByteArray.size_append, strN_size, htk.out]
            have z2 : (so ++ strN got).size = b2 := by have := HB2.out; have := hs2.out; rw [ByteArray.size_append, strN_size, HL4.out]; omega
            have NN : nats (si ++ strN new) = nats (so ++ strN got) ++ rest := by rw [nats_append, nats_append, nats_strN _ hb256'.out, nats_strN _ HGL.out, hin.out, List.append_assoc, List.append_assoc, HTD.out]
            have z3 : b2 + rest.length = (si ++ strN new).size := by have := congrArg List.length NN; rw [nats_len, List.length_append, nats_len, z2] at this; exact this.symm
            have Z1 := Sh.mk (And.intro z1 (And.intro z2 (And.intro z3 NN)))
            clear z1 z2 z3 NN
            go_wp2_with (refine wpList_conv Try.underlying29 Try.underlying5 Try.underlying9 rfl _ rfl rfl HRD6.out ?_)
            go_wp2_with fail
            go_roundw
            case rel => exact ⟨i + 1, b2, _, _, rest, by omega, by go_num, rfl, rfl, by have := Z1.out.1; omega, Sh.mk Z1.out.2.1, Sh.mk Z1.out.2.2.1, H6, Sh.mk Z1.out.2.2.2, HB6.out⟩
            case measure => simp [intOf]; omega
      · have f1 : ((er : Int) == 0) = false := by simp; omega
        have f6 : ((er : Int) != 0) = true := by simp; omega
        have f5 : ((k : Int) != 0) = false := by simp; omega
        clear b
        have f7 : ¬ ((k : Int) < 0) := by omega
        have f8 : ¬ (n1 < k) := by omega
        by_cases hir : i < n2
        · have hir' : (i : Int) < (n2 : Int) := by omega
          obtain ⟨b5, o5, x5, e5, hb5, hc5, hx5⟩ := (HR.out.below HBW2.out).nthz hir
          subst e5
          obtain ⟨r1, hr1⟩ : ∃ r1 : Int, x5.tmod 50 = r1 := ⟨_, rfl⟩
          have hr1a : r1 < 50 := by rw [← hr1]; exact Int.tmod_lt_of_pos x5 (by omega)
          have hr1b : -50 < r1 := by rw [← hr1]; have := Int.lt_tmod_of_pos x5 (show (0 : Int) < 50 by omega); omega
          have hr1w : IntKind.i64.wrap r1 = r1 := by rw [IntKind.wrap_i64]; omega
          obtain ⟨s1, hs1e⟩ : ∃ s1 : Nat, r1 + 50 = (s1 : Int) := ⟨(r1 + 50).toNat, by omega⟩
          have hs1w : IntKind.i64.wrap (s1 : Int) = (s1 : Nat) := by rw [IntKind.wrap_i64]; omega
          obtain ⟨m, hm⟩ : ∃ m, m = s1 % 50 := ⟨_, rfl⟩
          have hmt : (s1 : Int).tmod 50 = (m : Nat) := by rw [Int.tmod_eq_emod_of_nonneg (by omega)]; omega
          have hmw : IntKind.i64.wrap (m : Int) = (m : Nat) := by rw [IntKind.wrap_i64]; omega
          have hm50 : m ≤ 50 := by omega
          clear hm hr1a hr1b
          go_wp2_with (refine wpList_conv Try.underlying29 Try.underlying5 Try.underlying9 rfl _ rfl rfl HCV.out ?_)
          go_wp2_with fail
          refine (ou_base o g p z base false false _ w2 H2.out).mono ?_
          rintro e w3 ⟨rfl, rfl⟩
          have HSZ := Sh.mk H2.out.lt
          go_wp2_with fail
          refine (ou_bytes o g p z base false false (bs ++ new) base (m : Int) _ H2.out (by have := hs3.out; omega) (by omega)).mono ?_
          rw [byL_base]
          rintro e w4 ⟨v, rfl, hn4, b4⟩
          have H4 := Sh.mk (H2.out.into b4)
          have HB4 := Sh.mk (HBW2.out.trans (b4.mono HBW2.out.size))
          obtain ⟨A4, n4, c4, rfl, hc4, hl4, hrd4⟩ := hn4.out
          have HN4 := Sh.mk hn4
          have HRD4 := Sh.mk hrd4.out
          have HC4 := Sh.mk hc4
          have HL4 := Sh.mk hl4.out
          have hl5 := hl4.out
          rw [List.length_take, List.length_append, htk.out] at hl5
          have HL5 := Sh.mk hl5
          have hnm : n4 ≤ m := by omega
          have hnm' : (n4 : Int) ≤ (m : Int) := by omega
          have HGL := Sh.mk (show ∀ x ∈ (bs ++ new).take m, x < 256 from fun x hx => H2.out.bytes x (List.mem_of_mem_take hx))
          have hsb2 : so.size + (strN ((bs ++ new).take m)).size ≤ 100000 := by
            have := strN_size ((bs ++ new).take m)
            rw [hl4.out] at this
            have := hs2.out
            have := hs3.out
            omega
          have HTD := Sh.mk (take_drop_len (bs ++ new) m n4 HL4.out)
          obtain ⟨b2, hb2⟩ : ∃ b2, b2 = base + n4 := ⟨_, rfl⟩
          have HB2 := Sh.mk hb2
          clear hn4 b4 hrd4 hc4 hl5 hl4 H2 HBW2 hcell2 HCV hb2
          rcases (show n4 = 0 ∨ 0 < n4 by omega) with a | a
          · have k2 : decide ((0 : Int) < (n4 : Int)) = false := by simp; omega
            have k3 : decide (0 < n4) = false := by simp; omega
            have H6 : Sh (OU w4 o g p z b2 false false ((bs ++ new).drop n4)) := Sh.mk (by have := HB2.out; rw [a, List.drop_zero]; rw [show b2 = base by omega]; exact H4.out)
            have HB6 := Sh.mk HB4.out
            have HRD6 := Sh.mk HRD4.out
            clear H4 HB4 HRD4 HN4 a HSZ
            generalize hgot : (bs ++ new).take m = got at HGL HTD HRD6 hsb2 HL4
            generalize hrest : (bs ++ new).drop n4 = rest at H6 HTD
            clear hgot hrest
            have z1 : (si ++ strN new).size = si.size + k := by rw [ByteArray.size_append, strN_size, htk.out]
            have z2 : (so ++ strN got).size = b2 := by have := HB2.out; have := hs2.out; rw [ByteArray.size_append, strN_size, HL4.out]; omega
            have NN : nats (si ++ strN new) = nats (so ++ strN got) ++ rest := by rw [nats_append, nats_append, nats_strN _ hb256'.out, nats_strN _ HGL.out, hin.out, List.append_assoc, List.append_assoc, HTD.out]
            have z3 : b2 + rest.length = (si ++ strN new).size := by have := congrArg List.length NN; rw [nats_len, List.length_append, nats_len, z2] at this; exact this.symm
            have Z1 := Sh.mk (And.intro z1 (And.intro z2 (And.intro z3 NN)))
            clear z1 z2 z3 NN
            go_wp2_with (refine wpList_conv Try.underlying29 Try.underlying5 Try.underlying9 rfl _ rfl rfl HRD6.out ?_)
            go_wp2_with fail
            go_roundw
            case rel => exact ⟨i + 1, b2, _, _, rest, by omega, by go_num, rfl, rfl, by have := Z1.out.1; omega, Sh.mk Z1.out.2.1, Sh.mk Z1.out.2.2.1, H6, Sh.mk Z1.out.2.2.2, HB6.out⟩
            case measure => simp [intOf]; omega
          · have k2 : (0 : Int) < (n4 : Int) := by omega
            have k3 : 0 < n4 := by omega
            have hw6 : IntKind.u64.wrap (n4 : Int) = (n4 : Nat) := by rw [IntKind.wrap_u64]; omega
            have hw7 : (base : Int) + (n4 : Int) = (b2 : Nat) := by have := HB2.out; omega
            have hw8 : IntKind.u64.wrap (b2 : Int) = (b2 : Nat) := by have := hs3.out; have := HB2.out; rw [IntKind.wrap_u64]; omega
            clear a
            go_wp2_with fail
            refine (ou_base o g p z base false false _ w4 H4.out).mono ?_
            rintro e w5 ⟨rfl, rfl⟩
            go_wp2_with fail
            refine (ou_acked_yes o g p z base false (bs ++ new) b2 _ H4.out (by have := HB2.out; omega) (by have := HB2.out; have := HL5.out; rw [List.length_append, htk.out]; simp; omega) b2 (by have := HB2.out; have := HL5.out; rw [List.length_append, htk.out]; omega)).mono ?_
            rintro e w6 ⟨rfl, t6, h6⟩
            have hd : decide (base + (bs ++ new).length < b2) = false := decide_eq_false (by have := HB2.out; have := HL5.out; rw [List.length_append, htk.out]; omega)
            rw [hd, show b2 - base = n4 by have := HB2.out; omega] at h6
            have H6 := Sh.mk h6
            have HB6 := Sh.mk (HB4.out.trans (t6.below ho hg hp))
            have HRD6 := Sh.mk ((t6.nats HN4.out HSZ.out.1 HSZ.out.2.1 HSZ.out.2.2).rd.re HL4.out)
            clear h6 t6 hd H4 HB4 HRD4 HN4 HSZ hw7 k2 k3
            generalize hgot : (bs ++ new).take m = got at HGL HTD HRD6 hsb2 HL4
            generalize hrest : (bs ++ new).drop n4 = rest at H6 HTD
            clear hgot hrest
            have z1 : (si ++ strN new).size = si.size + k := by rw [ByteArray.size_append, strN_size, htk.out]
            have z2 : (so ++ strN got).size = b2 := by have := HB2.out; have := hs2.out; rw [ByteArray.size_append, strN_size, HL4.out]; omega
            have NN : nats (si ++ strN new) = nats (so ++ strN got) ++ rest := by rw [nats_append, nats_append, nats_strN _ hb256'.out, nats_strN _ HGL.out, hin.out, List.append_assoc, List.append_assoc, HTD.out]
            have z3 : b2 + rest.length = (si ++ strN new).size := by have := congrArg List.length NN; rw [nats_len, List.length_append, nats_len, z2] at this; exact this.symm
            have Z1 := Sh.mk (And.intro z1 (And.intro z2 (And.intro z3 NN)))
            clear z1 z2 z3 NN
            go_wp2_with (refine wpList_conv Try.underlying29 Try.underlying5 Try.underlying9 rfl _ rfl rfl HRD6.out ?_)
            go_wp2_with fail
            go_roundw
            case rel => exact ⟨i + 1, b2, _, _, rest, by omega, by go_num, rfl, rfl, by have := Z1.out.1; omega, Sh.mk Z1.out.2.1, Sh.mk Z1.out.2.2.1, H6, Sh.mk Z1.out.2.2.2, HB6.out⟩
            case measure => simp [intOf]; omega
        · have hir' : (n2 : Int) ≤ (i : Int) := by omega
          go_wp2_with (refine wpList_conv Try.underlying29 Try.underlying5 Try.underlying9 rfl _ rfl rfl HCV.out ?_)
          go_wp2_with fail
          refine (ou_base o g p z base false false _ w2 H2.out).mono ?_
          rintro e w3 ⟨rfl, rfl⟩
          have HSZ := Sh.mk H2.out.lt
          go_wp2_with fail
          refine (ou_bytes o g p z base false false (bs ++ new) base 7 _ H2.out (by have := hs3.out; omega) (by omega)).mono ?_
          rw [byL_base7]
          rintro e w4 ⟨v, rfl, hn4, b4⟩
          have H4 := Sh.mk (H2.out.into b4)
          have HB4 := Sh.mk (HBW2.out.trans (b4.mono HBW2.out.size))
          obtain ⟨A4, n4, c4, rfl, hc4, hl4, hrd4⟩ := hn4.out
          have HN4 := Sh.mk hn4
          have HRD4 := Sh.mk hrd4.out
          have HC4 := Sh.mk hc4
          have HL4 := Sh.mk hl4.out
          have hl5 := hl4.out
          rw [List.length_take, List.length_append, htk.out] at hl5
          have HL5 := Sh.mk hl5
          have hnm : n4 ≤ 7 := by omega
          have hnm' : (n4 : Int) ≤ 7 := by omega
          have HGL := Sh.mk (show ∀ x ∈ (bs ++ new).take 7, x < 256 from fun x hx => H2.out.bytes x (List.mem_of_mem_take hx))
          have hsb2 : so.size + (strN ((bs ++ new).take 7)).size ≤ 100000 := by
            have := strN_size ((bs ++ new).take 7)
            rw [hl4.out] at this
            have := hs2.out
            have := hs3.out
            omega
          have HTD := Sh.mk (take_drop_len (bs ++ new) 7 n4 HL4.out)
          obtain ⟨b2, hb2⟩ : ∃ b2, b2 = base + n4 := ⟨_, rfl⟩
          have HB2 := Sh.mk hb2
          clear hn4 b4 hrd4 hc4 hl5 hl4 H2 HBW2 hcell2 HCV hb2
          rcases (show n4 = 0 ∨ 0 < n4 by omega) with a | a
          · have k2 : decide ((0 : Int) < (n4 : Int)) = false := by simp; omega
            have k3 : decide (0 < n4) = false := by simp; omega
            have H6 : Sh (OU w4 o g p z b2 false false ((bs ++ new).drop n4)) := Sh.mk (by have := HB2.out; rw [a, List.drop_zero]; rw [show b2 = base by omega]; exact H4.out)
            have HB6 := Sh.mk HB4.out
            have HRD6 := Sh.mk HRD4.out
            clear H4 HB4 HRD4 HN4 a HSZ
            generalize hgot : (bs ++ new).take 7 = got at HGL HTD HRD6 hsb2 HL4
            generalize hrest : (bs ++ new).drop n4 = rest at H6 HTD
            clear hgot hrest
            have z1 : (si ++ strN new).size = si.size + k := by rw [ByteArray.size_append, strN_size, htk.out]
            have z2 : (so ++ strN got).size = b2 := by have := HB2.out; have := hs2.out; rw [ByteArray.size_append, strN_size, HL4.out]; omega
            have NN : nats (si ++ strN new) = nats (so ++ strN got) ++ rest := by rw [nats_append, nats_append, nats_strN _ hb256'.out, nats_strN _ HGL.out, hin.out, List.append_assoc, List.append_assoc, HTD.out]
            have z3 : b2 + rest.length = (si ++ strN new).size := by have := congrArg List.length NN; rw [nats_len, List.length_append, nats_len, z2] at this; exact this.symm
            have Z1 := Sh.mk (And.intro z1 (And.intro z2 (And.intro z3 NN)))
            clear z1 z2 z3 NN
            go_wp2_with (refine wpList_conv Try.underlying29 Try.underlying5 Try.underlying9 rfl _ rfl rfl HRD6.out ?_)
            go_wp2_with fail
            go_roundw
            case rel => exact ⟨i + 1, b2, _, _, rest, by omega, by go_num, rfl, rfl, by have := Z1.out.1; omega, Sh.mk Z1.out.2.1, Sh.mk Z1.out.2.2.1, H6, Sh.mk Z1.out.2.2.2, HB6.out⟩
            case measure => simp [intOf]; omega
          · have k2 : (0 : Int) < (n4 : Int) := by omega
            have k3 : 0 < n4 := by omega
            have hw6 : IntKind.u64.wrap (n4 : Int) = (n4 : Nat) := by rw [IntKind.wrap_u64]; omega
            have hw7 : (base : Int) + (n4 : Int) = (b2 : Nat) := by have := HB2.out; omega
            have hw8 : IntKind.u64.wrap (b2 : Int) = (b2 : Nat) := by have := hs3.out; have := HB2.out; rw [IntKind.wrap_u64]; omega
            clear a
            go_wp2_with fail
            refine (ou_base o g p z base false false _ w4 H4.out).mono ?_
            rintro e w5 ⟨rfl, rfl⟩
            go_wp2_with fail
            refine (ou_acked_yes o g p z base false (bs ++ new) b2 _ H4.out (by have := HB2.out; omega) (by have := HB2.out; have := HL5.out; rw [List.length_append, htk.out]; simp; omega) b2 (by have := HB2.out; have := HL5.out; rw [List.length_append, htk.out]; omega)).mono ?_
            rintro e w6 ⟨rfl, t6, h6⟩
            have hd : decide (base + (bs ++ new).length < b2) = false := decide_eq_false (by have := HB2.out; have := HL5.out; rw [List.length_append, htk.out]; omega)
            rw [hd, show b2 - base = n4 by have := HB2.out; omega] at h6
            have H6 := Sh.mk h6
            have HB6 := Sh.mk (HB4.out.trans (t6.below ho hg hp))
            have HRD6 := Sh.mk ((t6.nats HN4.out HSZ.out.1 HSZ.out.2.1 HSZ.out.2.2).rd.re HL4.out)
            clear h6 t6 hd H4 HB4 HRD4 HN4 HSZ hw7 k2 k3
            generalize hgot : (bs ++ new).take 7 = got at HGL HTD HRD6 hsb2 HL4
            generalize hrest : (bs ++ new).drop n4 = rest at H6 HTD
            clear hgot hrest
            have z1 : (si ++ strN new).size = si.size + k := by rw [ByteArray.size_append, strN_size, htk.out]
            have z2 : (so ++ strN got).size = b2 := by have := HB2.out; have := hs2.out; rw [ByteArray.size_append, strN_size, HL4.out]; omega
            have NN : nats (si ++ strN new) = nats (so ++ strN got) ++ rest := by rw [nats_append, nats_append, nats_strN _ hb256'.out, nats_strN _ HGL.out, hin.out, List.append_assoc, List.append_assoc, HTD.out]
            have z3 : b2 + rest.length = (si ++ strN new).size := by have := congrArg List.length NN; rw [nats_len, List.length_append, nats_len, z2] at this; exact this.symm
            have Z1 := Sh.mk (And.intro z1 (And.intro z2 (And.intro z3 NN)))
            clear z1 z2 z3 NN
            go_wp2_with (refine wpList_conv Try.underlying29 Try.underlying5 Try.underlying9 rfl _ rfl rfl HRD6.out ?_)
            go_wp2_with fail
            go_roundw
            case rel => exact ⟨i + 1, b2, _, _, rest, by omega, by go_num, rfl, rfl, by have := Z1.out.1; omega, Sh.mk Z1.out.2.1, Sh.mk Z1.out.2.2.1, H6, Sh.mk Z1.out.2.2.2, HB6.out⟩
            case measure => simp [intOf]; omega
    · obtain rfl : i = n := by omega
      go_wp2_with fail
      refine (ou_base o g p z base false false bs wr hou.out).mono ?_
      rintro e w3 ⟨rfl, rfl⟩
      go_wp2_with fail
      refine (ou_bytes o g p z base false false bs base (z : Int) _ hou.out (by have := hs3.out; omega) (by omega)).mono ?_
      rw [byL_base, List.take_of_length_le hou.out.sz.1]
      rintro e w4 ⟨v, rfl, hn4, b4⟩
      have H4 := Sh.mk (hou.out.into b4)
      have HB4 := Sh.mk (hbw.trans (b4.mono hbw.size))
      obtain ⟨A4, n4, c4, rfl, hc4, hl4, hrd4⟩ := hn4.out
      have HRD4 := Sh.mk hrd4.out
      have HC4 := Sh.mk hc4
      have hbs := hou.out.bytes
      have EE : so ++ strN bs = si := nats_inj (by rw [nats_append, nats_strN _ hbs, hin.out])
      have hsb2 : so.size + (strN bs).size ≤ 100000 := by
        have := strN_size bs
        have := hs2.out
        have := hs3.out
        omega
      have hw9 : IntKind.u64.wrap (si.size : Int) = (si.size : Nat) := by rw [IntKind.wrap_u64]; omega
      clear hn4 b4 hrd4 hc4 hou hbw hbs
      go_wp2_with (refine wpList_conv Try.underlying29 Try.underlying5 Try.underlying9 rfl _ rfl rfl HRD4.out ?_)
      go_wp2_with fail
      have HE := ou_end o g p z base false false bs w4 H4.out
      rw [hs3.out] at HE
      refine HE.mono ?_
      rintro e w5 ⟨rfl, q, hq⟩
      have HB5 := Sh.mk (hq ▸ below_drewN HB4.out q : Below w.heap.size w w5)
      clear HE hq
      go_wp2_with fail
      refine (alive17 w5).mono ?_
      rintro e w6 ⟨rfl, hb6⟩
      go_wp2_with fail
      go_ret
      exact ⟨rfl, HB5.out.trans (hb6.mono HB5.out.size)⟩
end Go.Proofs.Ytmkjclgdiikjdaa
