/- Layer 2, PackBack: the law answers true, and nothing that was there has turned. -/
import Derived.Test.YtnnhndgeedlpgaaLawPG
import Derived.Test.YtnnhndgeedlpgaaOpenF
import Derived.Test.YtnnhndgeedlpgaaUnd2
import Derived.Test.YtnnhndgeedlpgaaOwn
namespace Go.Proofs.Ytnnhndgeedlpgaa
open Go.RowKit
set_option linter.unusedVariables false

theorem pelI : El Try.prog 39 3 (.int .i64 0) 1 8 := ⟨Try.underlying39, by kernel_rfl, rfl, by omega, by omega⟩
/-- What is put is cut. -/
theorem be_take (l : List (Int × Nat)) : ∀ behind : List Nat, (∀ p ∈ l, 1 ≤ p.1 ∧ p.1 ≤ 8) → cut (fbs l ++ behind) (l.map (·.1)) = some (l.map fun p => p.2 % 256 ^ p.1.toNat, behind) := by
  induction l with
  | nil => intro b _; simp [fbs, cut]
  | cons p l ih =>
    intro b h
    have hp := h p (by simp)
    have ho : okS p.1 = true := by simp [okS]; omega
    have e : fbs (p :: l) ++ b = be p.2 p.1.toNat ++ (fbs l ++ b) := by simp [fbs, ho]
    rw [e, List.map_cons, cut, if_pos (by rw [ho]; simp [be_len]), List.drop_left' (be_len _ _), List.take_left' (be_len _ _), ih b fun q hq => h q (by simp [hq]), ub_be]
    rfl

set_option maxRecDepth 100000 in
set_option maxHeartbeats 2000000 in
theorem packBack_walk (C : Option Addr) (k d : Nat) (l : List (Int × Nat)) (A : Option Addr) (m c : Nat) (lb : List Nat) (w : World)
    (hs : Rd w w.heap.size 2 C k (fs l)) (hkd : k ≤ d) (hmax2 : d ≤ maxLen) (hl : ∀ p ∈ l, (-9223372036854775808 ≤ p.1 ∧ p.1 < 9223372036854775808) ∧ p.2 < 18446744073709551616)
    (hr : Rd w w.heap.size 1 A m (ns .u8 lb)) (hmc : m ≤ c) (hmax : c ≤ maxLen) (hb : ∀ x ∈ lb, x < 256) :
    Calls Try.prog 5 #[.slice C k d, .slice A m c] w fun e w' => e = .returned (.bool true) ∧ Below w.heap.size w w' := by
  have HR := Lib.hid hr; have HB := Lib.hid hb; have HS := Lib.hid hs; have HL := Lib.hid hl; have HLB := Lib.hid hr.natLen; have HLL := Lib.hid hs.fldLen
  clear hr hb hs hl
  unfold maxLen at hmax hmax2
  by_cases hk : 100 < k
  · go_enter Try.func5, Try.ntmps5
    go_wp2_with fail
    go_ret
    exact ⟨rfl, Below.refl _ _⟩
  by_cases hm : 4096 < m
  · go_enter Try.func5, Try.ntmps5
    go_wp2_with fail
    go_ret
    exact ⟨rfl, Below.refl _ _⟩
  have hK : k ≤ 100 := by omega
  have hM : m ≤ 4096 := by omega
  have hm2 : decide ((4096 : Int) < (m : Int)) = false := by simp; omega
  have hk2 : decide ((100 : Int) < (k : Int)) = false := by simp; omega
  clear hmax hmax2 hk hm
  go_enter Try.func5, Try.ntmps5
  go_wp2_with fail
  go_loopw [5, 6] (fun v i wr => ∃ j : Nat, j ≤ k ∧ i = .int .i64 j ∧ Zats wr 3 .i64 w.heap.size v ((l.take j).map (·.1)) ∧ Hid (∀ p ∈ l.take j, 1 ≤ p.1 ∧ p.1 ≤ 8) ∧ Below w.heap.size w wr) (fun _ i _ => k - (intOf i).toNat)
  case atStart => exact ⟨0, Nat.zero_le _, rfl, by simpa using Zats.nil _ _ _ _, Lib.hid (by simp), Below.refl _ _⟩
  case round =>
    obtain ⟨j, hj, rfl, h2, hok, hb2⟩ := hrel
    by_cases hlt : j < k
    · obtain ⟨bb, off, s, x, rfl, hbk, hc1, hc2, hx⟩ := (HS.out.below hb2).fld hlt
      have h0 : (0 : Int) ≤ (j : Int) := by omega
      have h3 : (j : Int) < (k : Int) := by omega
      by_cases h4 : s < 1
      · go_wp2_with fail
        go_ret
        exact ⟨rfl, hb2⟩
      · by_cases h5 : 8 < s
        · go_wp2_with fail
          go_ret
          exact ⟨rfl, hb2⟩
        · have h6 : decide (8 < s) = false := by simp; omega
          have h7 : decide (s < 1) = false := by simp; omega
          have HOK : Hid (∀ p ∈ l.take (j + 1), 1 ≤ p.1 ∧ p.1 ≤ 8) := Lib.hid (by rw [nth_take hx]; intro p hp; rcases List.mem_append.1 hp with hp | hp <;> first | exact hok.out p hp | (simp at hp; subst hp; simp only []; omega))
          clear h4 h5
          go_wp2_with (at_builtin; go_must (refine app1z pelI s rfl _ _ rfl rfl h2 rfl rfl ?_ ?_ ?_))
          · have := List.length_take_le j l; simp; exact room_ge (by omega)
          · exact hb2.size
          intro v3 w3 h3 _ hb3
          go_wp2_with fail
          go_roundw
          case rel => exact ⟨j + 1, by omega, by go_num, by rw [nth_take hx]; simpa using h3, HOK, hb2.trans hb3⟩
          case measure => simp [intOf]; omega
    · have hj : j = k := by omega
      subst hj
      rw [List.take_of_length_le (by have := HLL.out; omega)] at h2 hok
      have H64 : Hid (∀ p ∈ l, p.2 < 18446744073709551616) := Lib.hid fun p hp => (HL.out p hp).2
      have HFZ := Lib.hid (fsz_le l)
      go_wp2_with fail
      refine (pput_any none C 0 j 0 d [] l wr (Rd.nil _ _ _ _) (HS.out.into hb2) (by omega) H64.out).mono ?_
      rintro e w3 ⟨v3, rfl, h3, hb3⟩
      rw [List.nil_append] at h3
      have hbl3 := hb2.trans (hb3.mono hb2.size)
      have hfl := fbs_len l
      have hszw : wr.heap.size ≤ w3.heap.size := hb3.size
      go_wp2_with (at_builtin; go_must (refine appn pel8 rfl _ _ rfl rfl h3 rfl (HR.out.below hbl3) ?_ ?_ ?_))
      · have e1 := HLB.out; have e2 := HFZ.out; have e3 := HLL.out; exact room_ge (by omega)
      · exact hszw
      intro v4 w4 h4 _ hb4
      have hb4 := hb3.trans hb4
      have hbl4 := hb2.trans (hb4.mono hb2.size)
      have h2 := h2.below hb4
      obtain ⟨AS, nS, cS, rfl, hcS, hnS, hrS⟩ := h2.out
      obtain ⟨AB, nB, cB, rfl, hcB, hnB, hrB⟩ := h4.out
      have HCUT : Hid (cut (fbs l ++ lb) (l.map (·.1)) = some (l.map fun p => p.2 % 256 ^ p.1.toNat, lb)) := Lib.hid (be_take l lb hok.out)
      have hnBm : nB ≤ 10000 := by have e0 := hnB.out; have e1 := HLB.out; have e2 := HFZ.out; have e3 := HLL.out; rw [List.length_append] at e0; omega
      have hnSm : nS = j := by have e0 := hnS.out; rw [List.length_map, HLL.out] at e0; exact e0.symm
      subst hnSm
      have HBB : Hid (∀ x ∈ fbs l ++ lb, x < 256) := Lib.hid (by
        intro x hx
        rcases List.mem_append.1 hx with hx | hx
        · simp only [fbs, List.mem_flatMap] at hx
          obtain ⟨p, _, hp⟩ := hx
          split at hp
          · exact be_byte _ _ x hp
          · simp at hp
        · exact HB.out x hx)
      have HP := Lib.hid (pget_any AB AS nB nS cB cS (fbs l ++ lb) (l.map (·.1)) w4 hrB.out hrS.out hcB HBB.out (by omega) (by omega))
      clear h2 h3 hb3 hbl3 hfl hszw h4
      go_wp2_with fail
      refine HP.out.mono ?_
      clear HP
      rintro e w5 ⟨hb5, hc5⟩
      obtain ⟨xs, rest, v5, u5, hcut, rfl, hv5, hu5, hle⟩ := hc5.resolve_right (fun h => by have := HCUT.out.symm.trans h.1; cases this)
      obtain ⟨hx1, hx2⟩ : (l.map fun p => p.2 % 256 ^ p.1.toNat) = xs ∧ lb = rest := by have := HCUT.out.symm.trans hcut; injection this with this; injection this with a b; exact ⟨a, b⟩
      subst hx1 hx2
      clear hcut
      have hbl5 := hbl4.trans (hb5.mono hbl4.size)
      have HV := Lib.hid hv5; have HU := Lib.hid hu5
      obtain ⟨AV, nV, cV, rfl, hcV, hnV, hrV⟩ := hv5.out
      obtain ⟨AU, nU, cU, rfl, hcU, hnU, hrU⟩ := hu5.out
      obtain rfl : nU = m := by have := hnU.out; rw [HLB.out] at this; exact this.symm
      obtain rfl : nV = nS := by have := hnV.out; rw [List.length_map, HLL.out] at this; exact this.symm
      have HSELF := strN_self lb
      have hrA := Lib.hid ((HR.out.below hbl5).mono hbl5.size)
      clear hv5 hu5
      go_wp2_with (first | refine wpList_conv Try.underlying22 Try.underlying5 Try.underlying9 rfl _ rfl rfl hrU.out ?_ | refine wpList_conv Try.underlying22 Try.underlying5 Try.underlying9 rfl _ rfl rfl hrA.out ?_)
      go_loopw [11] (fun i wq => ∃ (t : Nat) (ys : List Nat), t ≤ nU ∧ i = .int .i64 t ∧ Hid (∀ x ∈ ys, x < 256) ∧ Hid (Nats wq 5 .u8 w4.heap.size (.slice AU nU cU) ys) ∧ Hid (Nats wq 24 .u64 w4.heap.size (.slice AV nV cV) (l.map fun p => p.2 % 256 ^ p.1.toNat)) ∧ Below w4.heap.size w4 wq) (fun i _ => nU - (intOf i).toNat)
      case atStart => exact ⟨0, lb, Nat.zero_le _, rfl, HB, HU, HV, hb5⟩
      case round =>
        obtain ⟨t, ys, ht, rfl, hys, hu, hv, hbq⟩ := hrel
        clear HU HV hrU hrV hb5
        by_cases hlt2 : t < nU
        · obtain ⟨g, x, rfl, hg, hcell, hfro, hx, hset, hfar⟩ := hu.out.cellw hlt2
          have HXOR : Hid (bits .xor .u8 (x : Int) 255 = ((x ^^^ 255 : Nat) : Int)) := Lib.hid (u8_xor_nat x 255 (hys.out x (nth_mem hx)) (by omega))
          have h0 : (0 : Int) ≤ (t : Int) := by omega
          have h3 : (t : Int) < (nU : Int) := by omega
          have HY : Hid (∀ z ∈ ys.set t (x ^^^ 255), z < 256) := Lib.hid (by
            intro z hz
            rcases List.mem_or_eq_of_mem_set hz with h | h
            · exact hys.out z h
            · subst h; exact Nat.xor_lt_two_pow (n := 8) (hys.out x (nth_mem hx)) (by omega))
          have HAP := Lib.hid (hv.out.apart hu.out (by decide) rfl)
          go_wp2_with fail
          go_roundw
          case rel => exact ⟨t + 1, _, by omega, by go_num, HY, Lib.hid (by rw [HXOR.out]; exact hset.out _), Lib.hid (hv.out.kept fun j hj => hfar.out _ j (HAP.out j hj)), hbq.setCell hg _⟩
          case measure => simp [intOf]; omega
        · have ht2 : t = nU := by omega
          subst ht2
          have hbl6 := hbl4.trans (hbq.mono hbl4.size)
          have hrV := Lib.hid (hv.out.rd.re (by rw [List.length_map, HLL.out]))
          clear hu hv hys
          go_wp2_with fail
          go_loop [12, 13] (fun i _ => ∃ q : Nat, q ≤ nV ∧ i = .int .i64 q) (fun i _ => nV - (intOf i).toNat)
          case atStart => exact ⟨0, Nat.zero_le _, rfl⟩
          case round =>
            obtain ⟨q, hq, rfl⟩ := hrel
            by_cases hlt3 : q < nV
            · obtain ⟨bb, off, s, x, rfl, hbk, hc1, hc2, hx⟩ := (HS.out.below hbl6).fld hlt3
              obtain ⟨b2, o2, y, rfl, hb2k, hcy, hy⟩ := hrV.out.nth hlt3
              have hy2 : y = x % 256 ^ s.toNat := by have e1 := hy.out; rw [List.getElem?_map, hx.out] at e1; simp at e1; exact e1.symm
              have hs18 := hok.out _ (nth_mem hx)
              have hx64 := (HL.out _ (nth_mem hx)).2
              have hx64 : x < 18446744073709551616 := hx64
              have h0 : (0 : Int) ≤ (q : Int) := by omega
              have h3 : (q : Int) < (nV : Int) := by omega
              have hcs : s = 1 ∨ s = 2 ∨ s = 3 ∨ s = 4 ∨ s = 5 ∨ s = 6 ∨ s = 7 ∨ s = 8 := by have h8 : 1 ≤ s ∧ s ≤ 8 := hs18; omega
              have HX64 := Lib.hid hx64
              clear hs18 hx64 hy
              rcases hcs with rfl | rfl | rfl | rfl | rfl | rfl | rfl | rfl
              · have hy3 : ((y : Nat) : Int) = ((x : Int) % 256) := by have e1 := HX64.out; simp at hy2; omega
                rw [hy3] at hcy
                have hq3 : (((x : Int) % 256) != ((x : Int) % 256)) = false := by simp
                clear hy2 hy3
                go_wp2_with fail
                go_round
                case rel => exact ⟨q + 1, by omega, by go_num⟩
                case measure => simp [intOf]; omega
              · have hy3 : ((y : Nat) : Int) = ((x : Int) % 65536) := by have e1 := HX64.out; simp at hy2; omega
                rw [hy3] at hcy
                have hq3 : (((x : Int) % 65536) != ((x : Int) % 65536)) = false := by simp
                clear hy2 hy3
                go_wp2_with fail
                go_round
                case rel => exact ⟨q + 1, by omega, by go_num⟩
                case measure => simp [intOf]; omega
              · have hy3 : ((y : Nat) : Int) = ((x : Int) % 16777216) := by have e1 := HX64.out; simp at hy2; omega
                rw [hy3] at hcy
                have hq3 : (((x : Int) % 16777216) != ((x : Int) % 16777216)) = false := by simp
                clear hy2 hy3
                go_wp2_with fail
                go_round
                case rel => exact ⟨q + 1, by omega, by go_num⟩
                case measure => simp [intOf]; omega
              · have hy3 : ((y : Nat) : Int) = ((x : Int) % 4294967296) := by have e1 := HX64.out; simp at hy2; omega
                rw [hy3] at hcy
                have hq3 : (((x : Int) % 4294967296) != ((x : Int) % 4294967296)) = false := by simp
                clear hy2 hy3
                go_wp2_with fail
                go_round
                case rel => exact ⟨q + 1, by omega, by go_num⟩
                case measure => simp [intOf]; omega
              · have hy3 : ((y : Nat) : Int) = ((x : Int) % 1099511627776) := by have e1 := HX64.out; simp at hy2; omega
                rw [hy3] at hcy
                have hq3 : (((x : Int) % 1099511627776) != ((x : Int) % 1099511627776)) = false := by simp
                clear hy2 hy3
                go_wp2_with fail
                go_round
                case rel => exact ⟨q + 1, by omega, by go_num⟩
                case measure => simp [intOf]; omega
              · have hy3 : ((y : Nat) : Int) = ((x : Int) % 281474976710656) := by have e1 := HX64.out; simp at hy2; omega
                rw [hy3] at hcy
                have hq3 : (((x : Int) % 281474976710656) != ((x : Int) % 281474976710656)) = false := by simp
                clear hy2 hy3
                go_wp2_with fail
                go_round
                case rel => exact ⟨q + 1, by omega, by go_num⟩
                case measure => simp [intOf]; omega
              · have hy3 : ((y : Nat) : Int) = ((x : Int) % 72057594037927936) := by have e1 := HX64.out; simp at hy2; omega
                rw [hy3] at hcy
                have hq3 : (((x : Int) % 72057594037927936) != ((x : Int) % 72057594037927936)) = false := by simp
                clear hy2 hy3
                go_wp2_with fail
                go_round
                case rel => exact ⟨q + 1, by omega, by go_num⟩
                case measure => simp [intOf]; omega
              · have hy3 : ((y : Nat) : Int) = (x : Int) := by have e1 := HX64.out; simp at hy2; omega
                rw [hy3] at hcy
                have hq3 : ((x : Int) != (x : Int)) = false := by simp
                clear hy2 hy3
                go_wp2_with fail
                go_round
                case rel => exact ⟨q + 1, by omega, by go_num⟩
                case measure => simp [intOf]; omega
            · have hq2 : q = nV := by omega
              subst hq2
              obtain ⟨F, hF⟩ : ∃ F, F = fsz l := ⟨_, rfl⟩
              have hnF : nB = F + t := by have e0 := hnB.out; rw [List.length_append, fbs_len, HLB.out] at e0; omega
              have hF8 : F ≤ 2000 := by have e2 := HFZ.out; have e3 := HLL.out; omega
              have hFl : (fbs l).length = F := by rw [fbs_len, hF]
              have HRB := hrB.out.into hbq
              have HD := HRB.dropN (m := F) (cap := cB) (by omega) hcB
              rw [List.drop_left' hFl] at HD
              clear HRB hF hFl
              have hsub : (nB : Int) - (t : Int) = ((F : Nat) : Int) := by omega
              have hwf : IntKind.i64.wrap ((F : Nat) : Int) = ((F : Nat) : Int) := IntWalk.i64_in _ (by omega)
              have s1 : (0 : Int) ≤ (F : Int) := by omega
              have s2 : (F : Int) ≤ (nB : Int) := by omega
              have s3 : (F : Int) ≤ (cB : Int) := by omega
              have HNF := Lib.hid hnF
              clear hnF
              by_cases hck : cB = F
              · subst hck
                rw [if_pos rfl, show nB - cB = 0 by omega] at HD
                have HD := Lib.hid HD
                go_wp2_with fail
                refine wp_opend [([0, 1, 2, 3, 4, 5, 6, 7, 8, 9, 10, 11], some 12), ([13, 14], none)] (by kernel_rfl) (by kernel_rfl) (by kernel_rfl) (fun QQ hQ wd hwd => ?_)
                have hbd := hbl6.trans (drawn_below hwd _)
                have hsz := drawn_size hwd
                have HD := Lib.hid ((HD.out.drawn hwd).mono (Nat.le_of_eq hsz.symm))
                refine walkS_sole fun R hR => ?_
                simp only [List.map_cons, List.map_nil, List.getD_cons_zero, List.getD_cons_succ]
                (repeat (first | (refine qskip (by rfl) ?_; simp only [Act.put, List.setIfInBounds_toArray, List.set_cons_zero, List.set_cons_succ]) | (refine qstep (by rfl) (fun K hK => qval (v := ?_) (fun w' hx => ?_) (hK _ ?_)); rotate_left; (go_simp; with_reducible rfl); clear hK K; (try simp only [Act.put, List.setIfInBounds_toArray, List.set_cons_zero, List.set_cons_succ])) | (refine qstep (by rfl) (fun K hK => qload _ rfl rfl (by assumption) (by kernel_rfl) (hK _ ?_)); clear hK K; simp only [Act.put, List.setIfInBounds_toArray, List.set_cons_zero, List.set_cons_succ])))
                refine qstep (by rfl) (fun K hK => qconv Try.underlying22 Try.underlying5 Try.underlying9 _ rfl rfl (HD.out) (Nat.le_refl _) (hK _ ?_)); clear hK K; simp only [Act.put, List.setIfInBounds_toArray, List.set_cons_zero, List.set_cons_succ]
                (repeat (first | (refine qskip (by rfl) ?_; simp only [Act.put, List.setIfInBounds_toArray, List.set_cons_zero, List.set_cons_succ]) | (refine qstep (by rfl) (fun K hK => qval (v := ?_) (fun w' hx => ?_) (hK _ ?_)); rotate_left; (go_simp; with_reducible rfl); clear hK K; (try simp only [Act.put, List.setIfInBounds_toArray, List.set_cons_zero, List.set_cons_succ])) | (refine qstep (by rfl) (fun K hK => qload _ rfl rfl (by assumption) (by kernel_rfl) (hK _ ?_)); clear hK K; simp only [Act.put, List.setIfInBounds_toArray, List.set_cons_zero, List.set_cons_succ])))
                refine qstep (by rfl) (fun K hK => qconv Try.underlying22 Try.underlying5 Try.underlying9 _ rfl rfl (((HR.out.below hbd).mono hbd.size)) (Nat.le_refl _) (hK _ ?_)); clear hK K; simp only [Act.put, List.setIfInBounds_toArray, List.set_cons_zero, List.set_cons_succ]
                (repeat (first | (refine qskip (by rfl) ?_; simp only [Act.put, List.setIfInBounds_toArray, List.set_cons_zero, List.set_cons_succ]) | (refine qstep (by rfl) (fun K hK => qval (v := ?_) (fun w' hx => ?_) (hK _ ?_)); rotate_left; (go_simp; with_reducible rfl); clear hK K; (try simp only [Act.put, List.setIfInBounds_toArray, List.set_cons_zero, List.set_cons_succ])) | (refine qstep (by rfl) (fun K hK => qload _ rfl rfl (by assumption) (by kernel_rfl) (hK _ ?_)); clear hK K; simp only [Act.put, List.setIfInBounds_toArray, List.set_cons_zero, List.set_cons_succ])))
                refine wpQuiet_nil ?_
                intro K hK
                go_wp2_with fail
                refine (alive02 wd).mono ?_
                rintro e w9 ⟨rfl, hb9⟩
                have hbl9 := hbd.trans (hb9.mono hbd.size)
                go_wp2_with fail
                refine hK _ _ (Ext.of hb9) (hR.out _ _ ?_); clear hR hK R K
                refine walkS_last ?_; simp only [List.map_cons, List.map_nil, List.getD_cons_zero, List.getD_cons_succ]; (repeat (first | (refine qskip (by rfl) ?_; simp only [Act.put, List.setIfInBounds_toArray, List.set_cons_zero, List.set_cons_succ]) | (refine qstep (by rfl) (fun K hK => qval (v := ?_) (fun w' hx => ?_) (hK _ ?_)); rotate_left; (go_simp; with_reducible rfl); clear hK K; (try simp only [Act.put, List.setIfInBounds_toArray, List.set_cons_zero, List.set_cons_succ])) | (refine qstep (by rfl) (fun K hK => qload _ rfl rfl (by assumption) (by kernel_rfl) (hK _ ?_)); clear hK K; simp only [Act.put, List.setIfInBounds_toArray, List.set_cons_zero, List.set_cons_succ]))); refine wpQuiet_nil (hQ.out _ _ ?_); clear hQ
                go_wp2_with fail
                go_ret
                exact ⟨rfl, hbl9⟩
              · rw [if_neg hck] at HD
                have HD := Lib.hid HD
                go_wp2_with fail
                refine wp_opend [([0, 1, 2, 3, 4, 5, 6, 7, 8, 9, 10, 11], some 12), ([13, 14], none)] (by kernel_rfl) (by kernel_rfl) (by kernel_rfl) (fun QQ hQ wd hwd => ?_)
                have hbd := hbl6.trans (drawn_below hwd _)
                have hsz := drawn_size hwd
                have HD := Lib.hid ((HD.out.drawn hwd).mono (Nat.le_of_eq hsz.symm))
                refine walkS_sole fun R hR => ?_
                simp only [List.map_cons, List.map_nil, List.getD_cons_zero, List.getD_cons_succ]
                (repeat (first | (refine qskip (by rfl) ?_; simp only [Act.put, List.setIfInBounds_toArray, List.set_cons_zero, List.set_cons_succ]) | (refine qstep (by rfl) (fun K hK => qval (v := ?_) (fun w' hx => ?_) (hK _ ?_)); rotate_left; (go_simp; with_reducible rfl); clear hK K; (try simp only [Act.put, List.setIfInBounds_toArray, List.set_cons_zero, List.set_cons_succ])) | (refine qstep (by rfl) (fun K hK => qload _ rfl rfl (by assumption) (by kernel_rfl) (hK _ ?_)); clear hK K; simp only [Act.put, List.setIfInBounds_toArray, List.set_cons_zero, List.set_cons_succ])))
                refine qstep (by rfl) (fun K hK => qconv Try.underlying22 Try.underlying5 Try.underlying9 _ rfl rfl (HD.out) (Nat.le_refl _) (hK _ ?_)); clear hK K; simp only [Act.put, List.setIfInBounds_toArray, List.set_cons_zero, List.set_cons_succ]
                (repeat (first | (refine qskip (by rfl) ?_; simp only [Act.put, List.setIfInBounds_toArray, List.set_cons_zero, List.set_cons_succ]) | (refine qstep (by rfl) (fun K hK => qval (v := ?_) (fun w' hx => ?_) (hK _ ?_)); rotate_left; (go_simp; with_reducible rfl); clear hK K; (try simp only [Act.put, List.setIfInBounds_toArray, List.set_cons_zero, List.set_cons_succ])) | (refine qstep (by rfl) (fun K hK => qload _ rfl rfl (by assumption) (by kernel_rfl) (hK _ ?_)); clear hK K; simp only [Act.put, List.setIfInBounds_toArray, List.set_cons_zero, List.set_cons_succ])))
                refine qstep (by rfl) (fun K hK => qconv Try.underlying22 Try.underlying5 Try.underlying9 _ rfl rfl (((HR.out.below hbd).mono hbd.size)) (Nat.le_refl _) (hK _ ?_)); clear hK K; simp only [Act.put, List.setIfInBounds_toArray, List.set_cons_zero, List.set_cons_succ]
                (repeat (first | (refine qskip (by rfl) ?_; simp only [Act.put, List.setIfInBounds_toArray, List.set_cons_zero, List.set_cons_succ]) | (refine qstep (by rfl) (fun K hK => qval (v := ?_) (fun w' hx => ?_) (hK _ ?_)); rotate_left; (go_simp; with_reducible rfl); clear hK K; (try simp only [Act.put, List.setIfInBounds_toArray, List.set_cons_zero, List.set_cons_succ])) | (refine qstep (by rfl) (fun K hK => qload _ rfl rfl (by assumption) (by kernel_rfl) (hK _ ?_)); clear hK K; simp only [Act.put, List.setIfInBounds_toArray, List.set_cons_zero, List.set_cons_succ])))
                refine wpQuiet_nil ?_
                intro K hK
                go_wp2_with fail
                refine (alive02 wd).mono ?_
                rintro e w9 ⟨rfl, hb9⟩
                have hbl9 := hbd.trans (hb9.mono hbd.size)
                go_wp2_with fail
                refine hK _ _ (Ext.of hb9) (hR.out _ _ ?_); clear hR hK R K
                refine walkS_last ?_; simp only [List.map_cons, List.map_nil, List.getD_cons_zero, List.getD_cons_succ]; (repeat (first | (refine qskip (by rfl) ?_; simp only [Act.put, List.setIfInBounds_toArray, List.set_cons_zero, List.set_cons_succ]) | (refine qstep (by rfl) (fun K hK => qval (v := ?_) (fun w' hx => ?_) (hK _ ?_)); rotate_left; (go_simp; with_reducible rfl); clear hK K; (try simp only [Act.put, List.setIfInBounds_toArray, List.set_cons_zero, List.set_cons_succ])) | (refine qstep (by rfl) (fun K hK => qload _ rfl rfl (by assumption) (by kernel_rfl) (hK _ ?_)); clear hK K; simp only [Act.put, List.setIfInBounds_toArray, List.set_cons_zero, List.set_cons_succ]))); refine wpQuiet_nil (hQ.out _ _ ?_); clear hQ
                go_wp2_with fail
                go_ret
                exact ⟨rfl, hbl9⟩
end Go.Proofs.Ytnnhndgeedlpgaa
