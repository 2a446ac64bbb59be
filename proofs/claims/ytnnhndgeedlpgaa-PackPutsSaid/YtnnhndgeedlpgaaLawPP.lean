/- Layer 2, PackPuts: the law answers true, and nothing that was there has turned. -/
import Derived.Test.YtnnhndgeedlpgaaPk8
import Derived.Test.YtnnhndgeedlpgaaOpenF
import Derived.Test.YtnnhndgeedlpgaaUnd2
namespace Go.Proofs.Ytnnhndgeedlpgaa
open Go.RowKit
set_option linter.unusedVariables false

theorem be_mod (k : Nat) : ∀ n, be (n % 256 ^ k) k = be n k := by
  induction k with
  | zero => intro n; rfl
  | succ k ih =>
    intro n
    rw [be, be, ← ih (n % 256 ^ (k + 1) / 256), ← ih (n / 256), Nat.pow_succ', Nat.mod_mul_right_div_self, Nat.mod_mod, Nat.mod_mul_right_mod]

theorem fbs4 (n : Nat) : fbs [(1, n % 256), (2, n % 65536), (4, n % 4294967296), (8, n)] = [] ++ be n 1 ++ be n 2 ++ be n 4 ++ be n 8 := by
  have h1 := be_mod 1 n; have h2 := be_mod 2 n; have h4 := be_mod 4 n
  simp only [Nat.reducePow] at h1 h2 h4
  simp only [fbs, List.flatMap_cons, List.flatMap_nil, okS, List.nil_append, List.append_nil, List.append_assoc]
  rw [← h1, ← h2, ← h4]
  simp

set_option maxRecDepth 100000 in
set_option maxHeartbeats 2000000 in
theorem packPuts_walk (A : Option Addr) (m c : Nat) (lb : List Nat) (C : Option Addr) (k d : Nat) (l : List (Int × Nat)) (n0 : Int) (w : World)
    (hr : Rd w w.heap.size 1 A m (ns .u8 lb)) (hmc : m ≤ c) (hmax : c ≤ maxLen) (hb : ∀ x ∈ lb, x < 256)
    (hs : Rd w w.heap.size 2 C k (fs l)) (hkd : k ≤ d) (hmax2 : d ≤ maxLen) (hl : ∀ p ∈ l, (-9223372036854775808 ≤ p.1 ∧ p.1 < 9223372036854775808) ∧ p.2 < 18446744073709551616) (hn0 : (Lit.int .u64 n0).wf = true) :
    Calls Try.prog 3 #[.slice A m c, .slice C k d, .int .u64 n0] w fun e w' => e = .returned (.bool true) ∧ Below w.heap.size w w' := by
  obtain ⟨n, rfl⟩ : ∃ n : Nat, n0 = (n : Int) := ⟨n0.toNat, by have := bounds_u64 hn0; omega⟩
  have hn64 : n < 18446744073709551616 := by have := bounds_u64 hn0; omega
  have HR := Lib.hid hr; have HB := Lib.hid hb; have HS := Lib.hid hs; have HL := Lib.hid hl; have HLB := Lib.hid hr.natLen; have HLL := Lib.hid hs.fldLen
  have HN := Lib.hid hn64
  clear hr hb hs hl hn64 hn0
  unfold maxLen at hmax hmax2
  by_cases hk : 200 < k
  · go_enter Try.func3, Try.ntmps3
    go_wp2_with fail
    go_ret
    exact ⟨rfl, Below.refl _ _⟩
  by_cases hm : 4096 < m
  · go_enter Try.func3, Try.ntmps3
    go_wp2_with fail
    go_ret
    exact ⟨rfl, Below.refl _ _⟩
  have hK : k ≤ 200 := by omega
  have hM : m ≤ 4096 := by omega
  have hm2 : decide ((4096 : Int) < (m : Int)) = false := by simp; omega
  have hk2 : decide ((200 : Int) < (k : Int)) = false := by simp; omega
  clear hmax hmax2 hk hm
  go_enter Try.func3, Try.ntmps3
  go_wp2_with (at_builtin; go_must (refine appn pel8 rfl _ _ rfl rfl (Nats.lit0 (B := w.heap.size) w 5 .u8 (Nat.le_refl _)) rfl (HR.out.alloc (Nat.le_refl _) _) ?_ ?_ ?_))
  · have := HLB.out; simp; exact room_ge (by omega)
  · simp
  intro v1 w1 h1 _ hb1
  have hbl1 : Below w.heap.size w w1 := ((Below.refl _ _).alloc (Nat.le_refl _) _).trans hb1
  clear hb1
  go_wp2_with fail
  go_loopw [7, 8] (fun v i wr => ∃ j : Nat, j ≤ k ∧ i = .int .i64 j ∧ Nats wr 5 .u8 w.heap.size v (lb ++ fbs (l.take j)) ∧ Below w.heap.size w wr) (fun _ i _ => k - (intOf i).toNat)
  case atStart => exact ⟨0, Nat.zero_le _, rfl, by simpa [fbs] using h1, hbl1⟩
  case round =>
    obtain ⟨j, hj, rfl, h2, hb2⟩ := hrel
    clear h1 hbl1
    by_cases hlt : j < k
    · obtain ⟨bb, off, s, x, rfl, hbk, hc1, hc2, hx⟩ := (HS.out.below hb2).fld hlt
      have h0 : (0 : Int) ≤ (j : Int) := by omega
      have h3 : (j : Int) < (k : Int) := by omega
      have HX := Lib.hid (HL.out _ (nth_mem hx)).2
      have hT := fbs_snoc (l.take j) (s, x)
      rw [← nth_take hx] at hT
      have hlen := fsz_le (l.take j)
      rw [← fbs_len] at hlen
      have hlj : (l.take j).length ≤ j := List.length_take_le _ _
      by_cases h4 : s < 1
      · have ho : okS s = false := by simp [okS]; omega
        rw [ho] at hT
        have HT := Lib.hid hT
        clear ho hT
        go_wp2_with fail
        go_roundw
        case rel => exact ⟨j + 1, by omega, by go_num, by rw [HT.out]; simpa using h2, hb2⟩
        case measure => simp [intOf]; omega
      · obtain ⟨t, rfl⟩ : ∃ t : Nat, s = (t : Int) := ⟨s.toNat, by omega⟩
        by_cases h5 : 8 < t
        · have ho : okS (t : Int) = false := by simp [okS]; omega
          rw [ho] at hT
          have HT := Lib.hid hT
          have h6 : decide ((t : Int) ≤ 8) = false := by simp; omega
          clear ho hT
          go_wp2_with fail
          go_roundw
          case rel => exact ⟨j + 1, by omega, by go_num, by rw [HT.out]; simpa using h2, hb2⟩
          case measure => simp [intOf]; omega
        · have ho : okS (t : Int) = true := by simp [okS]; omega
          rw [ho] at hT
          have HT := Lib.hid hT
          have h6 : (t : Int) ≤ 8 := by omega
          have h7 : 1 ≤ (t : Int) := by omega
          clear ho hT
          go_wp2_with fail
          refine U.wp_opend (B := w.heap.size) [([0, 1, 2, 3, 4, 5, 6, 7, 8, 9, 10], some 11), ([12], none)] (by kernel_rfl) (by kernel_rfl) (by kernel_rfl) (fun QQ hQ wd hwd => ?_)
          have hc1' : wd.cell? ⟨bb, off + j * 2, none⟩ = some (.int .i64 (t : Int)) := by rw [hwd.out]; exact hc1
          have hc2' : wd.cell? ⟨bb, off + j * 2 + 1, none⟩ = some (.int .u64 (x : Int)) := by rw [hwd.out]; exact hc2
          have h2' := h2.drawn hwd
          have hb2' := hb2.trans (drawn_below hwd _)
          clear hc1 hc2 h2 hb2
          refine U.walkS_sole fun R hR => ?_; simp only [List.map_cons, List.map_nil, List.getD_cons_zero, List.getD_cons_succ]; (repeat (first | (refine qskip (by rfl) ?_; simp only [Act.put, List.setIfInBounds_toArray, List.set_cons_zero, List.set_cons_succ]) | (refine qstep (by rfl) (fun K hK => U.qval (v := ?_) (fun w' hx => ?_) (hK _ ?_)); rotate_left; (go_simp; with_reducible rfl); clear hK K; (try simp only [Act.put, List.setIfInBounds_toArray, List.set_cons_zero, List.set_cons_succ])) | (refine qstep (by rfl) (fun K hK => U.qload _ rfl rfl (by first | assumption | omega) (by assumption) (by kernel_rfl) (hK _ ?_)); clear hK K; simp only [Act.put, List.setIfInBounds_toArray, List.set_cons_zero, List.set_cons_succ]))); refine wpQuiet_nil ?_; intro K hK; go_wp2_with fail; refine (rput_any t _ _ x w.heap.size wd (by omega) h2' hb2'.size (by have := HLB.out; simp; omega) HX.out).mono ?_; rintro e w3 ⟨v3, rfl, h3, hb3⟩; go_wp2_with fail
          refine hK _ _ (Upto.of hb3) (hR.out _ _ ?_); clear hR hK R K
          refine U.walkS_last ?_; simp only [List.map_cons, List.map_nil, List.getD_cons_zero, List.getD_cons_succ]; (repeat (first | (refine qskip (by rfl) ?_; simp only [Act.put, List.setIfInBounds_toArray, List.set_cons_zero, List.set_cons_succ]) | (refine qstep (by rfl) (fun K hK => U.qval (v := ?_) (fun w' hx => ?_) (hK _ ?_)); rotate_left; (go_simp; with_reducible rfl); clear hK K; (try simp only [Act.put, List.setIfInBounds_toArray, List.set_cons_zero, List.set_cons_succ])) | (refine qstep (by rfl) (fun K hK => U.qload _ rfl rfl (by first | assumption | omega) (by assumption) (by kernel_rfl) (hK _ ?_)); clear hK K; simp only [Act.put, List.setIfInBounds_toArray, List.set_cons_zero, List.set_cons_succ]))); refine wpQuiet_nil (hQ.out _ _ ?_); clear hQ
          go_wp2_with fail
          go_roundw
          case rel => exact ⟨j + 1, by omega, by go_num, by rw [HT.out]; simpa using h3, hb2'.trans hb3⟩
          case measure => simp [intOf]; omega
    · have hj : j = k := by omega
      subst hj
      rw [List.take_of_length_le (by have := HLL.out; omega)] at h2
      obtain ⟨AW, nW, cW, rfl, hcW, hnW, hrW⟩ := h2.out
      have hlW : nW ≤ 10000 := by have e1 := hnW.out; have e2 := fsz_le l; have e3 := HLB.out; have e4 := HLL.out; rw [List.length_append, fbs_len] at e1; omega
      clear h2
      go_wp2_with fail
      refine (rput_any 1 (.slice none 0 0) [] n wr.heap.size wr (by omega) (Nats.nil _ _ _ _) (Nat.le_refl _) (by simp) HN.out).mono ?_
      rintro e w3 ⟨x1, rfl, g1, hb3⟩
      go_wp2_with fail
      refine (rput_any 2 x1 _ n wr.heap.size w3 (by omega) g1 hb3.size (by simp [be_len]) HN.out).mono ?_
      rintro e w4 ⟨x2, rfl, g2, hb4⟩
      have hb4 := hb3.trans hb4
      clear g1 hb3
      go_wp2_with fail
      refine (rput_any 4 x2 _ n wr.heap.size w4 (by omega) g2 hb4.size (by simp [be_len]) HN.out).mono ?_
      rintro e w5 ⟨x3, rfl, g3, hb5⟩
      have hb5 := hb4.trans hb5
      clear g2 hb4
      go_wp2_with fail
      refine (rput_any 8 x3 _ n wr.heap.size w5 (by omega) g3 hb5.size (by simp [be_len]) HN.out).mono ?_
      rintro e w6 ⟨x4, rfl, g4, hb6⟩
      have hb6 := hb5.trans hb6
      clear g3 hb5
      rw [← fbs4] at g4
      have hbl6 := hb2.trans (hb6.mono hb2.size)
      have hrW := Lib.hid (hrW.out.into hb6)
      obtain ⟨AX, nX, cX, rfl, hcX, hnX, hrX⟩ := g4.out
      have hlX : nX = 15 := by have e1 := hnX.out; rw [← e1, fbs_len]; rfl
      subst hlX
      clear g4 hb6
      go_wp2_with fail
      refine (pB_any ((n : Int) % 256) w6 (by omega) (by have := HN.out; omega)).mono ?_
      rintro e w7 ⟨rfl, hbx⟩
      have hbl7 := hbl6.trans (hbx.mono hbl6.size)
      have hrW := Lib.hid (hrW.out.into hbx)
      have hrX := Lib.hid (hrX.out.into hbx)
      clear hbx
      go_wp2_with fail
      refine (pH_any ((n : Int) % 65536) w7 (by omega) (by have := HN.out; omega)).mono ?_
      rintro e w8 ⟨rfl, hbx⟩
      have hbl8 := hbl7.trans (hbx.mono hbl7.size)
      have hrW := Lib.hid (hrW.out.into hbx)
      have hrX := Lib.hid (hrX.out.into hbx)
      clear hbx
      go_wp2_with fail
      refine (pW_any ((n : Int) % 4294967296) w8 (by omega) (by have := HN.out; omega)).mono ?_
      rintro e w9 ⟨rfl, hbx⟩
      have hbl9 := hbl8.trans (hbx.mono hbl8.size)
      have hrW := Lib.hid (hrW.out.into hbx)
      have hrX := Lib.hid (hrX.out.into hbx)
      clear hbx
      go_wp2_with fail
      refine (pQ_any (n : Int) w9 (by omega) (by have := HN.out; omega)).mono ?_
      rintro e w10 ⟨rfl, hbx⟩
      have hbl10 := hbl9.trans (hbx.mono hbl9.size)
      have hrW := Lib.hid (hrW.out.into hbx)
      have hrX := Lib.hid (hrX.out.into hbx)
      clear hbx
      go_wp2_with fail
      have hF : Rd (w10.alloc (.cells #[Value.int IntKind.i64 1, Value.int IntKind.u64 ((n : Int) % 256), Value.int IntKind.i64 2, Value.int IntKind.u64 ((n : Int) % 65536), Value.int IntKind.i64 4, Value.int IntKind.u64 ((n : Int) % 4294967296), Value.int IntKind.i64 8, Value.int IntKind.u64 (n : Int)] 26)) (w10.heap.size + 1) 2 (some ⟨w10.heap.size, 0, none⟩) 4 (fs [(1, n % 256), (2, n % 65536), (4, n % 4294967296), (8, n)]) := Rd.made w10 _ _ rfl
      refine (pput_any none _ 0 4 0 4 [] [(1, n % 256), (2, n % 65536), (4, n % 4294967296), (8, n)] _ (Rd.nil _ _ _ _) (hF.mono (by simp)) (by omega) (by have := HN.out; intro p hp; simp at hp; rcases hp with rfl | rfl | rfl | rfl <;> simp only [] <;> omega)).mono ?_
      clear hF
      rintro e w11 ⟨vy, rfl, g5, hb11⟩
      rw [List.nil_append] at g5
      have hb11 : Below w10.heap.size w10 w11 := ((Below.refl _ _).alloc (Nat.le_refl _) _).trans (hb11.mono (by simp))
      have hbl11 := hbl10.trans (hb11.mono hbl10.size)
      have hrW := Lib.hid (hrW.out.into hb11)
      have hrX := Lib.hid (hrX.out.into hb11)
      obtain ⟨AY, nY, cY, rfl, hcY, hnY, hrY⟩ := g5.out
      have hlY : nY = 15 := by have e1 := hnY.out; rw [← e1, fbs_len]; rfl
      subst hlY
      clear hb11 g5
      have hnw : nW = m + fsz l := by have e1 := hnW.out; have e3 := HLB.out; rw [List.length_append, fbs_len] at e1; omega
      have hsub : (nW : Int) - (m : Int) = ((fsz l : Nat) : Int) := by omega
      have hfz : fsz l ≤ 2000 := by have e2 := fsz_le l; have e4 := HLL.out; omega
      have hwf : IntKind.i64.wrap ((fsz l : Nat) : Int) = ((fsz l : Nat) : Int) := IntWalk.i64_in _ (by omega)
      clear hnw
      go_wp2_with fail
      refine wp_opend [([0, 1, 4, 5], some 2), ([3, 6, 7, 8, 10, 11, 12, 13, 14], some 9), ([15, 16, 17, 18, 19, 20, 21, 22, 23, 24], some 25), ([], some 26), ([27, 28, 29], some 30), ([], some 31), ([32, 33, 34], some 35), ([36, 37], none)] (by kernel_rfl) (by kernel_rfl) (by kernel_rfl) (fun QQ hQ wd hwd => ?_)
      have hbd := hbl11.trans (drawn_below hwd _)
      have hsz := drawn_size hwd
      have hrW := Lib.hid ((hrW.out.drawn hwd).mono (Nat.le_of_eq hsz.symm))
      have hrX := Lib.hid ((hrX.out.drawn hwd).mono (Nat.le_of_eq hsz.symm))
      have hrY := Lib.hid ((hrY.out.drawn hwd).mono (Nat.le_of_eq hsz.symm))
      have H64 : Hid (∀ p ∈ l, p.2 < 18446744073709551616) := Lib.hid fun p hp => (HL.out p hp).2
      refine walkS_sole fun R hR => ?_
      simp only [List.map_cons, List.map_nil, List.getD_cons_zero, List.getD_cons_succ]
      (repeat (first | (refine qskip (by rfl) ?_; simp only [Act.put, List.setIfInBounds_toArray, List.set_cons_zero, List.set_cons_succ]) | (refine qstep (by rfl) (fun K hK => qval (v := ?_) (fun w' hx => ?_) (hK _ ?_)); rotate_left; (go_simp; with_reducible rfl); clear hK K; (try simp only [Act.put, List.setIfInBounds_toArray, List.set_cons_zero, List.set_cons_succ])) | (refine qstep (by rfl) (fun K hK => qload _ rfl rfl (by assumption) (by kernel_rfl) (hK _ ?_)); clear hK K; simp only [Act.put, List.setIfInBounds_toArray, List.set_cons_zero, List.set_cons_succ])))
      refine qstep (by rfl) (fun K hK => qconv Try.underlying22 Try.underlying5 Try.underlying9 _ rfl rfl (hrW.out) (Nat.le_refl _) (hK _ ?_)); clear hK K; simp only [Act.put, List.setIfInBounds_toArray, List.set_cons_zero, List.set_cons_succ]
      refine wpQuiet_nil ?_
      intro K hK
      go_wp2_with fail
      refine (pput_any A C m j c d lb l wd (HR.out.into hbd) (HS.out.into hbd) (by omega) H64.out).mono ?_
      rintro e w12 ⟨vp, rfl, gp, hb12⟩
      have hbl12 := hbd.trans (hb12.mono hbd.size)
      obtain ⟨AP, nP, cP, rfl, hcP, hnP, hrP⟩ := gp.out
      have hrX := Lib.hid (hrX.out.into hb12)
      have hrY := Lib.hid (hrY.out.into hb12)
      have HSELF := strN_self (lb ++ fbs l)
      clear gp
      go_wp2_with fail
      refine hK _ _ (Ext.of hb12) (hR.out _ _ ?_); clear hR hK R K
      refine walkS_sole fun R hR => ?_
      simp only [List.map_cons, List.map_nil, List.getD_cons_zero, List.getD_cons_succ]
      refine qstep (by rfl) (fun K hK => qconv Try.underlying22 Try.underlying5 Try.underlying9 _ rfl rfl (hrP.out) (Nat.le_refl _) (hK _ ?_)); clear hK K; simp only [Act.put, List.setIfInBounds_toArray, List.set_cons_zero, List.set_cons_succ]
      (repeat (first | (refine qskip (by rfl) ?_; simp only [Act.put, List.setIfInBounds_toArray, List.set_cons_zero, List.set_cons_succ]) | (refine qstep (by rfl) (fun K hK => qval (v := ?_) (fun w' hx => ?_) (hK _ ?_)); rotate_left; (go_simp; with_reducible rfl); clear hK K; (try simp only [Act.put, List.setIfInBounds_toArray, List.set_cons_zero, List.set_cons_succ])) | (refine qstep (by rfl) (fun K hK => qload _ rfl rfl (by assumption) (by kernel_rfl) (hK _ ?_)); clear hK K; simp only [Act.put, List.setIfInBounds_toArray, List.set_cons_zero, List.set_cons_succ])))
      refine wpQuiet_nil ?_
      intro K hK
      go_wp2_with fail
      refine (psize_any C j d l w12 (HS.out.into hbl12) (by omega)).mono ?_
      rintro e w13 ⟨rfl, hb13⟩
      have hbl13 := hbl12.trans (hb13.mono hbl12.size)
      have hrX := Lib.hid (hrX.out.into hb13)
      have hrY := Lib.hid (hrY.out.into hb13)
      have HSELF2 := strN_self (fbs [(1, n % 256), (2, n % 65536), (4, n % 4294967296), (8, n)])
      go_wp2_with fail
      refine hK _ _ (Ext.of hb13) (hR.out _ _ ?_); clear hR hK R K
      refine walkS_sole fun R hR => ?_
      simp only [List.map_cons, List.map_nil, List.getD_cons_zero, List.getD_cons_succ]
      (repeat (first | (refine qskip (by rfl) ?_; simp only [Act.put, List.setIfInBounds_toArray, List.set_cons_zero, List.set_cons_succ]) | (refine qstep (by rfl) (fun K hK => qval (v := ?_) (fun w' hx => ?_) (hK _ ?_)); rotate_left; (go_simp; with_reducible rfl); clear hK K; (try simp only [Act.put, List.setIfInBounds_toArray, List.set_cons_zero, List.set_cons_succ])) | (refine qstep (by rfl) (fun K hK => qload _ rfl rfl (by assumption) (by kernel_rfl) (hK _ ?_)); clear hK K; simp only [Act.put, List.setIfInBounds_toArray, List.set_cons_zero, List.set_cons_succ])))
      refine qstep (by rfl) (fun K hK => qconv Try.underlying22 Try.underlying5 Try.underlying9 _ rfl rfl (hrX.out) (Nat.le_refl _) (hK _ ?_)); clear hK K; simp only [Act.put, List.setIfInBounds_toArray, List.set_cons_zero, List.set_cons_succ]
      (repeat (first | (refine qskip (by rfl) ?_; simp only [Act.put, List.setIfInBounds_toArray, List.set_cons_zero, List.set_cons_succ]) | (refine qstep (by rfl) (fun K hK => qval (v := ?_) (fun w' hx => ?_) (hK _ ?_)); rotate_left; (go_simp; with_reducible rfl); clear hK K; (try simp only [Act.put, List.setIfInBounds_toArray, List.set_cons_zero, List.set_cons_succ])) | (refine qstep (by rfl) (fun K hK => qload _ rfl rfl (by assumption) (by kernel_rfl) (hK _ ?_)); clear hK K; simp only [Act.put, List.setIfInBounds_toArray, List.set_cons_zero, List.set_cons_succ])))
      refine qstep (by rfl) (fun K hK => qconv Try.underlying22 Try.underlying5 Try.underlying9 _ rfl rfl (hrY.out) (Nat.le_refl _) (hK _ ?_)); clear hK K; simp only [Act.put, List.setIfInBounds_toArray, List.set_cons_zero, List.set_cons_succ]
      (repeat (first | (refine qskip (by rfl) ?_; simp only [Act.put, List.setIfInBounds_toArray, List.set_cons_zero, List.set_cons_succ]) | (refine qstep (by rfl) (fun K hK => qval (v := ?_) (fun w' hx => ?_) (hK _ ?_)); rotate_left; (go_simp; with_reducible rfl); clear hK K; (try simp only [Act.put, List.setIfInBounds_toArray, List.set_cons_zero, List.set_cons_succ])) | (refine qstep (by rfl) (fun K hK => qload _ rfl rfl (by assumption) (by kernel_rfl) (hK _ ?_)); clear hK K; simp only [Act.put, List.setIfInBounds_toArray, List.set_cons_zero, List.set_cons_succ])))
      refine wpQuiet_nil ?_
      intro K hK
      go_wp2_with fail
      refine (pFlag_any true w13).mono ?_
      rintro e w14 ⟨rfl, hb14⟩
      have hbl14 := hbl13.trans (hb14.mono hbl13.size)
      go_wp2_with fail
      refine hK _ _ (Ext.of hb14) (hR.out _ _ ?_); clear hR hK R K
      refine walkS_sole fun R hR => ?_; simp only [List.map_nil, List.getD_cons_zero, List.getD_cons_succ]; refine wpQuiet_nil ?_; intro K hK; go_wp2_with fail; refine (pB_any 1 w14 (by omega) (by omega)).mono ?_; rintro e w15 ⟨rfl, hb15⟩; go_wp2_with fail
      have hbl15 := hbl14.trans (hb15.mono hbl14.size)
      refine hK _ _ (Ext.of hb15) (hR.out _ _ ?_); clear hR hK R K
      refine walkS_sole fun R hR => ?_; simp only [List.map_cons, List.map_nil, List.getD_cons_zero, List.getD_cons_succ]; (repeat (first | (refine qskip (by rfl) ?_; simp only [Act.put, List.setIfInBounds_toArray, List.set_cons_zero, List.set_cons_succ]) | (refine qstep (by rfl) (fun K hK => qval (v := ?_) (fun w' hx => ?_) (hK _ ?_)); rotate_left; (go_simp; with_reducible rfl); clear hK K; (try simp only [Act.put, List.setIfInBounds_toArray, List.set_cons_zero, List.set_cons_succ])) | (refine qstep (by rfl) (fun K hK => qload _ rfl rfl (by assumption) (by kernel_rfl) (hK _ ?_)); clear hK K; simp only [Act.put, List.setIfInBounds_toArray, List.set_cons_zero, List.set_cons_succ]))); refine wpQuiet_nil ?_; intro K hK; go_wp2_with fail; refine (pFlag_any false w15).mono ?_; rintro e w16 ⟨rfl, hb16⟩; go_wp2_with fail
      have hbl16 := hbl15.trans (hb16.mono hbl15.size)
      refine hK _ _ (Ext.of hb16) (hR.out _ _ ?_); clear hR hK R K
      refine walkS_sole fun R hR => ?_; simp only [List.map_nil, List.getD_cons_zero, List.getD_cons_succ]; refine wpQuiet_nil ?_; intro K hK; go_wp2_with fail; refine (pB_any 0 w16 (by omega) (by omega)).mono ?_; rintro e w17 ⟨rfl, hb17⟩; go_wp2_with fail
      have hbl17 := hbl16.trans (hb17.mono hbl16.size)
      refine hK _ _ (Ext.of hb17) (hR.out _ _ ?_); clear hR hK R K
      refine walkS_sole fun R hR => ?_; simp only [List.map_cons, List.map_nil, List.getD_cons_zero, List.getD_cons_succ]; (repeat (first | (refine qskip (by rfl) ?_; simp only [Act.put, List.setIfInBounds_toArray, List.set_cons_zero, List.set_cons_succ]) | (refine qstep (by rfl) (fun K hK => qval (v := ?_) (fun w' hx => ?_) (hK _ ?_)); rotate_left; (go_simp; with_reducible rfl); clear hK K; (try simp only [Act.put, List.setIfInBounds_toArray, List.set_cons_zero, List.set_cons_succ])) | (refine qstep (by rfl) (fun K hK => qload _ rfl rfl (by assumption) (by kernel_rfl) (hK _ ?_)); clear hK K; simp only [Act.put, List.setIfInBounds_toArray, List.set_cons_zero, List.set_cons_succ]))); refine wpQuiet_nil ?_; intro K hK; go_wp2_with fail; refine (alive02 w17).mono ?_; rintro e w18 ⟨rfl, hb18⟩; go_wp2_with fail
      have hbl18 := hbl17.trans (hb18.mono hbl17.size)
      refine hK _ _ (Ext.of hb18) (hR.out _ _ ?_); clear hR hK R K
      refine walkS_last ?_; simp only [List.map_cons, List.map_nil, List.getD_cons_zero, List.getD_cons_succ]; (repeat (first | (refine qskip (by rfl) ?_; simp only [Act.put, List.setIfInBounds_toArray, List.set_cons_zero, List.set_cons_succ]) | (refine qstep (by rfl) (fun K hK => qval (v := ?_) (fun w' hx => ?_) (hK _ ?_)); rotate_left; (go_simp; with_reducible rfl); clear hK K; (try simp only [Act.put, List.setIfInBounds_toArray, List.set_cons_zero, List.set_cons_succ])) | (refine qstep (by rfl) (fun K hK => qload _ rfl rfl (by assumption) (by kernel_rfl) (hK _ ?_)); clear hK K; simp only [Act.put, List.setIfInBounds_toArray, List.set_cons_zero, List.set_cons_succ]))); refine wpQuiet_nil (hQ.out _ _ ?_); clear hQ
      go_wp2_with fail
      go_ret
      exact ⟨rfl, hbl18⟩
end Go.Proofs.Ytnnhndgeedlpgaa
