/- Two sorted parts of a row of paths are made one. -/
import Derived.Test.YtbimjacceocglaaPl3
namespace Go.Proofs.Ytbimjacceocglaa
open Go.RowKit Go.Sort
set_option linter.unusedVariables false
set_option linter.unusedSimpArgs false
set_option maxRecDepth 20000 in
set_option maxHeartbeats 8000000 in
theorem pl_symA (rb c a m b n cp : Nat) (cf : Plp → Plp → Int) (F : Nat) (hcl : PCL cf F) (hso : SWO (ltOf cf)) (d : Array Plp) (w : World) (h : PW w rb c d) (hn : n = d.size) (ham : a < m) (hmb : m < b) (hb : b ≤ n) (hb2 : n ≤ 65536) (hL : SortedIn (ltOf cf) a m d) (hR : SortedIn (ltOf cf) m b d) (hone : m = a + 1) :
    Calls Try.prog 28 #[.slice (some ⟨rb, 0, none⟩) n cp, .int .i64 (a : Nat), .int .i64 (m : Nat), .int .i64 (b : Nat), .func (.func F) #[] #[]] w fun e w' => e = .returned (.tuple #[]) ∧ ∃ d', PW w' rb c d' ∧ Tou rb w w' ∧ d'.size = d.size ∧ PermIn a b d d' ∧ SortedIn (ltOf cf) a b d' := by
  subst hone
  have S0 := Lib.hid h
  have HN := Lib.hid hn
  have HCL := Lib.hid hcl
  have ef := hcl.1
  have HSO := Lib.hid hso
  have HL := Lib.hid hL
  have HR := Lib.hid hR
  have e0 : ((a + 1 : Nat) : Int) - (a : Int) = 1 := by omega
  have e0' : (a : Int) + 1 - (a : Int) = 1 := by omega
  obtain ⟨m, hm⟩ : ∃ m, m = a + 1 := ⟨_, rfl⟩
  rw [← hm] at HL HR e0 ham hmb ⊢
  have HM := Lib.hid hm
  clear h hn hcl hso hL hR e0' hm
  have g1 : (0 : Int) ≤ (a : Int) := by omega
  have g3 : (a : Int) < (n : Int) := by omega
  go_enter Try.func28, Try.ntmps28
  go_wp2_with fail
  go_loopw [10, 11] (fun iv jv wr => ∃ (i j : Nat), iv = .int .i64 (i : Nat) ∧ jv = .int .i64 (j : Nat) ∧ (i ≤ j ∧ j ≤ n) ∧ Hid (HalS (fun h => ltOf cf d[h]! d[a]!) m b i j) ∧ Hid (PW wr rb c d) ∧ Hid (Tou rb w wr)) (fun iv jv _ => (intOf jv - intOf iv).toNat)
  case atStart => exact ⟨m, b, rfl, rfl, ⟨by omega, by omega⟩, Lib.hid (HalS.start _ (by omega)), S0, Lib.hid (Tou.refl _ _)⟩
  case round =>
    clear S0
    obtain ⟨i, j, rfl, rfl, hij, HH, S1, T1⟩ := hrel
    by_cases hlt : i < j
    · have hlt' : (i : Int) < (j : Int) := by omega
      obtain ⟨h, hh⟩ : ∃ h, h = (i + j) / 2 := ⟨_, rfl⟩
      have e1 : ((i : Int) + (j : Int)) / 2 = (h : Int) := by omega
      have hh1 : i ≤ h := by omega
      have hh2 : h < j := by omega
      have hhb := Lib.hid (show m ≤ h ∧ h < b by have := HH.out; unfold HalS at this; omega)
      clear hh
      have hhn : h < n := by omega
      have hhn' : (h : Int) < (n : Int) := by omega
      have hh0 : (0 : Int) ≤ (h : Int) := by omega
      have hpn : h < n := hhn
      have hqn : a < n := by omega
      have IL := Lib.hid (show h < d.size by rw [← HN.out]; exact hpn)
      have JL := Lib.hid (show a < d.size by rw [← HN.out]; exact hqn)
      obtain ⟨xi, hxi⟩ : ∃ x, x = d[h]! := ⟨_, rfl⟩
      obtain ⟨xj, hxj⟩ : ∃ x, x = d[a]! := ⟨_, rfl⟩
      have HXX := Lib.hid (show xi = d[h]! ∧ xj = d[a]! from ⟨hxi, hxj⟩)
      have LI := Lib.hid (show ∀ w2, PW w2 rb c d → ∀ r v, xi.el[r]? = some v → w2.cell? ⟨rb, h * 7 + r, none⟩ = some v from fun w2 h2 => by rw [hxi]; exact h2.nth IL.out)
      have LJ := Lib.hid (show ∀ w2, PW w2 rb c d → ∀ r v, xj.el[r]? = some v → w2.cell? ⟨rb, a * 7 + r, none⟩ = some v from fun w2 h2 => by rw [hxj]; exact h2.nth JL.out)
      clear hxi hxj
      obtain ⟨z, hz⟩ : ∃ z, z = cf xi xj := ⟨_, rfl⟩
      have HC := Lib.hid (show ∀ w2, Below wr.heap.size wr w2 → Calls Try.prog F #[.agg #[.int .i64 xi.id, .bool xi.may, .bool xi.us, .bool xi.bk, .bool xi.bd, .int .i64 xi.mean, .int .i64 xi.tries], .agg #[.int .i64 xj.id, .bool xj.may, .bool xj.us, .bool xj.bk, .bool xj.bd, .int .i64 xj.mean, .int .i64 xj.tries]] w2 fun e w' => e = .returned (.int .i64 z) ∧ Below w2.heap.size w2 w' from fun w2 hb => by rw [hz]; exact HCL.out.2 w2 xi xj)
      have HZ := Lib.hid hz
      clear hz
      by_cases hzl : z < 0
      · have hzd : decide (z < 0) = true := decide_eq_true hzl
        have HLT : Hid (ltOf cf d[h]! d[a]! = true) := Lib.hid (by rw [← HXX.out.1, ← HXX.out.2]; unfold ltOf; rw [← HZ.out]; exact hzd)
        go_wp2_with fail
        refine wp_ext (by kernel_rfl) (by kernel_rfl) (fun QQ hQ => ?_)
        (first | (refine x_load _ (by rfl) rfl rfl (by assumption) (by kernel_rfl) ?_; simp only [Act.put, List.setIfInBounds_toArray, List.set_cons_zero, List.set_cons_succ]) | (refine x_val (v := ?_) (by rfl) (fun w' hx => ?_) ?_; rotate_left; (focus (go_simp; (try with_reducible rfl))); (try simp only [Act.put, List.setIfInBounds_toArray, List.set_cons_zero, List.set_cons_succ])))
        (first | (refine x_load _ (by rfl) rfl rfl (by assumption) (by kernel_rfl) ?_; simp only [Act.put, List.setIfInBounds_toArray, List.set_cons_zero, List.set_cons_succ]) | (refine x_val (v := ?_) (by rfl) (fun w' hx => ?_) ?_; rotate_left; (focus (go_simp; (try with_reducible rfl))); (try simp only [Act.put, List.setIfInBounds_toArray, List.set_cons_zero, List.set_cons_succ])))
        (first | (refine x_load _ (by rfl) rfl rfl (by assumption) (by kernel_rfl) ?_; simp only [Act.put, List.setIfInBounds_toArray, List.set_cons_zero, List.set_cons_succ]) | (refine x_val (v := ?_) (by rfl) (fun w' hx => ?_) ?_; rotate_left; (focus (go_simp; (try with_reducible rfl))); (try simp only [Act.put, List.setIfInBounds_toArray, List.set_cons_zero, List.set_cons_succ])))
        (first | (refine x_load _ (by rfl) rfl rfl (by assumption) (by kernel_rfl) ?_; simp only [Act.put, List.setIfInBounds_toArray, List.set_cons_zero, List.set_cons_succ]) | (refine x_val (v := ?_) (by rfl) (fun w' hx => ?_) ?_; rotate_left; (focus (go_simp; (try with_reducible rfl))); (try simp only [Act.put, List.setIfInBounds_toArray, List.set_cons_zero, List.set_cons_succ])))
        refine x_loads _ [.int .i64 xi.id, .bool xi.may, .bool xi.us, .bool xi.bk, .bool xi.bd, .int .i64 xi.mean, .int .i64 xi.tries] (by rfl) rfl rfl (LI.out _ S1.out) (Nat.succ_pos _) (by kernel_rfl) (by kernel_rfl) ?_; simp only [Act.put, List.setIfInBounds_toArray, List.set_cons_zero, List.set_cons_succ]
        (first | (refine x_load _ (by rfl) rfl rfl (by assumption) (by kernel_rfl) ?_; simp only [Act.put, List.setIfInBounds_toArray, List.set_cons_zero, List.set_cons_succ]) | (refine x_val (v := ?_) (by rfl) (fun w' hx => ?_) ?_; rotate_left; (focus (go_simp; (try with_reducible rfl))); (try simp only [Act.put, List.setIfInBounds_toArray, List.set_cons_zero, List.set_cons_succ])))
        (first | (refine x_load _ (by rfl) rfl rfl (by assumption) (by kernel_rfl) ?_; simp only [Act.put, List.setIfInBounds_toArray, List.set_cons_zero, List.set_cons_succ]) | (refine x_val (v := ?_) (by rfl) (fun w' hx => ?_) ?_; rotate_left; (focus (go_simp; (try with_reducible rfl))); (try simp only [Act.put, List.setIfInBounds_toArray, List.set_cons_zero, List.set_cons_succ])))
        (first | (refine x_load _ (by rfl) rfl rfl (by assumption) (by kernel_rfl) ?_; simp only [Act.put, List.setIfInBounds_toArray, List.set_cons_zero, List.set_cons_succ]) | (refine x_val (v := ?_) (by rfl) (fun w' hx => ?_) ?_; rotate_left; (focus (go_simp; (try with_reducible rfl))); (try simp only [Act.put, List.setIfInBounds_toArray, List.set_cons_zero, List.set_cons_succ])))
        refine x_loads _ [.int .i64 xj.id, .bool xj.may, .bool xj.us, .bool xj.bk, .bool xj.bd, .int .i64 xj.mean, .int .i64 xj.tries] (by rfl) rfl rfl (LJ.out _ S1.out) (Nat.succ_pos _) (by kernel_rfl) (by kernel_rfl) ?_; simp only [Act.put, List.setIfInBounds_toArray, List.set_cons_zero, List.set_cons_succ]
        refine x_call (by rfl) (fun w' hx => by go_simp) (fun w' hx => HC.out w' hx) ?_; simp only [Act.put, List.setIfInBounds_toArray, List.set_cons_zero, List.set_cons_succ]
        (first | (refine x_load _ (by rfl) rfl rfl (by assumption) (by kernel_rfl) ?_; simp only [Act.put, List.setIfInBounds_toArray, List.set_cons_zero, List.set_cons_succ]) | (refine x_val (v := ?_) (by rfl) (fun w' hx => ?_) ?_; rotate_left; (focus (go_simp; (try with_reducible rfl))); (try simp only [Act.put, List.setIfInBounds_toArray, List.set_cons_zero, List.set_cons_succ])))
        refine x_nil (hQ.out _ ?_); clear hQ QQ
        intro w1 hbw
        have S2 := Lib.hid (S1.out.into hbw)
        have T2 := Lib.hid (T1.out.grow hbw (Nat.le_of_lt S1.out.rl))
        have H2 := Lib.hid (HH.out.yes (h := h) hh1 hh2 (by first | exact HLT.out | (have h1 := HLT.out; simp only [h1, Bool.not_false] )))
        clear hbw HC S1 T1 HH LI LJ JL IL HXX HZ HLT hzd hzl
        go_wp2_with fail
        go_roundw
        case rel => exact ⟨h + 1, j, by first | rfl | go_num, rfl, ⟨by omega, by omega⟩, H2, S2, T2⟩
        case measure => simp [intOf]; omega
      · have hzd : decide (z < 0) = false := decide_eq_false hzl
        have hzl2 : ¬ z < 0 := hzl
        have hzl3 : (0 : Int) ≤ z := by omega
        have HLT : Hid (ltOf cf d[h]! d[a]! = false) := Lib.hid (by rw [← HXX.out.1, ← HXX.out.2]; unfold ltOf; rw [← HZ.out]; exact hzd)
        go_wp2_with fail
        refine wp_ext (by kernel_rfl) (by kernel_rfl) (fun QQ hQ => ?_)
        (first | (refine x_load _ (by rfl) rfl rfl (by assumption) (by kernel_rfl) ?_; simp only [Act.put, List.setIfInBounds_toArray, List.set_cons_zero, List.set_cons_succ]) | (refine x_val (v := ?_) (by rfl) (fun w' hx => ?_) ?_; rotate_left; (focus (go_simp; (try with_reducible rfl))); (try simp only [Act.put, List.setIfInBounds_toArray, List.set_cons_zero, List.set_cons_succ])))
        (first | (refine x_load _ (by rfl) rfl rfl (by assumption) (by kernel_rfl) ?_; simp only [Act.put, List.setIfInBounds_toArray, List.set_cons_zero, List.set_cons_succ]) | (refine x_val (v := ?_) (by rfl) (fun w' hx => ?_) ?_; rotate_left; (focus (go_simp; (try with_reducible rfl))); (try simp only [Act.put, List.setIfInBounds_toArray, List.set_cons_zero, List.set_cons_succ])))
        (first | (refine x_load _ (by rfl) rfl rfl (by assumption) (by kernel_rfl) ?_; simp only [Act.put, List.setIfInBounds_toArray, List.set_cons_zero, List.set_cons_succ]) | (refine x_val (v := ?_) (by rfl) (fun w' hx => ?_) ?_; rotate_left; (focus (go_simp; (try with_reducible rfl))); (try simp only [Act.put, List.setIfInBounds_toArray, List.set_cons_zero, List.set_cons_succ])))
        (first | (refine x_load _ (by rfl) rfl rfl (by assumption) (by kernel_rfl) ?_; simp only [Act.put, List.setIfInBounds_toArray, List.set_cons_zero, List.set_cons_succ]) | (refine x_val (v := ?_) (by rfl) (fun w' hx => ?_) ?_; rotate_left; (focus (go_simp; (try with_reducible rfl))); (try simp only [Act.put, List.setIfInBounds_toArray, List.set_cons_zero, List.set_cons_succ])))
        refine x_loads _ [.int .i64 xi.id, .bool xi.may, .bool xi.us, .bool xi.bk, .bool xi.bd, .int .i64 xi.mean, .int .i64 xi.tries] (by rfl) rfl rfl (LI.out _ S1.out) (Nat.succ_pos _) (by kernel_rfl) (by kernel_rfl) ?_; simp only [Act.put, List.setIfInBounds_toArray, List.set_cons_zero, List.set_cons_succ]
        (first | (refine x_load _ (by rfl) rfl rfl (by assumption) (by kernel_rfl) ?_; simp only [Act.put, List.setIfInBounds_toArray, List.set_cons_zero, List.set_cons_succ]) | (refine x_val (v := ?_) (by rfl) (fun w' hx => ?_) ?_; rotate_left; (focus (go_simp; (try with_reducible rfl))); (try simp only [Act.put, List.setIfInBounds_toArray, List.set_cons_zero, List.set_cons_succ])))
        (first | (refine x_load _ (by rfl) rfl rfl (by assumption) (by kernel_rfl) ?_; simp only [Act.put, List.setIfInBounds_toArray, List.set_cons_zero, List.set_cons_succ]) | (refine x_val (v := ?_) (by rfl) (fun w' hx => ?_) ?_; rotate_left; (focus (go_simp; (try with_reducible rfl))); (try simp only [Act.put, List.setIfInBounds_toArray, List.set_cons_zero, List.set_cons_succ])))
        (first | (refine x_load _ (by rfl) rfl rfl (by assumption) (by kernel_rfl) ?_; simp only [Act.put, List.setIfInBounds_toArray, List.set_cons_zero, List.set_cons_succ]) | (refine x_val (v := ?_) (by rfl) (fun w' hx => ?_) ?_; rotate_left; (focus (go_simp; (try with_reducible rfl))); (try simp only [Act.put, List.setIfInBounds_toArray, List.set_cons_zero, List.set_cons_succ])))
        refine x_loads _ [.int .i64 xj.id, .bool xj.may, .bool xj.us, .bool xj.bk, .bool xj.bd, .int .i64 xj.mean, .int .i64 xj.tries] (by rfl) rfl rfl (LJ.out _ S1.out) (Nat.succ_pos _) (by kernel_rfl) (by kernel_rfl) ?_; simp only [Act.put, List.setIfInBounds_toArray, List.set_cons_zero, List.set_cons_succ]
        refine x_call (by rfl) (fun w' hx => by go_simp) (fun w' hx => HC.out w' hx) ?_; simp only [Act.put, List.setIfInBounds_toArray, List.set_cons_zero, List.set_cons_succ]
        (first | (refine x_load _ (by rfl) rfl rfl (by assumption) (by kernel_rfl) ?_; simp only [Act.put, List.setIfInBounds_toArray, List.set_cons_zero, List.set_cons_succ]) | (refine x_val (v := ?_) (by rfl) (fun w' hx => ?_) ?_; rotate_left; (focus (go_simp; (try with_reducible rfl))); (try simp only [Act.put, List.setIfInBounds_toArray, List.set_cons_zero, List.set_cons_succ])))
        refine x_nil (hQ.out _ ?_); clear hQ QQ
        intro w1 hbw
        have S2 := Lib.hid (S1.out.into hbw)
        have T2 := Lib.hid (T1.out.grow hbw (Nat.le_of_lt S1.out.rl))
        have H2 := Lib.hid (HH.out.no (h := h) hh1 hh2 (by first | exact HLT.out | (have h1 := HLT.out; simp only [h1, Bool.not_true] )))
        clear hbw HC S1 T1 HH LI LJ JL IL HXX HZ HLT hzd hzl hzl2 hzl3
        go_wp2_with fail
        go_roundw
        case rel => exact ⟨i, h, by first | rfl | go_num, rfl, ⟨by omega, by omega⟩, H2, S2, T2⟩
        case measure => simp [intOf]; omega
    · have hlt' : ¬ (i : Int) < (j : Int) := by omega
      obtain rfl : i = j := by omega
      clear hlt
      have HB := Lib.hid (show m ≤ i ∧ i ≤ b from ⟨HH.out.1, HH.out.2.2.1⟩)
      have hiB : m ≤ i ∧ i ≤ b := HB.out
      have HR0 := Lib.hid (show Rot d d a m (a + 1) from by rw [HM.out]; exact Rot.right d (Nat.le_succ _))
      obtain ⟨i1, hi1⟩ : ∃ k, k = i - 1 := ⟨_, rfl⟩
      have ei1 : (i : Int) - 1 = (i1 : Int) := by omega
      have hi1b : a ≤ i1 ∧ i1 + 1 = i := by omega
      go_wp2_with fail
      go_loopw [13] (fun kv wr2 => ∃ (k : Nat) (dk : Array Plp), kv = .int .i64 (k : Nat) ∧ (a ≤ k ∧ k ≤ i1) ∧ Hid (PW wr2 rb c dk) ∧ Hid (Tou rb w wr2) ∧ Hid (dk.size = d.size) ∧ Hid (Rot d dk a m (k + 1)) ∧ Hid (PermIn a b d dk)) (fun kv _ => n - (intOf kv).toNat)
      case atStart => exact ⟨a, d, rfl, ⟨Nat.le_refl _, by omega⟩, S1, T1, Lib.hid rfl, HR0, Lib.hid (permIn_refl _ _ _)⟩
      case round =>
        clear S1 T1 HR0
        obtain ⟨p, dk, rfl, hk, S2, T2, HS, HRT, HP⟩ := hrel
        by_cases hlk : p < i1
        · have hlk' : (p : Int) < (i1 : Int) := by omega
          obtain ⟨q, hq⟩ : ∃ q, q = p + 1 := ⟨_, rfl⟩
          have eq1 : (p : Int) + 1 = (q : Int) := by omega
          have eqw : IntKind.i64.wrap (q : Int) = (q : Int) := by rw [IntKind.wrap_i64]; omega
          have hpn : p < n := by omega
          have hqn : q < n := by omega
          have p0 : (0 : Int) ≤ (p : Int) := by omega
          have q0 : (0 : Int) ≤ (q : Int) := by omega
          have p1 : (p : Int) < (n : Int) := by omega
          have q1 : (q : Int) < (n : Int) := by omega
          have HQ := Lib.hid hq
          clear hq
          have IL := Lib.hid (show p < dk.size by rw [HS.out, ← HN.out]; exact hpn)
          have JL := Lib.hid (show q < dk.size by rw [HS.out, ← HN.out]; exact hqn)
          obtain ⟨xi, hxi⟩ : ∃ x, x = dk[p]! := ⟨_, rfl⟩
          obtain ⟨xj, hxj⟩ : ∃ x, x = dk[q]! := ⟨_, rfl⟩
          have HXX := Lib.hid (show xi = dk[p]! ∧ xj = dk[q]! from ⟨hxi, hxj⟩)
          have LI := Lib.hid (show ∀ w2, PW w2 rb c dk → ∀ r v, xi.el[r]? = some v → w2.cell? ⟨rb, p * 7 + r, none⟩ = some v from fun w2 h2 => by rw [hxi]; exact h2.nth IL.out)
          have LJ := Lib.hid (show ∀ w2, PW w2 rb c dk → ∀ r v, xj.el[r]? = some v → w2.cell? ⟨rb, q * 7 + r, none⟩ = some v from fun w2 h2 => by rw [hxj]; exact h2.nth JL.out)
          clear hxi hxj
          have JL2 := Lib.hid (show q < (dk.setIfInBounds p xj).size by rw [Array.size_setIfInBounds]; exact JL.out)
          go_upto_region 11 with fail
          refine wp_ord [(0, .pure), (1, .pure), (2, .pure), (3, .pure), (4, .pure), (5, .pure), (6, .pure), (7, .pure), (8, .pure), (9, .read), (10, .pure), (11, .pure), (12, .pure), (13, .read), (14, .pure), (15, .sole), (16, .pure), (17, .sole)] [15, 17] (by kernel_rfl) (by kernel_rfl) (fun QQ hQ wd hwd => ?_); simp only [List.map_cons, List.map_nil, List.getD_cons_zero, List.getD_cons_succ]
          have hD : Below wr.heap.size wr wd := by rw [hwd.out]; exact (Below.refl _ _).drew
          have SD := Lib.hid (S2.out.into hD)
          have TD := Lib.hid (T2.out.grow hD (Nat.le_of_lt S2.out.rl))
          clear hD hwd
          (refine o_pure (v := ?_) (by rfl) (fun w' => ?_) ?_; rotate_left; (focus (go_simp; (try with_reducible rfl); (try (rw [if_pos (by omega)]; (try with_reducible rfl))))); (try simp only [Act.put, List.setIfInBounds_toArray, List.set_cons_zero, List.set_cons_succ]))
          (refine o_pure (v := ?_) (by rfl) (fun w' => ?_) ?_; rotate_left; (focus (go_simp; (try with_reducible rfl); (try (rw [if_pos (by omega)]; (try with_reducible rfl))))); (try simp only [Act.put, List.setIfInBounds_toArray, List.set_cons_zero, List.set_cons_succ]))
          (refine o_pure (v := ?_) (by rfl) (fun w' => ?_) ?_; rotate_left; (focus (go_simp; (try with_reducible rfl); (try (rw [if_pos (by omega)]; (try with_reducible rfl))))); (try simp only [Act.put, List.setIfInBounds_toArray, List.set_cons_zero, List.set_cons_succ]))
          (refine o_pure (v := ?_) (by rfl) (fun w' => ?_) ?_; rotate_left; (focus (go_simp; (try with_reducible rfl); (try (rw [if_pos (by omega)]; (try with_reducible rfl))))); (try simp only [Act.put, List.setIfInBounds_toArray, List.set_cons_zero, List.set_cons_succ]))
          (refine o_pure (v := ?_) (by rfl) (fun w' => ?_) ?_; rotate_left; (focus (go_simp; (try with_reducible rfl); (try (rw [if_pos (by omega)]; (try with_reducible rfl))))); (try simp only [Act.put, List.setIfInBounds_toArray, List.set_cons_zero, List.set_cons_succ]))
          (refine o_pure (v := ?_) (by rfl) (fun w' => ?_) ?_; rotate_left; (focus (go_simp; (try with_reducible rfl); (try (rw [if_pos (by omega)]; (try with_reducible rfl))))); (try simp only [Act.put, List.setIfInBounds_toArray, List.set_cons_zero, List.set_cons_succ]))
          (refine o_pure (v := ?_) (by rfl) (fun w' => ?_) ?_; rotate_left; (focus (go_simp; (try with_reducible rfl); (try (rw [if_pos (by omega)]; (try with_reducible rfl))))); (try simp only [Act.put, List.setIfInBounds_toArray, List.set_cons_zero, List.set_cons_succ]))
          (refine o_pure (v := ?_) (by rfl) (fun w' => ?_) ?_; rotate_left; (focus (go_simp; (try with_reducible rfl); (try (rw [if_pos (by omega)]; (try with_reducible rfl))))); (try simp only [Act.put, List.setIfInBounds_toArray, List.set_cons_zero, List.set_cons_succ]))
          (refine o_pure (v := ?_) (by rfl) (fun w' => ?_) ?_; rotate_left; (focus (go_simp; (try with_reducible rfl); (try (rw [if_pos (by omega)]; (try with_reducible rfl))))); (try simp only [Act.put, List.setIfInBounds_toArray, List.set_cons_zero, List.set_cons_succ]))
          (refine o_loads _ [.int .i64 xj.id, .bool xj.may, .bool xj.us, .bool xj.bk, .bool xj.bd, .int .i64 xj.mean, .int .i64 xj.tries] (by rfl) rfl rfl (LJ.out _ SD.out) (Nat.succ_pos _) (by kernel_rfl) (by kernel_rfl) ?_; simp only [Act.put, List.setIfInBounds_toArray, List.set_cons_zero, List.set_cons_succ])
          (refine o_pure (v := ?_) (by rfl) (fun w' => ?_) ?_; rotate_left; (focus (go_simp; (try with_reducible rfl); (try (rw [if_pos (by omega)]; (try with_reducible rfl))))); (try simp only [Act.put, List.setIfInBounds_toArray, List.set_cons_zero, List.set_cons_succ]))
          (refine o_pure (v := ?_) (by rfl) (fun w' => ?_) ?_; rotate_left; (focus (go_simp; (try with_reducible rfl); (try (rw [if_pos (by omega)]; (try with_reducible rfl))))); (try simp only [Act.put, List.setIfInBounds_toArray, List.set_cons_zero, List.set_cons_succ]))
          (refine o_pure (v := ?_) (by rfl) (fun w' => ?_) ?_; rotate_left; (focus (go_simp; (try with_reducible rfl); (try (rw [if_pos (by omega)]; (try with_reducible rfl))))); (try simp only [Act.put, List.setIfInBounds_toArray, List.set_cons_zero, List.set_cons_succ]))
          (refine o_loads _ [.int .i64 xi.id, .bool xi.may, .bool xi.us, .bool xi.bk, .bool xi.bd, .int .i64 xi.mean, .int .i64 xi.tries] (by rfl) rfl rfl (LI.out _ SD.out) (Nat.succ_pos _) (by kernel_rfl) (by kernel_rfl) ?_; simp only [Act.put, List.setIfInBounds_toArray, List.set_cons_zero, List.set_cons_succ])
          (refine o_pure (v := ?_) (by rfl) (fun w' => ?_) ?_; rotate_left; (focus (go_simp; (try with_reducible rfl); (try (rw [if_pos (by omega)]; (try with_reducible rfl))))); (try simp only [Act.put, List.setIfInBounds_toArray, List.set_cons_zero, List.set_cons_succ]))
          refine o_sole (fun K hK => ?_)
          refine pl_store SD.out IL.out xj rfl _ _ rfl rfl rfl (by kernel_rfl) fun w3 h3 s3 => ?_
          refine wpList_nil ?_
          refine hK _ _ (fun h => by cases h) ?_; clear hK K
          have S3 := Lib.hid h3
          have T3 := Lib.hid (TD.out.solo s3)
          clear h3 s3 SD TD
          (refine o_pure (v := ?_) (by rfl) (fun w' => ?_) ?_; rotate_left; (focus (go_simp; (try with_reducible rfl); (try (rw [if_pos (by omega)]; (try with_reducible rfl))))); (try simp only [Act.put, List.setIfInBounds_toArray, List.set_cons_zero, List.set_cons_succ]))
          refine o_sole (fun K hK => ?_)
          refine pl_store S3.out JL2.out xi rfl _ _ rfl rfl rfl (by kernel_rfl) fun w4 h4 s4 => ?_
          refine wpList_nil ?_
          refine hK _ _ (fun h => by cases h) ?_; clear hK K
          have S4 := Lib.hid h4
          have T4 := Lib.hid (T3.out.solo s4)
          clear h4 s4 S3 T3
          refine o_nil (hQ.out _ _ ?_); clear hQ QQ
          have ESW : (dk.setIfInBounds p xj).setIfInBounds q xi = swp dk p (p + 1) := by rw [HXX.out.1, HXX.out.2, HQ.out]; rfl
          have X4 := Lib.hid (show Rot d ((dk.setIfInBounds p xj).setIfInBounds q xi) a m (p + 1 + 1) by
            rw [ESW]
            have h1 := HRT.out
            rw [HM.out] at h1 ⊢
            exact Rot.up h1 (by omega) (by have := JL.out; rw [HQ.out] at this; exact this))
          have P4 := Lib.hid (show PermIn a b d ((dk.setIfInBounds p xj).setIfInBounds q xi) by
            rw [ESW]
            exact permIn_trans _ _ _ _ _ HP.out (swp_permIn dk a b p (p + 1) (by omega) (by omega) (by omega) (by omega) (by rw [HS.out, ← HN.out]; exact hb)))
          have Z4 := Lib.hid (show ((dk.setIfInBounds p xj).setIfInBounds q xi).size = d.size by rw [Array.size_setIfInBounds, Array.size_setIfInBounds]; exact HS.out)
          have hk4 : a ≤ q ∧ q ≤ i1 := by have := HQ.out; omega
          have hkq : p < q := by have := HQ.out; omega
          clear ESW
          generalize (dk.setIfInBounds p xj).setIfInBounds q xi = d4 at *
          rw [← HQ.out] at X4
          clear LI LJ JL2 JL IL HRT HP HS HXX HQ S2 T2 p0 q0 p1 q1
          go_wp2_with fail
          go_roundw
          case rel => exact ⟨q, d4, rfl, hk4, S4, T4, Z4, X4, P4⟩
          case measure => simp [intOf]; omega
        · have hlk' : ¬ (p : Int) < (i1 : Int) := by omega
          have hpi : p + 1 = i := by omega
          have XR := Lib.hid (show Rot d dk a (a + 1) i by have h1 := HRT.out; rw [hpi, HM.out] at h1; exact h1)
          have XF := Lib.hid (merge_up HSO.out (by rw [← HM.out]; exact HR.out) (by rw [← HM.out]; exact HH.out) XR.out)
          clear hpi
          go_wp2_with fail
          (try simp only [Exit.inBlock, Exit.then]); refine bodyPost_ret (results_none rfl _ _ _) rfl ?_
          exact ⟨rfl, dk, S2.out, T2.out, HS.out, HP.out, XF.out⟩
set_option maxRecDepth 20000 in
set_option maxHeartbeats 8000000 in
theorem pl_symB (rb c a m b n cp : Nat) (cf : Plp → Plp → Int) (F : Nat) (hcl : PCL cf F) (hso : SWO (ltOf cf)) (d : Array Plp) (w : World) (h : PW w rb c d) (hn : n = d.size) (ham : a < m) (hmb : m < b) (hb : b ≤ n) (hb2 : n ≤ 65536) (hL : SortedIn (ltOf cf) a m d) (hR : SortedIn (ltOf cf) m b d) (hne1 : ¬ m = a + 1) (hone : b = m + 1) :
    Calls Try.prog 28 #[.slice (some ⟨rb, 0, none⟩) n cp, .int .i64 (a : Nat), .int .i64 (m : Nat), .int .i64 (b : Nat), .func (.func F) #[] #[]] w fun e w' => e = .returned (.tuple #[]) ∧ ∃ d', PW w' rb c d' ∧ Tou rb w w' ∧ d'.size = d.size ∧ PermIn a b d d' ∧ SortedIn (ltOf cf) a b d' := by
  have S0 := Lib.hid h
  have HN := Lib.hid hn
  have HCL := Lib.hid hcl
  have ef := hcl.1
  have HSO := Lib.hid hso
  have HL := Lib.hid hL
  have HR := Lib.hid hR
  have e0 : ((m : Int) - (a : Int) == 1) = false := by simp; omega
  have e1 : (b : Int) - (m : Int) = 1 := by omega
  have HM := Lib.hid hone
  clear h hn hcl hso hL hR hne1 hone
  have g1 : (0 : Int) ≤ (m : Int) := by omega
  have g3 : (m : Int) < (n : Int) := by omega
  go_enter Try.func28, Try.ntmps28
  go_wp2_with fail
  go_loopw [14, 15] (fun iv jv wr => ∃ (i j : Nat), iv = .int .i64 (i : Nat) ∧ jv = .int .i64 (j : Nat) ∧ (i ≤ j ∧ j ≤ n) ∧ Hid (HalS (fun h => !ltOf cf d[m]! d[h]!) a m i j) ∧ Hid (PW wr rb c d) ∧ Hid (Tou rb w wr)) (fun iv jv _ => (intOf jv - intOf iv).toNat)
  case atStart => exact ⟨a, m, rfl, rfl, ⟨by omega, by omega⟩, Lib.hid (HalS.start _ (by omega)), S0, Lib.hid (Tou.refl _ _)⟩
  case round =>
    clear S0
    obtain ⟨i, j, rfl, rfl, hij, HH, S1, T1⟩ := hrel
    by_cases hlt : i < j
    · have hlt' : (i : Int) < (j : Int) := by omega
      obtain ⟨h, hh⟩ : ∃ h, h = (i + j) / 2 := ⟨_, rfl⟩
      have e1 : ((i : Int) + (j : Int)) / 2 = (h : Int) := by omega
      have hh1 : i ≤ h := by omega
      have hh2 : h < j := by omega
      have hhb := Lib.hid (show a ≤ h ∧ h < m by have := HH.out; unfold HalS at this; omega)
      clear hh
      have hhn : h < n := by omega
      have hhn' : (h : Int) < (n : Int) := by omega
      have hh0 : (0 : Int) ≤ (h : Int) := by omega
      have hpn : m < n := by omega
      have hqn : h < n := hhn
      have IL := Lib.hid (show m < d.size by rw [← HN.out]; exact hpn)
      have JL := Lib.hid (show h < d.size by rw [← HN.out]; exact hqn)
      obtain ⟨xi, hxi⟩ : ∃ x, x = d[m]! := ⟨_, rfl⟩
      obtain ⟨xj, hxj⟩ : ∃ x, x = d[h]! := ⟨_, rfl⟩
      have HXX := Lib.hid (show xi = d[m]! ∧ xj = d[h]! from ⟨hxi, hxj⟩)
      have LI := Lib.hid (show ∀ w2, PW w2 rb c d → ∀ r v, xi.el[r]? = some v → w2.cell? ⟨rb, m * 7 + r, none⟩ = some v from fun w2 h2 => by rw [hxi]; exact h2.nth IL.out)
      have LJ := Lib.hid (show ∀ w2, PW w2 rb c d → ∀ r v, xj.el[r]? = some v → w2.cell? ⟨rb, h * 7 + r, none⟩ = some v from fun w2 h2 => by rw [hxj]; exact h2.nth JL.out)
      clear hxi hxj
      obtain ⟨z, hz⟩ : ∃ z, z = cf xi xj := ⟨_, rfl⟩
      have HC := Lib.hid (show ∀ w2, Below wr.heap.size wr w2 → Calls Try.prog F #[.agg #[.int .i64 xi.id, .bool xi.may, .bool xi.us, .bool xi.bk, .bool xi.bd, .int .i64 xi.mean, .int .i64 xi.tries], .agg #[.int .i64 xj.id, .bool xj.may, .bool xj.us, .bool xj.bk, .bool xj.bd, .int .i64 xj.mean, .int .i64 xj.tries]] w2 fun e w' => e = .returned (.int .i64 z) ∧ Below w2.heap.size w2 w' from fun w2 hb => by rw [hz]; exact HCL.out.2 w2 xi xj)
      have HZ := Lib.hid hz
      clear hz
      by_cases hzl : z < 0
      · have hzd : decide (z < 0) = true := decide_eq_true hzl
        have HLT : Hid (ltOf cf d[m]! d[h]! = true) := Lib.hid (by rw [← HXX.out.1, ← HXX.out.2]; unfold ltOf; rw [← HZ.out]; exact hzd)
        go_wp2_with fail
        refine wp_ext (by kernel_rfl) (by kernel_rfl) (fun QQ hQ => ?_)
        (first | (refine x_load _ (by rfl) rfl rfl (by assumption) (by kernel_rfl) ?_; simp only [Act.put, List.setIfInBounds_toArray, List.set_cons_zero, List.set_cons_succ]) | (refine x_val (v := ?_) (by rfl) (fun w' hx => ?_) ?_; rotate_left; (focus (go_simp; (try with_reducible rfl))); (try simp only [Act.put, List.setIfInBounds_toArray, List.set_cons_zero, List.set_cons_succ])))
        (first | (refine x_load _ (by rfl) rfl rfl (by assumption) (by kernel_rfl) ?_; simp only [Act.put, List.setIfInBounds_toArray, List.set_cons_zero, List.set_cons_succ]) | (refine x_val (v := ?_) (by rfl) (fun w' hx => ?_) ?_; rotate_left; (focus (go_simp; (try with_reducible rfl))); (try simp only [Act.put, List.setIfInBounds_toArray, List.set_cons_zero, List.set_cons_succ])))
        (first | (refine x_load _ (by rfl) rfl rfl (by assumption) (by kernel_rfl) ?_; simp only [Act.put, List.setIfInBounds_toArray, List.set_cons_zero, List.set_cons_succ]) | (refine x_val (v := ?_) (by rfl) (fun w' hx => ?_) ?_; rotate_left; (focus (go_simp; (try with_reducible rfl))); (try simp only [Act.put, List.setIfInBounds_toArray, List.set_cons_zero, List.set_cons_succ])))
        (first | (refine x_load _ (by rfl) rfl rfl (by assumption) (by kernel_rfl) ?_; simp only [Act.put, List.setIfInBounds_toArray, List.set_cons_zero, List.set_cons_succ]) | (refine x_val (v := ?_) (by rfl) (fun w' hx => ?_) ?_; rotate_left; (focus (go_simp; (try with_reducible rfl))); (try simp only [Act.put, List.setIfInBounds_toArray, List.set_cons_zero, List.set_cons_succ])))
        refine x_loads _ [.int .i64 xi.id, .bool xi.may, .bool xi.us, .bool xi.bk, .bool xi.bd, .int .i64 xi.mean, .int .i64 xi.tries] (by rfl) rfl rfl (LI.out _ S1.out) (Nat.succ_pos _) (by kernel_rfl) (by kernel_rfl) ?_; simp only [Act.put, List.setIfInBounds_toArray, List.set_cons_zero, List.set_cons_succ]
        (first | (refine x_load _ (by rfl) rfl rfl (by assumption) (by kernel_rfl) ?_; simp only [Act.put, List.setIfInBounds_toArray, List.set_cons_zero, List.set_cons_succ]) | (refine x_val (v := ?_) (by rfl) (fun w' hx => ?_) ?_; rotate_left; (focus (go_simp; (try with_reducible rfl))); (try simp only [Act.put, List.setIfInBounds_toArray, List.set_cons_zero, List.set_cons_succ])))
        (first | (refine x_load _ (by rfl) rfl rfl (by assumption) (by kernel_rfl) ?_; simp only [Act.put, List.setIfInBounds_toArray, List.set_cons_zero, List.set_cons_succ]) | (refine x_val (v := ?_) (by rfl) (fun w' hx => ?_) ?_; rotate_left; (focus (go_simp; (try with_reducible rfl))); (try simp only [Act.put, List.setIfInBounds_toArray, List.set_cons_zero, List.set_cons_succ])))
        (first | (refine x_load _ (by rfl) rfl rfl (by assumption) (by kernel_rfl) ?_; simp only [Act.put, List.setIfInBounds_toArray, List.set_cons_zero, List.set_cons_succ]) | (refine x_val (v := ?_) (by rfl) (fun w' hx => ?_) ?_; rotate_left; (focus (go_simp; (try with_reducible rfl))); (try simp only [Act.put, List.setIfInBounds_toArray, List.set_cons_zero, List.set_cons_succ])))
        refine x_loads _ [.int .i64 xj.id, .bool xj.may, .bool xj.us, .bool xj.bk, .bool xj.bd, .int .i64 xj.mean, .int .i64 xj.tries] (by rfl) rfl rfl (LJ.out _ S1.out) (Nat.succ_pos _) (by kernel_rfl) (by kernel_rfl) ?_; simp only [Act.put, List.setIfInBounds_toArray, List.set_cons_zero, List.set_cons_succ]
        refine x_call (by rfl) (fun w' hx => by go_simp) (fun w' hx => HC.out w' hx) ?_; simp only [Act.put, List.setIfInBounds_toArray, List.set_cons_zero, List.set_cons_succ]
        (first | (refine x_load _ (by rfl) rfl rfl (by assumption) (by kernel_rfl) ?_; simp only [Act.put, List.setIfInBounds_toArray, List.set_cons_zero, List.set_cons_succ]) | (refine x_val (v := ?_) (by rfl) (fun w' hx => ?_) ?_; rotate_left; (focus (go_simp; (try with_reducible rfl))); (try simp only [Act.put, List.setIfInBounds_toArray, List.set_cons_zero, List.set_cons_succ])))
        (first | (refine x_load _ (by rfl) rfl rfl (by assumption) (by kernel_rfl) ?_; simp only [Act.put, List.setIfInBounds_toArray, List.set_cons_zero, List.set_cons_succ]) | (refine x_val (v := ?_) (by rfl) (fun w' hx => ?_) ?_; rotate_left; (focus (go_simp; (try with_reducible rfl))); (try simp only [Act.put, List.setIfInBounds_toArray, List.set_cons_zero, List.set_cons_succ])))
        refine x_nil (hQ.out _ ?_); clear hQ QQ
        intro w1 hbw
        have S2 := Lib.hid (S1.out.into hbw)
        have T2 := Lib.hid (T1.out.grow hbw (Nat.le_of_lt S1.out.rl))
        have H2 := Lib.hid (HH.out.no (h := h) hh1 hh2 (by first | exact HLT.out | (have h1 := HLT.out; simp only [h1, Bool.not_true] )))
        clear hbw HC S1 T1 HH LI LJ JL IL HXX HZ HLT hzd hzl
        go_wp2_with fail
        go_roundw
        case rel => exact ⟨i, h, by first | rfl | go_num, rfl, ⟨by omega, by omega⟩, H2, S2, T2⟩
        case measure => simp [intOf]; omega
      · have hzd : decide (z < 0) = false := decide_eq_false hzl
        have hzl2 : ¬ z < 0 := hzl
        have hzl3 : (0 : Int) ≤ z := by omega
        have HLT : Hid (ltOf cf d[m]! d[h]! = false) := Lib.hid (by rw [← HXX.out.1, ← HXX.out.2]; unfold ltOf; rw [← HZ.out]; exact hzd)
        go_wp2_with fail
        refine wp_ext (by kernel_rfl) (by kernel_rfl) (fun QQ hQ => ?_)
        (first | (refine x_load _ (by rfl) rfl rfl (by assumption) (by kernel_rfl) ?_; simp only [Act.put, List.setIfInBounds_toArray, List.set_cons_zero, List.set_cons_succ]) | (refine x_val (v := ?_) (by rfl) (fun w' hx => ?_) ?_; rotate_left; (focus (go_simp; (try with_reducible rfl))); (try simp only [Act.put, List.setIfInBounds_toArray, List.set_cons_zero, List.set_cons_succ])))
        (first | (refine x_load _ (by rfl) rfl rfl (by assumption) (by kernel_rfl) ?_; simp only [Act.put, List.setIfInBounds_toArray, List.set_cons_zero, List.set_cons_succ]) | (refine x_val (v := ?_) (by rfl) (fun w' hx => ?_) ?_; rotate_left; (focus (go_simp; (try with_reducible rfl))); (try simp only [Act.put, List.setIfInBounds_toArray, List.set_cons_zero, List.set_cons_succ])))
        (first | (refine x_load _ (by rfl) rfl rfl (by assumption) (by kernel_rfl) ?_; simp only [Act.put, List.setIfInBounds_toArray, List.set_cons_zero, List.set_cons_succ]) | (refine x_val (v := ?_) (by rfl) (fun w' hx => ?_) ?_; rotate_left; (focus (go_simp; (try with_reducible rfl))); (try simp only [Act.put, List.setIfInBounds_toArray, List.set_cons_zero, List.set_cons_succ])))
        (first | (refine x_load _ (by rfl) rfl rfl (by assumption) (by kernel_rfl) ?_; simp only [Act.put, List.setIfInBounds_toArray, List.set_cons_zero, List.set_cons_succ]) | (refine x_val (v := ?_) (by rfl) (fun w' hx => ?_) ?_; rotate_left; (focus (go_simp; (try with_reducible rfl))); (try simp only [Act.put, List.setIfInBounds_toArray, List.set_cons_zero, List.set_cons_succ])))
        refine x_loads _ [.int .i64 xi.id, .bool xi.may, .bool xi.us, .bool xi.bk, .bool xi.bd, .int .i64 xi.mean, .int .i64 xi.tries] (by rfl) rfl rfl (LI.out _ S1.out) (Nat.succ_pos _) (by kernel_rfl) (by kernel_rfl) ?_; simp only [Act.put, List.setIfInBounds_toArray, List.set_cons_zero, List.set_cons_succ]
        (first | (refine x_load _ (by rfl) rfl rfl (by assumption) (by kernel_rfl) ?_; simp only [Act.put, List.setIfInBounds_toArray, List.set_cons_zero, List.set_cons_succ]) | (refine x_val (v := ?_) (by rfl) (fun w' hx => ?_) ?_; rotate_left; (focus (go_simp; (try with_reducible rfl))); (try simp only [Act.put, List.setIfInBounds_toArray, List.set_cons_zero, List.set_cons_succ])))
        (first | (refine x_load _ (by rfl) rfl rfl (by assumption) (by kernel_rfl) ?_; simp only [Act.put, List.setIfInBounds_toArray, List.set_cons_zero, List.set_cons_succ]) | (refine x_val (v := ?_) (by rfl) (fun w' hx => ?_) ?_; rotate_left; (focus (go_simp; (try with_reducible rfl))); (try simp only [Act.put, List.setIfInBounds_toArray, List.set_cons_zero, List.set_cons_succ])))
        (first | (refine x_load _ (by rfl) rfl rfl (by assumption) (by kernel_rfl) ?_; simp only [Act.put, List.setIfInBounds_toArray, List.set_cons_zero, List.set_cons_succ]) | (refine x_val (v := ?_) (by rfl) (fun w' hx => ?_) ?_; rotate_left; (focus (go_simp; (try with_reducible rfl))); (try simp only [Act.put, List.setIfInBounds_toArray, List.set_cons_zero, List.set_cons_succ])))
        refine x_loads _ [.int .i64 xj.id, .bool xj.may, .bool xj.us, .bool xj.bk, .bool xj.bd, .int .i64 xj.mean, .int .i64 xj.tries] (by rfl) rfl rfl (LJ.out _ S1.out) (Nat.succ_pos _) (by kernel_rfl) (by kernel_rfl) ?_; simp only [Act.put, List.setIfInBounds_toArray, List.set_cons_zero, List.set_cons_succ]
        refine x_call (by rfl) (fun w' hx => by go_simp) (fun w' hx => HC.out w' hx) ?_; simp only [Act.put, List.setIfInBounds_toArray, List.set_cons_zero, List.set_cons_succ]
        (first | (refine x_load _ (by rfl) rfl rfl (by assumption) (by kernel_rfl) ?_; simp only [Act.put, List.setIfInBounds_toArray, List.set_cons_zero, List.set_cons_succ]) | (refine x_val (v := ?_) (by rfl) (fun w' hx => ?_) ?_; rotate_left; (focus (go_simp; (try with_reducible rfl))); (try simp only [Act.put, List.setIfInBounds_toArray, List.set_cons_zero, List.set_cons_succ])))
        (first | (refine x_load _ (by rfl) rfl rfl (by assumption) (by kernel_rfl) ?_; simp only [Act.put, List.setIfInBounds_toArray, List.set_cons_zero, List.set_cons_succ]) | (refine x_val (v := ?_) (by rfl) (fun w' hx => ?_) ?_; rotate_left; (focus (go_simp; (try with_reducible rfl))); (try simp only [Act.put, List.setIfInBounds_toArray, List.set_cons_zero, List.set_cons_succ])))
        refine x_nil (hQ.out _ ?_); clear hQ QQ
        intro w1 hbw
        have S2 := Lib.hid (S1.out.into hbw)
        have T2 := Lib.hid (T1.out.grow hbw (Nat.le_of_lt S1.out.rl))
        have H2 := Lib.hid (HH.out.yes (h := h) hh1 hh2 (by first | exact HLT.out | (have h1 := HLT.out; simp only [h1, Bool.not_false] )))
        clear hbw HC S1 T1 HH LI LJ JL IL HXX HZ HLT hzd hzl hzl2 hzl3
        go_wp2_with fail
        go_roundw
        case rel => exact ⟨h + 1, j, by first | rfl | go_num, rfl, ⟨by omega, by omega⟩, H2, S2, T2⟩
        case measure => simp [intOf]; omega
    · have hlt' : ¬ (i : Int) < (j : Int) := by omega
      obtain rfl : i = j := by omega
      clear hlt
      have HB := Lib.hid (show a ≤ i ∧ i ≤ m from ⟨HH.out.1, HH.out.2.2.1⟩)
      have hiB : a ≤ i ∧ i ≤ m := HB.out
      have HR0 := Lib.hid (show Rot d d m m b from Rot.left d (by omega))
      go_wp2_with fail
      go_loopw [17] (fun kv wr2 => ∃ (k : Nat) (dk : Array Plp), kv = .int .i64 (k : Nat) ∧ (i ≤ k ∧ k ≤ m) ∧ Hid (PW wr2 rb c dk) ∧ Hid (Tou rb w wr2) ∧ Hid (dk.size = d.size) ∧ Hid (Rot d dk k m b) ∧ Hid (PermIn a b d dk)) (fun kv _ => (intOf kv).toNat)
      case atStart => exact ⟨m, d, rfl, ⟨by omega, Nat.le_refl _⟩, S1, T1, Lib.hid rfl, HR0, Lib.hid (permIn_refl _ _ _)⟩
      case round =>
        clear S1 T1 HR0
        obtain ⟨p, dk, rfl, hk, S2, T2, HS, HRT, HP⟩ := hrel
        by_cases hlk : i < p
        · have hlk' : (i : Int) < (p : Int) := by omega
          obtain ⟨q, hq⟩ : ∃ q, q = p - 1 := ⟨_, rfl⟩
          have eq1 : (p : Int) - 1 = (q : Int) := by omega
          have eqw : IntKind.i64.wrap (q : Int) = (q : Int) := by rw [IntKind.wrap_i64]; omega
          have hpn : p < n := by omega
          have hqn : q < n := by omega
          have p0 : (0 : Int) ≤ (p : Int) := by omega
          have q0 : (0 : Int) ≤ (q : Int) := by omega
          have p1 : (p : Int) < (n : Int) := by omega
          have q1 : (q : Int) < (n : Int) := by omega
          have HQ := Lib.hid (show p = q + 1 by omega)
          clear hq
          have IL := Lib.hid (show p < dk.size by rw [HS.out, ← HN.out]; exact hpn)
          have JL := Lib.hid (show q < dk.size by rw [HS.out, ← HN.out]; exact hqn)
          obtain ⟨xi, hxi⟩ : ∃ x, x = dk[p]! := ⟨_, rfl⟩
          obtain ⟨xj, hxj⟩ : ∃ x, x = dk[q]! := ⟨_, rfl⟩
          have HXX := Lib.hid (show xi = dk[p]! ∧ xj = dk[q]! from ⟨hxi, hxj⟩)
          have LI := Lib.hid (show ∀ w2, PW w2 rb c dk → ∀ r v, xi.el[r]? = some v → w2.cell? ⟨rb, p * 7 + r, none⟩ = some v from fun w2 h2 => by rw [hxi]; exact h2.nth IL.out)
          have LJ := Lib.hid (show ∀ w2, PW w2 rb c dk → ∀ r v, xj.el[r]? = some v → w2.cell? ⟨rb, q * 7 + r, none⟩ = some v from fun w2 h2 => by rw [hxj]; exact h2.nth JL.out)
          clear hxi hxj
          have JL2 := Lib.hid (show q < (dk.setIfInBounds p xj).size by rw [Array.size_setIfInBounds]; exact JL.out)
          go_upto_region 23 with fail
          refine wp_ord [(0, .pure), (1, .pure), (2, .pure), (3, .pure), (4, .pure), (5, .pure), (6, .pure), (7, .pure), (8, .pure), (9, .read), (10, .pure), (11, .pure), (12, .pure), (13, .read), (14, .pure), (15, .sole), (16, .pure), (17, .sole)] [15, 17] (by kernel_rfl) (by kernel_rfl) (fun QQ hQ wd hwd => ?_); simp only [List.map_cons, List.map_nil, List.getD_cons_zero, List.getD_cons_succ]
          have hD : Below wr.heap.size wr wd := by rw [hwd.out]; exact (Below.refl _ _).drew
          have SD := Lib.hid (S2.out.into hD)
          have TD := Lib.hid (T2.out.grow hD (Nat.le_of_lt S2.out.rl))
          clear hD hwd
          (refine o_pure (v := ?_) (by rfl) (fun w' => ?_) ?_; rotate_left; (focus (go_simp; (try with_reducible rfl); (try (rw [if_pos (by omega)]; (try with_reducible rfl))))); (try simp only [Act.put, List.setIfInBounds_toArray, List.set_cons_zero, List.set_cons_succ]))
          (refine o_pure (v := ?_) (by rfl) (fun w' => ?_) ?_; rotate_left; (focus (go_simp; (try with_reducible rfl); (try (rw [if_pos (by omega)]; (try with_reducible rfl))))); (try simp only [Act.put, List.setIfInBounds_toArray, List.set_cons_zero, List.set_cons_succ]))
          (refine o_pure (v := ?_) (by rfl) (fun w' => ?_) ?_; rotate_left; (focus (go_simp; (try with_reducible rfl); (try (rw [if_pos (by omega)]; (try with_reducible rfl))))); (try simp only [Act.put, List.setIfInBounds_toArray, List.set_cons_zero, List.set_cons_succ]))
          (refine o_pure (v := ?_) (by rfl) (fun w' => ?_) ?_; rotate_left; (focus (go_simp; (try with_reducible rfl); (try (rw [if_pos (by omega)]; (try with_reducible rfl))))); (try simp only [Act.put, List.setIfInBounds_toArray, List.set_cons_zero, List.set_cons_succ]))
          (refine o_pure (v := ?_) (by rfl) (fun w' => ?_) ?_; rotate_left; (focus (go_simp; (try with_reducible rfl); (try (rw [if_pos (by omega)]; (try with_reducible rfl))))); (try simp only [Act.put, List.setIfInBounds_toArray, List.set_cons_zero, List.set_cons_succ]))
          (refine o_pure (v := ?_) (by rfl) (fun w' => ?_) ?_; rotate_left; (focus (go_simp; (try with_reducible rfl); (try (rw [if_pos (by omega)]; (try with_reducible rfl))))); (try simp only [Act.put, List.setIfInBounds_toArray, List.set_cons_zero, List.set_cons_succ]))
          (refine o_pure (v := ?_) (by rfl) (fun w' => ?_) ?_; rotate_left; (focus (go_simp; (try with_reducible rfl); (try (rw [if_pos (by omega)]; (try with_reducible rfl))))); (try simp only [Act.put, List.setIfInBounds_toArray, List.set_cons_zero, List.set_cons_succ]))
          (refine o_pure (v := ?_) (by rfl) (fun w' => ?_) ?_; rotate_left; (focus (go_simp; (try with_reducible rfl); (try (rw [if_pos (by omega)]; (try with_reducible rfl))))); (try simp only [Act.put, List.setIfInBounds_toArray, List.set_cons_zero, List.set_cons_succ]))
          (refine o_pure (v := ?_) (by rfl) (fun w' => ?_) ?_; rotate_left; (focus (go_simp; (try with_reducible rfl); (try (rw [if_pos (by omega)]; (try with_reducible rfl))))); (try simp only [Act.put, List.setIfInBounds_toArray, List.set_cons_zero, List.set_cons_succ]))
          (refine o_loads _ [.int .i64 xj.id, .bool xj.may, .bool xj.us, .bool xj.bk, .bool xj.bd, .int .i64 xj.mean, .int .i64 xj.tries] (by rfl) rfl rfl (LJ.out _ SD.out) (Nat.succ_pos _) (by kernel_rfl) (by kernel_rfl) ?_; simp only [Act.put, List.setIfInBounds_toArray, List.set_cons_zero, List.set_cons_succ])
          (refine o_pure (v := ?_) (by rfl) (fun w' => ?_) ?_; rotate_left; (focus (go_simp; (try with_reducible rfl); (try (rw [if_pos (by omega)]; (try with_reducible rfl))))); (try simp only [Act.put, List.setIfInBounds_toArray, List.set_cons_zero, List.set_cons_succ]))
          (refine o_pure (v := ?_) (by rfl) (fun w' => ?_) ?_; rotate_left; (focus (go_simp; (try with_reducible rfl); (try (rw [if_pos (by omega)]; (try with_reducible rfl))))); (try simp only [Act.put, List.setIfInBounds_toArray, List.set_cons_zero, List.set_cons_succ]))
          (refine o_pure (v := ?_) (by rfl) (fun w' => ?_) ?_; rotate_left; (focus (go_simp; (try with_reducible rfl); (try (rw [if_pos (by omega)]; (try with_reducible rfl))))); (try simp only [Act.put, List.setIfInBounds_toArray, List.set_cons_zero, List.set_cons_succ]))
          (refine o_loads _ [.int .i64 xi.id, .bool xi.may, .bool xi.us, .bool xi.bk, .bool xi.bd, .int .i64 xi.mean, .int .i64 xi.tries] (by rfl) rfl rfl (LI.out _ SD.out) (Nat.succ_pos _) (by kernel_rfl) (by kernel_rfl) ?_; simp only [Act.put, List.setIfInBounds_toArray, List.set_cons_zero, List.set_cons_succ])
          (refine o_pure (v := ?_) (by rfl) (fun w' => ?_) ?_; rotate_left; (focus (go_simp; (try with_reducible rfl); (try (rw [if_pos (by omega)]; (try with_reducible rfl))))); (try simp only [Act.put, List.setIfInBounds_toArray, List.set_cons_zero, List.set_cons_succ]))
          refine o_sole (fun K hK => ?_)
          refine pl_store SD.out IL.out xj rfl _ _ rfl rfl rfl (by kernel_rfl) fun w3 h3 s3 => ?_
          refine wpList_nil ?_
          refine hK _ _ (fun h => by cases h) ?_; clear hK K
          have S3 := Lib.hid h3
          have T3 := Lib.hid (TD.out.solo s3)
          clear h3 s3 SD TD
          (refine o_pure (v := ?_) (by rfl) (fun w' => ?_) ?_; rotate_left; (focus (go_simp; (try with_reducible rfl); (try (rw [if_pos (by omega)]; (try with_reducible rfl))))); (try simp only [Act.put, List.setIfInBounds_toArray, List.set_cons_zero, List.set_cons_succ]))
          refine o_sole (fun K hK => ?_)
          refine pl_store S3.out JL2.out xi rfl _ _ rfl rfl rfl (by kernel_rfl) fun w4 h4 s4 => ?_
          refine wpList_nil ?_
          refine hK _ _ (fun h => by cases h) ?_; clear hK K
          have S4 := Lib.hid h4
          have T4 := Lib.hid (T3.out.solo s4)
          clear h4 s4 S3 T3
          refine o_nil (hQ.out _ _ ?_); clear hQ QQ
          have ESW : (dk.setIfInBounds p xj).setIfInBounds q xi = swp dk (q + 1) q := by rw [HXX.out.1, HXX.out.2, HQ.out]; rfl
          have X4 := Lib.hid (show Rot d ((dk.setIfInBounds p xj).setIfInBounds q xi) q m b by
            rw [ESW]
            have h1 := HRT.out
            rw [HQ.out, HM.out] at h1
            rw [HM.out]
            exact Rot.down h1 (by have := HQ.out; omega) (by rw [HS.out, ← HN.out]; omega))
          have P4 := Lib.hid (show PermIn a b d ((dk.setIfInBounds p xj).setIfInBounds q xi) by
            rw [ESW]
            have := HQ.out
            exact permIn_trans _ _ _ _ _ HP.out (swp_permIn dk a b (q + 1) q (by omega) (by omega) (by omega) (by omega) (by rw [HS.out, ← HN.out]; exact hb)))
          have Z4 := Lib.hid (show ((dk.setIfInBounds p xj).setIfInBounds q xi).size = d.size by rw [Array.size_setIfInBounds, Array.size_setIfInBounds]; exact HS.out)
          have hk4 : i ≤ q ∧ q ≤ m := by have := HQ.out; omega
          have hkq : q < p := by have := HQ.out; omega
          clear ESW
          generalize (dk.setIfInBounds p xj).setIfInBounds q xi = d4 at *
          clear LI LJ JL2 JL IL HRT HP HS HXX HQ S2 T2 p0 q0 p1 q1
          go_wp2_with fail
          go_roundw
          case rel => exact ⟨q, d4, rfl, hk4, S4, T4, Z4, X4, P4⟩
          case measure => simp [intOf]; omega
        · have hlk' : ¬ (i : Int) < (p : Int) := by omega
          have hpi : p = i := by omega
          have XR := Lib.hid (show Rot d dk i m (m + 1) by have h1 := HRT.out; rw [hpi, HM.out] at h1; exact h1)
          have XF := Lib.hid (show SortedIn (ltOf cf) a b dk from by rw [HM.out]; exact merge_down HSO.out HL.out HH.out XR.out)
          clear hpi
          go_wp2_with fail
          (try simp only [Exit.inBlock, Exit.then]); refine bodyPost_ret (results_none rfl _ _ _) rfl ?_
          exact ⟨rfl, dk, S2.out, T2.out, HS.out, HP.out, XF.out⟩
end Go.Proofs.Ytbimjacceocglaa
