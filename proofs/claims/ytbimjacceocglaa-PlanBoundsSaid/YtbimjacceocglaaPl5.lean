/- Two sorted parts of a row of paths are made one: the whole. -/
import Derived.Test.YtbimjacceocglaaPl4
namespace Go.Proofs.Ytbimjacceocglaa
open Go.RowKit Go.Sort
set_option linter.unusedVariables false
set_option linter.unusedSimpArgs false
set_option maxRecDepth 20000 in
set_option maxHeartbeats 8000000 in
theorem pl_symC (rb c a m b n cp : Nat) (cf : Plp → Plp → Int) (F : Nat) (hcl : PCL cf F) (hso : SWO (ltOf cf)) (d : Array Plp) (w : World) (h : PW w rb c d) (hn : n = d.size) (ham : a < m) (hmb : m < b) (hb : b ≤ n) (hb2 : n ≤ 65536) (hL : SortedIn (ltOf cf) a m d) (hR : SortedIn (ltOf cf) m b d) (hne1 : ¬ m = a + 1) (hne2 : ¬ b = m + 1) (hrec : ∀ (x y z : Nat) (d : Array Plp) (w : World), z - x < b - a → PW w rb c d → n = d.size → x < y → y < z → z ≤ n → SortedIn (ltOf cf) x y d → SortedIn (ltOf cf) y z d → Calls Try.prog 28 #[.slice (some ⟨rb, 0, none⟩) n cp, .int .i64 (x : Nat), .int .i64 (y : Nat), .int .i64 (z : Nat), .func (.func F) #[] #[]] w fun e w' => e = .returned (.tuple #[]) ∧ ∃ d', PW w' rb c d' ∧ Tou rb w w' ∧ d'.size = d.size ∧ PermIn x z d d' ∧ SortedIn (ltOf cf) x z d') :
    Calls Try.prog 28 #[.slice (some ⟨rb, 0, none⟩) n cp, .int .i64 (a : Nat), .int .i64 (m : Nat), .int .i64 (b : Nat), .func (.func F) #[] #[]] w fun e w' => e = .returned (.tuple #[]) ∧ ∃ d', PW w' rb c d' ∧ Tou rb w w' ∧ d'.size = d.size ∧ PermIn a b d d' ∧ SortedIn (ltOf cf) a b d' := by
  have S0 := Lib.hid h
  have HN := Lib.hid hn
  have HCL := Lib.hid hcl
  have ef := hcl.1
  have HSO := Lib.hid hso
  have HL := Lib.hid hL
  have HR := Lib.hid hR
  have e0 : ((m : Int) - (a : Int) == 1) = false := by simp; omega
  have e1 : ((b : Int) - (m : Int) == 1) = false := by simp; omega
  have HREC := Lib.hid hrec
  obtain ⟨mid, hmid⟩ : ∃ x, x = (a + b) / 2 := ⟨_, rfl⟩
  obtain ⟨nn, hnn⟩ : ∃ x, x = mid + m := ⟨_, rfl⟩
  obtain ⟨v, hv⟩ : ∃ x, x = nn - 1 := ⟨_, rfl⟩
  have e2 : ((a : Int) + (b : Int)) / 2 = (mid : Int) := by omega
  have e3 : (mid : Int) + (m : Int) = (nn : Int) := by omega
  have e3w : IntKind.i64.wrap (nn : Int) = (nn : Int) := by rw [IntKind.wrap_i64]; omega
  have e4 : (nn : Int) - 1 = (v : Int) := by omega
  have e4w : IntKind.i64.wrap (v : Int) = (v : Int) := by rw [IntKind.wrap_i64]; omega
  have HMN := Lib.hid (show mid = (a + b) / 2 ∧ nn = mid + m ∧ v = nn - 1 ∧ a < mid ∧ mid < b from ⟨hmid, hnn, hv, by omega, by omega⟩)
  have HAMB := Lib.hid (show a < m ∧ m < b ∧ b ≤ n ∧ n ≤ 65536 from ⟨ham, hmb, hb, hb2⟩)
  clear h hn hcl hso hL hR hne1 hne2 hrec hmid hnn hv
  go_enter Try.func28, Try.ntmps28
  go_upto_if 140 with fail
  go_cut [20, 21] from 25 (fun sv rv wc => ∃ (s0 r0 : Nat), sv = .int .i64 (s0 : Nat) ∧ rv = .int .i64 (r0 : Nat) ∧ Hid (SymS a m b mid s0 r0) ∧ wc = w)
  case first =>
    by_cases hgt : mid < m
    · have hgt' : (mid : Int) < (m : Int) := by omega
      obtain ⟨s0, hs0⟩ : ∃ x, x = nn - b := ⟨_, rfl⟩
      have e5 : (nn : Int) - (b : Int) = (s0 : Int) := by have := HMN.out; omega
      have e5w : IntKind.i64.wrap (s0 : Int) = (s0 : Int) := by rw [IntKind.wrap_i64]; have := HMN.out; omega
      have Y := Lib.hid (show SymS a m b mid s0 mid by rw [hs0, HMN.out.2.1]; exact SymS.a ham hmb HMN.out.1 hgt)
      clear hs0
      go_wp2_with fail
      go_meet
      case rel => exact ⟨s0, mid, rfl, rfl, Y, rfl⟩
    · have hgt' : ¬ (mid : Int) < (m : Int) := by omega
      have Y := Lib.hid (show SymS a m b mid a m from SymS.b ham hmb HMN.out.1 (by omega))
      go_wp2_with fail
      go_meet
      case rel => exact ⟨a, m, rfl, rfl, Y, rfl⟩
  case rest =>
    obtain ⟨s0, r0, rfl, rfl, HY, hwc⟩ := hcut
    have hwc2 := hwc.symm
    subst hwc2
    have hy := HY.out
    unfold SymS at hy
    have hv0 : r0 ≤ n ∧ s0 ≤ r0 := by omega
    clear hy
    go_wp2_with fail
    go_loopw [20, 21] (fun iv jv wr => ∃ (i j : Nat), iv = .int .i64 (i : Nat) ∧ jv = .int .i64 (j : Nat) ∧ (i ≤ j ∧ j ≤ n) ∧ Hid (HalS (fun x => !ltOf cf d[mid + m - 1 - x]! d[x]!) s0 r0 i j) ∧ Hid (PW wr rb c d) ∧ Hid (Tou rb w wr)) (fun iv jv _ => (intOf jv - intOf iv).toNat)
    case atStart => exact ⟨s0, r0, rfl, rfl, ⟨by omega, by omega⟩, Lib.hid (HalS.start _ (by omega)), S0, Lib.hid (Tou.refl _ _)⟩
    case round =>
      clear S0
      obtain ⟨i, j, rfl, rfl, hij, HH, S1, T1⟩ := hrel
      by_cases hlt : i < j
      · have hlt' : (i : Int) < (j : Int) := by omega
        obtain ⟨h, hh⟩ : ∃ h, h = (i + j) / 2 := ⟨_, rfl⟩
        have e1 : ((i : Int) + (j : Int)) / 2 = (h : Int) := by omega
        have hh1 : i ≤ h := by omega
        have hh2 : h < j := by omega
        have hhb := Lib.hid (show s0 ≤ h ∧ h < r0 by have := HH.out; unfold HalS at this; omega)
        clear hh
        have hhn : h < n := by omega
        have hhn' : (h : Int) < (n : Int) := by omega
        have hh0 : (0 : Int) ≤ (h : Int) := by omega
        obtain ⟨u, hu⟩ : ∃ u, u = v - h := ⟨_, rfl⟩
        have hub := HY.out
        unfold SymS at hub
        have e6 : (v : Int) - (h : Int) = (u : Int) := by have := HMN.out; have := hhb.out; omega
        have e6w : IntKind.i64.wrap (u : Int) = (u : Int) := by rw [IntKind.wrap_i64]; have := HMN.out; omega
        have hpn : u < n := by have := HMN.out; have := hhb.out; omega
        have hqn : h < n := hhn
        have hu0 : (0 : Int) ≤ (u : Int) := by omega
        have hu1 : (u : Int) < (n : Int) := by omega
        have HUE := Lib.hid (show mid + m - 1 - h = u by have := HMN.out; omega)
        clear hu hub
        have IL := Lib.hid (show u < d.size by rw [← HN.out]; exact hpn)
        have JL := Lib.hid (show h < d.size by rw [← HN.out]; exact hqn)
        obtain ⟨xi, hxi⟩ : ∃ x, x = d[u]! := ⟨_, rfl⟩
        obtain ⟨xj, hxj⟩ : ∃ x, x = d[h]! := ⟨_, rfl⟩
        have HXX := Lib.hid (show xi = d[u]! ∧ xj = d[h]! from ⟨hxi, hxj⟩)
        have LI := Lib.hid (show ∀ w2, PW w2 rb c d → ∀ r v, xi.el[r]? = some v → w2.cell? ⟨rb, u * 7 + r, none⟩ = some v from fun w2 h2 => by rw [hxi]; exact h2.nth IL.out)
        have LJ := Lib.hid (show ∀ w2, PW w2 rb c d → ∀ r v, xj.el[r]? = some v → w2.cell? ⟨rb, h * 7 + r, none⟩ = some v from fun w2 h2 => by rw [hxj]; exact h2.nth JL.out)
        clear hxi hxj
        obtain ⟨z, hz⟩ : ∃ z, z = cf xi xj := ⟨_, rfl⟩
        have HC := Lib.hid (show ∀ w2, Below wr.heap.size wr w2 → Calls Try.prog F #[.agg #[.int .i64 xi.id, .bool xi.may, .bool xi.us, .bool xi.bk, .bool xi.bd, .int .i64 xi.mean, .int .i64 xi.tries], .agg #[.int .i64 xj.id, .bool xj.may, .bool xj.us, .bool xj.bk, .bool xj.bd, .int .i64 xj.mean, .int .i64 xj.tries]] w2 fun e w' => e = .returned (.int .i64 z) ∧ Below w2.heap.size w2 w' from fun w2 hb => by rw [hz]; exact HCL.out.2 w2 xi xj)
        have HZ := Lib.hid hz
        clear hz
        by_cases hzl : z < 0
        · have hzd : decide (z < 0) = true := decide_eq_true hzl
          have HLT : Hid (ltOf cf d[u]! d[h]! = true) := Lib.hid (by rw [← HXX.out.1, ← HXX.out.2]; unfold ltOf; rw [← HZ.out]; exact hzd)
          go_wp2_with fail
          refine wp_ext (by kernel_rfl) (by kernel_rfl) (fun QQ hQ => ?_)
          (first | (refine x_load _ (by rfl) rfl rfl (by assumption) (by kernel_rfl) ?_; simp only [Act.put, List.setIfInBounds_toArray, List.set_cons_zero, List.set_cons_succ]) | (refine x_val (v := ?_) (by rfl) (fun w' hx => ?_) ?_; rotate_left; (focus (go_simp; (try with_reducible rfl))); (try simp only [Act.put, List.setIfInBounds_toArray, List.set_cons_zero, List.set_cons_succ])))
          (first | (refine x_load _ (by rfl) rfl rfl (by assumption) (by kernel_rfl) ?_; simp only [Act.put, List.setIfInBounds_toArray, List.set_cons_zero, List.set_cons_succ]) | (refine x_val (v := ?_) (by rfl) (fun w' hx => ?_) ?_; rotate_left; (focus (go_simp; (try with_reducible rfl))); (try simp only [Act.put, List.setIfInBounds_toArray, List.set_cons_zero, List.set_cons_succ])))
          (first | (refine x_load _ (by rfl) rfl rfl (by assumption) (by kernel_rfl) ?_; simp only [Act.put, List.setIfInBounds_toArray, List.set_cons_zero, List.set_cons_succ]) | (refine x_val (v := ?_) (by rfl) (fun w' hx => ?_) ?_; rotate_left; (focus (go_simp; (try with_reducible rfl))); (try simp only [Act.put, List.setIfInBounds_toArray, List.set_cons_zero, List.set_cons_succ])))
          (first | (refine x_load _ (by rfl) rfl rfl (by assumption) (by kernel_rfl) ?_; simp only [Act.put, List.setIfInBounds_toArray, List.set_cons_zero, List.set_cons_succ]) | (refine x_val (v := ?_) (by rfl) (fun w' hx => ?_) ?_; rotate_left; (focus (go_simp; (try with_reducible rfl))); (try simp only [Act.put, List.setIfInBounds_toArray, List.set_cons_zero, List.set_cons_succ])))
          (first | (refine x_load _ (by rfl) rfl rfl (by assumption) (by kernel_rfl) ?_; simp only [Act.put, List.setIfInBounds_toArray, List.set_cons_zero, List.set_cons_succ]) | (refine x_val (v := ?_) (by rfl) (fun w' hx => ?_) ?_; rotate_left; (focus (go_simp; (try with_reducible rfl))); (try simp only [Act.put, List.setIfInBounds_toArray, List.set_cons_zero, List.set_cons_succ])))
          (first | (refine x_load _ (by rfl) rfl rfl (by assumption) (by kernel_rfl) ?_; simp only [Act.put, List.setIfInBounds_toArray, List.set_cons_zero, List.set_cons_succ]) | (refine x_val (v := ?_) (by rfl) (fun w' hx => ?_) ?_; rotate_left; (focus (go_simp; (try with_reducible rfl))); (try simp only [Act.put, List.setIfInBounds_toArray, List.set_cons_zero, List.set_cons_succ])))
          refine x_loads _ [.int .i64 xi.id, .bool xi.may, .bool xi.us, .bool xi.bk, .bool xi.bd, .int .i64 xi.mean, .int .i64 xi.tries] (by rfl) rfl rfl (LI.out _ S1.out) (Nat.succ_pos _) (by kernel_rfl) (by kernel_rfl) ?_; simp only [Act.put, List.setIfInBounds_toArray, List.set_cons_zero, List.set_cons_succ]
          (first | (refine x_load _ (by rfl) rfl rfl (by assumption) (by kernel_rfl) ?_; simp only [Act.put, List.setIfInBounds_toArray, List.set_cons_zero, List.set_cons_succ]) | (refine x_val (v := ?_) (by rfl) (fun w' hx => ?_) ?_; rotate_left; (focus (go_simp; (try with_reducible rfl))); (try simp only [Act.put, List.setIfInBounds_toArray, List.set_cons_zero, List.set_cons_succ])))
          (first | (refine x_load _ (by rfl) rfl rfl (by assumption) (by kernel_rfl) ?_; simp only [Act.put, List.setIfInBounds_toArray, List.set_cons_zero, List.set_cons_succ]) | (refine x_val (v := ?_) (by rfl) (fun w' hx => ?_) ?_; rotate_left; (focus (go_simp; (try with_reducible rfl))); (try simp only [Act.put, List.setIfInBounds_toArray, List.set_cons_zero, List.set_cons_succ])))
          (first | (refine x_load _ (by rfl) rfl rfl (by assumption) (by kernel_rfl) ?_; simp only [Act.put, List.setIfInBounds_toArray, List.set_cons_zero, List.set_cons_succ]) | (refine x_val (v := ?_) (by rfl) (fun w' hx => ?_) ?_; rotate_left; (focus (go_simp; (try with_reducible rfl))); (try simp only [Act.put, List.setIfInBounds_toArray, List.set_cons_zero, List.set_cons_succ])))
          refine x_loads _ [.int .i64 xj.id, .bool xj.may, .bool xj.us, .bool xj.bk, .bool xj.bd, .int .i64 xj.mean, .int .i64 xj.tries] (by rfl) rfl rfl (LJ.out _ S1.out) (Nat.succ_pos _) (by kernel_rfl) (by kernel_rfl) ?_; simp only [Act.put, List.setIfInBounds_toArray, List.set_cons_zero, List.set_cons_succ]
          refine x_call (by rfl) (fun w' hx => by go_simp) (fun w' hx => HC.out w' hx) ?_; simp only [Act.put, List.setIfInBounds_toArray, List.set_cons_zero, List.set_cons_succ]
          (first | (refine x_load _ (by rfl) rfl rfl (by assumption) (by kernel_rfl) ?_; simp only [Act.put, List.setIfInBounds_toArray, List.set_cons_zero, List.set_cons_succ]) | (refine x_val (v := ?_) (by rfl) (fun w' hx => ?_) ?_; rotate_left; (focus (go_simp; (try with_reducible rfl))); (try simp only [Act.put, List.setIfInBounds_toArray, List.set_cons_zero, List.set_cons_succ])))
          (first | (refine x_load _ (by rfl) rfl rfl (by assumption) (by kernel_rfl) ?_; simp only [Act.put, List.setIfInBounds_toArray, List.set_cons_zero, List.set_cons_succ]) | (refine x_val (v := ?_) (by rfl) (fun w' hx => ?_) ?_; rotate_left; (focus (go_simp; (try with_reducible rfl))); (try simp only [Act.put, List.setIfInBounds_toArray, List.set_cons_zero, List.set_cons_succ])))
          refine x_nil (hQ.out _ ?_); clear hQ QQ
          intro w1 hbw
          have S2 := Lib.hid (S1.out.into hbw)
          have T2 := Lib.hid (T1.out.grow hbw (Nat.le_of_lt S1.out.rl))
          have H2 := Lib.hid (HH.out.no (h := h) hh1 hh2 (by first | exact HLT.out | (have h1 := HLT.out; simp only [HUE.out, h1, Bool.not_true])))
          clear hbw HC S1 T1 HH LI LJ JL IL HXX HZ HLT hzd hzl
          go_wp2_with fail
          go_roundw
          case rel => exact ⟨i, h, by first | rfl | go_num, rfl, ⟨by omega, by omega⟩, H2, S2, T2⟩
          case measure => simp [intOf]; omega
        · have hzd : decide (z < 0) = false := decide_eq_false hzl
          have hzl2 : ¬ z < 0 := hzl
          have hzl3 : (0 : Int) ≤ z := by omega
          have HLT : Hid (ltOf cf d[u]! d[h]! = false) := Lib.hid (by rw [← HXX.out.1, ← HXX.out.2]; unfold ltOf; rw [← HZ.out]; exact hzd)
          go_wp2_with fail
          refine wp_ext (by kernel_rfl) (by kernel_rfl) (fun QQ hQ => ?_)
          (first | (refine x_load _ (by rfl) rfl rfl (by assumption) (by kernel_rfl) ?_; simp only [Act.put, List.setIfInBounds_toArray, List.set_cons_zero, List.set_cons_succ]) | (refine x_val (v := ?_) (by rfl) (fun w' hx => ?_) ?_; rotate_left; (focus (go_simp; (try with_reducible rfl))); (try simp only [Act.put, List.setIfInBounds_toArray, List.set_cons_zero, List.set_cons_succ])))
          (first | (refine x_load _ (by rfl) rfl rfl (by assumption) (by kernel_rfl) ?_; simp only [Act.put, List.setIfInBounds_toArray, List.set_cons_zero, List.set_cons_succ]) | (refine x_val (v := ?_) (by rfl) (fun w' hx => ?_) ?_; rotate_left; (focus (go_simp; (try with_reducible rfl))); (try simp only [Act.put, List.setIfInBounds_toArray, List.set_cons_zero, List.set_cons_succ])))
          (first | (refine x_load _ (by rfl) rfl rfl (by assumption) (by kernel_rfl) ?_; simp only [Act.put, List.setIfInBounds_toArray, List.set_cons_zero, List.set_cons_succ]) | (refine x_val (v := ?_) (by rfl) (fun w' hx => ?_) ?_; rotate_left; (focus (go_simp; (try with_reducible rfl))); (try simp only [Act.put, List.setIfInBounds_toArray, List.set_cons_zero, List.set_cons_succ])))
          (first | (refine x_load _ (by rfl) rfl rfl (by assumption) (by kernel_rfl) ?_; simp only [Act.put, List.setIfInBounds_toArray, List.set_cons_zero, List.set_cons_succ]) | (refine x_val (v := ?_) (by rfl) (fun w' hx => ?_) ?_; rotate_left; (focus (go_simp; (try with_reducible rfl))); (try simp only [Act.put, List.setIfInBounds_toArray, List.set_cons_zero, List.set_cons_succ])))
          (first | (refine x_load _ (by rfl) rfl rfl (by assumption) (by kernel_rfl) ?_; simp only [Act.put, List.setIfInBounds_toArray, List.set_cons_zero, List.set_cons_succ]) | (refine x_val (v := ?_) (by rfl) (fun w' hx => ?_) ?_; rotate_left; (focus (go_simp; (try with_reducible rfl))); (try simp only [Act.put, List.setIfInBounds_toArray, List.set_cons_zero, List.set_cons_succ])))
          (first | (refine x_load _ (by rfl) rfl rfl (by assumption) (by kernel_rfl) ?_; simp only [Act.put, List.setIfInBounds_toArray, List.set_cons_zero, List.set_cons_succ]) | (refine x_val (v := ?_) (by rfl) (fun w' hx => ?_) ?_; rotate_left; (focus (go_simp; (try with_reducible rfl))); (try simp only [Act.put, List.setIfInBounds_toArray, List.set_cons_zero, List.set_cons_succ])))
          refine x_loads _ [.int .i64 xi.id, .bool xi.may, .bool xi.us, .bool xi.bk, .bool xi.bd, .int .i64 xi.mean, .int .i64 xi.tries] (by rfl) rfl rfl (LI.out _ S1.out) (Nat.succ_pos _) (by kernel_rfl) (by kernel_rfl) ?_; simp only [Act.put, List.setIfInBounds_toArray, List.set_cons_zero, List.set_cons_succ]
          (first | (refine x_load _ (by rfl) rfl rfl (by assumption) (by kernel_rfl) ?_; simp only [Act.put, List.setIfInBounds_toArray, List.set_cons_zero, List.set_cons_succ]) | (refine x_val (v := ?_) (by rfl) (fun w' hx => ?_) ?_; rotate_left; (focus (go_simp; (try with_reducible rfl))); (try simp only [Act.put, List.setIfInBounds_toArray, List.set_cons_zero, List.set_cons_succ])))
          (first | (refine x_load _ (by rfl) rfl rfl (by assumption) (by kernel_rfl) ?_; simp only [Act.put, List.setIfInBounds_toArray, List.set_cons_zero, List.set_cons_succ]) | (refine x_val (v := ?_) (by rfl) (fun w' hx => ?_) ?_; rotate_left; (focus (go_simp; (try with_reducible rfl))); (try simp only [Act.put, List.setIfInBounds_toArray, List.set_cons_zero, List.set_cons_succ])))
          (first | (refine x_load _ (by rfl) rfl rfl (by assumption) (by kernel_rfl) ?_; simp only [Act.put, List.setIfInBounds_toArray, List.set_cons_zero, List.set_cons_succ]) | (refine x_val (v := ?_) (by rfl) (fun w' hx => ?_) ?_; rotate_left; (focus (go_simp; (try with_reducible rfl))); (try simp only [Act.put, List.setIfInBounds_toArray, List.set_cons_zero, List.set_cons_succ])))
          refine x_loads _ [.int .i64 xj.id, .bool xj.may, .bool xj.us, .bool xj.bk, .bool xj.bd, .int .i64 xj.mean, .int .i64 xj.tries] (by rfl) rfl rfl (LJ.out _ S1.out) (Nat.succ_pos _) (by kernel_rfl) (by kernel_rfl) ?_; simp only [Act.put, List.setIfInBounds_toArray, List.set_cons_zero, List.set_cons_succ]
          refine x_call (by rfl) (fun w' hx => by go_simp) (fun w' hx => HC.out w' hx) ?_; simp only [Act.put, List.setIfInBounds_toArray, List.set_cons_zero, List.set_cons_succ]
          (first | (refine x_load _ (by rfl) rfl rfl (by assumption) (by kernel_rfl) ?_; simp only [Act.put, List.setIfInBounds_toArray, List.set_cons_zero, List.set_cons_succ]) | (refine x_val (v := ?_) (by rfl) (fun w' hx => ?_) ?_; rotate_left; (focus (go_simp; (try with_reducible rfl))); (try simp only [Act.put, List.setIfInBounds_toArray, List.set_cons_zero, List.set_cons_succ])))
          (first | (refine x_load _ (by rfl) rfl rfl (by assumption) (by kernel_rfl) ?_; simp only [Act.put, List.setIfInBounds_toArray, List.set_cons_zero, List.set_cons_succ]) | (refine x_val (v := ?_) (by rfl) (fun w' hx => ?_) ?_; rotate_left; (focus (go_simp; (try with_reducible rfl))); (try simp only [Act.put, List.setIfInBounds_toArray, List.set_cons_zero, List.set_cons_succ])))
          refine x_nil (hQ.out _ ?_); clear hQ QQ
          intro w1 hbw
          have S2 := Lib.hid (S1.out.into hbw)
          have T2 := Lib.hid (T1.out.grow hbw (Nat.le_of_lt S1.out.rl))
          have H2 := Lib.hid (HH.out.yes (h := h) hh1 hh2 (by first | exact HLT.out | (have h1 := HLT.out; simp only [HUE.out, h1, Bool.not_false])))
          clear hbw HC S1 T1 HH LI LJ JL IL HXX HZ HLT hzd hzl hzl2 hzl3
          go_wp2_with fail
          go_roundw
          case rel => exact ⟨h + 1, j, by first | rfl | go_num, rfl, ⟨by omega, by omega⟩, H2, S2, T2⟩
          case measure => simp [intOf]; omega
      · have hlt' : ¬ (i : Int) < (j : Int) := by omega
        obtain rfl : i = j := by omega
        clear hlt
        obtain ⟨e, he⟩ : ∃ x, x = nn - i := ⟨_, rfl⟩
        have HIN := Lib.hid (HY.out.in_ HH.out)
        have HE := Lib.hid (show e = nn - i ∧ i ≤ m ∧ m ≤ e ∧ e ≤ b ∧ mid ≤ e by have := HIN.out; have := HMN.out; omega)
        have e7 : (nn : Int) - (i : Int) = (e : Int) := by have := HIN.out; have := HMN.out; omega
        have e7w : IntKind.i64.wrap (e : Int) = (e : Int) := by rw [IntKind.wrap_i64]; have := HE.out; omega
        have HVF := Lib.hid (fun d1 hr => sym_halves (d1 := d1) HSO.out HL.out HR.out HY.out HH.out HAMB.out.1 HAMB.out.2.1 (show e = mid + m - i by rw [← HMN.out.2.1]; exact HE.out.1) hr)
        clear he HH HY
        by_cases hsa : i < m
        · by_cases hsb : m < e
          · have hs : (i : Int) < (m : Int) := by omega
            have hs2 : (m : Int) < (e : Int) := by omega
            have HSI := Lib.hid (show i < m ∧ m < e from ⟨hsa, hsb⟩)
            clear hsa hsb
            go_wp2_with fail
            refine (pl_rot rb c i m e n cp d _ wr S1.out HN.out HSI.out.1 HSI.out.2 (by have := HE.out; have := HAMB.out; omega) (by have := HAMB.out; omega)).mono ?_
            rintro e' w1 ⟨rfl, d1, h2, t2, z2, r2, p2⟩
            have S2 := Lib.hid h2
            have T2 := Lib.hid (T1.out.tou t2)
            have Z2 := Sh.mk z2
            have P2 := Lib.hid (permIn_in p2 (show a ≤ i by have := HIN.out; omega) HE.out.2.2.2.1 (by rw [← HN.out]; exact HAMB.out.2.2.1))
            have HV := Lib.hid (HVF.out d1 r2)
            clear h2 t2 z2 r2 p2 S1 T1 HVF hs hs2 HSI
            by_cases hfa : a < i
            · by_cases hfb : i < mid
              · have hf : (a : Int) < (i : Int) := by omega
                have hf2 : (i : Int) < (mid : Int) := by omega
                have HFI := Lib.hid (show a < i ∧ i < mid from ⟨hfa, hfb⟩)
                clear hfa hfb
                go_wp2_with fail
                refine (HREC.out a i mid d1 w1 (by have := HMN.out; omega) S2.out (HN.out.trans Z2.out.symm) HFI.out.1 HFI.out.2 (by have := HMN.out; have := HAMB.out; omega) HV.out.s1 HV.out.s2).mono ?_
                rintro e w2 ⟨rfl, d2, h3, t3, z3, p3, q3⟩
                have S3 := Lib.hid h3
                have T3 := Lib.hid (T2.out.tou t3)
                have Z3 := Sh.mk (z3.trans Z2.out)
                have P3 := Lib.hid (permIn_trans _ _ _ _ _ P2.out (permIn_in p3 (Nat.le_refl _) (by have := HMN.out; omega) (by rw [Z2.out, ← HN.out]; exact HAMB.out.2.2.1)))
                have A3 := Lib.hid (HV.out.aft (by rw [Z2.out, ← HN.out]; have := HMN.out; have := HAMB.out; omega) HE.out.2.2.2.2 p3 q3)
                clear h3 t3 z3 p3 q3 S2 T2 Z2 P2 HV hf hf2 HFI
                by_cases hga : mid < e
                · by_cases hgb : e < b
                  · have hg : (mid : Int) < (e : Int) := by omega
                    have hg2 : (e : Int) < (b : Int) := by omega
                    have HGI := Lib.hid (show mid < e ∧ e < b from ⟨hga, hgb⟩)
                    clear hga hgb
                    go_wp2_with fail
                    refine (HREC.out mid e b d2 w2 (by have := HMN.out; omega) S3.out (HN.out.trans Z3.out.symm) HGI.out.1 HGI.out.2 HAMB.out.2.2.1 A3.out.s3 A3.out.s4).mono ?_
                    rintro e' w5 ⟨rfl, d5, h5, t5, z5, p5, q5⟩
                    have S5 := Lib.hid h5
                    have T5 := Lib.hid (T3.out.tou t5)
                    have Z5 := Lib.hid (z5.trans Z3.out)
                    have P5 := Lib.hid (permIn_trans _ _ _ _ _ P3.out (permIn_in p5 (by have := HMN.out; omega) (Nat.le_refl _) (by rw [Z3.out, ← HN.out]; exact HAMB.out.2.2.1)))
                    have Q5 := Lib.hid (A3.out.fin (by rw [Z3.out, ← HN.out]; exact HAMB.out.2.2.1) p5 q5)
                    clear h5 t5 z5 p5 q5 hg hg2 HGI
                    go_wp2_with fail
                    all_goals go_end0
                    all_goals exact ⟨rfl, d5, S5.out, T5.out, Z5.out, P5.out, Q5.out⟩
                  · have hg : (mid : Int) < (e : Int) := by omega
                    have hg2 : ¬ (e : Int) < (b : Int) := by omega
                    have Q5 := Lib.hid (A3.out.finNo (by omega) HE.out.2.2.2.2)
                    clear hga hgb
                    go_wp2_with fail
                    all_goals go_end0
                    all_goals exact ⟨rfl, d2, S3.out, T3.out, Z3.out, P3.out, Q5.out⟩
                · have hg : ¬ (mid : Int) < (e : Int) := by omega
                  have Q5 := Lib.hid (A3.out.finNo (by omega) HE.out.2.2.2.2)
                  clear hga
                  go_wp2_with fail
                  all_goals go_end0
                  all_goals exact ⟨rfl, d2, S3.out, T3.out, Z3.out, P3.out, Q5.out⟩
              · have hf : (a : Int) < (i : Int) := by omega
                have hf2 : ¬ (i : Int) < (mid : Int) := by omega
                have A3 := Lib.hid (HV.out.aftNo (by omega) (by have := HE.out; omega))
                have S3 : Hid (PW w1 rb c d1) := S2
                have T3 : Hid (Tou rb w w1) := T2
                have Z3 : Sh (d1.size = d.size) := Z2
                have P3 : Hid (PermIn a b d d1) := P2
                clear S2 T2 Z2 P2 HV hfa hfb
                by_cases hga : mid < e
                · by_cases hgb : e < b
                  · have hg : (mid : Int) < (e : Int) := by omega
                    have hg2 : (e : Int) < (b : Int) := by omega
                    have HGI := Lib.hid (show mid < e ∧ e < b from ⟨hga, hgb⟩)
                    clear hga hgb
                    go_wp2_with fail
                    refine (HREC.out mid e b d1 w1 (by have := HMN.out; omega) S3.out (HN.out.trans Z3.out.symm) HGI.out.1 HGI.out.2 HAMB.out.2.2.1 A3.out.s3 A3.out.s4).mono ?_
                    rintro e' w5 ⟨rfl, d5, h5, t5, z5, p5, q5⟩
                    have S5 := Lib.hid h5
                    have T5 := Lib.hid (T3.out.tou t5)
                    have Z5 := Lib.hid (z5.trans Z3.out)
                    have P5 := Lib.hid (permIn_trans _ _ _ _ _ P3.out (permIn_in p5 (by have := HMN.out; omega) (Nat.le_refl _) (by rw [Z3.out, ← HN.out]; exact HAMB.out.2.2.1)))
                    have Q5 := Lib.hid (A3.out.fin (by rw [Z3.out, ← HN.out]; exact HAMB.out.2.2.1) p5 q5)
                    clear h5 t5 z5 p5 q5 hg hg2 HGI
                    go_wp2_with fail
                    all_goals go_end0
                    all_goals exact ⟨rfl, d5, S5.out, T5.out, Z5.out, P5.out, Q5.out⟩
                  · have hg : (mid : Int) < (e : Int) := by omega
                    have hg2 : ¬ (e : Int) < (b : Int) := by omega
                    have Q5 := Lib.hid (A3.out.finNo (by omega) HE.out.2.2.2.2)
                    clear hga hgb
                    go_wp2_with fail
                    all_goals go_end0
                    all_goals exact ⟨rfl, d1, S3.out, T3.out, Z3.out, P3.out, Q5.out⟩
                · have hg : ¬ (mid : Int) < (e : Int) := by omega
                  have Q5 := Lib.hid (A3.out.finNo (by omega) HE.out.2.2.2.2)
                  clear hga
                  go_wp2_with fail
                  all_goals go_end0
                  all_goals exact ⟨rfl, d1, S3.out, T3.out, Z3.out, P3.out, Q5.out⟩
            · have hf : ¬ (a : Int) < (i : Int) := by omega
              have A3 := Lib.hid (HV.out.aftNo (by omega) (by have := HE.out; omega))
              have S3 : Hid (PW w1 rb c d1) := S2
              have T3 : Hid (Tou rb w w1) := T2
              have Z3 : Sh (d1.size = d.size) := Z2
              have P3 : Hid (PermIn a b d d1) := P2
              clear S2 T2 Z2 P2 HV hfa
              by_cases hga : mid < e
              · by_cases hgb : e < b
                · have hg : (mid : Int) < (e : Int) := by omega
                  have hg2 : (e : Int) < (b : Int) := by omega
                  have HGI := Lib.hid (show mid < e ∧ e < b from ⟨hga, hgb⟩)
                  clear hga hgb
                  go_wp2_with fail
                  refine (HREC.out mid e b d1 w1 (by have := HMN.out; omega) S3.out (HN.out.trans Z3.out.symm) HGI.out.1 HGI.out.2 HAMB.out.2.2.1 A3.out.s3 A3.out.s4).mono ?_
                  rintro e' w5 ⟨rfl, d5, h5, t5, z5, p5, q5⟩
                  have S5 := Lib.hid h5
                  have T5 := Lib.hid (T3.out.tou t5)
                  have Z5 := Lib.hid (z5.trans Z3.out)
                  have P5 := Lib.hid (permIn_trans _ _ _ _ _ P3.out (permIn_in p5 (by have := HMN.out; omega) (Nat.le_refl _) (by rw [Z3.out, ← HN.out]; exact HAMB.out.2.2.1)))
                  have Q5 := Lib.hid (A3.out.fin (by rw [Z3.out, ← HN.out]; exact HAMB.out.2.2.1) p5 q5)
                  clear h5 t5 z5 p5 q5 hg hg2 HGI
                  go_wp2_with fail
                  all_goals go_end0
                  all_goals exact ⟨rfl, d5, S5.out, T5.out, Z5.out, P5.out, Q5.out⟩
                · have hg : (mid : Int) < (e : Int) := by omega
                  have hg2 : ¬ (e : Int) < (b : Int) := by omega
                  have Q5 := Lib.hid (A3.out.finNo (by omega) HE.out.2.2.2.2)
                  clear hga hgb
                  go_wp2_with fail
                  all_goals go_end0
                  all_goals exact ⟨rfl, d1, S3.out, T3.out, Z3.out, P3.out, Q5.out⟩
              · have hg : ¬ (mid : Int) < (e : Int) := by omega
                have Q5 := Lib.hid (A3.out.finNo (by omega) HE.out.2.2.2.2)
                clear hga
                go_wp2_with fail
                all_goals go_end0
                all_goals exact ⟨rfl, d1, S3.out, T3.out, Z3.out, P3.out, Q5.out⟩
          · have hs : (i : Int) < (m : Int) := by omega
            have hs2 : ¬ (m : Int) < (e : Int) := by omega
            have HV := Lib.hid (HVF.out d (by
              have := HE.out; obtain rfl : e = m := by omega
              exact Rot.right d (by omega)))
            have S2 : Hid (PW wr rb c d) := S1
            have T2 : Hid (Tou rb w wr) := T1
            have P2 : Hid (PermIn a b d d) := Lib.hid (permIn_refl _ _ _)
            clear S1 T1 HVF hsa hsb
            by_cases hfa : a < i
            · by_cases hfb : i < mid
              · have hf : (a : Int) < (i : Int) := by omega
                have hf2 : (i : Int) < (mid : Int) := by omega
                have HFI := Lib.hid (show a < i ∧ i < mid from ⟨hfa, hfb⟩)
                clear hfa hfb
                go_wp2_with fail
                refine (HREC.out a i mid d wr (by have := HMN.out; omega) S2.out (HN.out) HFI.out.1 HFI.out.2 (by have := HMN.out; have := HAMB.out; omega) HV.out.s1 HV.out.s2).mono ?_
                rintro e w2 ⟨rfl, d2, h3, t3, z3, p3, q3⟩
                have S3 := Lib.hid h3
                have T3 := Lib.hid (T2.out.tou t3)
                have Z3 := Sh.mk (z3.trans rfl)
                have P3 := Lib.hid (permIn_trans _ _ _ _ _ P2.out (permIn_in p3 (Nat.le_refl _) (by have := HMN.out; omega) (by rw [← HN.out]; exact HAMB.out.2.2.1)))
                have A3 := Lib.hid (HV.out.aft (by rw [← HN.out]; have := HMN.out; have := HAMB.out; omega) HE.out.2.2.2.2 p3 q3)
                clear h3 t3 z3 p3 q3 S2 T2 P2 HV hf hf2 HFI
                by_cases hga : mid < e
                · by_cases hgb : e < b
                  · have hg : (mid : Int) < (e : Int) := by omega
                    have hg2 : (e : Int) < (b : Int) := by omega
                    have HGI := Lib.hid (show mid < e ∧ e < b from ⟨hga, hgb⟩)
                    clear hga hgb
                    go_wp2_with fail
                    refine (HREC.out mid e b d2 w2 (by have := HMN.out; omega) S3.out (HN.out.trans Z3.out.symm) HGI.out.1 HGI.out.2 HAMB.out.2.2.1 A3.out.s3 A3.out.s4).mono ?_
                    rintro e' w5 ⟨rfl, d5, h5, t5, z5, p5, q5⟩
                    have S5 := Lib.hid h5
                    have T5 := Lib.hid (T3.out.tou t5)
                    have Z5 := Lib.hid (z5.trans Z3.out)
                    have P5 := Lib.hid (permIn_trans _ _ _ _ _ P3.out (permIn_in p5 (by have := HMN.out; omega) (Nat.le_refl _) (by rw [Z3.out, ← HN.out]; exact HAMB.out.2.2.1)))
                    have Q5 := Lib.hid (A3.out.fin (by rw [Z3.out, ← HN.out]; exact HAMB.out.2.2.1) p5 q5)
                    clear h5 t5 z5 p5 q5 hg hg2 HGI
                    go_wp2_with fail
                    all_goals go_end0
                    all_goals exact ⟨rfl, d5, S5.out, T5.out, Z5.out, P5.out, Q5.out⟩
                  · have hg : (mid : Int) < (e : Int) := by omega
                    have hg2 : ¬ (e : Int) < (b : Int) := by omega
                    have Q5 := Lib.hid (A3.out.finNo (by omega) HE.out.2.2.2.2)
                    clear hga hgb
                    go_wp2_with fail
                    all_goals go_end0
                    all_goals exact ⟨rfl, d2, S3.out, T3.out, Z3.out, P3.out, Q5.out⟩
                · have hg : ¬ (mid : Int) < (e : Int) := by omega
                  have Q5 := Lib.hid (A3.out.finNo (by omega) HE.out.2.2.2.2)
                  clear hga
                  go_wp2_with fail
                  all_goals go_end0
                  all_goals exact ⟨rfl, d2, S3.out, T3.out, Z3.out, P3.out, Q5.out⟩
              · have hf : (a : Int) < (i : Int) := by omega
                have hf2 : ¬ (i : Int) < (mid : Int) := by omega
                have A3 := Lib.hid (HV.out.aftNo (by omega) (by have := HE.out; omega))
                have S3 : Hid (PW wr rb c d) := S2
                have T3 : Hid (Tou rb w wr) := T2
                have P3 : Hid (PermIn a b d d) := P2
                clear S2 T2 P2 HV hfa hfb
                by_cases hga : mid < e
                · by_cases hgb : e < b
                  · have hg : (mid : Int) < (e : Int) := by omega
                    have hg2 : (e : Int) < (b : Int) := by omega
                    have HGI := Lib.hid (show mid < e ∧ e < b from ⟨hga, hgb⟩)
                    clear hga hgb
                    go_wp2_with fail
                    refine (HREC.out mid e b d wr (by have := HMN.out; omega) S3.out (HN.out) HGI.out.1 HGI.out.2 HAMB.out.2.2.1 A3.out.s3 A3.out.s4).mono ?_
                    rintro e' w5 ⟨rfl, d5, h5, t5, z5, p5, q5⟩
                    have S5 := Lib.hid h5
                    have T5 := Lib.hid (T3.out.tou t5)
                    have Z5 := Lib.hid (z5.trans rfl)
                    have P5 := Lib.hid (permIn_trans _ _ _ _ _ P3.out (permIn_in p5 (by have := HMN.out; omega) (Nat.le_refl _) (by rw [← HN.out]; exact HAMB.out.2.2.1)))
                    have Q5 := Lib.hid (A3.out.fin (by rw [← HN.out]; exact HAMB.out.2.2.1) p5 q5)
                    clear h5 t5 z5 p5 q5 hg hg2 HGI
                    go_wp2_with fail
                    all_goals go_end0
                    all_goals exact ⟨rfl, d5, S5.out, T5.out, Z5.out, P5.out, Q5.out⟩
                  · have hg : (mid : Int) < (e : Int) := by omega
                    have hg2 : ¬ (e : Int) < (b : Int) := by omega
                    have Q5 := Lib.hid (A3.out.finNo (by omega) HE.out.2.2.2.2)
                    clear hga hgb
                    go_wp2_with fail
                    all_goals go_end0
                    all_goals exact ⟨rfl, d, S3.out, T3.out, rfl, P3.out, Q5.out⟩
                · have hg : ¬ (mid : Int) < (e : Int) := by omega
                  have Q5 := Lib.hid (A3.out.finNo (by omega) HE.out.2.2.2.2)
                  clear hga
                  go_wp2_with fail
                  all_goals go_end0
                  all_goals exact ⟨rfl, d, S3.out, T3.out, rfl, P3.out, Q5.out⟩
            · have hf : ¬ (a : Int) < (i : Int) := by omega
              have A3 := Lib.hid (HV.out.aftNo (by omega) (by have := HE.out; omega))
              have S3 : Hid (PW wr rb c d) := S2
              have T3 : Hid (Tou rb w wr) := T2
              have P3 : Hid (PermIn a b d d) := P2
              clear S2 T2 P2 HV hfa
              by_cases hga : mid < e
              · by_cases hgb : e < b
                · have hg : (mid : Int) < (e : Int) := by omega
                  have hg2 : (e : Int) < (b : Int) := by omega
                  have HGI := Lib.hid (show mid < e ∧ e < b from ⟨hga, hgb⟩)
                  clear hga hgb
                  go_wp2_with fail
                  refine (HREC.out mid e b d wr (by have := HMN.out; omega) S3.out (HN.out) HGI.out.1 HGI.out.2 HAMB.out.2.2.1 A3.out.s3 A3.out.s4).mono ?_
                  rintro e' w5 ⟨rfl, d5, h5, t5, z5, p5, q5⟩
                  have S5 := Lib.hid h5
                  have T5 := Lib.hid (T3.out.tou t5)
                  have Z5 := Lib.hid (z5.trans rfl)
                  have P5 := Lib.hid (permIn_trans _ _ _ _ _ P3.out (permIn_in p5 (by have := HMN.out; omega) (Nat.le_refl _) (by rw [← HN.out]; exact HAMB.out.2.2.1)))
                  have Q5 := Lib.hid (A3.out.fin (by rw [← HN.out]; exact HAMB.out.2.2.1) p5 q5)
                  clear h5 t5 z5 p5 q5 hg hg2 HGI
                  go_wp2_with fail
                  all_goals go_end0
                  all_goals exact ⟨rfl, d5, S5.out, T5.out, Z5.out, P5.out, Q5.out⟩
                · have hg : (mid : Int) < (e : Int) := by omega
                  have hg2 : ¬ (e : Int) < (b : Int) := by omega
                  have Q5 := Lib.hid (A3.out.finNo (by omega) HE.out.2.2.2.2)
                  clear hga hgb
                  go_wp2_with fail
                  all_goals go_end0
                  all_goals exact ⟨rfl, d, S3.out, T3.out, rfl, P3.out, Q5.out⟩
              · have hg : ¬ (mid : Int) < (e : Int) := by omega
                have Q5 := Lib.hid (A3.out.finNo (by omega) HE.out.2.2.2.2)
                clear hga
                go_wp2_with fail
                all_goals go_end0
                all_goals exact ⟨rfl, d, S3.out, T3.out, rfl, P3.out, Q5.out⟩
        · have hs : ¬ (i : Int) < (m : Int) := by omega
          have HV := Lib.hid (HVF.out d (by
            have := HE.out; obtain rfl : i = m := by omega
            exact Rot.left d (by omega)))
          have S2 : Hid (PW wr rb c d) := S1
          have T2 : Hid (Tou rb w wr) := T1
          have P2 : Hid (PermIn a b d d) := Lib.hid (permIn_refl _ _ _)
          clear S1 T1 HVF hsa
          by_cases hfa : a < i
          · by_cases hfb : i < mid
            · have hf : (a : Int) < (i : Int) := by omega
              have hf2 : (i : Int) < (mid : Int) := by omega
              have HFI := Lib.hid (show a < i ∧ i < mid from ⟨hfa, hfb⟩)
              clear hfa hfb
              go_wp2_with fail
              refine (HREC.out a i mid d wr (by have := HMN.out; omega) S2.out (HN.out) HFI.out.1 HFI.out.2 (by have := HMN.out; have := HAMB.out; omega) HV.out.s1 HV.out.s2).mono ?_
              rintro e w2 ⟨rfl, d2, h3, t3, z3, p3, q3⟩
              have S3 := Lib.hid h3
              have T3 := Lib.hid (T2.out.tou t3)
              have Z3 := Sh.mk (z3.trans rfl)
              have P3 := Lib.hid (permIn_trans _ _ _ _ _ P2.out (permIn_in p3 (Nat.le_refl _) (by have := HMN.out; omega) (by rw [← HN.out]; exact HAMB.out.2.2.1)))
              have A3 := Lib.hid (HV.out.aft (by rw [← HN.out]; have := HMN.out; have := HAMB.out; omega) HE.out.2.2.2.2 p3 q3)
              clear h3 t3 z3 p3 q3 S2 T2 P2 HV hf hf2 HFI
              by_cases hga : mid < e
              · by_cases hgb : e < b
                · have hg : (mid : Int) < (e : Int) := by omega
                  have hg2 : (e : Int) < (b : Int) := by omega
                  have HGI := Lib.hid (show mid < e ∧ e < b from ⟨hga, hgb⟩)
                  clear hga hgb
                  go_wp2_with fail
                  refine (HREC.out mid e b d2 w2 (by have := HMN.out; omega) S3.out (HN.out.trans Z3.out.symm) HGI.out.1 HGI.out.2 HAMB.out.2.2.1 A3.out.s3 A3.out.s4).mono ?_
                  rintro e' w5 ⟨rfl, d5, h5, t5, z5, p5, q5⟩
                  have S5 := Lib.hid h5
                  have T5 := Lib.hid (T3.out.tou t5)
                  have Z5 := Lib.hid (z5.trans Z3.out)
                  have P5 := Lib.hid (permIn_trans _ _ _ _ _ P3.out (permIn_in p5 (by have := HMN.out; omega) (Nat.le_refl _) (by rw [Z3.out, ← HN.out]; exact HAMB.out.2.2.1)))
                  have Q5 := Lib.hid (A3.out.fin (by rw [Z3.out, ← HN.out]; exact HAMB.out.2.2.1) p5 q5)
                  clear h5 t5 z5 p5 q5 hg hg2 HGI
                  go_wp2_with fail
                  all_goals go_end0
                  all_goals exact ⟨rfl, d5, S5.out, T5.out, Z5.out, P5.out, Q5.out⟩
                · have hg : (mid : Int) < (e : Int) := by omega
                  have hg2 : ¬ (e : Int) < (b : Int) := by omega
                  have Q5 := Lib.hid (A3.out.finNo (by omega) HE.out.2.2.2.2)
                  clear hga hgb
                  go_wp2_with fail
                  all_goals go_end0
                  all_goals exact ⟨rfl, d2, S3.out, T3.out, Z3.out, P3.out, Q5.out⟩
              · have hg : ¬ (mid : Int) < (e : Int) := by omega
                have Q5 := Lib.hid (A3.out.finNo (by omega) HE.out.2.2.2.2)
                clear hga
                go_wp2_with fail
                all_goals go_end0
                all_goals exact ⟨rfl, d2, S3.out, T3.out, Z3.out, P3.out, Q5.out⟩
            · have hf : (a : Int) < (i : Int) := by omega
              have hf2 : ¬ (i : Int) < (mid : Int) := by omega
              have A3 := Lib.hid (HV.out.aftNo (by omega) (by have := HE.out; omega))
              have S3 : Hid (PW wr rb c d) := S2
              have T3 : Hid (Tou rb w wr) := T2
              have P3 : Hid (PermIn a b d d) := P2
              clear S2 T2 P2 HV hfa hfb
              by_cases hga : mid < e
              · by_cases hgb : e < b
                · have hg : (mid : Int) < (e : Int) := by omega
                  have hg2 : (e : Int) < (b : Int) := by omega
                  have HGI := Lib.hid (show mid < e ∧ e < b from ⟨hga, hgb⟩)
                  clear hga hgb
                  go_wp2_with fail
                  refine (HREC.out mid e b d wr (by have := HMN.out; omega) S3.out (HN.out) HGI.out.1 HGI.out.2 HAMB.out.2.2.1 A3.out.s3 A3.out.s4).mono ?_
                  rintro e' w5 ⟨rfl, d5, h5, t5, z5, p5, q5⟩
                  have S5 := Lib.hid h5
                  have T5 := Lib.hid (T3.out.tou t5)
                  have Z5 := Lib.hid (z5.trans rfl)
                  have P5 := Lib.hid (permIn_trans _ _ _ _ _ P3.out (permIn_in p5 (by have := HMN.out; omega) (Nat.le_refl _) (by rw [← HN.out]; exact HAMB.out.2.2.1)))
                  have Q5 := Lib.hid (A3.out.fin (by rw [← HN.out]; exact HAMB.out.2.2.1) p5 q5)
                  clear h5 t5 z5 p5 q5 hg hg2 HGI
                  go_wp2_with fail
                  all_goals go_end0
                  all_goals exact ⟨rfl, d5, S5.out, T5.out, Z5.out, P5.out, Q5.out⟩
                · have hg : (mid : Int) < (e : Int) := by omega
                  have hg2 : ¬ (e : Int) < (b : Int) := by omega
                  have Q5 := Lib.hid (A3.out.finNo (by omega) HE.out.2.2.2.2)
                  clear hga hgb
                  go_wp2_with fail
                  all_goals go_end0
                  all_goals exact ⟨rfl, d, S3.out, T3.out, rfl, P3.out, Q5.out⟩
              · have hg : ¬ (mid : Int) < (e : Int) := by omega
                have Q5 := Lib.hid (A3.out.finNo (by omega) HE.out.2.2.2.2)
                clear hga
                go_wp2_with fail
                all_goals go_end0
                all_goals exact ⟨rfl, d, S3.out, T3.out, rfl, P3.out, Q5.out⟩
          · have hf : ¬ (a : Int) < (i : Int) := by omega
            have A3 := Lib.hid (HV.out.aftNo (by omega) (by have := HE.out; omega))
            have S3 : Hid (PW wr rb c d) := S2
            have T3 : Hid (Tou rb w wr) := T2
            have P3 : Hid (PermIn a b d d) := P2
            clear S2 T2 P2 HV hfa
            by_cases hga : mid < e
            · by_cases hgb : e < b
              · have hg : (mid : Int) < (e : Int) := by omega
                have hg2 : (e : Int) < (b : Int) := by omega
                have HGI := Lib.hid (show mid < e ∧ e < b from ⟨hga, hgb⟩)
                clear hga hgb
                go_wp2_with fail
                refine (HREC.out mid e b d wr (by have := HMN.out; omega) S3.out (HN.out) HGI.out.1 HGI.out.2 HAMB.out.2.2.1 A3.out.s3 A3.out.s4).mono ?_
                rintro e' w5 ⟨rfl, d5, h5, t5, z5, p5, q5⟩
                have S5 := Lib.hid h5
                have T5 := Lib.hid (T3.out.tou t5)
                have Z5 := Lib.hid (z5.trans rfl)
                have P5 := Lib.hid (permIn_trans _ _ _ _ _ P3.out (permIn_in p5 (by have := HMN.out; omega) (Nat.le_refl _) (by rw [← HN.out]; exact HAMB.out.2.2.1)))
                have Q5 := Lib.hid (A3.out.fin (by rw [← HN.out]; exact HAMB.out.2.2.1) p5 q5)
                clear h5 t5 z5 p5 q5 hg hg2 HGI
                go_wp2_with fail
                all_goals go_end0
                all_goals exact ⟨rfl, d5, S5.out, T5.out, Z5.out, P5.out, Q5.out⟩
              · have hg : (mid : Int) < (e : Int) := by omega
                have hg2 : ¬ (e : Int) < (b : Int) := by omega
                have Q5 := Lib.hid (A3.out.finNo (by omega) HE.out.2.2.2.2)
                clear hga hgb
                go_wp2_with fail
                all_goals go_end0
                all_goals exact ⟨rfl, d, S3.out, T3.out, rfl, P3.out, Q5.out⟩
            · have hg : ¬ (mid : Int) < (e : Int) := by omega
              have Q5 := Lib.hid (A3.out.finNo (by omega) HE.out.2.2.2.2)
              clear hga
              go_wp2_with fail
              all_goals go_end0
              all_goals exact ⟨rfl, d, S3.out, T3.out, rfl, P3.out, Q5.out⟩
set_option maxRecDepth 20000 in
set_option maxHeartbeats 8000000 in
theorem pl_sym (rb c n cp : Nat) (cf : Plp → Plp → Int) (F : Nat) (hcl : PCL cf F) (hso : SWO (ltOf cf)) (hb2 : n ≤ 65536) (N : Nat) : ∀ (x y z : Nat) (d : Array Plp) (w : World), z - x < N → PW w rb c d → n = d.size → x < y → y < z → z ≤ n → SortedIn (ltOf cf) x y d → SortedIn (ltOf cf) y z d → Calls Try.prog 28 #[.slice (some ⟨rb, 0, none⟩) n cp, .int .i64 (x : Nat), .int .i64 (y : Nat), .int .i64 (z : Nat), .func (.func F) #[] #[]] w fun e w' => e = .returned (.tuple #[]) ∧ ∃ d', PW w' rb c d' ∧ Tou rb w w' ∧ d'.size = d.size ∧ PermIn x z d d' ∧ SortedIn (ltOf cf) x z d' := by
  induction N with
  | zero => intro x y z d w h; omega
  | succ N ih =>
    intro a m b d w hN h hn ham hmb hb hL hR
    by_cases h1 : m = a + 1
    · exact pl_symA rb c a m b n cp cf F hcl hso d w h hn ham hmb hb hb2 hL hR h1
    · by_cases h2 : b = m + 1
      · exact pl_symB rb c a m b n cp cf F hcl hso d w h hn ham hmb hb hb2 hL hR h1 h2
      · exact pl_symC rb c a m b n cp cf F hcl hso d w h hn ham hmb hb hb2 hL hR h1 h2 (fun x y z d w hlt => ih x y z d w (by omega))
end Go.Proofs.Ytbimjacceocglaa
