/- Layer 13 by the document: Alpha. -/
import Derived.Test.YtpjfheojlcahgaaCw2
namespace Go.Proofs.Ytpjfheojlcahgaa
open Go.RowKit
set_option linter.unusedVariables false
set_option linter.unusedSimpArgs false
set_option maxRecDepth 20000 in
set_option maxHeartbeats 4000000 in
theorem rcwalpha_any (A : Option Addr) (n c : Nat) (l : List (Int × Int)) (w : World) (h : Rd w w.heap.size 2 A n (pz l)) (hl : ∀ p ∈ l, (Lit.int .i64 p.1).wf = true ∧ (Lit.int .i64 p.2).wf = true) :
    Calls Try.prog 7 #[.slice A n c] w fun e w' => e = .returned (.int .i64 (alL l : Nat)) ∧ Below w.heap.size w w' := by
  have HP := Lib.hid (rcwpaths_any A n c _ l w h (Nat.le_refl _) hl)
  clear h hl
  go_enter Try.func7, Try.ntmps7
  go_wp2_with fail
  refine HP.out.mono ?_
  rintro e w1 ⟨v, rfl, hv, hb1⟩
  obtain ⟨A3, m, c3, rfl, _, _, hlen, hr⟩ := hv.out
  have hm := hlen.out
  rw [pathL_len] at hm
  have hm64 : m ≤ 64 := by omega
  have HE := Lib.hid (show totL l = sumK szP l m ∧ bstL l = maxK bsP l m ∧ ratL l = sumK rtP l m / 1024 from by unfold totL bstL ratL; rw [hm]; exact ⟨rfl, rfl, rfl⟩)
  have HR := hr
  have B1 := Lib.hid hb1
  clear hm hlen hr HP hv hb1
  go_wp2_with fail
  go_loopw [4, 5, 6] (fun bv rv iv wr => ∃ (k t r : Nat), k ≤ m ∧ iv = .int .i64 (k : Int) ∧ bv = .int .i64 (t : Int) ∧ rv = .int .i64 (r : Int) ∧ Hid (t = maxK bsP l k ∧ r = sumK rtP l k) ∧ Hid (Below w1.heap.size w1 wr)) (fun _ _ iv _ => m - (intOf iv).toNat)
  case atStart => exact ⟨0, 0, 0, Nat.zero_le _, rfl, rfl, rfl, Lib.hid ⟨rfl, rfl⟩, Lib.hid (Below.refl _ _)⟩
  case round =>
    obtain ⟨k, t, r, hk, rfl, rfl, rfl, hs, hb⟩ := hrel
    have htb : t ≤ 67108864 := by rw [hs.out.1]; exact maxK_le (fun p _ => bsP_le p) k
    have hrb : r ≤ 67108864 * k := by rw [hs.out.2, Nat.mul_comm]; exact sumK_le (fun p _ => rtP_le p) k
    by_cases hlt : k < m
    · have hlt' : (k : Int) < (m : Int) := by omega
      obtain ⟨b, off, x, y, rfl, hbb, p0, p1, hp⟩ := (HR.out.into hb.out).pz hlt
      obtain ⟨p, hlp, hq0⟩ := pathL_get hp.out
      unfold cpP at hq0
      injection hq0 with hx hy
      have HS := Lib.hid (show max t (bsP p) = maxK bsP l (k + 1) ∧ r + rtP p = sumK rtP l (k + 1) from by rw [sumK_succ hlp, maxK_succ hlp, ← hs.out.1, ← hs.out.2]; exact ⟨rfl, rfl⟩)
      have hqb := bsP_le p
      have hgb := rtP_le p
      obtain ⟨q, hq⟩ : ∃ q, q = bsP p := ⟨_, rfl⟩
      obtain ⟨g, hg⟩ : ∃ g, g = rtP p := ⟨_, rfl⟩
      rw [← hq] at hqb
      rw [← hg] at hgb
      rw [← hq, ← hg] at HS
      unfold bsP at hq
      unfold rtP at hg
      have hub := szP_le p
      have hvb := mnP_le p
      have hv0 := mnP_ge p
      obtain ⟨u, hu⟩ : ∃ u, u = szP p := ⟨_, rfl⟩
      obtain ⟨v, hv⟩ : ∃ v, v = mnP p := ⟨_, rfl⟩
      rw [← hu] at hub hq hg hx
      rw [← hv] at hvb hv0 hq hg hy
      subst hx
      subst hy
      obtain ⟨r1, hr1⟩ : ∃ r1, r1 = r + g := ⟨_, rfl⟩
      rw [← hr1] at HS
      have hkb : k < 64 := by omega
      have e2 : (r : Int) + (g : Int) = (r1 : Int) := by omega
      obtain ⟨vv, hvv⟩ : ∃ vv, vv = v * v := ⟨_, rfl⟩
      obtain ⟨um, hum⟩ : ∃ um, um = u * 1024 := ⟨_, rfl⟩
      rw [← hvv, ← hum] at hq
      rw [← hum] at hg
      have e3 : (v : Int) * (v : Int) = (vv : Int) := by rw [hvv]; push_cast; rfl
      have e4 : (u : Int) * 1024 = (um : Int) := by omega
      have e5 : (um : Int) / (vv : Int) = (q : Int) := by rw [hq]; push_cast; rfl
      have e6 : (um : Int) / (v : Int) = (g : Int) := by rw [hg]; push_cast; rfl
      have hvvb : vv ≤ 16777216 := by rw [hvv]; exact Nat.mul_le_mul hvb hvb
      have hvv0 : 1 ≤ vv := by rw [hvv]; exact Nat.mul_le_mul hv0 hv0
      have humb : um ≤ 67108864 := by omega
      have hr1b : r1 ≤ 67108864 * (k + 1) := by omega
      have w3 : IntKind.i64.wrap (vv : Int) = (vv : Nat) := by rw [IntKind.wrap_i64]; omega
      have w4 : IntKind.i64.wrap (um : Int) = (um : Nat) := by rw [IntKind.wrap_i64]; omega
      have w5 : IntKind.i64.wrap (q : Int) = (q : Nat) := by rw [IntKind.wrap_i64]; omega
      have w6 : IntKind.i64.wrap (g : Int) = (g : Nat) := by rw [IntKind.wrap_i64]; omega
      have w7 : IntKind.i64.wrap (r1 : Int) = (r1 : Nat) := by rw [IntKind.wrap_i64]; omega
      have v0 : ¬ (v : Int) = 0 := by omega
      have vv0 : ¬ vv = 0 := by omega
      have v0n : ¬ v = 0 := by omega
      clear hu hs hp hlp hv hq hg hr1 hvv hum
      go_wp2_with fail
      refine wp_ext (by kernel_rfl) (by kernel_rfl) (fun QQ hQ => ?_)
      iterate 19 (first | (refine x_load _ (by rfl) rfl rfl (by assumption) (by kernel_rfl) ?_; simp only [Act.put, List.setIfInBounds_toArray, List.set_cons_zero, List.set_cons_succ]) | (refine x_val (v := ?_) (by rfl) (fun w' hx => ?_) ?_; rotate_left; (focus (go_simp; (try with_reducible rfl))); (try simp only [Act.put, List.setIfInBounds_toArray, List.set_cons_zero, List.set_cons_succ])))
      refine x_nil (hQ.out _ ?_); clear hQ QQ
      intro w5 hb5
      have B5 := Lib.hid (hb.out.trans (hb5.mono hb.out.size))
      have P0 := (hb5.cell (p := ⟨b, off + k * 2, none⟩) hbb).trans p0
      have P1 := (hb5.cell (p := ⟨b, off + k * 2 + 1, none⟩) hbb).trans p1
      clear hb5 hb p0 p1
      by_cases hgt : t < q
      · have hgt' : (t : Int) < (q : Int) := by omega
        have HS2 := Lib.hid (show q = maxK bsP l (k + 1) ∧ r1 = sumK rtP l (k + 1) from ⟨by rw [← HS.out.1]; omega, HS.out.2⟩)
        go_wp2_with fail
        refine wp_ext (by kernel_rfl) (by kernel_rfl) (fun QQ hQ => ?_)
        iterate 15 (first | (refine x_load _ (by rfl) rfl rfl (by assumption) (by kernel_rfl) ?_; simp only [Act.put, List.setIfInBounds_toArray, List.set_cons_zero, List.set_cons_succ]) | (refine x_val (v := ?_) (by rfl) (fun w' hx => ?_) ?_; rotate_left; (focus (go_simp; (try with_reducible rfl))); (try simp only [Act.put, List.setIfInBounds_toArray, List.set_cons_zero, List.set_cons_succ])))
        refine x_nil (hQ.out _ ?_); clear hQ QQ
        intro w6 hb6
        have B6 := Lib.hid (B5.out.trans (hb6.mono B5.out.size))
        clear hb6 B5
        go_wp2_with fail
        go_roundw
        case rel => exact ⟨k + 1, q, r1, by omega, by go_num, rfl, rfl, HS2, B6⟩
        case measure => simp [intOf]; omega
      · have hgt' : ¬ (t : Int) < (q : Int) := by omega
        have HS2 := Lib.hid (show t = maxK bsP l (k + 1) ∧ r1 = sumK rtP l (k + 1) from ⟨by rw [← HS.out.1]; omega, HS.out.2⟩)
        go_wp2_with fail
        refine wp_ext (by kernel_rfl) (by kernel_rfl) (fun QQ hQ => ?_)
        iterate 15 (first | (refine x_load _ (by rfl) rfl rfl (by assumption) (by kernel_rfl) ?_; simp only [Act.put, List.setIfInBounds_toArray, List.set_cons_zero, List.set_cons_succ]) | (refine x_val (v := ?_) (by rfl) (fun w' hx => ?_) ?_; rotate_left; (focus (go_simp; (try with_reducible rfl))); (try simp only [Act.put, List.setIfInBounds_toArray, List.set_cons_zero, List.set_cons_succ])))
        refine x_nil (hQ.out _ ?_); clear hQ QQ
        intro w6 hb6
        have B6 := Lib.hid (B5.out.trans (hb6.mono B5.out.size))
        clear hb6 B5
        go_wp2_with fail
        go_roundw
        case rel => exact ⟨k + 1, t, r1, by omega, by go_num, rfl, rfl, HS2, B6⟩
        case measure => simp [intOf]; omega
    · have hge : ¬ (k : Int) < (m : Int) := by omega
      obtain rfl : k = m := by omega
      have CT := Lib.hid (fun w' (hb' : Below w1.heap.size w1 w') => rcwtotal_any A3 k c3 _ l w' (HR.out.below hb') hb'.size)
      have hsb2 := totL_le l
      obtain ⟨s, hs0⟩ : ∃ s, s = totL l := ⟨_, rfl⟩
      rw [← hs0] at CT hsb2
      have e := Lib.hid (show totL l = s ∧ bstL l = t ∧ ratL l = r / 1024 from by rw [HE.out.2.1, HE.out.2.2, hs.out.1, hs.out.2]; exact ⟨hs0.symm, rfl, rfl⟩)
      have hsb : s ≤ 65536 * 64 := hsb2
      clear hs0
      obtain ⟨r2, hr2⟩ : ∃ r2, r2 = r / 1024 := ⟨_, rfl⟩
      rw [← hr2] at e
      have hr2i : (r : Int) / 1024 = (r2 : Int) := by omega
      have hr2b : r2 ≤ 4194304 := by omega
      clear hs HE hsb
      by_cases ht0 : t = 0
      · have f := Lib.hid (show alL l = 1024 from by unfold alL; rw [if_pos (.inl (by rw [e.out.2.1]; exact ht0))])
        subst ht0
        clear hr2
        go_wp2_with fail
        go_ret
        exact ⟨by rw [f.out]; rfl, (B1.out.trans (hb.out.mono B1.out.size))⟩
      have ht1 : (((t : Nat) : Int) == 0) = false := by simp; omega
      by_cases hr0 : r2 = 0
      · have f := Lib.hid (show alL l = 1024 from by unfold alL; rw [if_pos (.inr (by rw [e.out.2.2]; exact hr0))])
        subst hr0
        clear hr2
        go_wp2_with fail
        go_ret
        exact ⟨by rw [f.out]; rfl, (B1.out.trans (hb.out.mono B1.out.size))⟩
      · have f : alL l = clN 1 65536 ((s * t / (r2 * r2) : Nat) : Int) := by unfold alL; rw [e.out.1, e.out.2.1, e.out.2.2, if_neg (by omega)]
        obtain ⟨p, hp⟩ : ∃ p, p = s * t := ⟨_, rfl⟩
        obtain ⟨d, hd⟩ : ∃ d, d = r2 * r2 := ⟨_, rfl⟩
        have hpb : p ≤ 281474976710656 := by rw [hp]; exact Nat.mul_le_mul hsb2 htb
        have hdb : d ≤ 17592186044416 := by rw [hd]; exact Nat.mul_le_mul hr2b hr2b
        have hd0 : 1 ≤ d := by rw [hd]; exact Nat.mul_le_mul (show 1 ≤ r2 by omega) (show 1 ≤ r2 by omega)
        have e1 : (s : Int) * (t : Int) = (p : Int) := by rw [hp]; push_cast; rfl
        have e2 : (r2 : Int) * (r2 : Int) = (d : Int) := by rw [hd]; push_cast; rfl
        rw [← hp, ← hd] at f
        obtain ⟨x, hx⟩ : ∃ x, x = p / d := ⟨_, rfl⟩
        rw [← hx] at f
        have e3 : (p : Int) / (d : Int) = (x : Int) := by rw [hx]; push_cast; rfl
        have hxb : x ≤ 281474976710656 := Nat.le_trans (by rw [hx]; exact Nat.div_le_self _ _) hpb
        have F := Lib.hid f
        have hr1 : (((r2 : Nat) : Int) == 0) = false := by simp; omega
        have hd1 : ((d : Nat) : Int) ≠ 0 := by omega
        have w1' : IntKind.i64.wrap (p : Int) = (p : Nat) := by rw [IntKind.wrap_i64]; omega
        have w2' : IntKind.i64.wrap (d : Int) = (d : Nat) := by rw [IntKind.wrap_i64]; omega
        have w3' : IntKind.i64.wrap (x : Int) = (x : Nat) := by rw [IntKind.wrap_i64]; omega
        clear hp hd hx hpb hdb f hr2
        have CW := Lib.hid (fun w => cwwithin_any (x : Int) 1 65536 w (WalkArith.wf_i64 (by omega)))
        rw [← F.out] at CW
        go_wp2_with fail
        refine (CT.out _ hb.out).mono ?_
        rintro e w2 ⟨rfl, rfl⟩
        go_wp2_with fail
        refine (CW.out _).mono ?_
        rintro e w3 ⟨rfl, rfl⟩
        go_wp2_with fail
        go_ret
        exact ⟨rfl, (B1.out.trans (hb.out.mono B1.out.size))⟩
end Go.Proofs.Ytpjfheojlcahgaa
