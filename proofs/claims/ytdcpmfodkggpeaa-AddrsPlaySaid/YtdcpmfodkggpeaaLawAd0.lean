/- The chapter's example of addrs. -/
import Derived.Test.YtdcpmfodkggpeaaAd2
import Derived.Test.YtdcpmfodkggpeaaQuad
namespace Go.Proofs.Ytdcpmfodkggpeaa
open Go.RowKit
set_option linter.unusedVariables false
set_option linter.unusedSimpArgs false
theorem adEx1 : adAdd 2 3 64 [] (5, 1) = (48, [(5, 1)], true) := by decide
theorem adEx2 : adAdd 2 3 48 [(5, 1)] (5, 2) = (32, [(5, 2)], true) := by decide
set_option maxRecDepth 20000 in
set_option maxHeartbeats 4000000 in
theorem adAlive (w : World) : Calls Try.prog 20 #[] w fun e w' => e = .returned (.bool true) ∧ Below w.heap.size w w' := by
  have HN := Lib.hid (ad_new 2 3 w)
  go_enter Try.func20, Try.ntmps20
  go_wp2_with fail
  refine HN.out.mono ?_
  rintro e w1 ⟨g, b, rfl, ht, hb⟩
  rw [show clN 0 8 2 = 2 by decide, show clN 1 4 3 = 3 by decide] at ht
  have H1 := Lib.hid ht
  have B1 := Lib.hid hb
  have HA := Lib.hid (ad_add w.heap.size g b _ 2 3 64 [] 5 1 w1 ht (by simp) (by omega) (by omega))
  rw [adEx1] at HA
  have c0 := ht.c0
  clear ht hb HN
  go_wp2_with fail
  refine HA.out.mono ?_
  rintro e w2 ⟨v2, rfl, ht, hk⟩
  have B2 := Lib.hid (B1.out.trans (H1.out.below hk))
  have H2 := Lib.hid (show TB w2 w.heap.size g b v2 2 3 48 [(5, 1)] from ht)
  have HC := Lib.hid (ad_add w.heap.size g b v2 2 3 48 [(5, 1)] 5 2 w2 ht (by simp) (by omega) (by omega))
  rw [adEx2] at HC
  clear ht hk c0 HA H1 B1
  go_wp2_with fail
  refine HC.out.mono ?_
  rintro e w3 ⟨v3, rfl, ht, hk⟩
  have B3 := Lib.hid (B2.out.trans (H2.out.below hk))
  have H3 := Lib.hid (show TB w3 w.heap.size g b v3 2 3 32 [(5, 2)] from ht)
  have HL := Lib.hid (ad_list w.heap.size g b v3 2 3 32 [(5, 2)] w3 ht (by simp))
  clear ht hk HC H2 B2
  go_wp2_with fail
  refine HL.out.mono ?_
  rintro e w4 ⟨v4, rfl, hp, hb⟩
  obtain ⟨A, n, c, rfl, hnc, _, hn, hr⟩ := hp.out
  have H4 := Lib.hid (H3.out.into hb)
  have B4 := Lib.hid (B3.out.trans (hb.mono B3.out.size))
  have hn1 : n = 1 := hn.out.symm
  subst hn1
  obtain ⟨rb, off, x, y, rfl, hrb, hx, hy, HX⟩ := hr.out.pz (show 0 < 1 by omega)
  have hxy := HX.out
  simp at hxy
  obtain ⟨hx5, hy2⟩ := hxy
  subst hx5 hy2
  have c0 := H4.out.c0
  have HT := Lib.hid (bkt_left b 64 1 32 w4 H4.out.bkt)
  clear hp hb hn hr HX HL H3 B3 hx
  simp only [Nat.zero_mul, Nat.add_zero] at hy
  go_wp2_with fail
  refine HT.out.mono ?_
  rintro e w5 ⟨rfl, hw⟩
  have hw := hw.symm
  subst hw
  go_wp2_with fail
  go_ret
  exact ⟨by simp, B4.out⟩
end Go.Proofs.Ytdcpmfodkggpeaa
