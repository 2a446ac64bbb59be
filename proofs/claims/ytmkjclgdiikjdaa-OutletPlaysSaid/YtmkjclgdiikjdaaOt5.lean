/- Layer 17: the chapter's example. -/
import Derived.Test.YtmkjclgdiikjdaaRng7
import Derived.Test.YtmkjclgdiikjdaaOt2
import Derived.Test.YtmkjclgdiikjdaaOt3
import Derived.Test.YtmkjclgdiikjdaaOt4
namespace Go.Proofs.Ytmkjclgdiikjdaa
open Go.RowKit
set_option linter.unusedVariables false
set_option linter.unusedSimpArgs false
set_option maxRecDepth 20000 in
set_option maxHeartbeats 4000000 in
theorem alive17 (w : World) : Calls Try.prog 19 #[] w fun e w' => e = .returned (.bool true) ∧ Below w.heap.size w w' := by
  have kc := fun (w : World) (C : Array Value) (n c : Nat) => Lib.run_convert_bytes_const (P := Try.prog) w 29 5 C n c Try.underlying29 Try.underlying5
  go_enter Try.func19, Try.ntmps19
  go_wp2_with fail
  refine (ou_new 4 w (by omega) (by omega)).mono ?_
  rintro e w1 ⟨o, g, p, rfl, ho, hg, hp, hb, hr⟩
  have H1 := Sh.mk hr
  have HB1 := Sh.mk hb
  have c0 := hr.c0
  clear hr hb
  go_wp2_with fail
  have hl2 : Rd (w1.alloc (.cells #[.int .u8 97, .int .u8 98, .int .u8 99, .int .u8 100, .int .u8 101] 5 (5, 6))) (w1.heap.size + 1) 1 (some ⟨w1.heap.size, 0, none⟩) 5 (ns .u8 [97, 98, 99, 100, 101]) := Rd.litm [97, 98, 99, 100, 101] rfl rfl
  refine (ou_put o g p 4 0 false false [] _ 5 5 _ [97, 98, 99, 100, 101] _ (H1.out.alloc _) hl2 (by decide) (Apart.new (by have := H1.out.lt; omega)) (by omega) (by omega) 4 0 (by decide) (by decide)).mono ?_
  rintro e w2 ⟨rfl, t2, h2⟩
  have H2 := Sh.mk (show OU w2 o g p 4 0 false false [97, 98, 99, 100] from h2)
  have HB2 := Sh.mk ((HB1.out.alloc HB1.out.size (.cells #[.int .u8 97, .int .u8 98, .int .u8 99, .int .u8 100, .int .u8 101] 5 (5, 6))).trans (t2.below ho hg hp))
  clear h2 t2 hl2 c0 H1 HB1
  go_wp2_with fail
  refine (ou_acked_yes o g p 4 0 false [97, 98, 99, 100] 2 w2 H2.out (by omega) (by simp) 2 (by simp)).mono ?_
  rintro e w3 ⟨rfl, t3, h3⟩
  have H3 := Sh.mk (show OU w3 o g p 4 2 false false [99, 100] from h3)
  have HB3 := Sh.mk (HB2.out.trans (t3.below ho hg hp))
  clear h3 t3 H2 HB2
  go_wp2_with fail
  have hl2 : Rd (w3.alloc (.cells #[.int .u8 101] 5 (1, 2))) (w3.heap.size + 1) 1 (some ⟨w3.heap.size, 0, none⟩) 1 (ns .u8 [101]) := Rd.litm [101] rfl rfl
  refine (ou_put o g p 4 2 false false [99, 100] _ 1 1 _ [101] _ (H3.out.alloc _) hl2 (by decide) (Apart.new (by have := H3.out.lt; omega)) (by omega) (by omega) 1 0 (by decide) (by decide)).mono ?_
  rintro e w4 ⟨rfl, t4, h4⟩
  have H4 := Sh.mk (show OU w4 o g p 4 2 false false [99, 100, 101] from h4)
  have HB4 := Sh.mk ((HB3.out.alloc HB3.out.size (.cells #[.int .u8 101] 5 (1, 2))).trans (t4.below ho hg hp))
  clear h4 t4 hl2 H3 HB3
  go_wp2_with fail
  refine (ou_bytes o g p 4 2 false false [99, 100, 101] 3 9 w4 H4.out (by omega) (by omega)).mono ?_
  rintro e w5 ⟨v, rfl, hn, b5⟩
  have H5 := Sh.mk (H4.out.into b5)
  have HB5 := Sh.mk (HB4.out.trans (b5.mono HB4.out.size))
  obtain ⟨A, n, c, rfl, hc, hln, hrd⟩ := (show Nats w5 _ _ _ v [100, 101] from hn).out
  have HRD := Sh.mk hrd
  clear hn b5 hrd H4 HB4
  have hs : (strN [100, 101]).toList = [100, 101] := by rw [strN_toList]; rfl
  go_wp2_with (refine wpList_conv Try.underlying29 Try.underlying5 Try.underlying9 rfl _ rfl rfl HRD.out.out ?_)
  go_wp2_with fail
  refine (ou_close o g p 4 2 false false [99, 100, 101] w5 H5.out).mono ?_
  rintro e w6 ⟨⟨v, rfl⟩, t6, h6⟩
  have H6 := Sh.mk h6
  have HB6 := Sh.mk (HB5.out.trans (t6.below ho hg hp))
  clear h6 t6 H5 HB5
  go_wp2_with fail
  refine (ou_top o g p 4 2 true false [99, 100, 101] w6 H6.out).mono ?_
  rintro e w7 ⟨rfl, q, hq⟩
  have H7 := Sh.mk (hq ▸ H6.out.drewN q : OU w7 o g p 4 2 true false [99, 100, 101])
  have HB7 := Sh.mk (hq ▸ below_drewN HB6.out q : Below w.heap.size w w7)
  clear hq H6 HB6
  go_wp2_with fail
  refine (ou_closed o g p 4 2 true false [99, 100, 101] w7 H7.out).mono ?_
  rintro e w8 ⟨rfl, rfl⟩
  go_wp2_with fail
  refine (ou_done o g p 4 2 true false [99, 100, 101] _ H7.out).mono ?_
  rintro e w9 ⟨rfl, rfl⟩
  go_wp2_with fail
  go_ret
  exact ⟨rfl, HB7.out⟩
end Go.Proofs.Ytmkjclgdiikjdaa
