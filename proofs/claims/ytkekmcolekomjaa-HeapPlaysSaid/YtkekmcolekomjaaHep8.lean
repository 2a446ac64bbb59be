/- Layer 42: the chapter's example. -/
import Derived.Test.YtkekmcolekomjaaHep7
namespace Go.Proofs.Ytkekmcolekomjaa
open Go.RowKit
set_option linter.unusedVariables false
set_option linter.unusedSimpArgs false
set_option maxRecDepth 20000 in
set_option maxHeartbeats 1000000 in
theorem alive42_any (w : World) : Calls Try.prog 24 #[] w fun e w' => e = .returned (.bool true) ∧ Below w.heap.size w w' := by
  go_enter Try.func24, Try.ntmps24
  go_wp2_with fail
  refine (hnew_any 9 w (by decide)).mono ?_
  rintro e w1 ⟨rfl, h1, hb1⟩
  have H1 := Lib.hid (show HpI w1 w.heap.size w.heap.size 9 0 (.slice none 0 0) [] from h1)
  have B1 := Lib.hid hb1
  clear h1 hb1
  go_wp2_with fail
  refine (hput_any w.heap.size w.heap.size 9 0 _ _ 5 1 w1 H1.out (by decide) (by decide)).mono ?_
  rintro e w2 ⟨rfl, ⟨v2, h2, _⟩, hb2⟩
  have H2 := Lib.hid (show HpI w2 w.heap.size w.heap.size 9 1 v2 [(5, 1, 0)] from h2)
  have B2 := Lib.hid (B1.out.trans hb2)
  clear h2 hb2
  go_wp2_with fail
  refine (hput_any w.heap.size w.heap.size 9 1 _ _ 3 2 w2 H2.out (by decide) (by decide)).mono ?_
  rintro e w3 ⟨rfl, ⟨v3, h3, _⟩, hb3⟩
  have H3 := Lib.hid (show HpI w3 w.heap.size w.heap.size 9 2 v3 [(3, 2, 1), (5, 1, 0)] from h3)
  have B3 := Lib.hid (B2.out.trans hb3)
  clear h3 hb3
  go_wp2_with fail
  refine (hput_any w.heap.size w.heap.size 9 2 _ _ 5 3 w3 H3.out (by decide) (by decide)).mono ?_
  rintro e w4 ⟨rfl, ⟨v4, h4, _⟩, hb4⟩
  have H4 := Lib.hid (show HpI w4 w.heap.size w.heap.size 9 3 v4 [(3, 2, 1), (5, 1, 0), (5, 3, 2)] from h4)
  have B4 := Lib.hid (B3.out.trans hb4)
  clear h4 hb4
  go_wp2_with fail
  refine (hdue_any w.heap.size w.heap.size 9 3 _ _ 5 w4 H4.out).mono ?_
  rintro e w5 ⟨zv, rfl, hz, ⟨v5, h5, _⟩, hb5⟩
  have H5 := Lib.hid (show HpI w5 w.heap.size w.heap.size 9 3 v5 [] from h5)
  have B5 := Lib.hid (B4.out.trans hb5)
  have Z5 := Lib.hid (show Zats w5 3 .i64 w4.heap.size zv [2, 1, 3] from hz)
  clear h5 hb5 hz
  obtain ⟨A, n, c, rfl, hnc, hl, hr⟩ := Z5.out.out'
  obtain rfl : n = 3 := hl.out.symm
  obtain ⟨b0, o0, x0, rfl, _, q0, hx0⟩ := hr.out.nthz (i := 0) (by omega)
  obtain ⟨b1, o1, x1, e1, _, q1, hx1⟩ := hr.out.nthz (i := 1) (by omega)
  obtain ⟨b2, o2, x2, e2, _, q2, hx2⟩ := hr.out.nthz (i := 2) (by omega)
  injection e1 with e1; injection e1 with e1 e1'
  injection e2 with e2; injection e2 with e2 e2'
  subst e1 e1' e2 e2'
  obtain rfl : (2 : Int) = x0 := Option.some.inj hx0.out
  obtain rfl : (1 : Int) = x1 := Option.some.inj hx1.out
  obtain rfl : (3 : Int) = x2 := Option.some.inj hx2.out
  simp only [Nat.add_zero] at q0
  clear hx0 hx1 hx2 hl hr
  go_wp2_with fail
  refine (hlen_any w.heap.size w.heap.size 9 3 _ _ w5 H5.out).mono ?_
  rintro e w6 ⟨rfl, rfl⟩
  go_wp2_with fail
  go_ret
  exact ⟨rfl, B5.out⟩
end Go.Proofs.Ytkekmcolekomjaa
