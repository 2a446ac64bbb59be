/- Layer 13: the law's example; CwndAlpha answers true. -/
import Derived.Test.YtpjfheojlcahgaaCw9
namespace Go.Proofs.Ytpjfheojlcahgaa
open Go.RowKit
set_option linter.unusedVariables false
set_option linter.unusedSimpArgs false
theorem rdNone (w : World) (B : Nat) (A : Option Addr) : Rd w B 2 A 0 (pz []) := Rd.nil w B 2 A
set_option maxRecDepth 20000 in
set_option maxHeartbeats 4000000 in
theorem alive13 (w : World) : Calls Try.prog 9 #[] w fun e w' => e = .returned (.bool true) ∧ Below w.heap.size w w' := by
  go_enter Try.func9, Try.ntmps9
  go_wp2_with fail
  refine (cwnew_any 100 w (by decide)).mono ?_
  rintro e w1 ⟨rfl, h1, hb1⟩
  have H1 := Lib.hid (show Wn w1 w.heap.size 100 400 6400 0 0 from h1)
  have B1 := Lib.hid hb1
  clear h1 hb1
  go_wp2_with fail
  refine (cwsize_any w.heap.size 100 400 6400 0 0 w1 H1.out).mono ?_
  rintro e w2 ⟨rfl, rfl⟩
  go_wp2_with fail
  refine (cwsent_any w.heap.size 100 400 6400 0 0 100 w2 H1.out (WOk.init (by omega) (by omega)) (by decide)).mono ?_
  rintro e w3 ⟨rfl, h3, t3⟩
  have H3 := Lib.hid (show Wn w3 w.heap.size 100 400 6400 0 100 from h3)
  have B3 := Lib.hid (B1.out.trans t3.1)
  clear h3 t3 H1 B1
  go_wp2_with fail
  refine (cwacked_any w.heap.size 100 400 6400 0 100 100 none 0 0 [] w3 H3.out ⟨by omega, by omega, by omega, by omega, by omega, by omega, by omega⟩ (by decide) (fun w' _ => rdNone _ _ _) (Nat.le_refl _) (Nat.zero_le _) (by simp)).mono ?_
  rintro e w4 ⟨rfl, h4, t4⟩
  have H4 := Lib.hid (show Wn w4 w.heap.size 100 500 6400 0 0 from h4)
  have B4 := Lib.hid (B3.out.trans t4.1)
  clear h4 t4 H3 B3
  go_wp2_with fail
  refine (cwsize_any w.heap.size 100 500 6400 0 0 w4 H4.out).mono ?_
  rintro e w5 ⟨rfl, rfl⟩
  go_wp2_with fail
  refine (cwlost_any w.heap.size 100 500 6400 0 0 0 w5 H4.out ⟨by omega, by omega, by omega, by omega, by omega, by omega, by omega⟩ (by decide)).mono ?_
  rintro e w6 ⟨rfl, h6, t6⟩
  have H6 := Lib.hid (show Wn w6 w.heap.size 100 100 250 0 0 from h6)
  have B6 := Lib.hid (B4.out.trans t6.1)
  clear h6 t6 H4 B4
  go_wp2_with fail
  refine (cwsize_any w.heap.size 100 100 250 0 0 w6 H6.out).mono ?_
  rintro e w7 ⟨rfl, rfl⟩
  go_wp2_with fail
  refine (cwunder_any w.heap.size 100 100 250 0 0 w7 H6.out).mono ?_
  rintro e w8 ⟨rfl, rfl⟩
  go_wp2_with fail
  refine (cwroom_any w.heap.size 100 100 250 0 0 w8 H6.out (by omega) (by omega)).mono ?_
  rintro e w9 ⟨rfl, hb9⟩
  have B9 := Lib.hid (B6.out.trans (hb9.mono B6.out.size))
  clear hb9
  go_wp2_with fail
  go_ret
  exact ⟨rfl, B9.out⟩
def I64 (x : Int) : Prop := -9223372036854775808 ≤ x ∧ x < 9223372036854775808
theorem I64.wf {x : Int} (h : I64 x) : (Lit.int .i64 x).wf = true := WalkArith.wf_i64 (by have := h.1; have := h.2; omega)
theorem pwf {l : List (Int × Int)} (h : ∀ p ∈ l, I64 p.1 ∧ I64 p.2) : ∀ p ∈ l, (Lit.int .i64 p.1).wf = true ∧ (Lit.int .i64 p.2).wf = true := fun p hp => ⟨(h p hp).1.wf, (h p hp).2.wf⟩
set_option maxRecDepth 20000 in
set_option maxHeartbeats 4000000 in
theorem cwndAlpha_walk (A : Option Addr) (n c : Nat) (l : List (Int × Int)) (w : World) (h : Rd w w.heap.size 2 A n (pz l)) (hnc : n ≤ c) (hmax : c ≤ maxLen) (hl : ∀ p ∈ l, I64 p.1 ∧ I64 p.2) :
    Calls Try.prog 3 #[.slice A n c] w fun e w' => e = .returned (.bool true) ∧ Below w.heap.size w w' := by
  by_cases h2 : 200 < n
  · have h2' : (200 : Int) < (n : Int) := by omega
    go_enter Try.func3, Try.ntmps3
    go_wp2_with fail
    go_ret
    exact ⟨rfl, Below.refl _ _⟩
  have h2' : ¬ (200 : Int) < (n : Int) := by omega
  have HW := Lib.hid (pwf hl)
  have C1 := Lib.hid (cwalpha_any A n c l w h hnc hmax HW.out)
  have C2 := Lib.hid (fun w' (t : Below w.heap.size w w') => cwplain_any A n c w'.heap.size l w' ((h.below t).mono t.size) (Nat.le_refl _) (by omega))
  have C3 := Lib.hid (fun w' (A3 : Option Addr) (n3 c3 : Nat) (hr : Rd w' w'.heap.size 2 A3 n3 (pz l)) => rcwalpha_any A3 n3 c3 l w' hr HW.out)
  obtain ⟨a, ha⟩ : ∃ a, a = alL l := ⟨_, rfl⟩
  rw [← ha] at C1 C3
  clear ha hl h hnc hmax h2
  go_enter Try.func3, Try.ntmps3
  go_wp2_with fail
  refine C1.out.mono ?_
  rintro e w1 ⟨rfl, hb1⟩
  have B1 := Lib.hid hb1
  clear hb1
  go_wp2_with fail
  refine (C2.out w1 B1.out).mono ?_
  rintro e w2 ⟨v, rfl, hv, hb2⟩
  obtain ⟨A3, n3, c3, rfl, _, _, _, hr3⟩ := hv.out
  have B2 := Lib.hid (B1.out.trans (hb2.mono B1.out.size))
  clear hv hb2
  go_wp2_with fail
  refine (C3.out w2 A3 n3 c3 hr3.out).mono ?_
  rintro e w3 ⟨rfl, hb3⟩
  have B3 := Lib.hid (B2.out.trans (hb3.mono B2.out.size))
  clear hb3 hr3
  go_wp2_with fail
  refine (alive13 w3).mono ?_
  rintro e w4 ⟨rfl, hb4⟩
  have B4 := Lib.hid (B3.out.trans (hb4.mono B3.out.size))
  clear hb4
  go_wp2_with fail
  go_ret
  exact ⟨rfl, B4.out⟩
end Go.Proofs.Ytpjfheojlcahgaa
