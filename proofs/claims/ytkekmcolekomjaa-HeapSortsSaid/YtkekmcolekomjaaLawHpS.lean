/- Layer 42: the law HeapSorts answers true, and nothing that was there has turned. -/
import Derived.Test.YtkekmcolekomjaaHep8
namespace Go.Proofs.Ytkekmcolekomjaa
open Go.RowKit
set_option linter.unusedVariables false
set_option linter.unusedSimpArgs false
/-- What was put is what it says, at the time of its place. -/
def Same (l : List Int) (R : List Nd) : Prop := ∀ y ∈ R, y.2.1 = (y.2.2 : Int) ∧ l[y.2.2]? = some y.1
set_option maxRecDepth 20000 in
set_option maxHeartbeats 4000000 in
theorem heapSorts_walk (A : Option Addr) (n c : Nat) (l : List Int) (w : World) (hr : Rd w w.heap.size 1 A n (zs .i64 l)) (hnc : n ≤ c) (hmax : c ≤ maxLen) (hl : ∀ x ∈ l, -9223372036854775808 ≤ x ∧ x < 9223372036854775808) :
    Calls Try.prog 6 #[.slice A n c] w fun e w' => e = .returned (.bool true) ∧ Below w.heap.size w w' := by
  have HR := Lib.hid hr
  have HLN := Lib.hid hr.intLen
  unfold maxLen at hmax
  clear hr hl
  by_cases hn : 500 < n
  · have hn' : (500 : Int) < (n : Int) := by omega
    go_enter Try.func6, Try.ntmps6
    go_wp2_with fail
    go_ret
    exact ⟨rfl, Below.refl _ _⟩
  have hn2 : n ≤ 500 := by omega
  have hn' : ¬ (500 : Int) < (n : Int) := by omega
  clear hn
  go_enter Try.func6, Try.ntmps6
  go_wp2_with fail
  refine (hnew_any 1000 w (by decide)).mono ?_
  rintro e w1 ⟨rfl, h1, hb1⟩
  have H1 := Lib.hid (show HpI w1 w.heap.size w.heap.size 1000 0 (.slice none 0 0) [] from h1)
  have B1 := Lib.hid hb1
  clear h1 hb1 hn'
  go_wp2_with fail
  go_loopw [4] (fun iv wr => ∃ (i : Nat) (v : Value) (R : List Nd), i ≤ n ∧ iv = .int .i64 (i : Nat) ∧ R.length = i ∧ Hid (Same l R) ∧ Hid (HpI wr w.heap.size w.heap.size 1000 i v R) ∧ Hid (Below w.heap.size w wr)) (fun iv _ => n - (intOf iv).toNat)
  case atStart => exact ⟨0, .slice none 0 0, [], Nat.zero_le _, rfl, rfl, Lib.hid (by intro y hy; cases hy), H1, B1⟩
  case round =>
    clear H1 B1
    obtain ⟨i, v, R, hi, rfl, hRl, HS, HH, BB⟩ := hrel
    by_cases hlt : i < n
    · have hlt' : (i : Int) < (n : Int) := by omega
      obtain ⟨ab, ao, x, hA, hab, q0, hx⟩ := (HR.out.below BB.out).nthz hlt
      subst hA
      go_wp2_with fail
      refine (hput_any w.heap.size w.heap.size 1000 i v R x i wr HH.out (by omega) (by omega)).mono ?_
      rintro e w2 ⟨rfl, ⟨v2, h2, _⟩, hb2⟩
      have H2 := Lib.hid h2
      have B2 := Lib.hid (BB.out.trans hb2)
      have hs2 : Same l (insN (x, (i : Int), i) R) := fun y hy => by
        rcases List.mem_append.1 ((insN_perm _ R).mem_iff.2 hy) with hy | hy
        · exact HS.out y hy
        · obtain rfl := List.mem_singleton.1 hy
          exact ⟨rfl, hx.out⟩
      have HS2 := Lib.hid hs2
      have hl2 : (insN (x, (i : Int), i) R).length = i + 1 := by rw [← (insN_perm _ R).length_eq]; simp [hRl]
      clear h2 hb2 hs2 q0 hx
      go_wp2_with fail
      go_roundw
      case rel => exact ⟨i + 1, v2, _, by omega, by go_num, hl2, HS2, H2, B2⟩
      case measure => simp [intOf]; omega
    · have hin : i = n := by omega
      subst hin
      clear hlt hi
      go_wp2_with fail
      go_loopw [5, 6] (fun lv iv wr => ∃ (k : Nat) (la : Int) (v : Value) (R2 : List Nd), k ≤ i ∧ iv = .int .i64 (k : Nat) ∧ lv = .int .i64 la ∧ R2.length + k = i ∧ Hid (Same l R2) ∧ Hid (la = -1 ∨ ∃ p : Nd, la = (p.2.2 : Int) ∧ l[p.2.2]? = some p.1 ∧ ∀ y ∈ R2, ltN p y) ∧ Hid (HpI wr w.heap.size w.heap.size 1000 i v R2) ∧ Hid (Below w.heap.size w wr)) (fun _ iv _ => i - (intOf iv).toNat)
      case atStart => exact ⟨0, -1, v, R, Nat.zero_le _, rfl, rfl, by omega, HS, Lib.hid (.inl rfl), HH, BB⟩
      case round =>
        clear HS HH BB hRl
        obtain ⟨k, la, v, R2, hk, rfl, rfl, hRl, HS, HLA, HH, BB⟩ := hrel
        by_cases hlt : k < i
        · have hlt' : (k : Int) < (i : Int) := by omega
          cases R2 with
          | nil => simp at hRl; omega
          | cons x R2 =>
            obtain ⟨hs1, hs2⟩ := HS.out x (List.mem_cons_self ..)
            have hxo : x.2.2 < i := by have := (List.getElem?_eq_some_iff.1 hs2).1; rw [HLN.out] at this; exact this
            obtain ⟨xa, xw, xo⟩ := x
            dsimp only at hs1 hs2 hxo
            subst hs1
            have HX := Lib.hid hs2
            have HSR := Lib.hid ((List.pairwise_cons.1 HH.out.srt).1)
            clear hs2
            go_wp2_with fail
            refine (htake_cons w.heap.size w.heap.size 1000 i v (xa, (xo : Int), xo) R2 wr HH.out).mono ?_
            rintro e w2 ⟨rfl, ⟨v2, h2, _⟩, hb2⟩
            unfold itv
            have H2 := Lib.hid h2
            have B2 := Lib.hid (BB.out.trans hb2)
            clear h2 hb2 HH BB
            go_upto_region 16 with fail
            have hA := (Below.refl w2.heap.size w2).alloc (Nat.le_refl _) (.cells #[.int .i64 xa, .int .i64 (xo : Int)] 42)
            have k3 := Lib.hid (Blk.new w2 42 #[.int .i64 xa, .int .i64 (xo : Int)])
            have H3 := Lib.hid (H2.out.into hA)
            have B3 := Lib.hid (B2.out.trans (hA.mono B2.out.size))
            obtain ⟨jb, hjb⟩ : ∃ x, x = w2.heap.size := ⟨_, rfl⟩
            rw [← hjb] at k3 ⊢
            generalize w2.alloc (.cells #[.int .i64 xa, .int .i64 (xo : Int)] 42) = w3 at k3 H3 B3 ⊢
            clear hA hjb H2 B2
            obtain ⟨ab, ao, y, rfl, _, q0, hy⟩ := (HR.out.below B3.out).nthz hxo
            obtain rfl : xa = y := Option.some.inj (HX.out.symm.trans hy.out)
            clear hy
            obtain ⟨z0, z1⟩ := ptc2 k3.out
            have g1 : ¬ (xo : Int) < 0 := by omega
            have g2 : (xo : Int) < (i : Int) := by omega
            have g3 : ¬ (i : Int) ≤ (xo : Int) := by omega
            go_quiet (fail)
            have K4 : Hid (Blk (w3.drewN nq) jb 42 #[.int .i64 xa, .int .i64 (xo : Int)]) := Lib.hid k3.out
            have H4 : Hid (HpI (w3.drewN nq) w.heap.size w.heap.size 1000 i v2 R2) := Lib.hid (H3.out.into (below_drewN (Below.refl _ _) _))
            have B4 := Lib.hid (below_drewN B3.out nq)
            have q4 : (w3.drewN nq).cell? ⟨ab, ao + xo, none⟩ = some (.int .i64 xa) := q0
            generalize w3.drewN nq = w4 at K4 H4 B4 q4 ⊢
            clear q0 z0 z1 k3 H3 B3
            obtain ⟨z0, z1⟩ := ptc2 K4.out
            have hs2' : Same l R2 := fun y hy => HS.out y (List.mem_cons_of_mem _ hy)
            have HS2 := Lib.hid hs2'
            have HLAN : Hid ((xo : Int) = -1 ∨ ∃ p : Nd, (xo : Int) = (p.2.2 : Int) ∧ l[p.2.2]? = some p.1 ∧ ∀ y ∈ R2, ltN p y) := Lib.hid (.inr ⟨(xa, (xo : Int), xo), rfl, HX.out, HSR.out⟩)
            have hRl2 : R2.length + (k + 1) = i := by simp at hRl; omega
            clear hs2' hRl
            rcases HLA.out with hla | ⟨p, hla, hlp, hall⟩
            · subst hla
              clear HLA
              go_wp2_with fail
              go_quiet (fail)
              have H5 : Hid (HpI (w4.drewN nq) w.heap.size w.heap.size 1000 i v2 R2) := Lib.hid (H4.out.into (below_drewN (Below.refl _ _) _))
              have B5 := Lib.hid (below_drewN B4.out nq)
              have z5 : (w4.drewN nq).cell? ⟨jb, 1, none⟩ = some (.int .i64 (xo : Int)) := z1
              generalize w4.drewN nq = w5 at H5 B5 z5 ⊢
              clear z0 z1 q4 K4 H4 B4
              go_wp2_with fail
              go_roundw
              case rel => exact ⟨k + 1, (xo : Int), v2, R2, by omega, by go_num, rfl, hRl2, HS2, HLAN, H5, B5⟩
              case measure => simp [intOf]; omega
            · have hlt9 := hall (xa, (xo : Int), xo) (List.mem_cons_self ..)
              obtain ⟨pa, pw, po⟩ := p
              dsimp only at hla hlp hlt9
              subst hla
              clear HLA hall
              have hpo : po < i := by have := (List.getElem?_eq_some_iff.1 hlp).1; rw [HLN.out] at this; exact this
              obtain ⟨ab2, ao2, y2, e2, _, p0, hy2⟩ := (HR.out.below B4.out).nthz hpo
              injection e2 with e2; injection e2 with e2 e2'
              subst e2 e2'
              obtain rfl : pa = y2 := Option.some.inj (hlp.symm.trans hy2.out)
              have g4 : (0 : Int) ≤ (po : Int) := by omega
              have g5 : (po : Int) < (i : Int) := by omega
              clear hy2 hlp
              by_cases hpx : pa = xa
              · have g6 : ¬ (xo : Int) ≤ (po : Int) := by unfold ltN at hlt9; simp only at hlt9; omega
                have g7 : ¬ xo ≤ po := by omega
                subst hpx
                clear hlt9
                go_wp2_with fail
                go_quiet (fail)
                have H5 : Hid (HpI (w4.drewN nq) w.heap.size w.heap.size 1000 i v2 R2) := Lib.hid (H4.out.into (below_drewN (Below.refl _ _) _))
                have B5 := Lib.hid (below_drewN B4.out nq)
                have z5 : (w4.drewN nq).cell? ⟨jb, 1, none⟩ = some (.int .i64 (xo : Int)) := z1
                generalize w4.drewN nq = w5 at H5 B5 z5 ⊢
                clear z0 z1 q4 p0 K4 H4 B4
                go_wp2_with fail
                go_roundw
                case rel => exact ⟨k + 1, (xo : Int), v2, R2, by omega, by go_num, rfl, hRl2, HS2, HLAN, H5, B5⟩
                case measure => simp [intOf]; omega
              · have g6 : ¬ xa < pa := by unfold ltN at hlt9; simp only at hlt9; omega
                clear hlt9
                go_wp2_with fail
                go_quiet (fail)
                have H5 : Hid (HpI (w4.drewN nq) w.heap.size w.heap.size 1000 i v2 R2) := Lib.hid (H4.out.into (below_drewN (Below.refl _ _) _))
                have B5 := Lib.hid (below_drewN B4.out nq)
                have z5 : (w4.drewN nq).cell? ⟨jb, 1, none⟩ = some (.int .i64 (xo : Int)) := z1
                generalize w4.drewN nq = w5 at H5 B5 z5 ⊢
                clear z0 z1 q4 p0 K4 H4 B4
                go_wp2_with fail
                go_roundw
                case rel => exact ⟨k + 1, (xo : Int), v2, R2, by omega, by go_num, rfl, hRl2, HS2, HLAN, H5, B5⟩
                case measure => simp [intOf]; omega
        · have hki : k = i := by omega
          subst hki
          have hnil : R2 = [] := List.eq_nil_of_length_eq_zero (by omega)
          subst hnil
          go_wp2_with fail
          refine (htake_nil w.heap.size w.heap.size 1000 k v wr HH.out).mono ?_
          rintro e w2 ⟨rfl, hb2⟩
          unfold itv
          have H2 := Lib.hid (HH.out.into hb2)
          have B2 := Lib.hid (BB.out.trans (hb2.mono BB.out.size))
          clear hb2 HH BB
          go_upto_region 22 with fail
          have hA := (Below.refl w2.heap.size w2).alloc (Nat.le_refl _) (.cells #[.int .i64 0, .int .i64 0] 42)
          have H3 := Lib.hid (H2.out.into hA)
          have B3 := Lib.hid (B2.out.trans (hA.mono B2.out.size))
          generalize w2.alloc (.cells #[.int .i64 0, .int .i64 0] 42) = w3 at H3 B3 ⊢
          clear hA H2 B2
          go_wp2_with fail
          refine (hlen_any w.heap.size w.heap.size 1000 k _ _ w3 H3.out).mono ?_
          rintro e w4 ⟨rfl, rfl⟩
          go_wp2_with fail
          refine (alive42_any w4).mono ?_
          rintro e w5 ⟨rfl, hb5⟩
          have B5 := Lib.hid (B3.out.trans (hb5.mono B3.out.size))
          go_wp2_with fail
          go_ret
          exact ⟨rfl, B5.out⟩
end Go.Proofs.Ytkekmcolekomjaa
