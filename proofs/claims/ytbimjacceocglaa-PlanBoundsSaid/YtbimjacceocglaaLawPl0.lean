/- The chapter's example of plan. -/
import Derived.Test.YtbimjacceocglaaPl9
namespace Go.Proofs.Ytbimjacceocglaa
open Go.RowKit Go.Sort
set_option linter.unusedVariables false
set_option linter.unusedSimpArgs false
def ex1 : Plp := ⟨1, true, true, false, false, 0, 0⟩
def ex2 : Plp := ⟨2, true, false, false, false, 9, 0⟩
def ex3 : Plp := ⟨3, true, false, false, false, 4, 0⟩
theorem ex_make {f u : List Plp} {ask drop spare : List Int} (h : MkP 1 2 [ex1, ex2, ex3] f u ask drop spare) : ask = [3] ∧ drop = [] := by
  have hf : f = [ex3, ex2] := by
    refine List.Perm.eq_of_pairwise (le := fun x y => ltOf cfF y x = false) ?_ h.qf ?_ (h.pf.trans ?_)
    · intro a b ha hb h1 h2
      have ha' : a ∈ [ex2, ex3] := h.pf.mem_iff.1 ha
      simp only [List.mem_cons, List.not_mem_nil, or_false] at ha' hb
      rcases ha' with rfl | rfl <;> rcases hb with rfl | rfl <;> first | rfl | (exfalso; revert h1 h2; rw [cfF_lt, cfF_lt]; decide)
    · rw [List.pairwise_cons]
      refine ⟨fun y hy => ?_, List.pairwise_singleton _ _⟩
      simp only [List.mem_cons, List.not_mem_nil, or_false] at hy
      subst hy
      rw [cfF_lt]; decide
    · exact List.Perm.swap _ _ _
  have hu : u.length = 1 := h.pu.length_eq
  refine ⟨?_, ?_⟩
  · rw [h.ask, hf, show askN 1 2 u = 1 by unfold askN roomI; rw [hu, if_pos rfl]; decide]
    rfl
  · rw [h.drop, if_neg (by rintro ⟨h, _⟩; exact absurd h (by decide))]
    rfl
set_option maxRecDepth 20000 in
set_option maxHeartbeats 4000000 in
theorem plAlive (w : World) : Calls Try.prog 5 #[] w fun e w' => e = .returned (.bool true) ∧ Below w.heap.size w w' := by
  have R0 := Lib.hid (Rd.made (size := 7) (n := 3) w 25 #[.int .i64 1, .bool true, .bool true, .bool false, .bool false, .int .i64 0, .int .i64 0, .int .i64 2, .bool true, .bool false, .bool false, .bool false, .int .i64 9, .int .i64 0, .int .i64 3, .bool true, .bool false, .bool false, .bool false, .int .i64 4, .int .i64 0] rfl)
  have BB := Lib.hid ((Below.refl w.heap.size w).alloc (Nat.le_refl _) (.cells #[.int .i64 1, .bool true, .bool true, .bool false, .bool false, .int .i64 0, .int .i64 0, .int .i64 2, .bool true, .bool false, .bool false, .bool false, .int .i64 9, .int .i64 0, .int .i64 3, .bool true, .bool false, .bool false, .bool false, .int .i64 4, .int .i64 0] 25))
  have hz : (w.alloc (.cells #[.int .i64 1, .bool true, .bool true, .bool false, .bool false, .int .i64 0, .int .i64 0, .int .i64 2, .bool true, .bool false, .bool false, .bool false, .int .i64 9, .int .i64 0, .int .i64 3, .bool true, .bool false, .bool false, .bool false, .int .i64 4, .int .i64 0] 25)).heap.size = w.heap.size + 1 := by simp
  have HC := Lib.hid (pl_make 1 2 (some ⟨w.heap.size, 0, none⟩) 3 3 [ex1, ex2, ex3] (w.alloc (.cells #[.int .i64 1, .bool true, .bool true, .bool false, .bool false, .int .i64 0, .int .i64 0, .int .i64 2, .bool true, .bool false, .bool false, .bool false, .int .i64 9, .int .i64 0, .int .i64 3, .bool true, .bool false, .bool false, .bool false, .int .i64 4, .int .i64 0] 25)) (by rw [hz]; exact R0.out) (by omega))
  clear R0 hz
  go_enter Try.func5, Try.ntmps5
  go_wp2_with fail
  refine HC.out.mono ?_
  rintro e w2 ⟨va, vd, vs, ask, drop, spare, f, u, rfl, hza, hzd, hzs, hb, mk⟩
  obtain ⟨rfl, rfl⟩ := ex_make mk
  obtain ⟨Aa, na, ca, rfl, hca, la, Ra⟩ := hza.out
  obtain ⟨Ad, nd, cd, rfl, hcd, ld, Rdd⟩ := hzd.out
  obtain ⟨As, cs, rfl, _⟩ := hzs.form
  generalize spare.length = ns at *
  have B2 := Lib.hid (BB.out.trans (hb.mono BB.out.size))
  have e1 : na = 1 := la.out.symm
  have e2 : nd = 0 := ld.out.symm
  subst e1
  subst e2
  obtain ⟨ba, oa, rfl, hba, hcell⟩ := Ra.out.2 (by omega)
  have ha := hcell 0 (by omega)
  simp only [zs, List.map_cons, List.map_nil, List.getElem?_cons_zero, Nat.add_zero] at ha
  clear hza hzd hzs hb mk BB HC la ld Ra Rdd hcell
  go_upto_region 2 with fail
  have KP := Lib.hid (Blk.new w2 28 #[.slice (some ⟨ba, oa, none⟩) 1 ca, .slice Ad 0 cd, .slice As ns cs])
  have hb := (Below.refl w2.heap.size w2).alloc (Nat.le_refl _) (.cells #[.slice (some ⟨ba, oa, none⟩) 1 ca, .slice Ad 0 cd, .slice As ns cs] 28)
  have B3 := Lib.hid (B2.out.trans (hb.mono B2.out.size))
  have ha2 := (hb.cell (p := ⟨ba, oa, none⟩) hba).trans ha
  obtain ⟨Y, hY⟩ : ∃ Y, Y = w2.heap.size := ⟨_, rfl⟩
  rw [← hY] at KP ⊢
  clear hb ha hba hY B2
  generalize w2.alloc (.cells #[.slice (some ⟨ba, oa, none⟩) 1 ca, .slice Ad 0 cd, .slice As ns cs] 28) = w3 at *
  obtain ⟨c0, c1⟩ : w3.cell? ⟨Y, 0, none⟩ = some (.slice (some ⟨ba, oa, none⟩) 1 ca) ∧ w3.cell? ⟨Y, 1, none⟩ = some (.slice Ad 0 cd) := ⟨(KP.out.cell 0).trans rfl, (KP.out.cell 1).trans rfl⟩
  go_wp2_with fail
  go_ret
  exact ⟨by simp, B3.out⟩
end Go.Proofs.Ytbimjacceocglaa
