/- Package wheel: empty. -/
import Derived.Test.YtpeagibompohhaaWhPut
import Derived.Test.YtpeagibompohhaaShelf
namespace Go.Proofs.Ytpeagibompohhaa
open Go.RowKit
set_option linter.unusedVariables false
set_option linter.unusedSimpArgs false
/-- slices.Clone of a row of numbers. -/
theorem wclone (B : Nat) (v : Value) (l : List Int) (w : World) (h : Zats w 3 .i64 B v l) (hl : l.length ≤ 10000) :
    Calls Try.prog 28 #[v] w fun e w' => ∃ v', e = .returned v' ∧ Zats w' 3 .i64 w.heap.size v' l ∧ Below w.heap.size w w' := by
  rcases own_open h with ⟨rfl, h0, _⟩ | ⟨rb, c, L, rfl, _, hr, hnc, hcm, hL, hT⟩
  · have hl0 : l = [] := List.eq_nil_of_length_eq_zero h0
    subst hl0
    refine (Try.slices_Clone_int_nil 0 0 w).mono ?_
    rintro e w' ⟨rfl, rfl⟩
    exact ⟨_, rfl, Zats.nil _ _ _ _, Below.refl _ _⟩
  · have hc : ∀ j, j < l.length → w.cell? ⟨rb, 0 + j, none⟩ = some (.int .i64 (l.getD j 0)) := fun j hj => by
      rw [hr.cell, Nat.zero_add]
      have h1 : (L.take (l.length * 1))[j]? = (zs .i64 l)[j]? := by rw [hT]
      rw [List.getElem?_take, if_pos (by omega)] at h1
      simp only [List.getElem?_toArray]
      rw [h1]
      simp [zs, hj]
    refine (Try.slices_Clone_int rb 0 l.length c l w (Nat.le_refl _) (by omega) hc).mono ?_
    rintro e w' ⟨v', rfl, ho, _, hb⟩
    exact ⟨v', rfl, by unfold Zats; simpa [zs] using ho, hb⟩
set_option maxRecDepth 20000 in
set_option maxHeartbeats 2000000 in
theorem wempty_any (g B mb most now p : Nat) (sl : List Value) (S : List (List Int)) (v0 : Value) (l0 : List Int) (w : World) (h : WS w g B mb most now sl S) (hv0 : sl[p]? = some v0) (hl0 : S[p]? = some l0) (hll : l0.length ≤ 10000) :
    Calls Try.prog 24 #[.pointer (some ⟨g, 3 + p, none⟩)] w fun e w' => ∃ v, e = .returned v ∧ Zats w' 3 .i64 w.heap.size v l0 ∧ WS w' g B mb most now (sl.set p (.slice none 0 0)) (S.set p []) ∧ Tou g w w' := by
  have HCL := Lib.hid (wclone B v0 l0 w (h.rows p v0 l0 hv0 hl0) hll)
  have HW := Lib.hid h
  have HV0 := Lib.hid hv0
  have d3 : w.cell? ⟨g, 3 + p, none⟩ = some v0 := by
    obtain ⟨v1, l1, h1, _, h3, _⟩ := h.place (p := p) (by rw [← h.sll]; exact (List.getElem?_eq_some_iff.1 hv0).1)
    rw [hv0] at h1; injection h1 with h1; subst h1; exact h3
  obtain ⟨A0, n0, c0, hv0e, hnc0, hln0, _⟩ := (h.rows p v0 l0 hv0 hl0).out
  subst hv0e
  clear h hv0 hl0 hll
  go_enter Try.func24, Try.ntmps24
  go_wp2_with fail
  refine HCL.out.mono ?_
  rintro e w1 ⟨v1, rfl, hz1, hb1⟩
  have HW1 := Lib.hid (HW.out.into hb1)
  have HZ1 := Lib.hid hz1
  have HB1 := Lib.hid hb1
  clear hz1 hb1 d3 HCL
  obtain ⟨A1, n1, c1, rfl, hnc1, hln1, _⟩ := HZ1.out.out
  have d3 : w1.cell? ⟨g, 3 + p, none⟩ = some (.slice A0 n0 c0) := by
    obtain ⟨v2, l1, h1, _, h3, _⟩ := HW1.out.place (p := p) (by rw [← HW1.out.sll]; exact (List.getElem?_eq_some_iff.1 HV0.out).1)
    rw [HV0.out] at h1; injection h1 with h1; subst h1; exact h3
  have f3 := HW1.out.blk.frozen (3 + p)
  go_wp2_with fail
  have hs6 : Solo g w1 (w1.setCell ⟨g, 3 + p, none⟩ (.slice none 0 0)) := Solo.refl.setCell (3 + p) _
  have K6 := HW1.out.blk.set (3 + p) (.slice none 0 0)
  rw [wcs_set] at K6
  have hsg : Tou g w w1 := Tou.of HB1.out (Nat.le_of_lt HW.out.lt)
  go_ret
  exact ⟨_, rfl, own_kept HZ1.out fun k hk => hs6.2.2 k fun e => by subst e; exact own_nw HZ1.out HW1.out.blk (by decide) hk,
    HW1.out.set HV0.out K6 (Zats.nil _ _ _ _) (fun q u k hq hu hk => hs6.2.2 k fun e => by subst e; exact HW1.out.rowg hu hk) (fun k hk => by simp [Value.ownBlock] at hk), hsg.solo hs6⟩
end Go.Proofs.Ytpeagibompohhaa
