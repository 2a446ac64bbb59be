/- Package plan: what is asked of a path; which of two paths comes ahead. -/
import Derived.Test.YtbimjacceocglaaPl6
import Derived.Test.YtbimjacceocglaaCmpO
import Derived.Shelf.GgClosure.Gives
namespace Go.Proofs.Ytbimjacceocglaa
open Go.RowKit Go.Sort
set_option linter.unusedVariables false
set_option linter.unusedSimpArgs false
def frP (x : Plp) : Bool := x.may && !x.us && decide (x.tries < 4)
def usP (x : Plp) : Bool := x.us && x.may
def gdP (x : Plp) : Bool := x.us && x.may && !x.bd
def baP (x : Plp) : Bool := x.us && !x.may
def opP (x : Plp) : Bool := !x.bk
def avP (x : Plp) : Int := if x.bd then 1 else 0
def byO (x y : Plp) : Int := orI [cmpI x.mean y.mean, cmpI x.id y.id]
def cfF (x y : Plp) : Int := orI [cmpI x.tries y.tries, byO x y]
def cfU (x y : Plp) : Int := orI [cmpI (avP x) (avP y), byO x y]
theorem orI2 (a b : Int) : orI [a, b] = if a = 0 then b else a := by unfold orI; split <;> (try rfl); unfold orI; split <;> (try rfl); rename_i h; rw [h]; rfl
theorem byO_lt {x y : Plp} : byO x y < 0 ↔ x.mean < y.mean ∨ x.mean = y.mean ∧ x.id < y.id := by
  unfold byO
  rw [orI2]
  have e1 := @cmpI_lt x.mean y.mean; have e2 := @cmpI_eq x.mean y.mean
  have e3 := @cmpI_lt x.id y.id
  split
  · rename_i h; rw [e2] at h; omega
  · rename_i h
    have h' : ¬ x.mean = y.mean := fun hh => h (e2.2 hh)
    omega
theorem cfF_lt {x y : Plp} : ltOf cfF x y = decide (x.tries < y.tries ∨ x.tries = y.tries ∧ (x.mean < y.mean ∨ x.mean = y.mean ∧ x.id < y.id)) := by
  unfold ltOf cfF
  rw [orI2]
  have e1 := @cmpI_lt x.tries y.tries; have e2 := @cmpI_eq x.tries y.tries
  have e3 := @byO_lt x y
  apply decide_eq_decide.2
  split
  · rename_i h; rw [e2] at h; rw [e3]; omega
  · rename_i h
    have h' : ¬ x.tries = y.tries := fun hh => h (e2.2 hh)
    omega
theorem cfU_lt {x y : Plp} : ltOf cfU x y = decide (avP x < avP y ∨ avP x = avP y ∧ (x.mean < y.mean ∨ x.mean = y.mean ∧ x.id < y.id)) := by
  unfold ltOf cfU
  rw [orI2]
  have e1 := @cmpI_lt (avP x) (avP y); have e2 := @cmpI_eq (avP x) (avP y)
  have e3 := @byO_lt x y
  apply decide_eq_decide.2
  split
  · rename_i h; rw [e2] at h; rw [e3]; omega
  · rename_i h
    have h' : ¬ avP x = avP y := fun hh => h (e2.2 hh)
    omega
theorem swo_cfF : SWO (ltOf cfF) where
  irrefl x := by rw [cfF_lt]; simp
  trans x y z h1 h2 := by
    rw [cfF_lt] at *
    simp only [decide_eq_true_eq] at *
    omega
  ntrans x y z h1 h2 := by
    rw [cfF_lt] at *
    simp only [decide_eq_false_iff_not] at *
    omega
theorem swo_cfU : SWO (ltOf cfU) where
  irrefl x := by rw [cfU_lt]; simp
  trans x y z h1 h2 := by
    rw [cfU_lt] at *
    simp only [decide_eq_true_eq] at *
    omega
  ntrans x y z h1 h2 := by
    rw [cfU_lt] at *
    simp only [decide_eq_false_iff_not] at *
    omega
set_option maxRecDepth 20000 in
set_option maxHeartbeats 4000000 in
theorem p_used (x : Plp) (w : World) : Calls Try.prog 22 #[.agg #[.int .i64 x.id, .bool x.may, .bool x.us, .bool x.bk, .bool x.bd, .int .i64 x.mean, .int .i64 x.tries]] w fun e w' => e = .returned (.bool (usP x)) ∧ Below w.heap.size w w' := by
  have KR := Blk.new w 25 #[.int .i64 x.id, .bool x.may, .bool x.us, .bool x.bk, .bool x.bd, .int .i64 x.mean, .int .i64 x.tries]
  have B1 := Lib.hid ((Below.refl w.heap.size w).alloc (Nat.le_refl _) (.cells #[.int .i64 x.id, .bool x.may, .bool x.us, .bool x.bk, .bool x.bd, .int .i64 x.mean, .int .i64 x.tries] 25))
  have c1 : (w.alloc (.cells #[.int .i64 x.id, .bool x.may, .bool x.us, .bool x.bk, .bool x.bd, .int .i64 x.mean, .int .i64 x.tries] 25)).cell? ⟨w.heap.size, 1, none⟩ = some (.bool x.may) := by rw [KR.cell]; rfl
  have c2 : (w.alloc (.cells #[.int .i64 x.id, .bool x.may, .bool x.us, .bool x.bk, .bool x.bd, .int .i64 x.mean, .int .i64 x.tries] 25)).cell? ⟨w.heap.size, 2, none⟩ = some (.bool x.us) := by rw [KR.cell]; rfl
  clear KR
  unfold usP
  cases h1 : x.may <;> cases h2 : x.us <;> simp only [h1, h2] at B1 c1 c2 <;> clear h1 h2
  all_goals (
    go_enter Try.func22, Try.ntmps22
    go_wp2
    go_ret
    exact ⟨by simp, B1.out⟩)
set_option maxRecDepth 20000 in
set_option maxHeartbeats 4000000 in
theorem p_good (x : Plp) (w : World) : Calls Try.prog 10 #[.agg #[.int .i64 x.id, .bool x.may, .bool x.us, .bool x.bk, .bool x.bd, .int .i64 x.mean, .int .i64 x.tries]] w fun e w' => e = .returned (.bool (gdP x)) ∧ Below w.heap.size w w' := by
  have KR := Blk.new w 25 #[.int .i64 x.id, .bool x.may, .bool x.us, .bool x.bk, .bool x.bd, .int .i64 x.mean, .int .i64 x.tries]
  have B1 := Lib.hid ((Below.refl w.heap.size w).alloc (Nat.le_refl _) (.cells #[.int .i64 x.id, .bool x.may, .bool x.us, .bool x.bk, .bool x.bd, .int .i64 x.mean, .int .i64 x.tries] 25))
  have c1 : (w.alloc (.cells #[.int .i64 x.id, .bool x.may, .bool x.us, .bool x.bk, .bool x.bd, .int .i64 x.mean, .int .i64 x.tries] 25)).cell? ⟨w.heap.size, 1, none⟩ = some (.bool x.may) := by rw [KR.cell]; rfl
  have c2 : (w.alloc (.cells #[.int .i64 x.id, .bool x.may, .bool x.us, .bool x.bk, .bool x.bd, .int .i64 x.mean, .int .i64 x.tries] 25)).cell? ⟨w.heap.size, 2, none⟩ = some (.bool x.us) := by rw [KR.cell]; rfl
  have c4 : (w.alloc (.cells #[.int .i64 x.id, .bool x.may, .bool x.us, .bool x.bk, .bool x.bd, .int .i64 x.mean, .int .i64 x.tries] 25)).cell? ⟨w.heap.size, 4, none⟩ = some (.bool x.bd) := by rw [KR.cell]; rfl
  clear KR
  unfold gdP
  cases h1 : x.may <;> cases h2 : x.us <;> cases h4 : x.bd <;> simp only [h1, h2, h4] at B1 c1 c2 c4 <;> clear h1 h2 h4
  all_goals (
    go_enter Try.func10, Try.ntmps10
    go_wp2
    go_ret
    exact ⟨by simp, B1.out⟩)
set_option maxRecDepth 20000 in
set_option maxHeartbeats 4000000 in
theorem p_bar (x : Plp) (w : World) : Calls Try.prog 12 #[.agg #[.int .i64 x.id, .bool x.may, .bool x.us, .bool x.bk, .bool x.bd, .int .i64 x.mean, .int .i64 x.tries]] w fun e w' => e = .returned (.bool (baP x)) ∧ Below w.heap.size w w' := by
  have KR := Blk.new w 25 #[.int .i64 x.id, .bool x.may, .bool x.us, .bool x.bk, .bool x.bd, .int .i64 x.mean, .int .i64 x.tries]
  have B1 := Lib.hid ((Below.refl w.heap.size w).alloc (Nat.le_refl _) (.cells #[.int .i64 x.id, .bool x.may, .bool x.us, .bool x.bk, .bool x.bd, .int .i64 x.mean, .int .i64 x.tries] 25))
  have c1 : (w.alloc (.cells #[.int .i64 x.id, .bool x.may, .bool x.us, .bool x.bk, .bool x.bd, .int .i64 x.mean, .int .i64 x.tries] 25)).cell? ⟨w.heap.size, 1, none⟩ = some (.bool x.may) := by rw [KR.cell]; rfl
  have c2 : (w.alloc (.cells #[.int .i64 x.id, .bool x.may, .bool x.us, .bool x.bk, .bool x.bd, .int .i64 x.mean, .int .i64 x.tries] 25)).cell? ⟨w.heap.size, 2, none⟩ = some (.bool x.us) := by rw [KR.cell]; rfl
  clear KR
  unfold baP
  cases h1 : x.may <;> cases h2 : x.us <;> simp only [h1, h2] at B1 c1 c2 <;> clear h1 h2
  all_goals (
    go_enter Try.func12, Try.ntmps12
    go_wp2
    go_ret
    exact ⟨by simp, B1.out⟩)
set_option maxRecDepth 20000 in
set_option maxHeartbeats 4000000 in
theorem p_open (x : Plp) (w : World) : Calls Try.prog 15 #[.agg #[.int .i64 x.id, .bool x.may, .bool x.us, .bool x.bk, .bool x.bd, .int .i64 x.mean, .int .i64 x.tries]] w fun e w' => e = .returned (.bool (opP x)) ∧ Below w.heap.size w w' := by
  have KR := Blk.new w 25 #[.int .i64 x.id, .bool x.may, .bool x.us, .bool x.bk, .bool x.bd, .int .i64 x.mean, .int .i64 x.tries]
  have B1 := Lib.hid ((Below.refl w.heap.size w).alloc (Nat.le_refl _) (.cells #[.int .i64 x.id, .bool x.may, .bool x.us, .bool x.bk, .bool x.bd, .int .i64 x.mean, .int .i64 x.tries] 25))
  have c3 : (w.alloc (.cells #[.int .i64 x.id, .bool x.may, .bool x.us, .bool x.bk, .bool x.bd, .int .i64 x.mean, .int .i64 x.tries] 25)).cell? ⟨w.heap.size, 3, none⟩ = some (.bool x.bk) := by rw [KR.cell]; rfl
  clear KR
  unfold opP
  cases h3 : x.bk <;> simp only [h3] at B1 c3 <;> clear h3
  all_goals (
    go_enter Try.func15, Try.ntmps15
    go_wp2
    go_ret
    exact ⟨by simp, B1.out⟩)
set_option maxRecDepth 20000 in
set_option maxHeartbeats 4000000 in
theorem p_free (x : Plp) (w : World) : Calls Try.prog 16 #[.agg #[.int .i64 x.id, .bool x.may, .bool x.us, .bool x.bk, .bool x.bd, .int .i64 x.mean, .int .i64 x.tries]] w fun e w' => e = .returned (.bool (frP x)) ∧ Below w.heap.size w w' := by
  have KR := Blk.new w 25 #[.int .i64 x.id, .bool x.may, .bool x.us, .bool x.bk, .bool x.bd, .int .i64 x.mean, .int .i64 x.tries]
  have B1 := Lib.hid ((Below.refl w.heap.size w).alloc (Nat.le_refl _) (.cells #[.int .i64 x.id, .bool x.may, .bool x.us, .bool x.bk, .bool x.bd, .int .i64 x.mean, .int .i64 x.tries] 25))
  have c1 : (w.alloc (.cells #[.int .i64 x.id, .bool x.may, .bool x.us, .bool x.bk, .bool x.bd, .int .i64 x.mean, .int .i64 x.tries] 25)).cell? ⟨w.heap.size, 1, none⟩ = some (.bool x.may) := by rw [KR.cell]; rfl
  have c2 : (w.alloc (.cells #[.int .i64 x.id, .bool x.may, .bool x.us, .bool x.bk, .bool x.bd, .int .i64 x.mean, .int .i64 x.tries] 25)).cell? ⟨w.heap.size, 2, none⟩ = some (.bool x.us) := by rw [KR.cell]; rfl
  have c6 : (w.alloc (.cells #[.int .i64 x.id, .bool x.may, .bool x.us, .bool x.bk, .bool x.bd, .int .i64 x.mean, .int .i64 x.tries] 25)).cell? ⟨w.heap.size, 6, none⟩ = some (.int .i64 x.tries) := by rw [KR.cell]; rfl
  clear KR
  unfold frP
  cases h1 : x.may <;> cases h2 : x.us <;> simp only [h1, h2] at B1 c1 c2 c6 <;> clear h1 h2
  all_goals (by_cases h : x.tries < 4)
  all_goals (first | (rw [decide_eq_true h]; have h' := decide_eq_true h) | (rw [decide_eq_false h]; have h' := decide_eq_false h))
  all_goals (
    go_enter Try.func16, Try.ntmps16
    go_wp2
    go_ret
    exact ⟨by simp, B1.out⟩)
set_option maxRecDepth 20000 in
set_option maxHeartbeats 4000000 in
theorem p_av (x : Plp) (w : World) : Calls Try.prog 24 #[.agg #[.int .i64 x.id, .bool x.may, .bool x.us, .bool x.bk, .bool x.bd, .int .i64 x.mean, .int .i64 x.tries]] w fun e w' => e = .returned (.int .i64 (avP x)) ∧ Below w.heap.size w w' := by
  have KR := Blk.new w 25 #[.int .i64 x.id, .bool x.may, .bool x.us, .bool x.bk, .bool x.bd, .int .i64 x.mean, .int .i64 x.tries]
  have B1 := Lib.hid ((Below.refl w.heap.size w).alloc (Nat.le_refl _) (.cells #[.int .i64 x.id, .bool x.may, .bool x.us, .bool x.bk, .bool x.bd, .int .i64 x.mean, .int .i64 x.tries] 25))
  have c4 : (w.alloc (.cells #[.int .i64 x.id, .bool x.may, .bool x.us, .bool x.bk, .bool x.bd, .int .i64 x.mean, .int .i64 x.tries] 25)).cell? ⟨w.heap.size, 4, none⟩ = some (.bool x.bd) := by rw [KR.cell]; rfl
  clear KR
  unfold avP
  cases h4 : x.bd <;> simp only [h4] at B1 c4 <;> clear h4
  all_goals (
    go_enter Try.func24, Try.ntmps24
    go_wp2
    go_ret
    exact ⟨by simp, B1.out⟩)
set_option maxRecDepth 20000 in
set_option maxHeartbeats 4000000 in
theorem by_any (x y : Plp) (w : World) : Calls Try.prog 21 #[.agg #[.int .i64 x.id, .bool x.may, .bool x.us, .bool x.bk, .bool x.bd, .int .i64 x.mean, .int .i64 x.tries], .agg #[.int .i64 y.id, .bool y.may, .bool y.us, .bool y.bk, .bool y.bd, .int .i64 y.mean, .int .i64 y.tries]] w fun e w' => e = .returned (.int .i64 (byO x y)) ∧ Below w.heap.size w w' := by
  have K1 := Lib.hid ((Blk.new w 25 #[.int .i64 x.id, .bool x.may, .bool x.us, .bool x.bk, .bool x.bd, .int .i64 x.mean, .int .i64 x.tries]).alloc (.cells #[.int .i64 y.id, .bool y.may, .bool y.us, .bool y.bk, .bool y.bd, .int .i64 y.mean, .int .i64 y.tries] 25))
  have K2 := Lib.hid (Blk.new (w.alloc (.cells #[.int .i64 x.id, .bool x.may, .bool x.us, .bool x.bk, .bool x.bd, .int .i64 x.mean, .int .i64 x.tries] 25)) 25 #[.int .i64 y.id, .bool y.may, .bool y.us, .bool y.bk, .bool y.bd, .int .i64 y.mean, .int .i64 y.tries])
  have B1 := Lib.hid (((Below.refl w.heap.size w).alloc (Nat.le_refl _) (.cells #[.int .i64 x.id, .bool x.may, .bool x.us, .bool x.bk, .bool x.bd, .int .i64 x.mean, .int .i64 x.tries] 25)).alloc (by simp) (.cells #[.int .i64 y.id, .bool y.may, .bool y.us, .bool y.bk, .bool y.bd, .int .i64 y.mean, .int .i64 y.tries] 25))
  have hsz : (w.alloc (.cells #[.int .i64 x.id, .bool x.may, .bool x.us, .bool x.bk, .bool x.bd, .int .i64 x.mean, .int .i64 x.tries] 25)).heap.size = w.heap.size + 1 := by simp
  unfold byO
  have C1 := Lib.hid (cmp_int x.mean y.mean)
  have C2 := Lib.hid (cmp_int x.id y.id)
  generalize cmpI x.mean y.mean = z1 at *
  generalize cmpI x.id y.id = z2 at *
  generalize hz : orI [z1, z2] = z
  have HZ := Lib.hid hz
  clear hz
  go_enter Try.func21, Try.ntmps21
  go_upto_region 1 with fail
  rw [hsz] at K2
  generalize (w.alloc (.cells #[.int .i64 x.id, .bool x.may, .bool x.us, .bool x.bk, .bool x.bd, .int .i64 x.mean, .int .i64 x.tries] 25)).alloc (.cells #[.int .i64 y.id, .bool y.may, .bool y.us, .bool y.bk, .bool y.bd, .int .i64 y.mean, .int .i64 y.tries] 25) = w2 at K1 K2 B1 ⊢
  obtain ⟨X, hX⟩ : ∃ X, X = w.heap.size := ⟨_, rfl⟩
  rw [← hX] at K1 K2 ⊢
  have HXX := Sh.mk hX
  clear hX hsz
  refine wp_ord [(0, .pure), (1, .read), (2, .pure), (3, .read), (5, .pure), (6, .read), (7, .pure), (8, .read), (4, .sole), (9, .sole), (10, .sole), (11, .sole), (12, .pure)] [] (by kernel_rfl) (by kernel_rfl) (fun QQ hQ wd hwd => ?_); simp only [List.map_cons, List.map_nil, List.getD_cons_zero, List.getD_cons_succ]
  have hD : Below w2.heap.size w2 wd := by rw [hwd.out]; exact (Below.refl _ _).drew
  have K1d := Lib.hid (K1.out.below hD K1.out.lt)
  have K2d := Lib.hid (K2.out.below hD K2.out.lt)
  have Bd := Lib.hid (B1.out.trans (hD.mono B1.out.size))
  have c0 : wd.cell? ⟨X, 5, none⟩ = some (.int .i64 x.mean) := by rw [K1d.out.cell]; rfl
  have c1 : wd.cell? ⟨X + 1, 5, none⟩ = some (.int .i64 y.mean) := by rw [K2d.out.cell]; rfl
  have c2 : wd.cell? ⟨X, 0, none⟩ = some (.int .i64 x.id) := by rw [K1d.out.cell]; rfl
  have c3 : wd.cell? ⟨X + 1, 0, none⟩ = some (.int .i64 y.id) := by rw [K2d.out.cell]; rfl
  clear hD hwd K1 K2 B1
  (refine o_pure (v := ?_) (by rfl) (fun w' => ?_) ?_; rotate_left; (focus (go_simp; (try with_reducible rfl); (try (rw [if_pos (by omega)]; (try with_reducible rfl))))); (try simp only [Act.put, List.setIfInBounds_toArray, List.set_cons_zero, List.set_cons_succ]))
  (refine o_load _ (by rfl) rfl rfl (by assumption) (by kernel_rfl) ?_; simp only [Act.put, List.setIfInBounds_toArray, List.set_cons_zero, List.set_cons_succ])
  (refine o_pure (v := ?_) (by rfl) (fun w' => ?_) ?_; rotate_left; (focus (go_simp; (try with_reducible rfl); (try (rw [if_pos (by omega)]; (try with_reducible rfl))))); (try simp only [Act.put, List.setIfInBounds_toArray, List.set_cons_zero, List.set_cons_succ]))
  (refine o_load _ (by rfl) rfl rfl (by assumption) (by kernel_rfl) ?_; simp only [Act.put, List.setIfInBounds_toArray, List.set_cons_zero, List.set_cons_succ])
  (refine o_pure (v := ?_) (by rfl) (fun w' => ?_) ?_; rotate_left; (focus (go_simp; (try with_reducible rfl); (try (rw [if_pos (by omega)]; (try with_reducible rfl))))); (try simp only [Act.put, List.setIfInBounds_toArray, List.set_cons_zero, List.set_cons_succ]))
  (refine o_load _ (by rfl) rfl rfl (by assumption) (by kernel_rfl) ?_; simp only [Act.put, List.setIfInBounds_toArray, List.set_cons_zero, List.set_cons_succ])
  (refine o_pure (v := ?_) (by rfl) (fun w' => ?_) ?_; rotate_left; (focus (go_simp; (try with_reducible rfl); (try (rw [if_pos (by omega)]; (try with_reducible rfl))))); (try simp only [Act.put, List.setIfInBounds_toArray, List.set_cons_zero, List.set_cons_succ]))
  (refine o_load _ (by rfl) rfl rfl (by assumption) (by kernel_rfl) ?_; simp only [Act.put, List.setIfInBounds_toArray, List.set_cons_zero, List.set_cons_succ])
  clear c0 c1 c2 c3 K1d K2d
  refine o_sole (fun K hK => ?_)
  go_wp2_with fail
  refine (C1.out wd).mono ?_
  rintro e w5 ⟨rfl, hw⟩
  have hb : Below wd.heap.size wd w5 := by rw [hw]; exact Below.refl _ _
  clear hw
  go_wp2_with fail
  refine hK _ _ (fun _ => Ext.of hb) ?_; clear hK K
  have B5 := Lib.hid (Bd.out.trans (hb.mono Bd.out.size))
  clear hb Bd
  refine o_sole (fun K hK => ?_)
  go_wp2_with fail
  refine (C2.out w5).mono ?_
  rintro e w6 ⟨rfl, hw⟩
  have hb : Below w5.heap.size w5 w6 := by rw [hw]; exact Below.refl _ _
  clear hw
  go_wp2_with fail
  refine hK _ _ (fun _ => Ext.of hb) ?_; clear hK K
  have B6 := Lib.hid (B5.out.trans (hb.mono B5.out.size))
  clear hb B5
  refine o_sole (fun K hK => ?_)
  go_wp2_with fail
  refine hK _ _ (fun _ => Ext.of ((Below.refl _ _).alloc (Nat.le_refl _) _)) ?_; clear hK K
  have RL := Lib.hid (Rd.litz (w := w6) (t := 3) (cs := #[.int .i64 z1, .int .i64 z2]) (B := w6.heap.size + 1) (n := 2) [z1, z2] rfl (Nat.lt_succ_self _) rfl rfl)
  have B10 := Lib.hid (B6.out.trans (((Below.refl w6.heap.size w6).alloc (Nat.le_refl _) (.cells #[.int .i64 z1, .int .i64 z2] 3)).mono B6.out.size))
  generalize w6.alloc (.cells #[.int .i64 z1, .int .i64 z2] 3) = w10 at RL B10 ⊢
  refine o_sole (fun K hK => ?_)
  go_wp2_with fail
  refine (or_any (some ⟨w6.heap.size, 0, none⟩) 2 2 (w6.heap.size + 1) [z1, z2] w10 RL.out (by omega)).mono ?_
  rintro e w11 ⟨rfl, hw⟩
  have hb : Below w10.heap.size w10 w11 := by rw [hw]; exact Below.refl _ _
  clear hw
  go_wp2_with fail
  refine hK _ _ (fun _ => Ext.of hb) ?_; clear hK K
  have B11 := Lib.hid (B10.out.trans (hb.mono B10.out.size))
  clear hb B10 RL
  (refine o_pure (v := ?_) (by rfl) (fun w' => ?_) ?_; rotate_left; (focus (go_simp; (try with_reducible rfl); (try (rw [if_pos (by omega)]; (try with_reducible rfl))))); (try simp only [Act.put, List.setIfInBounds_toArray, List.set_cons_zero, List.set_cons_succ]))
  refine o_nil (hQ.out _ _ ?_); clear hQ QQ
  go_wp2_with fail
  go_ret
  refine ⟨?_, B11.out⟩
  rw [← HZ.out]
  rfl
set_option maxRecDepth 20000 in
set_option maxHeartbeats 4000000 in
theorem clo_free (x y : Plp) (w : World) : Calls Try.prog 18 #[.agg #[.int .i64 x.id, .bool x.may, .bool x.us, .bool x.bk, .bool x.bd, .int .i64 x.mean, .int .i64 x.tries], .agg #[.int .i64 y.id, .bool y.may, .bool y.us, .bool y.bk, .bool y.bd, .int .i64 y.mean, .int .i64 y.tries]] w fun e w' => e = .returned (.int .i64 (cfF x y)) ∧ Below w.heap.size w w' := by
  have K1 := Lib.hid ((Blk.new w 25 #[.int .i64 x.id, .bool x.may, .bool x.us, .bool x.bk, .bool x.bd, .int .i64 x.mean, .int .i64 x.tries]).alloc (.cells #[.int .i64 y.id, .bool y.may, .bool y.us, .bool y.bk, .bool y.bd, .int .i64 y.mean, .int .i64 y.tries] 25))
  have K2 := Lib.hid (Blk.new (w.alloc (.cells #[.int .i64 x.id, .bool x.may, .bool x.us, .bool x.bk, .bool x.bd, .int .i64 x.mean, .int .i64 x.tries] 25)) 25 #[.int .i64 y.id, .bool y.may, .bool y.us, .bool y.bk, .bool y.bd, .int .i64 y.mean, .int .i64 y.tries])
  have B1 := Lib.hid (((Below.refl w.heap.size w).alloc (Nat.le_refl _) (.cells #[.int .i64 x.id, .bool x.may, .bool x.us, .bool x.bk, .bool x.bd, .int .i64 x.mean, .int .i64 x.tries] 25)).alloc (by simp) (.cells #[.int .i64 y.id, .bool y.may, .bool y.us, .bool y.bk, .bool y.bd, .int .i64 y.mean, .int .i64 y.tries] 25))
  have hsz : (w.alloc (.cells #[.int .i64 x.id, .bool x.may, .bool x.us, .bool x.bk, .bool x.bd, .int .i64 x.mean, .int .i64 x.tries] 25)).heap.size = w.heap.size + 1 := by simp
  unfold cfF
  have C1 := Lib.hid (cmp_int x.tries y.tries)
  have C2 := Lib.hid (by_any x y)
  generalize cmpI x.tries y.tries = z1 at *
  generalize byO x y = z2 at *
  generalize hz : orI [z1, z2] = z
  have HZ := Lib.hid hz
  clear hz
  go_enter Try.func18, Try.ntmps18
  go_upto_region 1 with fail
  rw [hsz] at K2
  generalize (w.alloc (.cells #[.int .i64 x.id, .bool x.may, .bool x.us, .bool x.bk, .bool x.bd, .int .i64 x.mean, .int .i64 x.tries] 25)).alloc (.cells #[.int .i64 y.id, .bool y.may, .bool y.us, .bool y.bk, .bool y.bd, .int .i64 y.mean, .int .i64 y.tries] 25) = w2 at K1 K2 B1 ⊢
  obtain ⟨X, hX⟩ : ∃ X, X = w.heap.size := ⟨_, rfl⟩
  rw [← hX] at K1 K2 ⊢
  have HXX := Sh.mk hX
  clear hX hsz
  refine wp_ord [(0, .pure), (1, .read), (2, .pure), (3, .read), (5, .read), (6, .read), (4, .sole), (7, .sole), (8, .sole), (9, .sole), (10, .pure)] [] (by kernel_rfl) (by kernel_rfl) (fun QQ hQ wd hwd => ?_); simp only [List.map_cons, List.map_nil, List.getD_cons_zero, List.getD_cons_succ]
  have hD : Below w2.heap.size w2 wd := by rw [hwd.out]; exact (Below.refl _ _).drew
  have K1d := Lib.hid (K1.out.below hD K1.out.lt)
  have K2d := Lib.hid (K2.out.below hD K2.out.lt)
  have Bd := Lib.hid (B1.out.trans (hD.mono B1.out.size))
  have c0 : wd.cell? ⟨X, 6, none⟩ = some (.int .i64 x.tries) := by rw [K1d.out.cell]; rfl
  have c1 : wd.cell? ⟨X + 1, 6, none⟩ = some (.int .i64 y.tries) := by rw [K2d.out.cell]; rfl
  clear hD hwd K1 K2 B1
  (refine o_pure (v := ?_) (by rfl) (fun w' => ?_) ?_; rotate_left; (focus (go_simp; (try with_reducible rfl); (try (rw [if_pos (by omega)]; (try with_reducible rfl))))); (try simp only [Act.put, List.setIfInBounds_toArray, List.set_cons_zero, List.set_cons_succ]))
  (refine o_load _ (by rfl) rfl rfl (by assumption) (by kernel_rfl) ?_; simp only [Act.put, List.setIfInBounds_toArray, List.set_cons_zero, List.set_cons_succ])
  (refine o_pure (v := ?_) (by rfl) (fun w' => ?_) ?_; rotate_left; (focus (go_simp; (try with_reducible rfl); (try (rw [if_pos (by omega)]; (try with_reducible rfl))))); (try simp only [Act.put, List.setIfInBounds_toArray, List.set_cons_zero, List.set_cons_succ]))
  (refine o_load _ (by rfl) rfl rfl (by assumption) (by kernel_rfl) ?_; simp only [Act.put, List.setIfInBounds_toArray, List.set_cons_zero, List.set_cons_succ])
  (refine o_loads _ [.int .i64 x.id, .bool x.may, .bool x.us, .bool x.bk, .bool x.bd, .int .i64 x.mean, .int .i64 x.tries] (by rfl) rfl rfl (K1d.out.loads 0 _ (by rfl)) (Nat.succ_pos _) (by kernel_rfl) (by kernel_rfl) ?_; simp only [Act.put, List.setIfInBounds_toArray, List.set_cons_zero, List.set_cons_succ])
  (refine o_loads _ [.int .i64 y.id, .bool y.may, .bool y.us, .bool y.bk, .bool y.bd, .int .i64 y.mean, .int .i64 y.tries] (by rfl) rfl rfl (K2d.out.loads 0 _ (by rfl)) (Nat.succ_pos _) (by kernel_rfl) (by kernel_rfl) ?_; simp only [Act.put, List.setIfInBounds_toArray, List.set_cons_zero, List.set_cons_succ])
  clear c0 c1 K1d K2d
  refine o_sole (fun K hK => ?_)
  go_wp2_with fail
  refine (C1.out wd).mono ?_
  rintro e w5 ⟨rfl, hw⟩
  have hb : Below wd.heap.size wd w5 := by rw [hw]; exact Below.refl _ _
  clear hw
  go_wp2_with fail
  refine hK _ _ (fun _ => Ext.of hb) ?_; clear hK K
  have B5 := Lib.hid (Bd.out.trans (hb.mono Bd.out.size))
  clear hb Bd
  refine o_sole (fun K hK => ?_)
  go_wp2_with fail
  refine (C2.out w5).mono ?_
  rintro e w6 ⟨rfl, hb⟩
  go_wp2_with fail
  refine hK _ _ (fun _ => Ext.of hb) ?_; clear hK K
  have B6 := Lib.hid (B5.out.trans (hb.mono B5.out.size))
  clear hb B5
  refine o_sole (fun K hK => ?_)
  go_wp2_with fail
  refine hK _ _ (fun _ => Ext.of ((Below.refl _ _).alloc (Nat.le_refl _) _)) ?_; clear hK K
  have RL := Lib.hid (Rd.litz (w := w6) (t := 3) (cs := #[.int .i64 z1, .int .i64 z2]) (B := w6.heap.size + 1) (n := 2) [z1, z2] rfl (Nat.lt_succ_self _) rfl rfl)
  have B10 := Lib.hid (B6.out.trans (((Below.refl w6.heap.size w6).alloc (Nat.le_refl _) (.cells #[.int .i64 z1, .int .i64 z2] 3)).mono B6.out.size))
  generalize w6.alloc (.cells #[.int .i64 z1, .int .i64 z2] 3) = w10 at RL B10 ⊢
  refine o_sole (fun K hK => ?_)
  go_wp2_with fail
  refine (or_any (some ⟨w6.heap.size, 0, none⟩) 2 2 (w6.heap.size + 1) [z1, z2] w10 RL.out (by omega)).mono ?_
  rintro e w11 ⟨rfl, hw⟩
  have hb : Below w10.heap.size w10 w11 := by rw [hw]; exact Below.refl _ _
  clear hw
  go_wp2_with fail
  refine hK _ _ (fun _ => Ext.of hb) ?_; clear hK K
  have B11 := Lib.hid (B10.out.trans (hb.mono B10.out.size))
  clear hb B10 RL
  (refine o_pure (v := ?_) (by rfl) (fun w' => ?_) ?_; rotate_left; (focus (go_simp; (try with_reducible rfl); (try (rw [if_pos (by omega)]; (try with_reducible rfl))))); (try simp only [Act.put, List.setIfInBounds_toArray, List.set_cons_zero, List.set_cons_succ]))
  refine o_nil (hQ.out _ _ ?_); clear hQ QQ
  go_wp2_with fail
  go_ret
  refine ⟨?_, B11.out⟩
  rw [← HZ.out]
  rfl
set_option maxRecDepth 20000 in
set_option maxHeartbeats 4000000 in
theorem clo_used (x y : Plp) (w : World) : Calls Try.prog 23 #[.agg #[.int .i64 x.id, .bool x.may, .bool x.us, .bool x.bk, .bool x.bd, .int .i64 x.mean, .int .i64 x.tries], .agg #[.int .i64 y.id, .bool y.may, .bool y.us, .bool y.bk, .bool y.bd, .int .i64 y.mean, .int .i64 y.tries]] w fun e w' => e = .returned (.int .i64 (cfU x y)) ∧ Below w.heap.size w w' := by
  have K1 := Lib.hid ((Blk.new w 25 #[.int .i64 x.id, .bool x.may, .bool x.us, .bool x.bk, .bool x.bd, .int .i64 x.mean, .int .i64 x.tries]).alloc (.cells #[.int .i64 y.id, .bool y.may, .bool y.us, .bool y.bk, .bool y.bd, .int .i64 y.mean, .int .i64 y.tries] 25))
  have K2 := Lib.hid (Blk.new (w.alloc (.cells #[.int .i64 x.id, .bool x.may, .bool x.us, .bool x.bk, .bool x.bd, .int .i64 x.mean, .int .i64 x.tries] 25)) 25 #[.int .i64 y.id, .bool y.may, .bool y.us, .bool y.bk, .bool y.bd, .int .i64 y.mean, .int .i64 y.tries])
  have B1 := Lib.hid (((Below.refl w.heap.size w).alloc (Nat.le_refl _) (.cells #[.int .i64 x.id, .bool x.may, .bool x.us, .bool x.bk, .bool x.bd, .int .i64 x.mean, .int .i64 x.tries] 25)).alloc (by simp) (.cells #[.int .i64 y.id, .bool y.may, .bool y.us, .bool y.bk, .bool y.bd, .int .i64 y.mean, .int .i64 y.tries] 25))
  have hsz : (w.alloc (.cells #[.int .i64 x.id, .bool x.may, .bool x.us, .bool x.bk, .bool x.bd, .int .i64 x.mean, .int .i64 x.tries] 25)).heap.size = w.heap.size + 1 := by simp
  unfold cfU
  have A1 := Lib.hid (p_av x)
  have A2 := Lib.hid (p_av y)
  have C1 := Lib.hid (cmp_int (avP x) (avP y))
  have C2 := Lib.hid (by_any x y)
  generalize avP x = a1 at *
  generalize avP y = a2 at *
  generalize cmpI a1 a2 = z1 at *
  generalize byO x y = z2 at *
  generalize hz : orI [z1, z2] = z
  have HZ := Lib.hid hz
  clear hz
  go_enter Try.func23, Try.ntmps23
  go_upto_region 1 with fail
  rw [hsz] at K2
  generalize (w.alloc (.cells #[.int .i64 x.id, .bool x.may, .bool x.us, .bool x.bk, .bool x.bd, .int .i64 x.mean, .int .i64 x.tries] 25)).alloc (.cells #[.int .i64 y.id, .bool y.may, .bool y.us, .bool y.bk, .bool y.bd, .int .i64 y.mean, .int .i64 y.tries] 25) = w2 at K1 K2 B1 ⊢
  obtain ⟨X, hX⟩ : ∃ X, X = w.heap.size := ⟨_, rfl⟩
  rw [← hX] at K1 K2 ⊢
  have HXX := Sh.mk hX
  clear hX hsz
  refine wp_ord [(0, .read), (2, .read), (5, .read), (6, .read), (1, .sole), (3, .sole), (4, .sole), (7, .sole), (8, .sole), (9, .sole), (10, .pure)] [] (by kernel_rfl) (by kernel_rfl) (fun QQ hQ wd hwd => ?_); simp only [List.map_cons, List.map_nil, List.getD_cons_zero, List.getD_cons_succ]
  have hD : Below w2.heap.size w2 wd := by rw [hwd.out]; exact (Below.refl _ _).drew
  have K1d := Lib.hid (K1.out.below hD K1.out.lt)
  have K2d := Lib.hid (K2.out.below hD K2.out.lt)
  have Bd := Lib.hid (B1.out.trans (hD.mono B1.out.size))
  clear hD hwd K1 K2 B1
  (refine o_loads _ [.int .i64 x.id, .bool x.may, .bool x.us, .bool x.bk, .bool x.bd, .int .i64 x.mean, .int .i64 x.tries] (by rfl) rfl rfl (K1d.out.loads 0 _ (by rfl)) (Nat.succ_pos _) (by kernel_rfl) (by kernel_rfl) ?_; simp only [Act.put, List.setIfInBounds_toArray, List.set_cons_zero, List.set_cons_succ])
  (refine o_loads _ [.int .i64 y.id, .bool y.may, .bool y.us, .bool y.bk, .bool y.bd, .int .i64 y.mean, .int .i64 y.tries] (by rfl) rfl rfl (K2d.out.loads 0 _ (by rfl)) (Nat.succ_pos _) (by kernel_rfl) (by kernel_rfl) ?_; simp only [Act.put, List.setIfInBounds_toArray, List.set_cons_zero, List.set_cons_succ])
  (refine o_loads _ [.int .i64 x.id, .bool x.may, .bool x.us, .bool x.bk, .bool x.bd, .int .i64 x.mean, .int .i64 x.tries] (by rfl) rfl rfl (K1d.out.loads 0 _ (by rfl)) (Nat.succ_pos _) (by kernel_rfl) (by kernel_rfl) ?_; simp only [Act.put, List.setIfInBounds_toArray, List.set_cons_zero, List.set_cons_succ])
  (refine o_loads _ [.int .i64 y.id, .bool y.may, .bool y.us, .bool y.bk, .bool y.bd, .int .i64 y.mean, .int .i64 y.tries] (by rfl) rfl rfl (K2d.out.loads 0 _ (by rfl)) (Nat.succ_pos _) (by kernel_rfl) (by kernel_rfl) ?_; simp only [Act.put, List.setIfInBounds_toArray, List.set_cons_zero, List.set_cons_succ])
  clear  K1d K2d
  refine o_sole (fun K hK => ?_)
  go_wp2_with fail
  refine (A1.out wd).mono ?_
  rintro e w5 ⟨rfl, hb⟩
  go_wp2_with fail
  refine hK _ _ (fun _ => Ext.of hb) ?_; clear hK K
  have B5 := Lib.hid (Bd.out.trans (hb.mono Bd.out.size))
  clear hb Bd
  refine o_sole (fun K hK => ?_)
  go_wp2_with fail
  refine (A2.out w5).mono ?_
  rintro e w6 ⟨rfl, hb⟩
  go_wp2_with fail
  refine hK _ _ (fun _ => Ext.of hb) ?_; clear hK K
  have B6 := Lib.hid (B5.out.trans (hb.mono B5.out.size))
  clear hb B5
  refine o_sole (fun K hK => ?_)
  go_wp2_with fail
  refine (C1.out w6).mono ?_
  rintro e w7 ⟨rfl, hw⟩
  have hb : Below w6.heap.size w6 w7 := by rw [hw]; exact Below.refl _ _
  clear hw
  go_wp2_with fail
  refine hK _ _ (fun _ => Ext.of hb) ?_; clear hK K
  have B7 := Lib.hid (B6.out.trans (hb.mono B6.out.size))
  clear hb B6
  refine o_sole (fun K hK => ?_)
  go_wp2_with fail
  refine (C2.out w7).mono ?_
  rintro e w8 ⟨rfl, hb⟩
  go_wp2_with fail
  refine hK _ _ (fun _ => Ext.of hb) ?_; clear hK K
  have B8 := Lib.hid (B7.out.trans (hb.mono B7.out.size))
  clear hb B7
  refine o_sole (fun K hK => ?_)
  go_wp2_with fail
  refine hK _ _ (fun _ => Ext.of ((Below.refl _ _).alloc (Nat.le_refl _) _)) ?_; clear hK K
  have RL := Lib.hid (Rd.litz (w := w8) (t := 3) (cs := #[.int .i64 z1, .int .i64 z2]) (B := w8.heap.size + 1) (n := 2) [z1, z2] rfl (Nat.lt_succ_self _) rfl rfl)
  have B10 := Lib.hid (B8.out.trans (((Below.refl w8.heap.size w8).alloc (Nat.le_refl _) (.cells #[.int .i64 z1, .int .i64 z2] 3)).mono B8.out.size))
  generalize w8.alloc (.cells #[.int .i64 z1, .int .i64 z2] 3) = w10 at RL B10 ⊢
  refine o_sole (fun K hK => ?_)
  go_wp2_with fail
  refine (or_any (some ⟨w8.heap.size, 0, none⟩) 2 2 (w8.heap.size + 1) [z1, z2] w10 RL.out (by omega)).mono ?_
  rintro e w11 ⟨rfl, hw⟩
  have hb : Below w10.heap.size w10 w11 := by rw [hw]; exact Below.refl _ _
  clear hw
  go_wp2_with fail
  refine hK _ _ (fun _ => Ext.of hb) ?_; clear hK K
  have B11 := Lib.hid (B10.out.trans (hb.mono B10.out.size))
  clear hb B10 RL
  (refine o_pure (v := ?_) (by rfl) (fun w' => ?_) ?_; rotate_left; (focus (go_simp; (try with_reducible rfl); (try (rw [if_pos (by omega)]; (try with_reducible rfl))))); (try simp only [Act.put, List.setIfInBounds_toArray, List.set_cons_zero, List.set_cons_succ]))
  refine o_nil (hQ.out _ _ ?_); clear hQ QQ
  go_wp2_with fail
  go_ret
  refine ⟨?_, B11.out⟩
  rw [← HZ.out]
  rfl
theorem pclF : PCL cfF 18 := ⟨enters_of Try.func18 (by kernel_rfl) rfl, fun w x y => clo_free x y w⟩
theorem pclU : PCL cfU 23 := ⟨enters_of Try.func23 (by kernel_rfl) rfl, fun w x y => clo_used x y w⟩
end Go.Proofs.Ytbimjacceocglaa
