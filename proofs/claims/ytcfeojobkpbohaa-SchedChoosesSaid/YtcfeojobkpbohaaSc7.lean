/- Package sched: which of two paths comes ahead. -/
import Derived.Test.YtcfeojobkpbohaaSc0
import Derived.Test.YtcfeojobkpbohaaQx
import Derived.Test.YtcfeojobkpbohaaGhoP
import Derived.Shelf.SlSortCmp.Insertion
namespace Go.Proofs.Ytcfeojobkpbohaa
open Go.RowKit Go.Sort
set_option linter.unusedVariables false
set_option linter.unusedSimpArgs false
/-- How two numbers stand: -1, 0, 1. -/
def cmpI (a b : Int) : Int := if a < b then -1 else if b < a then 1 else 0
def orI : List Int → Int
  | [] => 0
  | x :: l => if x = 0 then orI l else x
def rkP (x : Pth) : Int := (if x.bk then 1 else 0) + (if x.bd then 2 else 0)
def tnP (last : Int) (x : Pth) : Int := if last < x.id then 0 else 1
def k2P (pol last : Int) (x : Pth) : Int := if pol = 2 then tnP last x else x.mean
def fitP (n : Int) (x : Pth) : Bool := x.up && (decide (n ≤ x.room) || decide (x.und = 0))
def cfP (pol last : Int) (x y : Pth) : Int := orI [cmpI (rkP x) (rkP y), cmpI (k2P pol last x) (k2P pol last y), cmpI x.id y.id]
def ltP (pol last : Int) (x y : Pth) : Bool := decide (rkP x < rkP y ∨ rkP x = rkP y ∧ (k2P pol last x < k2P pol last y ∨ k2P pol last x = k2P pol last y ∧ x.id < y.id))
theorem cmpI_lt {a b : Int} : cmpI a b < 0 ↔ a < b := by unfold cmpI; split <;> (try split) <;> omega
theorem cmpI_eq {a b : Int} : cmpI a b = 0 ↔ a = b := by unfold cmpI; split <;> (try split) <;> omega
theorem ltOf_cfP (pol last : Int) (x y : Pth) : ltOf (cfP pol last) x y = ltP pol last x y := by
  unfold ltOf ltP cfP
  have e1 := @cmpI_lt (rkP x) (rkP y); have e2 := @cmpI_eq (rkP x) (rkP y)
  have e3 := @cmpI_lt (k2P pol last x) (k2P pol last y); have e4 := @cmpI_eq (k2P pol last x) (k2P pol last y)
  have e5 := @cmpI_lt x.id y.id; have e6 := @cmpI_eq x.id y.id
  apply decide_eq_decide.2
  unfold orI
  split
  · rename_i h
    rw [e2] at h
    unfold orI
    split
    · rename_i h2
      rw [e4] at h2
      unfold orI
      split
      · rename_i h3
        rw [e6] at h3
        simp only [orI]
        omega
      · omega
    · rename_i h2
      have h2' : ¬ k2P pol last x = k2P pol last y := fun h => h2 (e4.2 h)
      omega
  · rename_i h
    have h' : ¬ rkP x = rkP y := fun hh => h (e2.2 hh)
    omega
theorem swo_cfP (pol last : Int) : SWO (ltOf (cfP pol last)) where
  irrefl x := by rw [ltOf_cfP]; simp [ltP]
  trans x y z h1 h2 := by
    rw [ltOf_cfP] at *
    simp only [ltP, decide_eq_true_eq] at *
    omega
  ntrans x y z h1 h2 := by
    rw [ltOf_cfP] at *
    simp only [ltP, decide_eq_false_iff_not] at *
    omega
set_option maxRecDepth 20000 in
set_option maxHeartbeats 4000000 in
theorem nan_any (a : Int) (w : World) : Calls Try.prog 29 #[.int .i64 a] w fun e w' => e = .returned (.bool false) ∧ w' = w := by
  go_enter Try.func29, Try.ntmps29
  go_wp2
  go_ret
  exact ⟨by simp, rfl⟩
set_option maxRecDepth 20000 in
set_option maxHeartbeats 4000000 in
theorem cmp_int (a b : Int) (w : World) : Calls Try.prog 24 #[.int .i64 a, .int .i64 b] w fun e w' => e = .returned (.int .i64 (cmpI a b)) ∧ w' = w := by
  have HA := Lib.hid (nan_any a w)
  have HB := Lib.hid (nan_any b w)
  unfold cmpI
  by_cases h1 : a < b
  · rw [if_pos h1]
    go_enter Try.func24, Try.ntmps24
    go_wp2_with fail
    refine HA.out.mono ?_
    rintro e w2 ⟨rfl, hw⟩
    have hw := hw.symm
    subst hw
    go_wp2_with fail
    refine HB.out.mono ?_
    rintro e w2 ⟨rfl, hw⟩
    have hw := hw.symm
    subst hw
    go_wp2_with fail
    go_ret
    exact ⟨rfl, rfl⟩
  · rw [if_neg h1]
    by_cases h2 : b < a
    · rw [if_pos h2]
      go_enter Try.func24, Try.ntmps24
      go_wp2_with fail
      refine HA.out.mono ?_
      rintro e w2 ⟨rfl, hw⟩
      have hw := hw.symm
      subst hw
      go_wp2_with fail
      refine HB.out.mono ?_
      rintro e w2 ⟨rfl, hw⟩
      have hw := hw.symm
      subst hw
      go_wp2_with fail
      go_ret
      exact ⟨rfl, rfl⟩
    · rw [if_neg h2]
      go_enter Try.func24, Try.ntmps24
      go_wp2_with fail
      refine HA.out.mono ?_
      rintro e w2 ⟨rfl, hw⟩
      have hw := hw.symm
      subst hw
      go_wp2_with fail
      refine HB.out.mono ?_
      rintro e w2 ⟨rfl, hw⟩
      have hw := hw.symm
      subst hw
      go_wp2_with fail
      go_ret
      exact ⟨rfl, rfl⟩
theorem orI_drop {l : List Int} {k : Nat} {x : Int} (h : l[k]? = some x) : orI (l.drop k) = if x = 0 then orI (l.drop (k + 1)) else x := by
  obtain ⟨hl, hx⟩ := List.getElem?_eq_some_iff.1 h
  rw [← List.getElem_cons_drop hl, hx]
  rfl
set_option maxRecDepth 20000 in
set_option maxHeartbeats 4000000 in
theorem or_any (A : Option Addr) (n c B : Nat) (l : List Int) (w : World) (h : Rd w B 1 A n (zs .i64 l)) (hn : n ≤ 65536) : Calls Try.prog 23 #[.slice A n c] w fun e w' => e = .returned (.int .i64 (orI l)) ∧ w' = w := by
  have HR := Lib.hid h
  have HL := Lib.hid h.intLen
  clear h
  go_enter Try.func23, Try.ntmps23
  go_wp2_with fail
  go_loopw [8] (fun iv wr => ∃ (k : Nat), k ≤ n ∧ iv = .int .i64 (k : Nat) ∧ Hid (orI l = orI (l.drop k)) ∧ Sh (wr = w)) (fun iv _ => n - (intOf iv).toNat)
  case atStart => exact ⟨0, Nat.zero_le _, rfl, Lib.hid rfl, ⟨rfl⟩⟩
  case round =>
    obtain ⟨k, hk, rfl, HO, HW⟩ := hrel
    have hw := HW.out.symm
    subst hw
    by_cases hlt : k < n
    · have hlt' : (k : Int) < (n : Int) := by omega
      have hk0 : (0 : Int) ≤ (k : Int) := by omega
      obtain ⟨b, off, x, rfl, hb, hc, hx⟩ := HR.out.nthz hlt
      have HX := orI_drop hx.out
      by_cases h0 : x = 0
      · rw [if_pos h0] at HX
        subst h0
        have HO2 := Lib.hid (HO.out.trans HX)
        clear HX HO hx
        go_wp2_with fail
        go_roundw
        case rel => exact ⟨k + 1, by omega, by go_num, HO2, by first | exact ⟨rfl⟩ | exact ⟨trivial⟩⟩
        case measure => simp [intOf]; omega
      · rw [if_neg h0] at HX
        have HO2 := Lib.hid (HO.out.trans HX)
        clear HX HO hx
        have h0' : (x == 0) = false := by simpa using h0
        go_wp2_with fail
        refine bodyPost_ret (v := .int .i64 x) (by kernel_rfl) rfl ?_
        exact ⟨by rw [HO2.out], rfl⟩
    · have hlt' : ¬ (k : Int) < (n : Int) := by omega
      have HO2 := Lib.hid (show orI l = 0 by rw [HO.out, List.drop_of_length_le (by rw [HL.out]; omega)]; rfl)
      go_wp2_with fail
      go_ret
      exact ⟨by rw [HO2.out]; rfl, rfl⟩
set_option maxRecDepth 20000 in
set_option maxHeartbeats 4000000 in
theorem rank_any (x : Pth) (w : World) : Calls Try.prog 25 #[.agg #[.int .i64 x.id, .bool x.up, .bool x.bk, .bool x.bd, .int .i64 x.room, .int .i64 x.und, .int .i64 x.mean]] w fun e w' => e = .returned (.int .i64 (rkP x)) ∧ Below w.heap.size w w' := by
  unfold rkP
  have KR := Blk.new w 36 #[.int .i64 x.id, .bool x.up, .bool x.bk, .bool x.bd, .int .i64 x.room, .int .i64 x.und, .int .i64 x.mean]
  have B1 := Lib.hid ((Below.refl w.heap.size w).alloc (Nat.le_refl _) (.cells #[.int .i64 x.id, .bool x.up, .bool x.bk, .bool x.bd, .int .i64 x.room, .int .i64 x.und, .int .i64 x.mean] 36))
  have c2 : (w.alloc (.cells #[.int .i64 x.id, .bool x.up, .bool x.bk, .bool x.bd, .int .i64 x.room, .int .i64 x.und, .int .i64 x.mean] 36)).cell? ⟨w.heap.size, 2, none⟩ = some (.bool x.bk) := by rw [KR.cell]; rfl
  have c3 : (w.alloc (.cells #[.int .i64 x.id, .bool x.up, .bool x.bk, .bool x.bd, .int .i64 x.room, .int .i64 x.und, .int .i64 x.mean] 36)).cell? ⟨w.heap.size, 3, none⟩ = some (.bool x.bd) := by rw [KR.cell]; rfl
  clear KR
  cases hk : x.bk <;> cases hd : x.bd <;> rw [hk] at c2 B1 <;> rw [hk, hd] at c3 <;> rw [hd] at c2 B1 <;> (
    clear hk hd
    go_enter Try.func25, Try.ntmps25
    go_wp2
    go_ret
    exact ⟨by simp, B1.out⟩)
set_option maxRecDepth 20000 in
set_option maxHeartbeats 4000000 in
theorem rrank_any (x : Pth) (w : World) : Calls Try.prog 19 #[.agg #[.int .i64 x.id, .bool x.up, .bool x.bk, .bool x.bd, .int .i64 x.room, .int .i64 x.und, .int .i64 x.mean]] w fun e w' => e = .returned (.int .i64 (rkP x)) ∧ Below w.heap.size w w' := by
  unfold rkP
  have KR := Blk.new w 41 #[.int .i64 x.id, .bool x.up, .bool x.bk, .bool x.bd, .int .i64 x.room, .int .i64 x.und, .int .i64 x.mean]
  have B1 := Lib.hid ((Below.refl w.heap.size w).alloc (Nat.le_refl _) (.cells #[.int .i64 x.id, .bool x.up, .bool x.bk, .bool x.bd, .int .i64 x.room, .int .i64 x.und, .int .i64 x.mean] 41))
  have c2 : (w.alloc (.cells #[.int .i64 x.id, .bool x.up, .bool x.bk, .bool x.bd, .int .i64 x.room, .int .i64 x.und, .int .i64 x.mean] 41)).cell? ⟨w.heap.size, 2, none⟩ = some (.bool x.bk) := by rw [KR.cell]; rfl
  have c3 : (w.alloc (.cells #[.int .i64 x.id, .bool x.up, .bool x.bk, .bool x.bd, .int .i64 x.room, .int .i64 x.und, .int .i64 x.mean] 41)).cell? ⟨w.heap.size, 3, none⟩ = some (.bool x.bd) := by rw [KR.cell]; rfl
  clear KR
  cases hk : x.bk <;> cases hd : x.bd <;> rw [hk] at c2 B1 <;> rw [hk, hd] at c3 <;> rw [hd] at c2 B1 <;> (
    clear hk hd
    go_enter Try.func19, Try.ntmps19
    go_wp2
    go_ret
    exact ⟨by simp, B1.out⟩)
set_option maxRecDepth 20000 in
set_option maxHeartbeats 4000000 in
theorem turn_any (x : Pth) (last : Int) (w : World) : Calls Try.prog 30 #[.agg #[.int .i64 x.id, .bool x.up, .bool x.bk, .bool x.bd, .int .i64 x.room, .int .i64 x.und, .int .i64 x.mean], .int .i64 last] w fun e w' => e = .returned (.int .i64 (tnP last x)) ∧ Below w.heap.size w w' := by
  unfold tnP
  have KR := Blk.new w 36 #[.int .i64 x.id, .bool x.up, .bool x.bk, .bool x.bd, .int .i64 x.room, .int .i64 x.und, .int .i64 x.mean]
  have B1 := Lib.hid ((Below.refl w.heap.size w).alloc (Nat.le_refl _) (.cells #[.int .i64 x.id, .bool x.up, .bool x.bk, .bool x.bd, .int .i64 x.room, .int .i64 x.und, .int .i64 x.mean] 36))
  have c0 : (w.alloc (.cells #[.int .i64 x.id, .bool x.up, .bool x.bk, .bool x.bd, .int .i64 x.room, .int .i64 x.und, .int .i64 x.mean] 36)).cell? ⟨w.heap.size, 0, none⟩ = some (.int .i64 x.id) := by rw [KR.cell]; rfl
  clear KR
  by_cases h : last < x.id
  · rw [if_pos h]
    go_enter Try.func30, Try.ntmps30
    go_wp2
    go_ret
    exact ⟨rfl, B1.out⟩
  · rw [if_neg h]
    go_enter Try.func30, Try.ntmps30
    go_wp2
    go_ret
    exact ⟨rfl, B1.out⟩
set_option maxRecDepth 20000 in
set_option maxHeartbeats 4000000 in
theorem fits_any (x : Pth) (n : Int) (w : World) : Calls Try.prog 20 #[.agg #[.int .i64 x.id, .bool x.up, .bool x.bk, .bool x.bd, .int .i64 x.room, .int .i64 x.und, .int .i64 x.mean], .int .i64 n] w fun e w' => e = .returned (.bool (fitP n x)) ∧ Below w.heap.size w w' := by
  unfold fitP
  have KR := Blk.new w 36 #[.int .i64 x.id, .bool x.up, .bool x.bk, .bool x.bd, .int .i64 x.room, .int .i64 x.und, .int .i64 x.mean]
  have B1 := Lib.hid ((Below.refl w.heap.size w).alloc (Nat.le_refl _) (.cells #[.int .i64 x.id, .bool x.up, .bool x.bk, .bool x.bd, .int .i64 x.room, .int .i64 x.und, .int .i64 x.mean] 36))
  have c1 : (w.alloc (.cells #[.int .i64 x.id, .bool x.up, .bool x.bk, .bool x.bd, .int .i64 x.room, .int .i64 x.und, .int .i64 x.mean] 36)).cell? ⟨w.heap.size, 1, none⟩ = some (.bool x.up) := by rw [KR.cell]; rfl
  have c4 : (w.alloc (.cells #[.int .i64 x.id, .bool x.up, .bool x.bk, .bool x.bd, .int .i64 x.room, .int .i64 x.und, .int .i64 x.mean] 36)).cell? ⟨w.heap.size, 4, none⟩ = some (.int .i64 x.room) := by rw [KR.cell]; rfl
  have c5 : (w.alloc (.cells #[.int .i64 x.id, .bool x.up, .bool x.bk, .bool x.bd, .int .i64 x.room, .int .i64 x.und, .int .i64 x.mean] 36)).cell? ⟨w.heap.size, 5, none⟩ = some (.int .i64 x.und) := by rw [KR.cell]; rfl
  clear KR
  cases hu : x.up <;> rw [hu] at B1 c1 c4 c5
  · clear hu
    go_enter Try.func20, Try.ntmps20
    go_wp2
    go_ret
    exact ⟨by simp, B1.out⟩
  · clear hu
    by_cases h : n ≤ x.room
    · rw [decide_eq_true h]
      go_enter Try.func20, Try.ntmps20
      go_wp2
      go_ret
      exact ⟨by simp, B1.out⟩
    · rw [decide_eq_false h]
      have h2 : (decide (n ≤ x.room)) = false := decide_eq_false h
      by_cases h0 : x.und = 0
      · rw [decide_eq_true h0]
        have h0' : (x.und == 0) = true := by simpa using h0
        clear h0
        go_enter Try.func20, Try.ntmps20
        go_wp2
        go_ret
        exact ⟨by simp, B1.out⟩
      · rw [decide_eq_false h0]
        have h0' : (x.und == 0) = false := by simpa using h0
        go_enter Try.func20, Try.ntmps20
        go_wp2
        go_ret
        exact ⟨by simp, B1.out⟩
set_option maxRecDepth 20000 in
set_option maxHeartbeats 4000000 in
theorem byp_any (pol last : Int) (x y : Pth) (w : World) : Calls Try.prog 26 #[.int .i64 pol, .int .i64 last, .agg #[.int .i64 x.id, .bool x.up, .bool x.bk, .bool x.bd, .int .i64 x.room, .int .i64 x.und, .int .i64 x.mean], .agg #[.int .i64 y.id, .bool y.up, .bool y.bk, .bool y.bd, .int .i64 y.room, .int .i64 y.und, .int .i64 y.mean]] w fun e w' => e = .returned (.int .i64 (cmpI (k2P pol last x) (k2P pol last y))) ∧ Below w.heap.size w w' := by
  unfold k2P
  have K1 := Lib.hid ((Blk.new w 36 #[.int .i64 x.id, .bool x.up, .bool x.bk, .bool x.bd, .int .i64 x.room, .int .i64 x.und, .int .i64 x.mean]).alloc (.cells #[.int .i64 y.id, .bool y.up, .bool y.bk, .bool y.bd, .int .i64 y.room, .int .i64 y.und, .int .i64 y.mean] 36))
  have K2 := Lib.hid (Blk.new (w.alloc (.cells #[.int .i64 x.id, .bool x.up, .bool x.bk, .bool x.bd, .int .i64 x.room, .int .i64 x.und, .int .i64 x.mean] 36)) 36 #[.int .i64 y.id, .bool y.up, .bool y.bk, .bool y.bd, .int .i64 y.room, .int .i64 y.und, .int .i64 y.mean])
  have B1 := Lib.hid (((Below.refl w.heap.size w).alloc (Nat.le_refl _) (.cells #[.int .i64 x.id, .bool x.up, .bool x.bk, .bool x.bd, .int .i64 x.room, .int .i64 x.und, .int .i64 x.mean] 36)).alloc (by simp) (.cells #[.int .i64 y.id, .bool y.up, .bool y.bk, .bool y.bd, .int .i64 y.room, .int .i64 y.und, .int .i64 y.mean] 36))
  have hsz : (w.alloc (.cells #[.int .i64 x.id, .bool x.up, .bool x.bk, .bool x.bd, .int .i64 x.room, .int .i64 x.und, .int .i64 x.mean] 36)).heap.size = w.heap.size + 1 := by simp
  by_cases h : pol = 2
  · have h' : (pol == 2) = true := by simpa using h
    rw [if_pos h, if_pos h]
    subst h
    have HT := Lib.hid (fun w' => turn_any x last w')
    have HU := Lib.hid (fun w' => turn_any y last w')
    have HC := Lib.hid (fun w' => cmp_int (tnP last x) (tnP last y) w')
    generalize tnP last x = tx at *
    generalize tnP last y = ty at *
    generalize cmpI tx ty = r at *
    go_enter Try.func26, Try.ntmps26
    go_upto_region 2 with fail
    rw [hsz] at K2
    generalize ((w.alloc (.cells #[.int .i64 x.id, .bool x.up, .bool x.bk, .bool x.bd, .int .i64 x.room, .int .i64 x.und, .int .i64 x.mean] 36)).alloc (.cells #[.int .i64 y.id, .bool y.up, .bool y.bk, .bool y.bd, .int .i64 y.room, .int .i64 y.und, .int .i64 y.mean] 36)) = w2 at K1 K2 B1 ⊢
    obtain ⟨X, hX⟩ : ∃ X, X = w.heap.size := ⟨_, rfl⟩
    have HXX := Lib.hid hX
    rw [← hX] at K1 K2 ⊢
    clear hX hsz
    refine wp_ext (by kernel_rfl) (by kernel_rfl) (fun QQ hQ => ?_)
    refine x_loads _ [.int .i64 x.id, .bool x.up, .bool x.bk, .bool x.bd, .int .i64 x.room, .int .i64 x.und, .int .i64 x.mean] (by rfl) rfl rfl (K1.out.loads 0 _ (by rfl)) (Nat.succ_pos _) (by kernel_rfl) (by kernel_rfl) ?_; simp only [Act.put, List.setIfInBounds_toArray, List.set_cons_zero, List.set_cons_succ]
    (first | (refine x_load _ (by rfl) rfl rfl (by assumption) (by kernel_rfl) ?_; simp only [Act.put, List.setIfInBounds_toArray, List.set_cons_zero, List.set_cons_succ]) | (refine x_val (v := ?_) (by rfl) (fun w' hx => ?_) ?_; rotate_left; (focus (go_simp; (try with_reducible rfl))); (try simp only [Act.put, List.setIfInBounds_toArray, List.set_cons_zero, List.set_cons_succ])))
    refine x_call (by rfl) (fun w' hx => by go_simp) (fun w' hx => HT.out w') ?_; simp only [Act.put, List.setIfInBounds_toArray, List.set_cons_zero, List.set_cons_succ]
    refine x_loads _ [.int .i64 y.id, .bool y.up, .bool y.bk, .bool y.bd, .int .i64 y.room, .int .i64 y.und, .int .i64 y.mean] (by rfl) rfl rfl (K2.out.loads 0 _ (by rfl)) (Nat.succ_pos _) (by kernel_rfl) (by kernel_rfl) ?_; simp only [Act.put, List.setIfInBounds_toArray, List.set_cons_zero, List.set_cons_succ]
    (first | (refine x_load _ (by rfl) rfl rfl (by assumption) (by kernel_rfl) ?_; simp only [Act.put, List.setIfInBounds_toArray, List.set_cons_zero, List.set_cons_succ]) | (refine x_val (v := ?_) (by rfl) (fun w' hx => ?_) ?_; rotate_left; (focus (go_simp; (try with_reducible rfl))); (try simp only [Act.put, List.setIfInBounds_toArray, List.set_cons_zero, List.set_cons_succ])))
    refine x_call (by rfl) (fun w' hx => by go_simp) (fun w' hx => HU.out w') ?_; simp only [Act.put, List.setIfInBounds_toArray, List.set_cons_zero, List.set_cons_succ]
    refine x_call (by rfl) (fun w' hx => by go_simp) (fun w' hx => (HC.out w').mono (fun e w3 ⟨h1, h2⟩ => ⟨h1, h2 ▸ Below.refl _ _⟩)) ?_; simp only [Act.put, List.setIfInBounds_toArray, List.set_cons_zero, List.set_cons_succ]
    (first | (refine x_load _ (by rfl) rfl rfl (by assumption) (by kernel_rfl) ?_; simp only [Act.put, List.setIfInBounds_toArray, List.set_cons_zero, List.set_cons_succ]) | (refine x_val (v := ?_) (by rfl) (fun w' hx => ?_) ?_; rotate_left; (focus (go_simp; (try with_reducible rfl))); (try simp only [Act.put, List.setIfInBounds_toArray, List.set_cons_zero, List.set_cons_succ])))
    refine x_nil (hQ.out _ ?_); clear hQ QQ
    intro w4 hb4
    have B4 := Lib.hid (B1.out.trans (hb4.mono B1.out.size))
    clear hb4
    go_wp2_with fail
    go_ret
    exact ⟨rfl, B4.out⟩
  · have h' : (pol == 2) = false := by simpa using h
    rw [if_neg h, if_neg h]
    have HC := Lib.hid (fun w' => cmp_int x.mean y.mean w')
    generalize cmpI x.mean y.mean = r at *
    go_enter Try.func26, Try.ntmps26
    go_upto_region 3 with fail
    rw [hsz] at K2
    generalize ((w.alloc (.cells #[.int .i64 x.id, .bool x.up, .bool x.bk, .bool x.bd, .int .i64 x.room, .int .i64 x.und, .int .i64 x.mean] 36)).alloc (.cells #[.int .i64 y.id, .bool y.up, .bool y.bk, .bool y.bd, .int .i64 y.room, .int .i64 y.und, .int .i64 y.mean] 36)) = w2 at K1 K2 B1 ⊢
    obtain ⟨X, hX⟩ : ∃ X, X = w.heap.size := ⟨_, rfl⟩
    rw [← hX] at K1 K2 ⊢
    clear hX hsz
    have c1 : w2.cell? ⟨X, 6, none⟩ = some (.int .i64 x.mean) := by rw [K1.out.cell]; rfl
    have c2 : w2.cell? ⟨X + 1, 6, none⟩ = some (.int .i64 y.mean) := by rw [K2.out.cell]; rfl
    go_wp2_with fail
    refine (HC.out w2).mono ?_
    rintro e w4 ⟨rfl, hw4⟩
    have hw4 := hw4.symm
    subst hw4
    go_wp2_with fail
    go_ret
    exact ⟨rfl, B1.out⟩
end Go.Proofs.Ytcfeojobkpbohaa
