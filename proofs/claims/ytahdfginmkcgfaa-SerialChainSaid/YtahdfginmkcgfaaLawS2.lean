/- Layer 4: the law SerialChain answers true, and nothing that was there has turned. -/
import Derived.Test.YtahdfginmkcgfaaLawS1
import Derived.Test.YtahdfginmkcgfaaPass
import Derived.Deep.QuietTactic
import Derived.Deep.RegionWith
import Derived.BigQuiet
namespace Go.Proofs.Ytahdfginmkcgfaa
open Go.RowKit Go.ChangeShapes Go.WideShapes Go.ChangeAt
set_option linter.unusedVariables false

theorem open_u32 {H : Type} {enc : TypeId × Value → H} {P : Program} {w : World} {held : Bool} {t e : TypeId} {A : Option Addr} {len cap : Nat} {d : DataW H} {ps : List MemPlace}
    (ht : P.underlying t = some (.slice e)) (he : P.underlying e = some (.int .u32)) (hc : P.cellsOf e = 1)
    (h : DataW.Trod enc P w 0 (fun _ => true) held t (.slice A len cap) d ps) :
    ∃ l : List Nat, Rd w w.heap.size 1 A len (ns .u32 l) ∧ len ≤ cap ∧ cap ≤ maxLen ∧ ∀ x ∈ l, x < 4294967296 := by
  obtain ⟨l, h1, h2, h3, h4⟩ := open_row ht he hc h
  refine ⟨l.map Int.toNat, by rw [← zs_nat fun x hx => (bounds_u32 (h4 x hx)).1]; exact h1, h2, h3, fun y hy => ?_⟩
  obtain ⟨x, hx, rfl⟩ := List.mem_map.1 hy
  have := bounds_u32 (h4 x hx)
  omega
theorem el32 : El Try.prog 42 34 (.int .u32 0) 1 4 := ⟨Try.underlying42, by kernel_rfl, rfl, by omega, by omega⟩
/-- Steps' sums, so far: each above the one ahead of it. -/
def Up (us : List Nat) (s k : Nat) : Prop :=
  us.length = k ∧ (∀ (i u : Nat), us[i]? = some u → 1 ≤ u ∧ u ≤ s) ∧ (∀ (i u v : Nat), us[i]? = some u → us[i + 1]? = some v → u < v) ∧ s ≤ k * 16777216
def cv (f u : Nat) : Nat := (f + u) % 4294967296
def cy (f : Nat) (us : List Nat) : List Nat := us.map (cv f)
theorem Up.le {us : List Nat} {s k : Nat} (h : Up us s k) : s ≤ k * 16777216 := h.2.2.2
theorem Up.nil : Up [] 0 0 := ⟨rfl, by simp, by simp, by omega⟩
theorem Up.snoc {us : List Nat} {s k x : Nat} (h : Up us s k) (h1 : 1 ≤ x) (h2 : x ≤ 16777216) : Up (us ++ [s + x]) (s + x) (k + 1) := by
  obtain ⟨hl, ha, hb, hs⟩ := h
  refine ⟨by simp [hl], fun i u hu => ?_, fun i u v hu hv => ?_, by omega⟩
  · rw [List.getElem?_append] at hu
    split at hu
    · have := ha i u hu
      omega
    · rename_i hi
      obtain ⟨e1, e2⟩ := List.getElem?_eq_some_iff.1 hu
      simp at e1 e2
      omega
  · rw [List.getElem?_append] at hu hv
    split at hv
    · rw [if_pos (by omega)] at hu
      exact hb i u v hu hv
    · rename_i hi
      obtain ⟨e1, e2⟩ := List.getElem?_eq_some_iff.1 hv
      simp at e1 e2
      rw [if_pos (by omega)] at hu
      have := ha i u hu
      omega
theorem cy_snoc (f : Nat) (us : List Nat) (u : Nat) : cy f (us ++ [u]) = cy f us ++ [cv f u] := by simp [cy]
theorem cy_len (f : Nat) (us : List Nat) : (cy f us).length = us.length := by simp [cy]
theorem cy_nth {f : Nat} {us : List Nat} {i x : Nat} (h : (cy f us)[i]? = some x) : ∃ u, us[i]? = some u ∧ x = cv f u := by
  unfold cy at h
  rw [List.getElem?_map] at h
  cases hu : us[i]? with
  | none => rw [hu] at h; cases h
  | some u => rw [hu] at h; exact ⟨u, rfl, by injection h with h; exact h.symm⟩
section
variable {f u v s : Nat}
theorem ch_less (hf : f < 4294967296) (h1 : 1 ≤ u) (h2 : u < 2147483648) : decide (sd ((f : Nat) : Int) ((cv f u : Nat) : Int) < 0) = true := by
  rw [decide_eq_true_iff]
  unfold sd cv
  omega
theorem ch_btw (hf : f < 4294967296) (h1 : 1 ≤ u) (h2 : u ≤ s) (hs : s < 2147483648) : btw ((cv f u : Nat) : Int) ((f : Nat) : Int) ((cv f s : Nat) : Int) = true := by
  have e1 : 0 ≤ sd ((cv f s : Nat) : Int) ((f : Nat) : Int) := by unfold sd cv; omega
  have e2 : rd ((((f : Nat) : Int) + 1) % 4294967296) ((cv f u : Nat) : Int) < rd ((f : Nat) : Int) ((cv f s : Nat) : Int) := by unfold rd cv; omega
  unfold btw
  rw [decide_eq_true e1, decide_eq_true e2]
  rfl
theorem ch_max (hf : f < 4294967296) (h2 : u ≤ s) (hs : s < 2147483648) : mx ((cv f u : Nat) : Int) ((cv f s : Nat) : Int) = ((cv f s : Nat) : Int) := by
  unfold mx sd cv
  split <;> omega
theorem ch_step (hf : f < 4294967296) (h1 : u < v) (h2 : v < 2147483648) : decide (sd ((cv f u : Nat) : Int) ((cv f v : Nat) : Int) < 0) = true := by
  rw [decide_eq_true_iff]
  unfold sd cv
  omega
end
theorem less_true (a b : Int) (w : World) (h : decide (sd a b < 0) = true) : Calls Try.prog 20 #[.int .u32 a, .int .u32 b] w fun e w' => e = .returned (.bool true) ∧ w' = w := by
  refine (less_any a b w).mono ?_
  rintro e w1 ⟨rfl, rfl⟩
  exact ⟨ret_bool h, rfl⟩
theorem between_true (x f t : Int) (w : World) (h : btw x f t = true) : Calls Try.prog 24 #[.int .u32 x, .int .u32 f, .int .u32 t] w fun e w' => e = .returned (.bool true) ∧ w' = w := by
  refine (between_any x f t w).mono ?_
  rintro e w1 ⟨rfl, rfl⟩
  exact ⟨ret_bool h, rfl⟩
theorem max_second (a b : Int) (w : World) (h : mx a b = b) : Calls Try.prog 21 #[.int .u32 a, .int .u32 b] w fun e w' => e = .returned (.int .u32 b) ∧ w' = w := by
  refine (max_any a b w).mono ?_
  rintro e w1 ⟨rfl, rfl⟩
  exact ⟨ret_int h, rfl⟩
set_option maxRecDepth 20000 in
set_option maxHeartbeats 1000000 in
theorem serialChain_walk (f0 : Int) (A : Option Addr) (n c : Nat) (l : List Nat) (w : World) (hf : (Lit.int .u32 f0).wf = true) (hr : Rd w w.heap.size 1 A n (ns .u32 l)) (hnc : n ≤ c) (hmax : c ≤ maxLen) (hb : ∀ x ∈ l, x < 4294967296) :
    Calls Try.prog 9 #[.int .u32 f0, .slice A n c] w fun e w' => e = .returned (.bool true) ∧ Below w.heap.size w w' := by
  have hf := bounds_u32 hf
  obtain ⟨f, rfl⟩ : ∃ f : Nat, f0 = f := ⟨f0.toNat, by omega⟩
  have hf : f < 4294967296 := by omega
  have HR := Lib.hid hr; have HB := Lib.hid hb
  clear hr hb
  unfold maxLen at hmax
  by_cases hn : 100 < n
  · go_enter Try.func9, Try.ntmps9
    go_wp2_with fail
    go_ret
    exact ⟨rfl, Below.refl _ _⟩
  have HM := Lib.hid hmax; clear hmax
  have hn2 : n ≤ 100 := by omega
  clear hn
  go_enter Try.func9, Try.ntmps9
  go_wp2_with fail
  go_loopw [5, 6, 7] (fun at_ b i wr => ∃ (k : Nat) (us : List Nat) (s : Nat), k ≤ n ∧ Hid (Up us s k) ∧ at_ = .int .u32 (cv f s : Nat) ∧ i = .int .i64 k ∧ Hid (Nats wr 34 .u32 w.heap.size b (cy f us)) ∧ Below w.heap.size w wr) (fun _ _ i _ => n - (intOf i).toNat)
  case atStart => exact ⟨0, [], 0, Nat.zero_le _, Lib.hid Up.nil, by unfold cv; rw [Nat.add_zero, Nat.mod_eq_of_lt hf], rfl, Lib.hid (Nats.nil _ _ _ _), Below.refl _ _⟩
  case round =>
    obtain ⟨k, us, s, hk, hup, rfl, rfl, hown, hbl⟩ := hrel
    by_cases hlt : k < n
    · obtain ⟨bb, off, x, rfl, hbk, hcell, hx⟩ := (HR.out.below hbl).nth hlt
      have hx32 := HB.out _ (nth_mem hx)
      by_cases hx1 : 1 ≤ x
      · by_cases hx2 : x ≤ 16777216
        · have hs : s ≤ 1677721600 := by have := hup.out.le; omega
          have he : ((((cv f s : Nat) : Int) + (x : Int)) % 4294967296) = ((cv f (s + x) : Nat) : Int) := by unfold cv; omega
          have hlen : (cy f us).length = k := by rw [cy_len, hup.out.1]
          have hz := hbl.size
          go_wp2_with (at_builtin; go_must (refine app1n el32 (cv f (s + x)) rfl _ _ rfl rfl hown.out rfl ?_ ?_ ?_ ?_))
          · rfl
          · rw [hlen]; exact room_ge (by omega)
          · exact hz
          · intro v1 w1 ho1 hg1 hb1
            go_wp2
            go_roundw
            case rel => exact ⟨k + 1, us ++ [s + x], s + x, by omega, Lib.hid (hup.out.snoc hx1 hx2), rfl, by go_num, Lib.hid (by rw [cy_snoc]; exact ho1), hbl.trans hb1⟩
            case measure => simp [intOf]; omega
        · go_wp2_with fail
          go_ret
          exact ⟨rfl, hbl⟩
      · go_wp2_with fail
        go_ret
        exact ⟨rfl, hbl⟩
    · have hkn : k = n := by omega
      subst hkn
      clear hlt hk
      obtain ⟨A2, n2, c2, rfl, hc2, hl2, hr2⟩ := hown.out.out
      obtain rfl : k = n2 := by rw [← hl2.out, cy_len]; exact hup.out.1.symm
      have hs : s ≤ 1677721600 := by have := hup.out.le; omega
      go_wp2_with fail
      go_loopw [8] (fun i wv => ∃ j : Nat, i = .int .i64 j ∧ j ≤ k ∧ Hid (Rd wv wr.heap.size 1 A2 k (ns .u32 (cy f us))) ∧ Below w.heap.size w wv) (fun i _ => k - (intOf i).toNat)
      case atStart => exact ⟨0, rfl, Nat.zero_le _, hr2, hbl⟩
      case round =>
        obtain ⟨j, rfl, hj, hrv, hbv⟩ := hrel
        by_cases hlt : j < k
        · obtain ⟨b2, o2, x, rfl, hb2, hcx, hx⟩ := hrv.out.nth hlt
          obtain ⟨u, hu, rfl⟩ := cy_nth hx.out
          have hu1 := hup.out.2.1 j u hu
          have L1 := Lib.hid (ch_less (u := u) hf hu1.1 (by omega))
          have L2 := Lib.hid (ch_btw hf hu1.1 hu1.2 (show s < 2147483648 by omega))
          have L3 := Lib.hid (ch_max hf hu1.2 (show s < 2147483648 by omega))
          have hxx := hx.out
          obtain ⟨a, ha⟩ : ∃ a, a = cv f s := ⟨_, rfl⟩
          obtain ⟨y, hy⟩ : ∃ y, y = cv f u := ⟨_, rfl⟩
          rw [← ha] at L2 L3
          rw [← hy] at L1 L2 L3 hcx hxx
          have L4 := Lib.hid (fun (v : Nat) (h1 : v < u) => ch_step (f := f) hf h1 (show u < 2147483648 by omega))
          rw [← hy] at L4
          have HY := Lib.hid hy
          cases j with
          | zero =>
            rw [← ha]
            clear ha hy
            have s2 : (0 : Int) < ((k : Nat) : Int) := by omega
            rw [Nat.add_zero] at hcx
            go_wp2_with fail
            go_quiet (first
              | (go_at_call_of 20 (Value.int .u32 ((f : Nat) : Int)); refine Calls.quiet_of_same (less_true _ _ _ L1.out))
              | (go_at_call 24; refine Calls.quiet_of_same (between_true _ _ _ _ L2.out))
              | (go_at_call 21; refine Calls.quiet_of_same (max_second _ _ _ L3.out)))
            go_wp2
            go_roundw
            case rel => exact ⟨0 + 1, by go_num, by omega, Lib.hid (hrv.out.drewN _), below_drewN hbv _⟩
            case measure => simp [intOf]; omega
          | succ m =>
            rw [← ha]
            clear ha hy
            obtain ⟨b4, o4, x4, e4, _, hcp, hx4⟩ := hrv.out.nth (show m < k by omega)
            obtain ⟨rfl, rfl⟩ : b4 = b2 ∧ o4 = o2 := by injection e4 with e4; injection e4 with e5 e6; exact ⟨e5.symm, e6.symm⟩
            obtain ⟨u4, hu4, hz4⟩ := cy_nth hx4.out
            have L5 := Lib.hid (L4.out u4 (hup.out.2.2.1 m u4 u hu4 hu))
            rw [← hz4] at L5
            clear hz4 hx4
            have s1 : (0 : Int) < ((m : Nat) : Int) + 1 := by omega
            have s2 : ((m : Nat) : Int) + 1 < ((k : Nat) : Int) := by omega
            have s3 : ((m : Nat) : Int) < ((k : Nat) : Int) := by omega
            clear e4
            go_wp2_with fail
            go_quiet (first
              | (go_at_call_of 20 (Value.int .u32 ((f : Nat) : Int)); refine Calls.quiet_of_same (less_true _ _ _ L1.out))
              | (go_at_call 24; refine Calls.quiet_of_same (between_true _ _ _ _ L2.out))
              | (go_at_call 21; refine Calls.quiet_of_same (max_second _ _ _ L3.out))
              | (go_at_call 20; refine Calls.quiet_of_same (less_true _ _ _ L5.out)))
            go_wp2
            go_roundw
            case rel => exact ⟨(m + 1) + 1, by go_num, by omega, Lib.hid (hrv.out.drewN _), below_drewN hbv _⟩
            case measure => simp [intOf]; omega
        · go_wp2_with fail
          refine (alive04 wr).mono ?_
          rintro e w9 ⟨rfl, rfl⟩
          go_wp2_with fail
          go_ret
          exact ⟨rfl, hbv⟩
end Go.Proofs.Ytahdfginmkcgfaa
