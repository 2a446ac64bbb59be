/- Layer 11: the law BucketBound answers true, and nothing that was there has turned. -/
import Derived.Test.YtkekmcolekomjaaLawBkP
namespace Go.Proofs.Ytkekmcolekomjaa
open Go.RowKit
set_option linter.unusedVariables false
set_option linter.unusedSimpArgs false
/-- How much stands from one place on, up to another one. -/
def sumF (D : List Nat) (j k : Nat) : Nat := ((D.take k).drop j).sum
theorem sumF_self (D : List Nat) (j : Nat) : sumF D j j = 0 := by unfold sumF; rw [List.drop_eq_nil_of_le (by simp; omega)]; rfl
theorem sumF_step {D : List Nat} {j k x : Nat} (hjk : j ≤ k) (h : D[k]? = some x) : sumF D j (k + 1) = sumF D j k + x := by
  unfold sumF
  obtain ⟨hl, hx⟩ := List.getElem?_eq_some_iff.1 h
  rw [List.take_add_one, h]
  simp only [Option.toList_some]
  rw [List.drop_append_of_le_length (by simp; omega), List.sum_append]
  simp
theorem sumF_snoc {D : List Nat} {j k x : Nat} (hk : k ≤ D.length) : sumF (D ++ [x]) j k = sumF D j k := by
  unfold sumF
  rw [List.take_append_of_le_length hk]
/-- No part of it is more than may be, with what is left. -/
def Bnd (D : List Nat) (bu ra left : Nat) : Prop := left ≤ bu ∧ (∀ x ∈ D, x ≤ 4096) ∧ (∀ j, j ≤ D.length → sumF D j D.length + left ≤ bu + ra * (D.length - j)) ∧ ∀ j k, j ≤ k → k < D.length → sumF D j (k + 1) ≤ bu + ra * (k - j)
theorem Bnd.nil (bu ra : Nat) : Bnd [] bu ra bu := ⟨Nat.le_refl _, by simp, fun j hj => by
  obtain rfl : j = 0 := by simpa using hj
  show sumF [] 0 0 + bu ≤ _
  rw [sumF_self]; simp, fun j k _ hk => by simp at hk⟩
theorem Bnd.snoc {D : List Nat} {bu ra left t : Nat} (h : Bnd D bu ra left) (ht : t ≤ left) (hb : bu ≤ 4096) : Bnd (D ++ [t]) bu ra (tickN (left - t) 1 ra bu) := by
  obtain ⟨h1, h2, h3, h4⟩ := h
  have hk1 := tickN_le (left - t) 1 ra bu
  have hk2 := tickN_le' (left - t) 1 ra bu
  have e0 : (D ++ [t]).length = D.length + 1 := by simp
  have es : ∀ j, j ≤ D.length → sumF (D ++ [t]) j (D.length + 1) = sumF D j D.length + t := fun j hj => by rw [sumF_step (x := t) hj (by simp), sumF_snoc (Nat.le_refl _)]
  refine ⟨hk1, fun x hx => ?_, fun j hj => ?_, fun j k hjk hk => ?_⟩
  · rcases List.mem_append.1 hx with hx | hx
    · exact h2 x hx
    · obtain rfl := List.mem_singleton.1 hx; omega
  · rw [e0] at hj ⊢
    by_cases ej : j = D.length + 1
    · subst ej; rw [sumF_self]; omega
    · rw [es j (by omega)]
      have := h3 j (by omega)
      rw [show D.length + 1 - j = D.length - j + 1 by omega, Nat.mul_succ]
      omega
  · rw [e0] at hk
    by_cases e : k = D.length
    · subst e
      rw [es j hjk]
      have := h3 j hjk
      omega
    · rw [sumF_snoc (by omega)]
      exact h4 j k hjk (by omega)
theorem sumF_le {D : List Nat} (h : ∀ x ∈ D, x ≤ 4096) (j k : Nat) (hk : k ≤ D.length) : sumF D j k ≤ 4096 * k := by
  induction k with
  | zero => unfold sumF; simp
  | succ k ih =>
    have ih := ih (by omega)
    by_cases hj : j ≤ k
    · obtain ⟨x, hx⟩ : ∃ x, D[k]? = some x := ⟨_, List.getElem?_eq_getElem (by omega)⟩
      rw [sumF_step hj hx]
      have := h x (List.mem_of_getElem? hx)
      omega
    · unfold sumF; rw [List.drop_eq_nil_of_le (by simp; omega)]; simp
theorem Nats.tou {w w' : World} {e t : TypeId} {k : IntKind} {B g : Nat} {v : Value} {l : List Nat} {cs : Array Value} (h : Nats w e k B v l) (hb : Blk w g t cs) (hne : e ≠ t) (ht : Tou g w w') : Nats w' e k B v l :=
  h.kept fun g' hg' => ht.2 g' (h.lt g' hg').2 fun he => by
    subst he
    rcases h.2 with ⟨rfl, _⟩ | ⟨g2, cap, cur, rfl, _, hh, _⟩
    · simp [Value.ownBlock] at hg'
    · simp [Value.ownBlock] at hg'
      subst hg'
      unfold Blk at hb
      rw [hb] at hh
      injection hh with hh
      injection hh with _ ht
      exact hne ht.symm
theorem iEl : El Try.prog 22 3 (.int .i64 0) 1 8 := ⟨Try.underlying22, by kernel_rfl, rfl, by decide, by decide⟩
set_option maxRecDepth 20000 in
set_option maxHeartbeats 4000000 in
theorem bucketBound_walk (b r : Int) (A : Option Addr) (n c : Nat) (l : List Int) (w : World) (hb : (Lit.int .i64 b).wf = true) (hrr : (Lit.int .i64 r).wf = true) (hr : Rd w w.heap.size 1 A n (zs .i64 l)) (hnc : n ≤ c) (hmax : c ≤ maxLen) (hl : ∀ x ∈ l, -9223372036854775808 ≤ x ∧ x < 9223372036854775808) :
    Calls Try.prog 4 #[.int .i64 b, .int .i64 r, .slice A n c] w fun e w' => e = .returned (.bool true) ∧ Below w.heap.size w w' := by
  have HR := Lib.hid hr
  unfold maxLen at hmax
  clear hr hl
  by_cases h0 : b < 0
  · go_enter Try.func4, Try.ntmps4
    go_wp2_with fail
    go_ret
    exact ⟨rfl, Below.refl _ _⟩
  by_cases h1 : 4096 < b
  · go_enter Try.func4, Try.ntmps4
    go_wp2_with fail
    go_ret
    exact ⟨rfl, Below.refl _ _⟩
  by_cases h2 : r < 0
  · go_enter Try.func4, Try.ntmps4
    go_wp2_with fail
    go_ret
    exact ⟨rfl, Below.refl _ _⟩
  by_cases h3 : 4096 < r
  · go_enter Try.func4, Try.ntmps4
    go_wp2_with fail
    go_ret
    exact ⟨rfl, Below.refl _ _⟩
  by_cases h4 : 200 < n
  · have h4' : (200 : Int) < (n : Int) := by omega
    go_enter Try.func4, Try.ntmps4
    go_wp2_with fail
    go_ret
    exact ⟨rfl, Below.refl _ _⟩
  obtain ⟨bu, rfl⟩ : ∃ k : Nat, b = (k : Int) := ⟨b.toNat, by omega⟩
  obtain ⟨ra, rfl⟩ : ∃ k : Nat, r = (k : Int) := ⟨r.toNat, by omega⟩
  have hbu : bu ≤ 4096 := by omega
  have hra : ra ≤ 4096 := by omega
  have hn : n ≤ 200 := by omega
  have g1 : ¬ (4096 : Int) < (bu : Int) := by omega
  have g2 : ¬ (4096 : Int) < (ra : Int) := by omega
  have g3 : ¬ (200 : Int) < (n : Int) := by omega
  have g4 : ¬ (bu : Int) < 0 := by omega
  have g5 : ¬ (ra : Int) < 0 := by omega
  have HBN := Lib.hid (bkt_new bu ra w hb hrr)
  rw [bdN_of hbu, bdN_of hra] at HBN
  clear h0 h1 h2 h3 h4 hb hrr
  go_enter Try.func4, Try.ntmps4
  go_wp2_with fail
  refine HBN.out.mono ?_
  rintro e w1 ⟨rfl, h1, hb1⟩
  have H1 := Lib.hid h1
  have B1 := Lib.hid hb1
  clear h1 hb1 g1 g2 g3 g4 g5 HBN
  go_wp2_with fail
  go_loopw [8, 9] (fun dv iv wr => ∃ (i left : Nat) (D : List Nat), i ≤ n ∧ iv = .int .i64 (i : Nat) ∧ D.length = i ∧ left ≤ 4096 ∧ Hid (Bkt wr w.heap.size bu ra left) ∧ Hid (Nats wr 3 .i64 w.heap.size dv D) ∧ Hid (Bnd D bu ra left) ∧ Hid (Below w.heap.size w wr)) (fun _ iv _ => n - (intOf iv).toNat)
  case atStart => exact ⟨0, bu, [], Nat.zero_le _, rfl, rfl, hbu, H1, Lib.hid (Nats.nil _ _ _ _), Lib.hid (Bnd.nil _ _), B1⟩
  case round =>
    clear H1 B1
    obtain ⟨i, left, D, hi, rfl, hdl, hleft, HH, HN, HB, BB⟩ := hrel
    by_cases hlt : i < n
    · have hlt' : (i : Int) < (n : Int) := by omega
      obtain ⟨ab, ao, x, hA, hab, q0, hx⟩ := HR.out.nthz hlt
      subst hA
      have HAB := Lib.hid hab
      have HQ := Lib.hid q0
      clear hx hab q0
      obtain ⟨A8, n8, c8, rfl, hc8, hl8, hr8⟩ := HN.out.out
      have h8 : n8 ≤ 200 := by rw [← hl8.out]; omega
      go_wp2_with fail
      go_loopw [10, 11] (fun nv kv wk => ∃ (k t : Nat), k ≤ 50 ∧ kv = .int .i64 (k : Nat) ∧ nv = .int .i64 (t : Nat) ∧ t ≤ k ∧ t ≤ left ∧ Hid (Bkt wk w.heap.size bu ra (left - t)) ∧ Hid (Nats wk 3 .i64 w.heap.size (.slice A8 n8 c8) D) ∧ Hid (Below w.heap.size w wk)) (fun _ kv _ => 50 - (intOf kv).toNat)
      case atStart => exact ⟨0, 0, by omega, rfl, rfl, by omega, by omega, HH, HN, BB⟩
      case round =>
        clear HH HN BB hr8
        obtain ⟨k, t, hk, rfl, rfl, htk, htl, HH, HN, BB⟩ := hrel
        have q0 := (BB.out.cell (p := ⟨ab, ao + i, none⟩) HAB.out).trans HQ.out
        by_cases hgo : (k : Int) < x ∧ k < 50
        · obtain ⟨hkx, hk5⟩ := hgo
          have hk5' : (k : Int) < 50 := by omega
          go_wp2_with fail
          refine (bkt_take w.heap.size bu ra (left - t) _ HH.out (by omega)).mono ?_
          rintro e w7 ⟨rfl, h7, hs7⟩
          have HN7 := Lib.hid (HN.out.tou HH.out (by decide) ⟨hs7.1, fun k _ hk => hs7.2.2 k hk⟩)
          have B7 := Lib.hid (BB.out.trans hs7.1)
          have H7 := Lib.hid h7
          clear h7 hs7 HH HN BB q0
          by_cases hpos : 0 < left - t
          · rw [decide_eq_true hpos]
            have e1 : left - t - 1 = left - (t + 1) := by omega
            rw [e1] at H7
            go_wp2_with fail
            go_roundw
            case rel => exact ⟨k + 1, t + 1, by omega, by go_num, by go_num, by omega, by omega, H7, HN7, B7⟩
            case measure => simp [intOf]; omega
          · rw [decide_eq_false hpos]
            have e1 : left - t - 1 = left - t := by omega
            rw [e1] at H7
            go_wp2_with fail
            go_roundw
            case rel => exact ⟨k + 1, t, by omega, by go_num, rfl, by omega, htl, H7, HN7, B7⟩
            case measure => simp [intOf]; omega
        · have HGO := Lib.hid hgo
          clear hgo
          have HBS := Lib.hid (HB.out.snoc htl hbu)
          obtain ⟨ln, hln⟩ : ∃ ln, ln = tickN (left - t) 1 ra bu := ⟨_, rfl⟩
          have HLN := Lib.hid hln
          rw [← hln] at HBS
          have hln4 : ln ≤ 4096 := by rw [hln]; exact Nat.le_trans (tickN_le _ _ _ _) hbu
          clear hln
          obtain ⟨A7, n7, c7, e7, hc7, hl7, hr7⟩ := HN.out.out
          have hz := BB.out.size
          by_cases hkx : (k : Int) < x
          · have hk5 : ¬ (k : Int) < 50 := by have := HGO.out; omega
            have hroom : (D.length + 1) * 8 ≤ room := room_ge (by omega)
            go_wp2_with (at_builtin; go_must (refine app1n iEl t rfl _ _ rfl rfl HN.out rfl rfl hroom hz ?_))
            intro v7 w7 hn7 hg7 hb7
            have H7 := Lib.hid (Blk.far HH.out HN.out (by decide) hg7)
            have B7 := Lib.hid (BB.out.trans (hb7.mono (Nat.le_refl _)))
            have N7 := Lib.hid hn7
            clear hn7 hg7 hb7 HH HN BB q0 hz
            obtain ⟨A9, n9, c9, rfl, hc9, hl9, hr9⟩ := N7.out.out
            go_wp2_with fail
            refine (bkt_tick w.heap.size bu ra (left - t) 1 w7 H7.out (by omega) hra (by decide)).mono ?_
            rintro e w9 ⟨rfl, h9, ht9⟩
            rw [show bdN 1 = 1 by decide, ← HLN.out] at h9
            have H9 := Lib.hid h9
            have N9 := Lib.hid (N7.out.tou H7.out (by decide) ht9)
            have B9 := Lib.hid (B7.out.trans ht9.1)
            clear h9 ht9 H7 N7 B7
            go_wp2_with fail
            go_roundw
            case rel => exact ⟨i + 1, ln, D ++ [t], by omega, by go_num, by rw [List.length_append]; simp; omega, hln4, H9, N9, HBS, B9⟩
            case measure => simp [intOf]; omega
          · have hroom : (D.length + 1) * 8 ≤ room := room_ge (by omega)
            go_wp2_with (at_builtin; go_must (refine app1n iEl t rfl _ _ rfl rfl HN.out rfl rfl hroom hz ?_))
            intro v7 w7 hn7 hg7 hb7
            have H7 := Lib.hid (Blk.far HH.out HN.out (by decide) hg7)
            have B7 := Lib.hid (BB.out.trans (hb7.mono (Nat.le_refl _)))
            have N7 := Lib.hid hn7
            clear hn7 hg7 hb7 HH HN BB q0 hz
            obtain ⟨A9, n9, c9, rfl, hc9, hl9, hr9⟩ := N7.out.out
            go_wp2_with fail
            refine (bkt_tick w.heap.size bu ra (left - t) 1 w7 H7.out (by omega) hra (by decide)).mono ?_
            rintro e w9 ⟨rfl, h9, ht9⟩
            rw [show bdN 1 = 1 by decide, ← HLN.out] at h9
            have H9 := Lib.hid h9
            have N9 := Lib.hid (N7.out.tou H7.out (by decide) ht9)
            have B9 := Lib.hid (B7.out.trans ht9.1)
            clear h9 ht9 H7 N7 B7
            go_wp2_with fail
            go_roundw
            case rel => exact ⟨i + 1, ln, D ++ [t], by omega, by go_num, by rw [List.length_append]; simp; omega, hln4, H9, N9, HBS, B9⟩
            case measure => simp [intOf]; omega
    · obtain rfl : i = n := by omega
      obtain ⟨A8, n8, c8, rfl, hc8, hl8, hr8⟩ := HN.out.out
      have h8 : n8 = i := by rw [← hl8.out]; exact hdl
      have HRD := Lib.hid (hr8.out.re h8)
      have HDL := Lib.hid hdl
      subst h8
      clear hr8 HH hl8 hdl
      go_wp2_with fail
      go_loopw [12] (fun jv wj => ∃ (j : Nat), j ≤ n8 ∧ jv = .int .i64 (j : Nat) ∧ wj = wr) (fun jv _ => n8 - (intOf jv).toNat)
      case atStart => exact ⟨0, Nat.zero_le _, rfl, rfl⟩
      case round =>
        obtain ⟨j, hj, rfl, rfl⟩ := hrel
        by_cases hjl : j < n8
        · have hjl' : (j : Int) < (n8 : Int) := by omega
          go_wp2_with fail
          go_loopw [13, 14] (fun sv kv wk => ∃ (k s : Nat), j ≤ k ∧ k ≤ n8 ∧ kv = .int .i64 (k : Nat) ∧ sv = .int .i64 (s : Nat) ∧ Hid (s = sumF D j k) ∧ wk = wr) (fun _ kv _ => n8 - (intOf kv).toNat)
          case atStart => exact ⟨j, 0, Nat.le_refl _, hj, rfl, rfl, Lib.hid (sumF_self _ _).symm, rfl⟩
          case round =>
            obtain ⟨k, s, hjk, hk, rfl, rfl, hs, rfl⟩ := hrel
            by_cases hkl : k < n8
            · have hkl' : (k : Int) < (n8 : Int) := by omega
              obtain ⟨ab, ao, x, rfl, hab, q0, hx⟩ := HRD.out.nth hkl
              obtain ⟨s2, hs2⟩ : ∃ s2, s2 = s + x := ⟨_, rfl⟩
              have hs2F : s2 = sumF D j (k + 1) := by rw [hs2, hs.out, sumF_step hjk hx.out]
              have hs2b : s2 ≤ 819200 := by
                have := sumF_le HB.out.2.1 j (k + 1) (by rw [HDL.out]; omega)
                omega
              have hle := HB.out.2.2.2 j k hjk (by rw [HDL.out]; exact hkl)
              obtain ⟨d, hd⟩ : ∃ d, d = k - j := ⟨_, rfl⟩
              have hdi : (k : Int) - (j : Int) = (d : Nat) := by omega
              rw [← hd, ← hs2F] at hle
              obtain ⟨p, hp⟩ : ∃ p, p = ra * d := ⟨_, rfl⟩
              have hpb : p ≤ 4096 * 200 := by rw [hp]; exact Nat.mul_le_mul hra (by omega)
              have hpb2 : p ≤ 819200 := hpb
              have hpi : (ra : Int) * (d : Int) = (p : Nat) := by rw [hp]; push_cast; rfl
              rw [← hp] at hle
              have hs2i : (s : Int) + (x : Int) = (s2 : Nat) := by omega
              have hsb : s ≤ 819200 := by omega
              have HF2 := Lib.hid hs2F
              have hle' : ¬ ((bu : Int) + (p : Int) < (s2 : Int)) := by omega
              have hd2 : d ≤ 200 := by omega
              clear hs2 hs2F hd hp hpb hx
              go_wp2_with fail
              go_roundw
              case rel => exact ⟨k + 1, s2, by omega, by omega, by go_num, rfl, HF2, trivial⟩
              case measure => simp [intOf]; omega
            · go_wp2_with fail
              go_roundw
              case rel => exact ⟨j + 1, by omega, by go_num, trivial⟩
              case measure => simp [intOf]; omega
        · go_wp2_with fail
          refine (alive11 wr).mono ?_
          rintro e w9 ⟨rfl, hb9⟩
          have B9 := Lib.hid (BB.out.trans (hb9.mono BB.out.size))
          go_wp2_with fail
          go_ret
          exact ⟨rfl, B9.out⟩
end Go.Proofs.Ytkekmcolekomjaa
