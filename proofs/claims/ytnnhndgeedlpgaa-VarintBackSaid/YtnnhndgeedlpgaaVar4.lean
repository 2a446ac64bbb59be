/- The document's Get of layer 43. -/
import Derived.Test.YtnnhndgeedlpgaaVar3
import Derived.Test.YtnnhndgeedlpgaaUnd
namespace Go.Proofs.Ytnnhndgeedlpgaa
open Go.RowKit
set_option linter.unusedVariables false
theorem uacc (k d x : Nat) (hk : k ≤ 9) (hd : d < 128 ^ k) :
    IntKind.u64.wrap (((lo64 d : Nat) : Int) + IntKind.u64.wrap (((x : Nat) : Int) % 128 * ((lo64 (128 ^ k) : Nat) : Int))) = ((lo64 (d + x % 128 * 128 ^ k) : Nat) : Int) := by
  have h9 : 128 ^ k ≤ 128 ^ 9 := Nat.pow_le_pow_right (by omega) hk
  rw [lo64_small (n := d) (by omega), lo64_small (n := 128 ^ k) (by omega)]
  rw [show ((x : Nat) : Int) % 128 * ((128 ^ k : Nat) : Int) = ((x % 128 * 128 ^ k : Nat) : Int) by push_cast; rfl, wrap64_nat, ← Int.natCast_add, wrap64_nat]
  unfold lo64
  congr 1
  omega
theorem unext (k : Nat) (hk : k ≤ 9) : IntKind.u64.wrap (((lo64 (128 ^ k) : Nat) : Int) * 128) = ((lo64 (128 ^ (k + 1)) : Nat) : Int) := by
  have h9 : 128 ^ k ≤ 128 ^ 9 := Nat.pow_le_pow_right (by omega) hk
  rw [lo64_small (n := 128 ^ k) (by omega), show ((128 ^ k : Nat) : Int) * 128 = ((128 ^ (k + 1) : Nat) : Int) by rw [Nat.pow_succ]; push_cast; rfl, wrap64_nat]
  rfl

set_option maxRecDepth 20000 in
theorem refGet_any (A : Option Addr) (n c : Nat) (l : List Nat) (w : World) (hr : Rd w w.heap.size 1 A n (ns .u8 l)) (hnc : n ≤ c) (hb : ∀ x ∈ l, x < 256) (hn : n ≤ 100000) :
    Calls Try.prog 27 #[.slice A n c] w fun e w' => e = .returned (.tuple #[.int .u64 ((vget l).1 : Nat), .int .i64 ((vget l).2 : Nat)]) ∧ Below w.heap.size w w' := by
  have hl := hr.natLen
  have HR := Lib.hid hr; have HL := Lib.hid hl; have HB := Lib.hid hb
  clear hr hl hb
  go_enter Try.func27, Try.ntmps27
  go_wp2
  go_loop [4, 5, 6] (fun s u i => ∃ k : Nat, k ≤ n ∧ k ≤ 10 ∧ i = .int .i64 k ∧ s = .int .u64 (lo64 (dec (l.take k)) : Nat) ∧ u = .int .u64 (lo64 (128 ^ k) : Nat) ∧ Hid (vget l = vgo l k (10 - k)) ∧ Hid (∀ y ∈ l.take k, 128 ≤ y ∧ y < 256)) (fun _ _ i => 10 - (intOf i).toNat)
  case atStart => exact ⟨0, Nat.zero_le _, by omega, rfl, rfl, rfl, rfl, by intro y hy; simp at hy⟩
  case round =>
    obtain ⟨k, hk, hk2, rfl, rfl, rfl, hv, hp⟩ := hrel
    by_cases hlt : k < n ∧ k < 10
    · obtain ⟨hlt, hlt2⟩ := hlt
      obtain ⟨b, off, x, rfl, hbk, hcell, hx⟩ := HR.out.nth (i := k) (by omega)
      have hx8 := HB.out _ (nth_mem hx)
      have hT := Lib.hid (nth_take hx)
      have hlen : (l.take k).length = k := by rw [List.length_take, HL.out]; omega
      have hacc := uacc k (dec (l.take k)) x (by omega) (by have := dec_lt (l.take k); rwa [hlen] at this)
      have hsn := dec_snoc (l.take k) x
      rw [hlen, ← nth_take hx] at hsn
      rw [← hsn] at hacc
      have HT := Lib.hid (takes (l.take k) x hp.out)
      rw [hlen, ← nth_take hx] at HT
      clear hsn
      have HLEN := Lib.hid hlen
      clear hlen
      by_cases hc : x < 128
      · have hT2 := Lib.hid (HT.out hc (by omega))
        have HV : Hid (vget l = if vb (dec (l.take (k + 1))) = l.take (k + 1) ∧ dec (l.take (k + 1)) < 18446744073709551616 then (dec (l.take (k + 1)), k + 1) else (0, 0)) := by
          rw [hv.out, show 10 - k = 10 - k - 1 + 1 by omega]; exact Lib.hid (vgo_ends hx.out (by omega))
        clear HT
        go_wp2_with fail
        refine wp_open [([0, 3, 4, 5, 6, 7], some 1), ([2, 8], none)] (by kernel_rfl) (by kernel_rfl) (by kernel_rfl) (fun QQ hQ => walkS_sole fun R hR => ?_)
        simp only [List.map_cons, List.map_nil, List.getD_cons_zero, List.getD_cons_succ]
        have s1 : IntKind.i64.wrap ((k : Int) + 1) = (k : Int) + 1 := IntWalk.i64_in _ (by omega)
        have s2 : (0 : Int) ≤ (k : Int) + 1 := by omega
        have s3 : (k : Int) + 1 ≤ (c : Int) := by omega
        have s4 : ((k : Int) + 1).toNat = k + 1 := by omega
        repeat (refine qstep (by rfl) (fun K hK => qval (v := ?_) (fun w' hx => ?_) (hK _ ?_)); rotate_left; (go_simp; with_reducible rfl); clear hK K; (try simp only [Act.put, List.setIfInBounds_toArray, List.set_cons_zero, List.set_cons_succ]))
        refine qstep (by rfl) (fun K hK => qconv Try.underlying22 Try.underlying5 Try.underlying9 _ rfl rfl ((HR.out.takeN (m := k + 1) (by omega)).drew) (Nat.le_refl _) (hK _ ?_))
        clear hK K
        simp only [Act.put, List.setIfInBounds_toArray, List.set_cons_zero, List.set_cons_succ]
        refine wpQuiet_nil ?_
        intro K hK
        go_wp2_with (go_at_call 22; go_must (refine (refPut _ _ (lo64_lt _)).mono ?_; rintro e w1 ⟨v1, rfl, h1, hb1⟩))
        obtain ⟨A1, c1, rfl, hc1⟩ := h1.form
        refine hK _ _ (Ext.of hb1) (hR.out _ _ (walkS_last ?_))
        clear hR hK s1 s2 s3 s4
        simp only [List.map_cons, List.map_nil, List.getD_cons_zero, List.getD_cons_succ]
        refine qstep (by rfl) (fun K hK => qconv Try.underlying22 Try.underlying5 Try.underlying9 _ rfl rfl h1.rd (Nat.le_refl _) (hK _ ?_))
        clear hK
        simp only [Act.put, List.setIfInBounds_toArray, List.set_cons_zero, List.set_cons_succ]
        have hbl : ∀ y ∈ l.take (k + 1), y < 256 := fun y hy => HB.out y (List.mem_of_mem_take hy)
        have hs := strN_beq (vb_byte (lo64 (dec (l.take (k + 1))))) hbl
        by_cases hacc : vb (lo64 (dec (l.take (k + 1)))) = l.take (k + 1)
        · have hok : vb (dec (l.take (k + 1))) = l.take (k + 1) ∧ dec (l.take (k + 1)) < 18446744073709551616 := by
            have e := dec_vb (lo64 (dec (l.take (k + 1))))
            rw [hacc] at e
            have hlt := lo64_lt (dec (l.take (k + 1)))
            rw [← e] at hlt
            rw [lo64_small hlt] at hacc
            exact ⟨hacc, hlt⟩
          have HOK := Lib.hid hok
          have HSP := Lib.hid (congrArg (fun l => (strN l).toList) hacc)
          clear hs hacc hok
          refine qstep (by rfl) (fun K hK => qval (v := .bool false) (fun w' hx => by go_simp; exact HSP.out) (hK _ ?_))
          simp only [Act.put, List.setIfInBounds_toArray, List.set_cons_zero, List.set_cons_succ]
          refine wpQuiet_nil (hQ.out _ _ ?_)
          clear hQ
          go_wp2
          go_ret2
          rw [HV.out, if_pos HOK.out, lo64_small HOK.out.2]
          exact ⟨rfl, (Below.refl _ _).drew.trans hb1⟩
        · rw [decide_eq_false hacc] at hs
          have hno : ¬ (vb (dec (l.take (k + 1))) = l.take (k + 1) ∧ dec (l.take (k + 1)) < 18446744073709551616) := fun h => hacc (by rw [lo64_small h.2]; exact h.1)
          have HNO := Lib.hid hno
          clear hacc hno
          refine qstep (by rfl) (fun K hK => qval (v := .bool true) (fun w' hx => by go_simp) (hK _ ?_))
          simp only [Act.put, List.setIfInBounds_toArray, List.set_cons_zero, List.set_cons_succ]
          refine wpQuiet_nil (hQ.out _ _ ?_)
          clear hQ
          go_wp2
          go_ret2
          rw [HV.out, if_neg HNO.out]
          exact ⟨rfl, (Below.refl _ _).drew.trans hb1⟩
      · clear HT
        have hn9 := unext k (by omega)
        have hve := Lib.hid (vgo_more (f := 10 - k - 1) hx.out (by omega))
        go_wp2
        go_round
        case rel => exact ⟨k + 1, by omega, by omega, by go_num, rfl, rfl, by rw [hv.out, show 10 - k = 10 - k - 1 + 1 by omega, hve.out]; exact Lib.hid rfl, Lib.hid (by rw [hT.out]; intro y hy; rcases List.mem_append.1 hy with h | h <;> first | exact hp.out y h | (simp at h; omega))⟩
        case measure => simp [intOf]; omega
    · have HV : Hid (vget l = (0, 0)) := by
        rw [hv.out]
        by_cases h : k = 10
        · subst h; exact Lib.hid rfl
        · exact Lib.hid (vgo_none (List.getElem?_eq_none (by have := HL.out; omega)))
      by_cases h1 : k < n
      · have h2 : k = 10 := by omega
        have hf : decide ((k : Int) < 10) = false := by simp; omega
        clear h2 hlt
        go_wp2
        go_ret2
        rw [HV.out]
        exact ⟨rfl, Below.refl _ _⟩
      · have hf : decide ((k : Int) < (n : Int)) = false := by simp; omega
        clear hlt
        go_wp2
        go_ret2
        rw [HV.out]
        exact ⟨rfl, Below.refl _ _⟩
end Go.Proofs.Ytnnhndgeedlpgaa
