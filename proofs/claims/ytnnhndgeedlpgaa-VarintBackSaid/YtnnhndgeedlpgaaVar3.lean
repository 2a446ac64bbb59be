/- Contracts of package varint: Get. -/
import Derived.Test.YtnnhndgeedlpgaaVar2
namespace Go.Proofs.Ytnnhndgeedlpgaa
open Go.RowKit
set_option linter.unusedVariables false

theorem vacc (k d x : Nat) (hk : k ≤ 9) (hd : d < 128 ^ k) (hx : x < 256) :
    bits .or .u64 ((lo64 d : Nat) : Int) (IntKind.u64.wrap (IntKind.u64.wrap (bits .and .u8 ((x : Nat) : Int) 127) * 2 ^ (7 * k))) = ((lo64 (d + x % 128 * 128 ^ k) : Nat) : Int) := by
  have e128 : 128 ^ k = 2 ^ (7 * k) := by rw [show (128 : Nat) = 2 ^ 7 by rfl, ← Nat.pow_mul]
  have h9 : 128 ^ k ≤ 128 ^ 9 := Nat.pow_le_pow_right (by omega) hk
  have hd64 : d < 18446744073709551616 := by omega
  rw [and127_u8 x hx, wrap64_nat, Nat.mod_eq_of_lt (a := x % 128) (by omega), lo64_small hd64]
  rw [show (((x % 128 : Nat) : Int) * 2 ^ (7 * k)) = ((x % 128 * 2 ^ (7 * k) : Nat) : Int) by push_cast; rfl, wrap64_nat, u64_or_nat _ _ hd64 (Nat.mod_lt _ (by omega)), or_above d _ (7 * k) (by omega) (by rw [← e128]; exact hd), ← e128]
  rfl

set_option maxRecDepth 20000 in
theorem get_any (A : Option Addr) (n c : Nat) (l : List Nat) (w : World) (hr : Rd w w.heap.size 1 A n (ns .u8 l)) (hnc : n ≤ c) (hb : ∀ x ∈ l, x < 256) (hn : n ≤ 100000) :
    Calls Try.prog 26 #[.slice A n c] w fun e w' => e = .returned (.tuple #[.int .u64 ((vget l).1 : Nat), .int .i64 ((vget l).2 : Nat)]) ∧ w = w' := by
  have hl := hr.natLen
  have HR := Lib.hid hr; have HL := Lib.hid hl; have HB := Lib.hid hb
  clear hr hl hb
  obtain ⟨m, hm⟩ : ∃ m : Nat, m = min n 10 := ⟨_, rfl⟩
  have hmin : min (n : Int) 10 = (m : Int) := by omega
  have hm1 : m ≤ n := by omega
  have hm2 : m ≤ 10 := by omega
  have HM : Hid (m = 10 ∨ m = n) := Lib.hid (by omega)
  clear hm
  go_enter Try.func26, Try.ntmps26
  go_wp2
  go_loop [4, 5, 6, 13] (fun s _ _ i => ∃ k : Nat, k ≤ m ∧ i = .int .i64 k ∧ s = .int .u64 (lo64 (dec (l.take k)) : Nat) ∧ Hid (vget l = vgo l k (10 - k)) ∧ Hid (∀ y ∈ l.take k, 128 ≤ y ∧ y < 256)) (fun _ _ _ i => m - (intOf i).toNat)
  case atStart => exact ⟨0, Nat.zero_le _, rfl, rfl, rfl, by intro y hy; simp at hy⟩
  case round =>
    obtain ⟨k, hk, rfl, rfl, hv, hp⟩ := hrel
    by_cases hlt : k < m
    · obtain ⟨b, off, x, rfl, hbk, hcell, hx⟩ := HR.out.nth (i := k) (by omega)
      have hx8 := HB.out _ (nth_mem hx)
      have hT := Lib.hid (nth_take hx)
      have hlen : (l.take k).length = k := by rw [List.length_take, HL.out]; omega
      have hacc := vacc k (dec (l.take k)) x (by omega) (by have := dec_lt (l.take k); rwa [hlen] at this) hx8
      have hsn := dec_snoc (l.take k) x
      rw [hlen, ← nth_take hx] at hsn
      rw [← hsn] at hacc
      have HT := Lib.hid (takes (l.take k) x hp.out)
      rw [hlen, ← nth_take hx] at HT
      clear hsn
      have HLEN := Lib.hid hlen
      clear hlen
      by_cases hc : x < 128
      · obtain ⟨L, hL⟩ : ∃ L : Nat, (vb (lo64 (dec (l.take (k + 1))))).length = L := ⟨_, rfl⟩
        have hT2 := HT.out hc (by omega)
        rw [hL] at hT2
        have HT2 := Lib.hid hT2
        have HV : Hid (vget l = if vb (dec (l.take (k + 1))) = l.take (k + 1) ∧ dec (l.take (k + 1)) < 18446744073709551616 then (dec (l.take (k + 1)), k + 1) else (0, 0)) := by
          rw [hv.out, show 10 - k = 10 - k - 1 + 1 by omega]; exact Lib.hid (vgo_ends hx.out (by omega))
        have hL10 : L ≤ 10 := by rw [← hL]; exact vb_len64 (lo64_lt _)
        clear hT2 HT
        by_cases h1 : L = k + 1
        · have hb1 : ((L : Int) != (k : Int) + 1) = false := by simp; omega
          by_cases h2 : k = 9
          · have hk9 : ((k : Int) + 1 == 10) = true := by simp; omega
            have H1 := Lib.hid h1; have H2 := Lib.hid h2
            clear h1 h2
            by_cases h3 : 1 < x
            · go_wp2_with (go_at_call 23; go_must (refine (size_any _ _ (lo64_lt _)).mono ?_; rintro e w' ⟨rfl, rfl⟩))
              go_ret2
              rw [HV.out, if_neg (fun h => ((HT2.out.1 h).2 ⟨H2.out, h3⟩))]
              exact ⟨rfl, rfl⟩
            · go_wp2_with (go_at_call 23; go_must (refine (size_any _ _ (lo64_lt _)).mono ?_; rintro e w' ⟨rfl, rfl⟩))
              go_ret2
              have hok := HT2.out.2 ⟨H1.out, by intro h; exact h3 h.2⟩
              rw [HV.out, if_pos hok, lo64_small hok.2]
              exact ⟨rfl, rfl⟩
          · have hk9 : ((k : Int) + 1 == 10) = false := by simp; omega
            have H1 := Lib.hid h1; have H2 := Lib.hid h2
            clear h1 h2
            go_wp2_with (go_at_call 23; go_must (refine (size_any _ _ (lo64_lt _)).mono ?_; rintro e w' ⟨rfl, rfl⟩))
            go_ret2
            have hok := HT2.out.2 ⟨H1.out, by intro h; exact H2.out h.1⟩
            rw [HV.out, if_pos hok, lo64_small hok.2]
            exact ⟨rfl, rfl⟩
        · have hb1 : ((L : Int) != (k : Int) + 1) = true := by simp; omega
          go_wp2_with (go_at_call 23; go_must (refine (size_any _ _ (lo64_lt _)).mono ?_; rintro e w' ⟨rfl, rfl⟩))
          go_ret2
          rw [HV.out, if_neg (fun h => h1 (HT2.out.1 h).1)]
          exact ⟨rfl, rfl⟩
      · have hve := Lib.hid (vgo_more (f := 10 - k - 1) hx.out (by omega))
        clear HT
        go_wp2
        go_round
        case rel => exact ⟨k + 1, by omega, by go_num, rfl, by rw [hv.out, show 10 - k = 10 - k - 1 + 1 by omega, hve.out]; exact Lib.hid rfl, Lib.hid (by rw [hT.out]; intro y hy; rcases List.mem_append.1 hy with h | h <;> first | exact hp.out y h | (simp at h; omega))⟩
        case measure => simp [intOf]; omega
    · have hk : k = m := by omega
      subst hk
      have HV : Hid (vget l = (0, 0)) := by
        rw [hv.out]
        rcases HM.out with h | h
        · subst h; exact Lib.hid rfl
        · exact Lib.hid (vgo_none (List.getElem?_eq_none (by have := HL.out; omega)))
      go_wp2
      go_ret2
      rw [HV.out]
      exact ⟨rfl, rfl⟩
end Go.Proofs.Ytnnhndgeedlpgaa
