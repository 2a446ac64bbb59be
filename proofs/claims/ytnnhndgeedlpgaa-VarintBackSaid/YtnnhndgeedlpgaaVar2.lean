/- Contracts of package varint, on. -/
import Derived.Test.YtnnhndgeedlpgaaVar
namespace Go.Proofs.Ytnnhndgeedlpgaa
open Go.RowKit
set_option linter.unusedVariables false
theorem size_any (n : Nat) (w : World) (hn : n < 18446744073709551616) :
    Calls Try.prog 23 #[.int .u64 n] w fun e w' => e = .returned (.int .i64 ((vb n).length : Nat)) ∧ w = w' := by
  have HS := Lib.hid (size_vb hn)
  have hb := bitLen_le n
  have h0 : (0 : Int) ≤ (n : Int) := by omega
  have HC := Lib.hid (Try.bits_Len64 n w h0 (by omega))
  clear hn h0
  go_enter Try.func23, Try.ntmps23
  go_wp2_with (go_at_call 40; go_must (refine HC.out.mono ?_; rintro e w' ⟨rfl, rfl⟩))
  go_ret
  exact ⟨ret_int (by have := HS.out; omega), rfl⟩

set_option maxRecDepth 20000 in
theorem put_any (A C : Option Addr) (n m c d : Nat) (lb ls : List Nat) (w : World) (hb : Rd w w.heap.size 1 A n (ns .u8 lb)) (hs : Rd w w.heap.size 1 C m (ns .u64 ls))
    (h64 : ∀ x ∈ ls, x < 18446744073709551616) (hn : n + 10 * m ≤ 100000) :
    Calls Try.prog 24 #[.slice A n c, .slice C m d] w fun e w' => ∃ v, e = .returned v ∧ Nats w' 5 .u8 w.heap.size v (lb ++ vbs ls) ∧ Below w.heap.size w w' := by
  have hlb := hb.natLen
  have hls := hs.natLen
  have HB := Lib.hid hb; have HS := Lib.hid hs; have H64 := Lib.hid h64; have HLB := Lib.hid hlb; have HLS := Lib.hid hls
  clear hb hs h64 hlb hls
  go_enter Try.func24, Try.ntmps24
  go_wp2
  go_loop [5, 7, 15] (fun s _ i => ∃ k : Nat, k ≤ m ∧ i = .int .i64 k ∧ s = .int .i64 ((n + (vbs (ls.take k)).length : Nat) : Int)) (fun _ _ i => m - (intOf i).toNat)
  case atStart => exact ⟨0, Nat.zero_le _, rfl, by simp [vbs]⟩
  case round =>
    obtain ⟨k, hk, rfl, rfl⟩ := hrel
    have hv : (vbs (ls.take k)).length ≤ 10 * k := by
      have h1 := vbs_len (ls.take k) fun x hx => H64.out x (List.mem_of_mem_take hx)
      have h2 := List.length_take_le k ls
      omega
    by_cases hlt : k < m
    · obtain ⟨b, off, x, rfl, hbk, hcell, hx⟩ := HS.out.nth hlt
      have hx64 := H64.out _ (nth_mem hx)
      have hx10 := vb_len64 hx64
      have HX := Lib.hid hx64
      clear hx64
      go_wp2_with (go_at_call 23; go_must (refine (size_any _ _ HX.out).mono ?_; rintro e w' ⟨rfl, rfl⟩))
      go_round
      case rel => exact ⟨k + 1, by omega, by go_num, by rw [nth_take hx, vbs_snoc, List.length_append]; go_num⟩
      case measure => simp [intOf]; omega
    · have hk : k = m := by omega
      subst hk
      rw [List.take_of_length_le (by have := HLS.out; omega)] at *
      go_wp2_with (at_make; go_must (refine mkn (k := .u8) (kl := .i64) (kc := .i64) el8 rfl _ _ rfl (n + (vbs ls).length) rfl rfl ?_ ?_ (Nat.le_refl _) ?_))
      · rfl
      · exact room_ge (by omega)
      intro w1 h1 hb1
      go_wp2_with (at_builtin; go_must (refine appn el8 rfl _ _ rfl rfl h1 rfl (HB.out.below hb1) ?_ ?_ ?_))
      · have := HLB.out; simp; exact room_ge (by omega)
      · exact hb1.size
      intro v2 w2 h2 _ hb2
      have hb12 := hb1.trans hb2
      clear h1 hb1 hb2
      go_wp2
      go_loopw [8, 10, 31] (fun v _ i wr => ∃ j : Nat, j ≤ k ∧ i = .int .i64 j ∧ Nats wr 5 .u8 w.heap.size v (lb ++ vbs (ls.take j)) ∧ Below w.heap.size w wr) (fun _ _ i _ => k - (intOf i).toNat)
      case atStart => exact ⟨0, Nat.zero_le _, rfl, by simpa [vbs] using h2, hb12⟩
      case round =>
        obtain ⟨j, hj, rfl, h3, hb3⟩ := hrel
        have hv3 : (vbs (ls.take j)).length ≤ 10 * j := by
          have h1 := vbs_len (ls.take j) fun x hx => H64.out x (List.mem_of_mem_take hx)
          have h2 := List.length_take_le j ls
          omega
        clear h2 hb12
        by_cases hlt : j < k
        · obtain ⟨b, off, x, rfl, hbk, hcell, hx⟩ := (HS.out.below hb3).nth hlt
          have hx64 := H64.out _ (nth_mem hx)
          have hx10 := vb_len64 hx64
          clear hx64
          go_wp2_with (go_at_call 41; go_must (refine (write_any _ _ _ _ _ h3 hb3.size ?_).mono ?_))
          · have := HLB.out; simp; exact room_ge (by omega)
          rintro e w4 ⟨v4, rfl, h4, hb4⟩
          go_wp2
          go_roundw
          case rel => exact ⟨j + 1, by omega, by go_num, by rw [nth_take hx, vbs_snoc, ← List.append_assoc]; exact h4, hb3.trans hb4⟩
          case measure => simp [intOf]; omega
        · have hj : j = k := by omega
          subst hj
          rw [List.take_of_length_le (by have := HLS.out; omega)] at h3
          go_wp2
          go_ret
          exact ⟨_, rfl, h3, hb3⟩
end Go.Proofs.Ytnnhndgeedlpgaa
