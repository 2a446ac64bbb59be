/- Contracts of package varint. -/
import Derived.Test.YtnnhndgeedlpgaaRows
import Derived.Test.YtnnhndgeedlpgaaLib
import Derived.Test.YtnnhndgeedlpgaaVmath
import Derived.Test.YtnnhndgeedlpgaaShelf
namespace Go.Proofs.Ytnnhndgeedlpgaa
open Go.RowKit
set_option linter.unusedVariables false

theorem el8 : El Try.prog 22 5 (.int .u8 0) 1 1 := ⟨Try.underlying22, by kernel_rfl, rfl, by omega, by omega⟩
theorem el64 : El Try.prog 40 24 (.int .u64 0) 1 8 := ⟨Try.underlying40, by kernel_rfl, rfl, by omega, by omega⟩

set_option maxRecDepth 20000 in
theorem write_any (v : Value) (l : List Nat) (n B : Nat) (w : World) (hown : Nats w 5 .u8 B v l) (hB : B ≤ w.heap.size) (hk : (l ++ vb n).length ≤ room) :
    Calls Try.prog 41 #[v, .int .u64 n] w fun e w' => ∃ v', e = .returned v' ∧ Nats w' 5 .u8 B v' (l ++ vb n) ∧ Below B w w' := by
  go_enter Try.func41, Try.ntmps41
  go_wp2
  go_loopw [0, 1] (fun b m wr => ∃ (p : Nat) (c : List Nat), c ++ vb p = l ++ vb n ∧ m = .int .u64 p ∧ Nats wr 5 .u8 B b c ∧ Below B w wr) (fun _ m _ => (intOf m).toNat)
  case atStart => exact ⟨n, l, rfl, rfl, hown, Below.refl _ _⟩
  case round =>
    obtain ⟨p, c, hc, rfl, ho, hb⟩ := hrel
    rw [← hc] at hk
    have HC := Lib.hid hc; clear hc hown
    by_cases hp : p < 128
    · rw [vb_small hp] at hk
      go_wp2_with (at_builtin; refine app1n el8 p rfl _ _ rfl rfl ho rfl rfl ?_ ?_ ?_)
      · simp at hk; omega
      · have := hb.size; omega
      · intro v1 w1 ho1 hg1 hb1
        go_wp2
        go_ret
        refine ⟨v1, rfl, ?_, hb.trans hb1⟩
        rw [← HC.out, vb_small hp]
        exact ho1
    · rw [vb_big hp] at hk
      go_wp2_with (at_builtin; refine app1n el8 (p % 128 + 128) rfl _ _ rfl rfl ho rfl ?_ ?_ ?_ ?_)
      · rw [or128_u8]
      · simp at hk; omega
      · have := hb.size; omega
      · intro v1 w1 ho1 hg1 hb1
        go_wp2
        go_roundw
        case rel => exact ⟨p / 128, c ++ [p % 128 + 128], by rw [← HC.out, vb_big hp, List.append_assoc]; rfl, by go_num, ho1, hb.trans hb1⟩
        case measure => simp [intOf]; omega
set_option maxRecDepth 20000 in
theorem refPut_small (n : Nat) (w : World) (hn : n < 128) :
    Calls Try.prog 22 #[.int .u64 n] w fun e w' => ∃ v, e = .returned v ∧ Nats w' 5 .u8 w.heap.size v (vb n) ∧ Below w.heap.size w w' := by
  go_enter Try.func22, Try.ntmps22
  go_wp2
  go_ret
  exact ⟨_, rfl, by rw [vb_small hn]; exact Nats.lit1 _ _ _ _ (Nat.le_refl _), (Below.refl _ _).alloc (Nat.le_refl _) _⟩
set_option maxRecDepth 20000 in
theorem refPut_any (m : Nat) : ∀ (n : Nat) (w : World), n < 128 ^ (m + 1) → n < 18446744073709551616 →
    Calls Try.prog 22 #[.int .u64 n] w fun e w' => ∃ v, e = .returned v ∧ Nats w' 5 .u8 w.heap.size v (vb n) ∧ Below w.heap.size w w' := by
  induction m with
  | zero => exact fun n w hn _ => refPut_small n w (by omega)
  | succ m ih =>
    intro n w hm hn
    by_cases h : n < 128
    · exact refPut_small n w h
    · have hlen := vb_len64 hn
      rw [vb_big h] at *
      have HL := Lib.hid hlen; have HN := Lib.hid hn
      have IH := Lib.hid ih
      have hp : n / 128 < 128 ^ (m + 1) := by rw [Nat.pow_succ] at hm; omega
      have HP := Lib.hid hp
      clear hm ih hlen hn hp
      go_enter Try.func22, Try.ntmps22
      go_wp2_with fail
      rw [show IntKind.u64.wrap ((n : Int) / 128) = ((n / 128 : Nat) : Int) by rw [IntKind.wrap_u64]; have := HN.out; omega, show ((n : Int) % 128 + 128) = ((n % 128 + 128 : Nat) : Int) by omega]
      refine (IH.out (n / 128) _ HP.out (by have := HN.out; omega)).mono ?_
      rintro e w1 ⟨v1, rfl, h1, hb1⟩
      obtain ⟨A, c, rfl, _⟩ := h1.form
      have h0 := Nats.below (Nats.lit1 (B := w.heap.size) w 5 .u8 (n % 128 + 128) (Nat.le_refl _)) hb1
      have hz : w.heap.size ≤ w1.heap.size := by have := hb1.size; simp at this; omega
      go_wp2_with (at_builtin; go_must (refine appn el8 rfl _ _ rfl rfl h0 rfl h1.rd ?_ ?_ ?_))
      · have := HL.out; simp at this ⊢; exact room_ge (by omega)
      · exact hz
      · intro v2 w2 h2 _ hb2
        go_wp2
        go_ret
        exact ⟨v2, rfl, h2, (((Below.refl _ _).alloc (Nat.le_refl _) _).trans (hb1.mono (by simp))).trans hb2⟩
theorem refPut (n : Nat) (w : World) (hn : n < 18446744073709551616) :
    Calls Try.prog 22 #[.int .u64 n] w fun e w' => ∃ v, e = .returned v ∧ Nats w' 5 .u8 w.heap.size v (vb n) ∧ Below w.heap.size w w' :=
  refPut_any 9 n w (by omega) hn
end Go.Proofs.Ytnnhndgeedlpgaa
