/- Package slices at bytes: Grow of nil, Concat. -/
import Derived.Test.YtbiimgfocgbdaaaG4MacBack
import Derived.Test.YtbiimgfocgbdaaaG15MacBack
import Derived.Lib.AppendZeros
import Derived.Test.YtbiimgfocgbdaaaProg
import Derived.Test.YtbiimgfocgbdaaaRows
import Derived.Test.YtbiimgfocgbdaaaLib
import Derived.Laws.BitsAll
import Derived.StillTailTactics
import Derived.RegionTactic
import Derived.ChangeAlike

namespace Go.Proofs.Ytbiimgfocgbdaaa
open Go.RowKit
set_option linter.unusedVariables false
set_option linter.unusedSimpArgs false
theorem cctEl : El Try.prog 28 5 (.int .u8 0) 1 1 := ⟨Try.underlying28, by kernel_rfl, rfl, by omega, by omega⟩
section
variable {P : Program} {w : World} {ops : Array Oper} {rest : List Oper} {o : Oper} {a : Act} {Q : Exit → Act → World → Prop} {t e : TypeId} {z : Value} {bytes : Nat}
/-- append(nil, make(S, k)...): a row of k, of which none is taken yet. -/
theorem zapNil (el : El P t e z 1 bytes) (hgd : o.guard = none) (d s : Operand) {tn : TypeId} {kq kn : IntKind} (htn : P.underlying tn = some (.int kn)) (ho : o.op = .call { callee := .builtin .append, args := #[d, s], argTypes := #[t, tn] }) {k : Nat} (hd : a.eval d = .slice none 0 0) (hs : a.eval s = .int kq (k : Int))
    (h0 : 0 < k) (hk : k ≤ 4000000) (hby : bytes ≤ 1000)
    (h : ∀ w' c', k ≤ c' → w'.ownsRow w.heap.size e 1 (.slice (some ⟨w.heap.size, 0, none⟩) 0 c') 0 [] → Below w.heap.size w w' → wpList P ops Q rest (a.put o.dst (.slice (some ⟨w.heap.size, 0, none⟩) k c')) w') : wpList P ops Q (o :: rest) a w := by
  obtain ⟨ht, hinf, hzs, hsz, hb1⟩ := el
  obtain ⟨i, hi, hz, hsize, hbyt⟩ := info_parts hinf
  have h48 : k * i.bytes ≤ 281474976710656 := by
    rw [hbyt]
    exact Nat.le_trans (Nat.mul_le_mul hk hby) (by omega)
  have hr := Lib.run_append_nil_zeros (P := P) w t tn o.type e i z kq kn ht htn hi hz k h0 (by omega) (by omega) h48
  have hge := grownCap_ge w k 0 e
  have hle := grownCap_le_maxLen w k 0 e (by unfold maxLen; omega)
  refine wpList_runa hgd d s ho hd hs hr ?_
  refine h _ (grownCap w k 0 e) hge ⟨by simp, .inr ⟨_, _, Builtin.zeroCells z.cells k ++ Builtin.zeroCells z.cells (grownCap w k 0 e - k), rfl, Nat.le_refl _, ?_, Nat.zero_le _, hle, ?_, by simp⟩⟩ (((Below.refl _ _).drew).alloc (Nat.le_refl _) _)
  · exact heap_alloc_new w.drew _
  · rw [Array.size_append, size_zeroCells, size_zeroCells, hzs]
    omega
end
set_option maxRecDepth 20000 in
theorem grow_nil (k : Nat) (w : World) (hk : k ≤ 4000000) :
    Calls Try.prog 84 #[.slice none 0 0, .int .i64 (k : Nat)] w fun e w' => ∃ v, e = .returned v ∧ Nats w' 5 .u8 w.heap.size v [] ∧ Below w.heap.size w w' := by
  go_enter Try.func84, Try.ntmps84
  have hw : IntKind.i64.wrap (k : Int) = (k : Int) := by rw [IntKind.wrap_i64]; omega
  by_cases h0 : k = 0
  · subst h0
    go_wp2_with fail
    go_ret
    exact ⟨_, rfl, Nats.nil _ _ _ _, Below.refl _ _⟩
  · have hp : 0 < (k : Int) := by omega
    have hp0 : ¬ (k : Int) < 0 := by omega
    go_wp2_with (at_builtin; go_must (refine zapNil cctEl rfl _ _ (kq := .i64) (kn := .i64) Try.underlying3 rfl rfl rfl (by omega) hk (by omega) ?_))
    intro w1 c1 hc1 hown hb1
    have hcut := run_cut_h cctEl (some ⟨w.heap.size, 0, none⟩) k c1 0 (by omega) w1
    go_wp2_with fail
    go_ret
    exact ⟨_, rfl, hown, hb1⟩
theorem flat_len_take {bss : List (List Nat)} {i : Nat} {bs : List Nat} (h : bss[i]? = some bs) : (bss.take (i + 1)).flatten.length = (bss.take i).flatten.length + bs.length := by rw [flat_take h, List.length_append]
set_option maxRecDepth 20000 in
set_option maxHeartbeats 4000000 in
theorem concat_any (n c : Nat) (A : Option Addr) (bss : List (List Nat)) (w : World) (hp : Pts w w.heap.size A n bss) (hnc : n ≤ c) (hn : n ≤ 100000) (htot : bss.flatten.length ≤ 4000000) :
    Calls Try.prog 54 #[.slice A n c] w fun e w' => ∃ v, e = .returned v ∧ Nats w' 5 .u8 w.heap.size v bss.flatten ∧ Below w.heap.size w w' := by
  have HP := Lib.hid hp
  have HT := Lib.hid htot
  have HL := Lib.hid hp.1
  clear hp htot
  go_enter Try.func54, Try.ntmps54
  go_wp2_with fail
  go_loopw [3, 11] (fun sv iv wr => ∃ (i s : Nat), i ≤ n ∧ iv = .int .i64 (i : Nat) ∧ sv = .int .i64 (s : Nat) ∧ Hid (s = (bss.take i).flatten.length) ∧ Hid (w = wr)) (fun _ iv _ => n - (intOf iv).toNat)
  case atStart => exact ⟨0, 0, Nat.zero_le _, rfl, rfl, Lib.hid (by simp), Lib.hid rfl⟩
  case round =>
    obtain ⟨i, s, hi, rfl, rfl, hs, hwr⟩ := hrel
    obtain rfl := hwr.out
    have hsb : s ≤ 4000000 := by have := HT.out; have := flat_le bss i; rw [← hs.out] at this; omega
    by_cases hlt : i < n
    · obtain ⟨bb, off, A1, n1, c1, bs, rfl, hbb, hcell, hbs, hl1, hc1, hr1⟩ := HP.out.nth hlt
      obtain ⟨s1, hs1⟩ : ∃ s1, s1 = s + n1 := ⟨_, rfl⟩
      have hs2 : s1 = (bss.take (i + 1)).flatten.length := by rw [flat_len_take hbs.out, ← hs.out, hl1.out]; exact hs1
      have hsb1 : s1 ≤ 4000000 := by have := HT.out; have := flat_le bss (i + 1); rw [← hs2] at this; omega
      have hw1 : IntKind.i64.wrap ((s : Int) + (n1 : Int)) = (s1 : Int) := by rw [IntKind.wrap_i64]; omega
      have hs1n : ¬ ((s1 : Int) < 0) := by omega
      have HS2 := Lib.hid hs2
      clear hs2 hs1
      go_wp2_with fail
      go_roundw
      case rel => exact ⟨i + 1, s1, by omega, by go_num, rfl, HS2, by first | exact hwr | exact Lib.hid trivial⟩
      case measure => simp [intOf]; omega
    · obtain rfl : i = n := by omega
      go_wp2_with fail
      refine (grow_nil s w hsb).mono ?_
      rintro e w1 ⟨v, rfl, hN, hb1⟩
      have HN := Lib.hid hN
      have HB := Lib.hid hb1
      clear hN hb1
      go_wp2_with fail
      go_loopw [6, 27] (fun v iv wr => ∃ (j : Nat), j ≤ i ∧ iv = .int .i64 (j : Nat) ∧ Hid (Nats wr 5 .u8 w.heap.size v (bss.take j).flatten) ∧ Hid (Below w.heap.size w wr)) (fun _ iv _ => i - (intOf iv).toNat)
      case atStart => exact ⟨0, Nat.zero_le _, rfl, Lib.hid (by simpa using HN.out), HB⟩
      case round =>
        clear HN HB
        obtain ⟨j, hj, rfl, hN, hB⟩ := hrel
        by_cases hlt2 : j < i
        · obtain ⟨bb, off, A1, n1, c1, bs, rfl, hbb, hcell0, hbs, hl1, hc1, hr1⟩ := HP.out.nth hlt2
          have hcell := (hB.out.cell (p := ⟨bb, off + j, none⟩) hbb).trans hcell0
          have hroom : (bss.take j).flatten.length + bs.length ≤ 4000000 := by
            have := flat_le bss (j + 1)
            rw [flat_len_take hbs.out] at this
            have := HT.out
            omega
          obtain ⟨A2, c2, rfl, hc2⟩ := hN.out.form
          have hsz := hB.out.size
          clear hcell0
          go_wp2_with (at_builtin; go_must (refine appn cctEl rfl _ _ rfl rfl hN.out rfl (hr1.out.below hB.out) (room_ge (by omega)) hsz ?_))
          intro v3 w3 hN3 _ hb3
          have HN3 := Lib.hid hN3
          have HB3 := Lib.hid (hB.out.trans hb3)
          clear hN3 hb3
          go_wp2_with fail
          go_roundw
          case rel => exact ⟨j + 1, by omega, by go_num, Lib.hid (by rw [flat_take hbs.out]; exact HN3.out), HB3⟩
          case measure => simp [intOf]; omega
        · obtain rfl : j = i := by omega
          go_wp2_with fail
          go_ret
          refine ⟨_, rfl, ?_, hB.out⟩
          have := hN.out
          rwa [List.take_of_length_le (by have := HL.out; omega)] at this
end Go.Proofs.Ytbiimgfocgbdaaa

/- Contracts of package sip: one round. -/
namespace Go.Proofs.Ytbiimgfocgbdaaa
open Go.RowKit
set_option linter.unusedVariables false

def M64 : Nat := 18446744073709551616
def rotl (x k : Nat) : Nat := (x * 2 ^ k % M64) ||| (x / 2 ^ (64 - k))
def ad64 (a b : Nat) : Nat := (a + b) % M64
theorem ad64_lt (a b : Nat) : ad64 a b < 18446744073709551616 := Nat.mod_lt _ (by decide)
theorem rotl_lt (x k : Nat) (hk : k ≤ 64) (hx : x < 18446744073709551616) : rotl x k < 18446744073709551616 := by
  unfold rotl
  have h1 : x * 2 ^ k % M64 < 2 ^ 64 := Nat.mod_lt _ (by decide)
  have h2 : x / 2 ^ (64 - k) < 2 ^ 64 := Nat.lt_of_le_of_lt (Nat.div_le_self _ _) hx
  exact Nat.or_lt_two_pow h1 h2
theorem xor_lt {a b : Nat} (ha : a < 18446744073709551616) (hb : b < 18446744073709551616) : a ^^^ b < 18446744073709551616 := Nat.xor_lt_two_pow (n := 64) ha hb
theorem or_nat (a b : Nat) (ha : a < 18446744073709551616) (hb : b < 18446744073709551616) : bits .or .u64 (a : Int) (b : Int) = ((a ||| b : Nat) : Int) := u64_or_nat a b ha hb
set_option maxRecDepth 20000 in
theorem rotl13 (x : Nat) (w : World) (hx : x < 18446744073709551616) : Calls Try.prog 119 #[.int .u64 x, .int .i64 13] w fun e w' => e = .returned (.int .u64 ((rotl x 13 : Nat) : Int)) ∧ w' = w := by
  have h0 : bits .and .u64 13 63 = 13 := by rfl
  go_enter Try.func119, Try.ntmps119
  go_wp2
  go_ret
  refine ⟨ret_int ?_, rfl⟩
  rw [IntKind.wrap_u64]
  unfold rotl M64
  rw [← or_nat _ _ (Nat.mod_lt _ (by decide)) (Nat.lt_of_le_of_lt (Nat.div_le_self _ _) hx)]
  rfl
set_option maxRecDepth 20000 in
theorem rotl16 (x : Nat) (w : World) (hx : x < 18446744073709551616) : Calls Try.prog 119 #[.int .u64 x, .int .i64 16] w fun e w' => e = .returned (.int .u64 ((rotl x 16 : Nat) : Int)) ∧ w' = w := by
  have h0 : bits .and .u64 16 63 = 16 := by rfl
  go_enter Try.func119, Try.ntmps119
  go_wp2
  go_ret
  refine ⟨ret_int ?_, rfl⟩
  rw [IntKind.wrap_u64]
  unfold rotl M64
  rw [← or_nat _ _ (Nat.mod_lt _ (by decide)) (Nat.lt_of_le_of_lt (Nat.div_le_self _ _) hx)]
  rfl
set_option maxRecDepth 20000 in
theorem rotl17 (x : Nat) (w : World) (hx : x < 18446744073709551616) : Calls Try.prog 119 #[.int .u64 x, .int .i64 17] w fun e w' => e = .returned (.int .u64 ((rotl x 17 : Nat) : Int)) ∧ w' = w := by
  have h0 : bits .and .u64 17 63 = 17 := by rfl
  go_enter Try.func119, Try.ntmps119
  go_wp2
  go_ret
  refine ⟨ret_int ?_, rfl⟩
  rw [IntKind.wrap_u64]
  unfold rotl M64
  rw [← or_nat _ _ (Nat.mod_lt _ (by decide)) (Nat.lt_of_le_of_lt (Nat.div_le_self _ _) hx)]
  rfl
set_option maxRecDepth 20000 in
theorem rotl21 (x : Nat) (w : World) (hx : x < 18446744073709551616) : Calls Try.prog 119 #[.int .u64 x, .int .i64 21] w fun e w' => e = .returned (.int .u64 ((rotl x 21 : Nat) : Int)) ∧ w' = w := by
  have h0 : bits .and .u64 21 63 = 21 := by rfl
  go_enter Try.func119, Try.ntmps119
  go_wp2
  go_ret
  refine ⟨ret_int ?_, rfl⟩
  rw [IntKind.wrap_u64]
  unfold rotl M64
  rw [← or_nat _ _ (Nat.mod_lt _ (by decide)) (Nat.lt_of_le_of_lt (Nat.div_le_self _ _) hx)]
  rfl
set_option maxRecDepth 20000 in
theorem rotl32 (x : Nat) (w : World) (hx : x < 18446744073709551616) : Calls Try.prog 119 #[.int .u64 x, .int .i64 32] w fun e w' => e = .returned (.int .u64 ((rotl x 32 : Nat) : Int)) ∧ w' = w := by
  have h0 : bits .and .u64 32 63 = 32 := by rfl
  go_enter Try.func119, Try.ntmps119
  go_wp2
  go_ret
  refine ⟨ret_int ?_, rfl⟩
  rw [IntKind.wrap_u64]
  unfold rotl M64
  rw [← or_nat _ _ (Nat.mod_lt _ (by decide)) (Nat.lt_of_le_of_lt (Nat.div_le_self _ _) hx)]
  rfl
end Go.Proofs.Ytbiimgfocgbdaaa
