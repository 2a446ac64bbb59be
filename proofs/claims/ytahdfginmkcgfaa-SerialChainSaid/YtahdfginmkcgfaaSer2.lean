/- Contract of Wide, the program's and the reference's. -/
import Derived.Test.YtahdfginmkcgfaaSer
namespace Go.Proofs.Ytahdfginmkcgfaa
open Go.RowKit
set_option linter.unusedVariables false

def U64 (a : Int) : Prop := 0 ≤ a ∧ a < 18446744073709551616
/-- The number nearest to one whose lowest bits are these. -/
def wd (n l : Int) : Int :=
  if 18446744073709551616 ≤ n + (l - n) % 4294967296 then n + (l - n) % 4294967296 - 4294967296 else if n + (l - n) % 4294967296 < 4294967296 then n + (l - n) % 4294967296
  else if 2147483648 < (l - n) % 4294967296 then n + (l - n) % 4294967296 - 4294967296 else n + (l - n) % 4294967296

set_option maxRecDepth 20000 in
theorem wide_any (n l : Int) (w : World) (hn : U64 n) (hl : U32 l) : Calls Try.prog 27 #[.int .u64 n, .int .u32 l] w fun e w' => e = .returned (.int .u64 (wd n l)) ∧ w' = w := by
  obtain ⟨n0, n1⟩ := hn
  obtain ⟨l0, l1⟩ := hl
  obtain ⟨a, ha⟩ : ∃ a, a = (l - n) % 4294967296 := ⟨_, rfl⟩
  have a0 : 0 ≤ a := by omega
  have a1 : a < 4294967296 := by omega
  have HA := Lib.hid ha
  clear ha
  clear HA a0 a1 a
  go_enter Try.func27, Try.ntmps27
  go_wp2
  all_goals go_ret
  all_goals refine ⟨ret_int ?_, rfl⟩
  all_goals unfold wd
  all_goals simp only [IntKind.wrap_u64] at *
  all_goals (repeat' split)
  all_goals omega
def fa (a b : Int) : Int := if b < a then a - b else b - a
def pk (n b x : Int) : Int := if fa x n < fa b n ∨ (fa x n = fa b n ∧ b < x) then x else b
def w0 (n l : Int) : Int := n / 4294967296 * 4294967296 + l
def w1 (n l : Int) : Int := if n / 4294967296 = 4294967295 then w0 n l else pk n (w0 n l) ((n / 4294967296 + 1) * 4294967296 + l)
def w2 (n l : Int) : Int := if n / 4294967296 = 0 then w1 n l else pk n (w1 n l) ((n / 4294967296 - 1) * 4294967296 + l)
theorem w2_wd (n l : Int) (hn : U64 n) (hl : U32 l) : w2 n l = wd n l := by
  obtain ⟨n0, n1⟩ := hn
  obtain ⟨l0, l1⟩ := hl
  unfold w2 w1 wd pk w0 fa
  obtain ⟨q, hq⟩ : ∃ q, q = n / 4294967296 := ⟨_, rfl⟩
  obtain ⟨r, hr⟩ : ∃ r, r = n % 4294967296 := ⟨_, rfl⟩
  have hnq : n = 4294967296 * q + r := by omega
  rw [← hq]
  (repeat' split) <;> omega
theorem far_any (a b : Int) (w : World) (ha : U64 a) (hb : U64 b) : Calls Try.prog 44 #[.int .u64 a, .int .u64 b] w fun e w' => e = .returned (.int .u64 (fa a b)) ∧ w' = w := by
  obtain ⟨a0, a1⟩ := ha
  obtain ⟨b0, b1⟩ := hb
  by_cases h : b < a
  · go_enter Try.func44, Try.ntmps44
    go_wp2
    go_ret
    exact ⟨ret_int (by unfold fa; rw [if_pos h]), rfl⟩
  · go_enter Try.func44, Try.ntmps44
    go_wp2
    go_ret
    exact ⟨ret_int (by unfold fa; rw [if_neg (by omega)]), rfl⟩
theorem w0_u64 (n l : Int) (hn : U64 n) (hl : U32 l) : U64 (w0 n l) := by
  obtain ⟨n0, n1⟩ := hn
  obtain ⟨l0, l1⟩ := hl
  unfold w0 U64
  omega
theorem w1_u64 (n l : Int) (hn : U64 n) (hl : U32 l) : U64 (w1 n l) := by
  have h0 := w0_u64 n l hn hl
  obtain ⟨n0, n1⟩ := hn
  obtain ⟨l0, l1⟩ := hl
  unfold w1
  split
  · exact h0
  · unfold pk
    split
    · unfold U64; omega
    · exact h0
set_option maxRecDepth 20000 in
theorem rwide_any (n l : Int) (w : World) (hn : U64 n) (hl : U32 l) : Calls Try.prog 28 #[.int .u64 n, .int .u32 l] w fun e w' => e = .returned (.int .u64 (wd n l)) ∧ w' = w := by
  rw [← w2_wd n l hn hl]
  have W0 := Lib.hid (w0_u64 n l hn hl)
  have W1 := Lib.hid (w1_u64 n l hn hl)
  obtain ⟨n0, n1⟩ := id hn
  obtain ⟨l0, l1⟩ := hl
  obtain ⟨q, hq⟩ : ∃ q, q = n / 4294967296 := ⟨_, rfl⟩
  have q0 : 0 ≤ q := by omega
  have q1 : q ≤ 4294967295 := by omega
  have HN := Lib.hid hn
  have HQ := Lib.hid hq
  clear hn
  go_enter Try.func28, Try.ntmps28
  go_wp2_with fail
  rw [← hq]
  clear hq
  go_loopw [6, 7] (fun b i wr => wr = w ∧ ((i = .int .i64 0 ∧ b = .int .u64 (w0 n l)) ∨ (i = .int .i64 1 ∧ b = .int .u64 (w1 n l)) ∨ (i = .int .i64 2 ∧ b = .int .u64 (w2 n l)))) (fun _ i _ => 2 - (intOf i).toNat)
  case atStart => exact ⟨rfl, Or.inl ⟨rfl, by unfold w0; rw [← HQ.out]⟩⟩
  case round =>
    obtain ⟨rfl, ⟨rfl, rfl⟩ | ⟨rfl, rfl⟩ | ⟨rfl, rfl⟩⟩ := hrel
    · by_cases h : q = 4294967295
      · have e1 := Lib.hid (show w1 n l = w0 n l by unfold w1; rw [← HQ.out, if_pos h])
        go_wp2_with fail
        exact ⟨⟨trivial, Or.inr (Or.inl ⟨rfl, by rw [e1.out]⟩)⟩, by simp [intOf]⟩
      · have hqb : (q == 4294967295) = false := by simp [h]
        have HB := Lib.hid hqb
        clear hqb
        have X := Lib.hid (show U64 ((q + 1) * 4294967296 + l) by unfold U64; omega)
        have e1 := Lib.hid (show w1 n l = pk n (w0 n l) ((q + 1) * 4294967296 + l) by unfold w1; rw [← HQ.out, if_neg h])
        go_wp2_with fail
        refine (far_any ((q + 1) * 4294967296 + l) n wr X.out HN.out).mono ?_
        rintro e w3 ⟨rfl, rfl⟩
        go_wp2_with fail
        refine (far_any (w0 n l) n w3 W0.out HN.out).mono ?_
        rintro e w4 ⟨rfl, rfl⟩
        by_cases h1 : fa ((q + 1) * 4294967296 + l) n < fa (w0 n l) n
        · go_wp2_with fail
          all_goals exact ⟨⟨trivial, Or.inr (Or.inl ⟨rfl, by rw [e1.out]; unfold pk; split <;> first | rfl | omega⟩)⟩, by simp [intOf]⟩
        · go_wp2_with fail
          refine (far_any ((q + 1) * 4294967296 + l) n w4 X.out HN.out).mono ?_
          rintro e w5 ⟨rfl, rfl⟩
          go_wp2_with fail
          refine (far_any (w0 n l) n w5 W0.out HN.out).mono ?_
          rintro e w6 ⟨rfl, rfl⟩
          by_cases h2 : fa ((q + 1) * 4294967296 + l) n = fa (w0 n l) n
          · go_wp2_with fail
            all_goals exact ⟨⟨trivial, Or.inr (Or.inl ⟨rfl, by rw [e1.out]; unfold pk; split <;> first | rfl | omega⟩)⟩, by simp [intOf]⟩
          · go_wp2_with fail
            all_goals exact ⟨⟨trivial, Or.inr (Or.inl ⟨rfl, by rw [e1.out]; unfold pk; split <;> first | rfl | omega⟩)⟩, by simp [intOf]⟩
    · by_cases h : q = 0
      · have e1 := Lib.hid (show w2 n l = w1 n l by unfold w2; rw [← HQ.out, if_pos h])
        go_wp2_with fail
        exact ⟨⟨trivial, Or.inr (Or.inr ⟨rfl, by rw [e1.out]⟩)⟩, by simp [intOf]⟩
      · have hqb : (q == 0) = false := by simp [h]
        have HB := Lib.hid hqb
        clear hqb
        have X := Lib.hid (show U64 ((q - 1) * 4294967296 + l) by unfold U64; omega)
        have e1 := Lib.hid (show w2 n l = pk n (w1 n l) ((q - 1) * 4294967296 + l) by unfold w2; rw [← HQ.out, if_neg h])
        go_wp2_with fail
        refine (far_any ((q - 1) * 4294967296 + l) n wr X.out HN.out).mono ?_
        rintro e w3 ⟨rfl, rfl⟩
        go_wp2_with fail
        refine (far_any (w1 n l) n w3 W1.out HN.out).mono ?_
        rintro e w4 ⟨rfl, rfl⟩
        by_cases h1 : fa ((q - 1) * 4294967296 + l) n < fa (w1 n l) n
        · go_wp2_with fail
          all_goals exact ⟨⟨trivial, Or.inr (Or.inr ⟨rfl, by rw [e1.out]; unfold pk; split <;> first | rfl | omega⟩)⟩, by simp [intOf]⟩
        · go_wp2_with fail
          refine (far_any ((q - 1) * 4294967296 + l) n w4 X.out HN.out).mono ?_
          rintro e w5 ⟨rfl, rfl⟩
          go_wp2_with fail
          refine (far_any (w1 n l) n w5 W1.out HN.out).mono ?_
          rintro e w6 ⟨rfl, rfl⟩
          by_cases h2 : fa ((q - 1) * 4294967296 + l) n = fa (w1 n l) n
          · go_wp2_with fail
            all_goals exact ⟨⟨trivial, Or.inr (Or.inr ⟨rfl, by rw [e1.out]; unfold pk; split <;> first | rfl | omega⟩)⟩, by simp [intOf]⟩
          · go_wp2_with fail
            all_goals exact ⟨⟨trivial, Or.inr (Or.inr ⟨rfl, by rw [e1.out]; unfold pk; split <;> first | rfl | omega⟩)⟩, by simp [intOf]⟩
    · go_wp2
      go_ret
      exact ⟨rfl, rfl⟩
end Go.Proofs.Ytahdfginmkcgfaa
