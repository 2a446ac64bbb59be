/- Layer 17: calls of an outlet; great. -/
import Derived.Test.YtmkjclgdiikjdaaOtr4
import Derived.Test.YtmkjclgdiikjdaaOrdX
import Derived.Test.YtmkjclgdiikjdaaStr
namespace Go.Proofs.Ytmkjclgdiikjdaa
open Go.RowKit
set_option linter.unusedVariables false
set_option linter.unusedSimpArgs false
/-- A call. -/
structure OtOp where
  k : Int
  nn : Int
  to : Nat
  A : Option Addr
  m : Nat
  c : Nat
  l : List Nat
def OtOp.el (p : OtOp) : List Value := [.int .i64 p.k, .int .i64 p.nn, .int .u64 (p.to : Int), .slice p.A p.m p.c]
def otcs (l : List OtOp) : List Value := l.flatMap OtOp.el
structure OtOp.ok (w : World) (p : OtOp) : Prop where
  k : -9223372036854775808 ≤ p.k ∧ p.k < 9223372036854775808
  nn : -9223372036854775808 ≤ p.nn ∧ p.nn < 9223372036854775808
  to : p.to < 18446744073709551616
  rd : Rd w w.heap.size 1 p.A p.m (ns .u8 p.l)
  mc : p.m ≤ p.c
  cm : p.c ≤ maxLen
  lt : ∀ x ∈ p.l, x < 256
theorem otcs_cons (p : OtOp) (l : List OtOp) : otcs (p :: l) = .int .i64 p.k :: .int .i64 p.nn :: .int .u64 (p.to : Int) :: .slice p.A p.m p.c :: otcs l := rfl
theorem otcs_len (l : List OtOp) : (otcs l).length = l.length * 4 := by
  induction l with
  | nil => rfl
  | cons p l ih => rw [otcs_cons, List.length_cons, List.length_cons, List.length_cons, List.length_cons, ih, List.length_cons]; omega
theorem otcs_get {l : List OtOp} {i : Nat} {p : OtOp} (h : l[i]? = some p) : (otcs l)[i * 4]? = some (.int .i64 p.k) ∧ (otcs l)[i * 4 + 1]? = some (.int .i64 p.nn) ∧ (otcs l)[i * 4 + 2]? = some (.int .u64 (p.to : Int)) ∧ (otcs l)[i * 4 + 3]? = some (.slice p.A p.m p.c) := by
  induction l generalizing i with
  | nil => simp at h
  | cons q l ih =>
    cases i with
    | zero => simp at h; subst h; exact ⟨rfl, rfl, rfl, rfl⟩
    | succ i =>
      have e0 : (i + 1) * 4 = i * 4 + 1 + 1 + 1 + 1 := by omega
      have e1 : (i + 1) * 4 + 1 = i * 4 + 1 + 1 + 1 + 1 + 1 := by omega
      have e2 : (i + 1) * 4 + 2 = i * 4 + 2 + 1 + 1 + 1 + 1 := by omega
      have e3 : (i + 1) * 4 + 3 = i * 4 + 3 + 1 + 1 + 1 + 1 := by omega
      rw [otcs_cons, e1, e2, e3, e0]
      simp only [List.getElem?_cons_succ]
      exact ih (by simpa using h)
theorem Rd.otop {w : World} {B n : Nat} {A : Option Addr} {l : List OtOp} {i : Nat} (h : Rd w B 4 A n (otcs l)) (hi : i < n) :
    ∃ (b off : Nat) (p : OtOp), A = some ⟨b, off, none⟩ ∧ b < B ∧ w.cell? ⟨b, off + i * 4, none⟩ = some (.int .i64 p.k) ∧ w.cell? ⟨b, off + i * 4 + 1, none⟩ = some (.int .i64 p.nn) ∧ w.cell? ⟨b, off + i * 4 + 2, none⟩ = some (.int .u64 (p.to : Int)) ∧ w.cell? ⟨b, off + i * 4 + 3, none⟩ = some (.slice p.A p.m p.c) ∧ l[i]? = some p := by
  obtain ⟨b, off, e, hb, hc⟩ := h.2 (by omega)
  have hl : l.length = n := by have := h.1; rw [otcs_len] at this; omega
  have hg : l[i]? = some (l[i]'(by omega)) := List.getElem?_eq_getElem (by omega)
  obtain ⟨g0, g1, g2, g3⟩ := otcs_get hg
  refine ⟨b, off, l[i]'(by omega), e, hb, ?_, ?_, ?_, ?_, hg⟩
  · rw [hc (i * 4) (by omega), g0]
  · rw [Nat.add_assoc, hc (i * 4 + 1) (by omega), g1]
  · rw [Nat.add_assoc, hc (i * 4 + 2) (by omega), g2]
  · rw [Nat.add_assoc, hc (i * 4 + 3) (by omega), g3]
def GrPost (n : Nat) (l : List OtOp) (w : World) (e : Ending) (w' : World) : Prop := ∃ b, e = .returned (.bool b) ∧ Below w.heap.size w w' ∧ (b = false → n ≤ 60 ∧ ∀ p ∈ l, p.m ≤ 300)
set_option maxRecDepth 20000 in
set_option maxHeartbeats 4000000 in
theorem great17 (A : Option Addr) (n c : Nat) (l : List OtOp) (w : World) (hr : Rd w w.heap.size 4 A n (otcs l)) :
    Calls Try.prog 6 #[.slice A n c] w fun e w' => GrPost n l w e w' := by
  have hl : l.length = n := by have := hr.1; rw [otcs_len] at this; omega
  have HR := Sh.mk hr
  have HL := Sh.mk hl
  clear hr hl
  by_cases h0 : 60 < n
  · have h0' : (60 : Int) < (n : Int) := by omega
    go_enter Try.func6, Try.ntmps6
    go_wp2_with fail
    go_ret
    exact ⟨true, rfl, Below.refl _ _, fun h => by cases h⟩
  have h1 : n ≤ 60 := by omega
  have h1' : (n : Int) ≤ 60 := by omega
  clear h0
  go_enter Try.func6, Try.ntmps6
  go_wp2_with fail
  go_loopw [3] (fun iv wr => ∃ i : Nat, i ≤ n ∧ iv = .int .i64 (i : Int) ∧ wr = w ∧ Sh (∀ p ∈ l.take i, p.m ≤ 300)) (fun iv _ => n - (intOf iv).toNat)
  case atStart => exact ⟨0, Nat.zero_le _, rfl, rfl, Sh.mk (by simp)⟩
  case round =>
    obtain ⟨i, hi, rfl, rfl, hp⟩ := hrel
    by_cases hlt : i < n
    · have hlt' : (i : Int) < (n : Int) := by omega
      obtain ⟨b, off, p, rfl, hb, c0, c1, c2, c3, hg⟩ := HR.out.otop hlt
      have HG := Sh.mk hg
      clear hg c0 c1 c2
      obtain ⟨m, hm⟩ : ∃ m, m = p.m := ⟨_, rfl⟩
      have HM := Sh.mk hm
      rw [← hm] at c3
      clear hm
      by_cases h3 : 300 < m
      · have h3' : (300 : Int) < (m : Int) := by omega
        go_wp2_with fail
        go_ret
        exact ⟨true, rfl, Below.refl _ _, fun h => by cases h⟩
      · have h3' : (m : Int) ≤ 300 := by omega
        have h4 : m ≤ 300 := by omega
        clear h3
        go_wp2_with fail
        go_roundw
        case rel =>
          refine ⟨i + 1, by omega, by go_num, by first | rfl | trivial, Sh.mk fun q hq => ?_⟩
          rw [List.take_add_one, HG.out] at hq
          rcases List.mem_append.1 hq with hq | hq
          · exact hp.out q hq
          · simp at hq; rw [hq, ← HM.out]; exact h4
        case measure => simp [intOf]; omega
    · obtain rfl : i = n := by omega
      go_wp2_with fail
      go_ret
      exact ⟨false, rfl, Below.refl _ _, fun _ => ⟨h1, fun p hp' => hp.out p (by rw [List.take_of_length_le (by rw [HL.out]; exact Nat.le_refl _)]; exact hp')⟩⟩
end Go.Proofs.Ytmkjclgdiikjdaa
