/- Layer 18: calls of an inlet; great; the chapter's example. -/
import Derived.Test.YtnngjbieoakanaaG29InletTwice
import Derived.Test.YtnngjbieoakanaaG31InletTwice
import Derived.Test.YtnngjbieoakanaaG32InletTwice

namespace Go.Proofs.Ytnngjbieoakanaa
open Go.RowKit
set_option linter.unusedVariables false
set_option linter.unusedSimpArgs false
/-- A call. -/
structure InOp where
  k : Int
  nn : Int
  at_ : Nat
  far : Bool
  A : Option Addr
  m : Nat
  c : Nat
  l : List Nat
def InOp.el (p : InOp) : List Value := [.int .i64 p.k, .int .i64 p.nn, .int .u64 (p.at_ : Int), .bool p.far, .slice p.A p.m p.c]
def incs (l : List InOp) : List Value := l.flatMap InOp.el
structure InOp.ok (w : World) (p : InOp) : Prop where
  k : -9223372036854775808 ≤ p.k ∧ p.k < 9223372036854775808
  nn : -9223372036854775808 ≤ p.nn ∧ p.nn < 9223372036854775808
  at_ : p.at_ < 18446744073709551616
  rd : Rd w w.heap.size 1 p.A p.m (ns .u8 p.l)
  mc : p.m ≤ p.c
  cm : p.c ≤ maxLen
  lt : ∀ x ∈ p.l, x < 256
theorem incs_cons (p : InOp) (l : List InOp) : incs (p :: l) = .int .i64 p.k :: .int .i64 p.nn :: .int .u64 (p.at_ : Int) :: .bool p.far :: .slice p.A p.m p.c :: incs l := rfl
theorem incs_len (l : List InOp) : (incs l).length = l.length * 5 := by
  induction l with
  | nil => rfl
  | cons p l ih => rw [incs_cons, List.length_cons, List.length_cons, List.length_cons, List.length_cons, List.length_cons, ih, List.length_cons]; omega
theorem incs_get {l : List InOp} {i : Nat} {p : InOp} (h : l[i]? = some p) : (incs l)[i * 5]? = some (.int .i64 p.k) ∧ (incs l)[i * 5 + 1]? = some (.int .i64 p.nn) ∧ (incs l)[i * 5 + 2]? = some (.int .u64 (p.at_ : Int)) ∧ (incs l)[i * 5 + 3]? = some (.bool p.far) ∧ (incs l)[i * 5 + 4]? = some (.slice p.A p.m p.c) := by
  induction l generalizing i with
  | nil => simp at h
  | cons q l ih =>
    cases i with
    | zero => simp at h; subst h; exact ⟨rfl, rfl, rfl, rfl, rfl⟩
    | succ i =>
      have e0 : (i + 1) * 5 = i * 5 + 1 + 1 + 1 + 1 + 1 := by omega
      have e1 : (i + 1) * 5 + 1 = i * 5 + 1 + 1 + 1 + 1 + 1 + 1 := by omega
      have e2 : (i + 1) * 5 + 2 = i * 5 + 2 + 1 + 1 + 1 + 1 + 1 := by omega
      have e3 : (i + 1) * 5 + 3 = i * 5 + 3 + 1 + 1 + 1 + 1 + 1 := by omega
      have e4 : (i + 1) * 5 + 4 = i * 5 + 4 + 1 + 1 + 1 + 1 + 1 := by omega
      rw [incs_cons, e1, e2, e3, e4, e0]
      simp only [List.getElem?_cons_succ]
      exact ih (by simpa using h)
theorem Rd.inop {w : World} {B n : Nat} {A : Option Addr} {l : List InOp} {i : Nat} (h : Rd w B 5 A n (incs l)) (hi : i < n) :
    ∃ (b off : Nat) (p : InOp), A = some ⟨b, off, none⟩ ∧ b < B ∧ w.cell? ⟨b, off + i * 5, none⟩ = some (.int .i64 p.k) ∧ w.cell? ⟨b, off + i * 5 + 1, none⟩ = some (.int .i64 p.nn) ∧ w.cell? ⟨b, off + i * 5 + 2, none⟩ = some (.int .u64 (p.at_ : Int)) ∧ w.cell? ⟨b, off + i * 5 + 3, none⟩ = some (.bool p.far) ∧ w.cell? ⟨b, off + i * 5 + 4, none⟩ = some (.slice p.A p.m p.c) ∧ l[i]? = some p := by
  obtain ⟨b, off, e, hb, hc⟩ := h.2 (by omega)
  have hl : l.length = n := by have := h.1; rw [incs_len] at this; omega
  have hg : l[i]? = some (l[i]'(by omega)) := List.getElem?_eq_getElem (by omega)
  obtain ⟨g0, g1, g2, g3, g4⟩ := incs_get hg
  refine ⟨b, off, l[i]'(by omega), e, hb, ?_, ?_, ?_, ?_, ?_, hg⟩
  · rw [hc (i * 5) (by omega), g0]
  · rw [Nat.add_assoc, hc (i * 5 + 1) (by omega), g1]
  · rw [Nat.add_assoc, hc (i * 5 + 2) (by omega), g2]
  · rw [Nat.add_assoc, hc (i * 5 + 3) (by omega), g3]
  · rw [Nat.add_assoc, hc (i * 5 + 4) (by omega), g4]
def GrPostI (n : Nat) (l : List InOp) (w : World) (e : Ending) (w' : World) : Prop := ∃ b, e = .returned (.bool b) ∧ Below w.heap.size w w' ∧ (b = false → n ≤ 60 ∧ ∀ p ∈ l, p.m ≤ 300)
set_option maxRecDepth 20000 in
set_option maxHeartbeats 4000000 in
theorem great18 (A : Option Addr) (n c : Nat) (l : List InOp) (w : World) (hr : Rd w w.heap.size 5 A n (incs l)) :
    Calls Try.prog 4 #[.slice A n c] w fun e w' => GrPostI n l w e w' := by
  have hl : l.length = n := by have := hr.1; rw [incs_len] at this; omega
  have HR := Sh.mk hr
  have HL := Sh.mk hl
  clear hr hl
  by_cases h0 : 60 < n
  · have h0' : (60 : Int) < (n : Int) := by omega
    go_enter Try.func4, Try.ntmps4
    go_wp2_with fail
    go_ret
    exact ⟨true, rfl, Below.refl _ _, fun h => by cases h⟩
  have h1 : n ≤ 60 := by omega
  have h1' : (n : Int) ≤ 60 := by omega
  clear h0
  go_enter Try.func4, Try.ntmps4
  go_wp2_with fail
  go_loopw [3] (fun iv wr => ∃ i : Nat, i ≤ n ∧ iv = .int .i64 (i : Int) ∧ wr = w ∧ Sh (∀ p ∈ l.take i, p.m ≤ 300)) (fun iv _ => n - (intOf iv).toNat)
  case atStart => exact ⟨0, Nat.zero_le _, rfl, rfl, Sh.mk (by simp)⟩
  case round =>
    obtain ⟨i, hi, rfl, rfl, hp⟩ := hrel
    by_cases hlt : i < n
    · have hlt' : (i : Int) < (n : Int) := by omega
      obtain ⟨b, off, p, rfl, hb, c0, c1, c2, c3, c4, hg⟩ := HR.out.inop hlt
      have HG := Sh.mk hg
      clear hg c0 c1 c2 c3
      obtain ⟨m, hm⟩ : ∃ m, m = p.m := ⟨_, rfl⟩
      have HM := Sh.mk hm
      rw [← hm] at c4
      clear hm
      by_cases h3 : 300 < m
      · have h3' : (300 : Int) < (m : Int) := by omega
        go_wp2_with fail
        go_ret
        exact ⟨true, rfl, Below.refl _ _, fun h => by cases h⟩
      · have h3' : (m : Int) ≤ 300 := by omega
        have h4 : m ≤ 300 := by omega
        clear h3
        go_wp2_with fail
        go_roundw
        case rel =>
          refine ⟨i + 1, by omega, by go_num, by first | rfl | trivial, Sh.mk fun q hq => ?_⟩
          rw [List.take_add_one, HG.out] at hq
          rcases List.mem_append.1 hq with hq | hq
          · exact hp.out q hq
          · simp at hq; rw [hq, ← HM.out]; exact h4
        case measure => simp [intOf]; omega
    · obtain rfl : i = n := by omega
      go_wp2_with fail
      go_ret
      exact ⟨false, rfl, Below.refl _ _, fun _ => ⟨h1, fun p hp' => hp.out p (by rw [List.take_of_length_le (by rw [HL.out]; exact Nat.le_refl _)]; exact hp')⟩⟩
/-- A row of bytes that lies apart. -/
theorem FarI.lit {B x g p s n b : Nat} {w : World} {bs : List Nat} {cs : Array Value} {m : Nat × Nat} (hr : Rd w w.heap.size 1 (some ⟨b, 0, none⟩) n (ns .u8 bs)) (hb : w.heap[b]? = some (.cells cs 5 m)) (h1 : b ≠ x) (h2 : b ≠ g) (h3 : b ≠ p) (h4 : b ≠ s) : FarI B x g p s w (some ⟨b, 0, none⟩) n bs := fun w' k => by
  refine ⟨hr.1, fun hn => ?_⟩
  obtain ⟨b2, off, e, hlt, hc⟩ := hr.2 hn
  injection e with e
  injection e with e1 e2
  subst e1
  subst e2
  refine ⟨b, 0, rfl, hlt, fun j hj => ?_⟩
  rw [← hc j hj]
  unfold World.cell?
  simp only [k.same b hlt h1 h2 h3 h4 (.inr fun cs2 m2 he => by
    rw [hb] at he
    injection he with he
    injection he with _ he
    exact absurd he (by decide))]
set_option maxRecDepth 20000 in
set_option maxHeartbeats 4000000 in
theorem alive18 (w : World) : Calls Try.prog 14 #[] w fun e w' => e = .returned (.bool true) ∧ Below w.heap.size w w' := by
  have kc := fun (w : World) (C : Array Value) (n c : Nat) => Lib.run_convert_bytes_const (P := Try.prog) w 24 5 C n c Try.underlying24 Try.underlying5
  go_enter Try.func14, Try.ntmps14
  go_wp2_with fail
  refine (in_new 8 4 w (by omega) (by omega) (by omega)).mono ?_
  rintro e w1 ⟨x, g, p, s, rfl, hi, hb⟩
  have H1 := Sh.mk (show IN w1 w.heap.size x g p s ⟨0, 8, 0, 4, 0, false, [], [0, 0, 0, 0, 0, 0, 0, 0]⟩ from hi)
  have HB1 := Sh.mk hb
  have c0 := hi.c0
  clear hi hb
  go_wp2_with fail
  have hl2 : Rd (w1.alloc (.cells #[.int .u8 99, .int .u8 100] 5 (2, 3))) (w1.heap.size + 1) 1 (some ⟨w1.heap.size, 0, none⟩) 2 (ns .u8 [99, 100]) := Rd.litm [99, 100] rfl rfl
  have hal : Below w1.heap.size w1 (w1.alloc (.cells #[.int .u8 99, .int .u8 100] 5 (2, 3))) := (Below.refl _ _).alloc (Nat.le_refl _) _
  refine (in_put _ x g p s _ 2 _ 2 _ [99, 100] _ (H1.out.into hal) (by decide) rfl (by decide) (Nat.le_refl _) (by omega) (Apart.new (by have := H1.out.lt; omega)) (FarI.lit (by simpa using hl2) (heap_alloc_new w1 _) (by have := H1.out.lt; omega) (by have := H1.out.lt; omega) (by have := H1.out.lt; omega) (by have := H1.out.lt; omega))).mono ?_
  rintro e w2 ⟨rfl, h2, k2⟩
  have H2 := Sh.mk (show IN w2 w.heap.size x g p s ⟨0, 8, 0, 4, 0, false, [(2, 4)], [0, 0, 99, 100, 0, 0, 0, 0]⟩ from h2)
  have HB2 := Sh.mk ((HB1.out.trans (hal.mono HB1.out.size)).trans ((H1.out.into hal).bel k2))
  have e2 : (Ist.put ⟨0, 8, 0, 4, 0, false, [], [0, 0, 0, 0, 0, 0, 0, 0]⟩ 2 [99, 100]).2 = true := rfl
  rw [e2]
  clear h2 k2 hl2 hal c0 H1 HB1 e2
  go_wp2_with fail
  refine (in_next _ x g p s _ w2 H2.out).mono ?_
  rintro e w3 ⟨rfl, q, hq⟩
  have H3 := Sh.mk (show IN w3 w.heap.size x g p s ⟨0, 8, 0, 4, 0, false, [(2, 4)], [0, 0, 99, 100, 0, 0, 0, 0]⟩ by rw [hq]; exact H2.out.drewN q)
  have HB3 := Sh.mk (show Below w.heap.size w w3 by rw [hq]; exact below_drewN HB2.out q)
  have e3 : (Ist.next ⟨0, 8, 0, 4, 0, false, [(2, 4)], [0, 0, 99, 100, 0, 0, 0, 0]⟩ : Nat) = 0 := rfl
  rw [e3]
  clear hq H2 HB2 e3
  go_wp2_with fail
  have hl2 : Rd (w3.alloc (.cells #[.int .u8 97, .int .u8 98] 5 (2, 3))) (w3.heap.size + 1) 1 (some ⟨w3.heap.size, 0, none⟩) 2 (ns .u8 [97, 98]) := Rd.litm [97, 98] rfl rfl
  have hal : Below w3.heap.size w3 (w3.alloc (.cells #[.int .u8 97, .int .u8 98] 5 (2, 3))) := (Below.refl _ _).alloc (Nat.le_refl _) _
  refine (in_put _ x g p s _ 0 _ 2 _ [97, 98] _ (H3.out.into hal) (by decide) rfl (by decide) (Nat.le_refl _) (by omega) (Apart.new (by have := H3.out.lt; omega)) (FarI.lit (by simpa using hl2) (heap_alloc_new w3 _) (by have := H3.out.lt; omega) (by have := H3.out.lt; omega) (by have := H3.out.lt; omega) (by have := H3.out.lt; omega))).mono ?_
  rintro e w4 ⟨rfl, h4, k4⟩
  have H4 := Sh.mk (show IN w4 w.heap.size x g p s ⟨0, 8, 4, 4, 0, false, [], [97, 98, 99, 100, 0, 0, 0, 0]⟩ from h4)
  have HB4 := Sh.mk ((HB3.out.trans (hal.mono HB3.out.size)).trans ((H3.out.into hal).bel k4))
  have e2 : (Ist.put ⟨0, 8, 0, 4, 0, false, [(2, 4)], [0, 0, 99, 100, 0, 0, 0, 0]⟩ 0 [97, 98]).2 = true := rfl
  rw [e2]
  clear h4 k4 hl2 hal H3 HB3 e2
  go_wp2_with fail
  refine (in_take _ x g p s _ 9 w4 H4.out (by omega) (by unfold iLim; decide)).mono ?_
  rintro e w5 ⟨⟨v, rfl, hv⟩, h5, k5⟩
  have H5 := Sh.mk (show IN w5 w.heap.size x g p s ⟨4, 8, 0, 4, 0, false, [], [0, 0, 0, 0, 0, 0, 0, 0]⟩ from h5)
  have HB5 := Sh.mk (HB4.out.trans (H4.out.bel k5))
  obtain ⟨A, n, c, rfl, hc, hln, hrd⟩ := (show Nats w5 _ _ _ v [97, 98, 99, 100] from hv).out
  have HRD := Sh.mk hrd
  have e5 : (Ist.terr ⟨0, 8, 4, 4, 0, false, [], [97, 98, 99, 100, 0, 0, 0, 0]⟩ 9 : Nat) = 0 := rfl
  rw [e5]
  clear hv k5 h5 hrd H4 HB4 e5
  have hs : (strN [97, 98, 99, 100]).toList = [97, 98, 99, 100] := by rw [strN_toList]; rfl
  go_wp2_with (refine wpList_conv Try.underlying24 Try.underlying5 Try.underlying9 rfl _ rfl rfl HRD.out.out ?_)
  go_wp2_with fail
  refine (in_base _ x g p s _ w5 H5.out).mono ?_
  rintro e w6 ⟨rfl, rfl⟩
  go_wp2_with fail
  refine (in_edge _ x g p s _ _ H5.out).mono ?_
  rintro e w7 ⟨rfl, q, hq⟩
  have HB7 := Sh.mk (hq ▸ below_drewN HB5.out q : Below w.heap.size w w7)
  clear hq
  go_wp2_with fail
  go_ret
  exact ⟨rfl, HB7.out⟩
end Go.Proofs.Ytnngjbieoakanaa
