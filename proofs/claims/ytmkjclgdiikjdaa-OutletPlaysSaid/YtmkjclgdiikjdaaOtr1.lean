/- Layer 17: the document's outlet: At, End, Top. -/
import Derived.Test.YtmkjclgdiikjdaaOt5
import Derived.Test.YtmkjclgdiikjdaaOrd
namespace Go.Proofs.Ytmkjclgdiikjdaa
open Go.RowKit
set_option linter.unusedVariables false
set_option linter.unusedSimpArgs false
/-- The cells of the document's outlet. -/
def oC (A : Option Addr) (n c base size : Nat) (cl dn : Bool) : Array Value := #[.slice A n c, .int .u64 (base : Int), .int .i64 (size : Int), .bool cl, .bool dn]
set_option maxRecDepth 20000 in
set_option maxHeartbeats 4000000 in
theorem r_end (A : Option Addr) (n c base size : Nat) (cl dn : Bool) (w : World) (e : Nat) (he : e = base + n) (hlim : e ≤ qLim) :
    Calls Try.prog 12 #[.agg #[.slice A n c, .int .u64 (base : Int), .int .i64 (size : Int), .bool cl, .bool dn]] w fun x w' => x = .returned (.int .u64 (e : Int)) ∧ Below w.heap.size w w' := by
  unfold qLim at hlim
  have hw1 : IntKind.u64.wrap (n : Int) = (n : Nat) := by rw [IntKind.wrap_u64]; omega
  have hw2 : (base : Int) + (n : Int) = (e : Nat) := by omega
  have hw3 : IntKind.u64.wrap (e : Int) = (e : Nat) := by rw [IntKind.wrap_u64]; omega
  clear he hlim
  go_enter Try.func12, Try.ntmps12
  go_wp2_with fail
  go_ret
  exact ⟨rfl, (Below.refl _ _).alloc (Nat.le_refl _) _⟩
set_option maxRecDepth 20000 in
set_option maxHeartbeats 4000000 in
theorem r_top (A : Option Addr) (n c base size : Nat) (cl dn : Bool) (w : World) (t : Nat) (ht : t = base + n + (if cl then 1 else 0)) (hlim : base + n ≤ qLim) :
    Calls Try.prog 14 #[.agg #[.slice A n c, .int .u64 (base : Int), .int .i64 (size : Int), .bool cl, .bool dn]] w fun x w' => x = .returned (.int .u64 (t : Int)) ∧ Below w.heap.size w w' := by
  obtain ⟨e, he⟩ : ∃ e, e = base + n := ⟨_, rfl⟩
  have RE := Sh.mk (fun w => r_end A n c base size cl dn w e he (by omega))
  rw [← he] at ht
  unfold qLim at hlim
  cases cl
  · obtain rfl : t = e := by simpa using ht
    clear ht he hlim
    go_enter Try.func14, Try.ntmps14
    go_wp2_with fail
    refine (RE.out _).mono ?_
    rintro x w1 ⟨rfl, b1⟩
    have HB := Sh.mk (((Below.refl w.heap.size w).alloc (Nat.le_refl _) _).trans (b1.mono (by simp)))
    go_wp2_with fail
    go_ret
    exact ⟨rfl, HB.out⟩
  · have ht' : t = e + 1 := by simpa using ht
    have hw2 : (e : Int) + 1 = (t : Nat) := by omega
    have hw3 : IntKind.u64.wrap (t : Int) = (t : Nat) := by rw [IntKind.wrap_u64]; omega
    clear ht ht' he hlim
    go_enter Try.func14, Try.ntmps14
    go_wp2_with fail
    refine (RE.out _).mono ?_
    rintro x w1 ⟨rfl, b1⟩
    have HB := Sh.mk (((Below.refl w.heap.size w).alloc (Nat.le_refl _) _).trans (b1.mono (by simp)))
    go_wp2_with fail
    go_ret
    exact ⟨rfl, HB.out⟩
set_option maxRecDepth 20000 in
set_option maxHeartbeats 4000000 in
theorem r_at_lim (size : Int) (base : Nat) (w : World) (h : qLim < base) : Calls Try.prog 8 #[.int .i64 size, .int .u64 (base : Int)] w fun x w' => x = .returned (.tuple #[.agg #[.slice none 0 0, .int .u64 0, .int .i64 0, .bool false, .bool false], .int .i64 215]) ∧ Below w.heap.size w w' := by
  have h1 : (4611686018427387904 : Int) < (base : Int) := by unfold qLim at h; omega
  clear h
  go_enter Try.func8, Try.ntmps8
  go_wp2_with fail
  refine bodyPost_ret (v := .tuple #[.agg #[.slice none 0 0, .int .u64 0, .int .i64 0, .bool false, .bool false], .int .i64 215]) (by simp [results, Try.results8, go_sem]) rfl ?_
  exact ⟨rfl, (Below.refl _ _).alloc (Nat.le_refl _) _⟩
set_option maxRecDepth 20000 in
set_option maxHeartbeats 4000000 in
theorem r_at_ring (size : Int) (base : Nat) (w : World) (h : base ≤ qLim) (hs : size < 1 ∨ 65536 < size) : Calls Try.prog 8 #[.int .i64 size, .int .u64 (base : Int)] w fun x w' => x = .returned (.tuple #[.agg #[.slice none 0 0, .int .u64 0, .int .i64 0, .bool false, .bool false], .int .i64 50]) ∧ Below w.heap.size w w' := by
  have h1 : decide ((4611686018427387904 : Int) < (base : Int)) = false := by unfold qLim at h; exact decide_eq_false (by omega)
  rcases (show size < 1 ∨ (1 ≤ size ∧ 65536 < size) by omega) with a | ⟨a, b⟩
  · clear h hs
    go_enter Try.func8, Try.ntmps8
    go_wp2_with fail
    refine bodyPost_ret (v := .tuple #[.agg #[.slice none 0 0, .int .u64 0, .int .i64 0, .bool false, .bool false], .int .i64 50]) (by simp [results, Try.results8, go_sem]) rfl ?_
    exact ⟨rfl, (Below.refl _ _).alloc (Nat.le_refl _) _⟩
  · clear h hs
    go_enter Try.func8, Try.ntmps8
    go_wp2_with fail
    refine bodyPost_ret (v := .tuple #[.agg #[.slice none 0 0, .int .u64 0, .int .i64 0, .bool false, .bool false], .int .i64 50]) (by simp [results, Try.results8, go_sem]) rfl ?_
    exact ⟨rfl, (Below.refl _ _).alloc (Nat.le_refl _) _⟩
set_option maxRecDepth 20000 in
set_option maxHeartbeats 4000000 in
theorem r_at (size base : Nat) (w : World) (h : base ≤ qLim) (hs : 1 ≤ size) (hs2 : size ≤ 65536) : Calls Try.prog 8 #[.int .i64 (size : Int), .int .u64 (base : Int)] w fun x w' => x = .returned (.tuple #[.agg #[.slice none 0 0, .int .u64 (base : Int), .int .i64 (size : Int), .bool false, .bool false], .int .i64 0]) ∧ Below w.heap.size w w' := by
  have h1 : decide ((4611686018427387904 : Int) < (base : Int)) = false := by unfold qLim at h; exact decide_eq_false (by omega)
  have h2 : (1 : Int) ≤ (size : Int) := by omega
  have h3 : (size : Int) ≤ 65536 := by omega
  clear h hs hs2
  go_enter Try.func8, Try.ntmps8
  go_wp2_with fail
  refine bodyPost_ret (v := .tuple #[.agg #[.slice none 0 0, .int .u64 (base : Int), .int .i64 (size : Int), .bool false, .bool false], .int .i64 0]) (by simp [results, Try.results8, go_sem]) rfl ?_
  exact ⟨rfl, (Below.refl _ _).alloc (Nat.le_refl _) _⟩
end Go.Proofs.Ytmkjclgdiikjdaa
