/- Contracts of package varint: All, and two rows held against each other. -/
import Derived.Test.YtnnhndgeedlpgaaVar4
namespace Go.Proofs.Ytnnhndgeedlpgaa
open Go.RowKit
set_option linter.unusedVariables false

set_option maxRecDepth 20000 in
theorem all_any (A : Option Addr) (n c : Nat) (l : List Nat) (w : World) (hr : Rd w w.heap.size 1 A n (ns .u8 l)) (hnc : n ≤ c) (hb : ∀ x ∈ l, x < 256) (hn : n ≤ 100000) :
    Calls Try.prog 28 #[.slice A n c] w fun e w' => Below w.heap.size w w' ∧ ((∃ xs, vall l = some xs ∧ ∃ v, e = .returned (.tuple #[v, .bool true]) ∧ Nats w' 24 .u64 w.heap.size v xs) ∨
      (vall l = none ∧ e = .returned (.tuple #[.slice none 0 0, .bool false]))) := by
  have HR := Lib.hid hr; have HB := Lib.hid hb
  clear hr hb
  go_enter Try.func28, Try.ntmps28
  go_wp2
  go_loopw [0, 4, 5, 6] (fun b a _ _ wr => ∃ (A' : Option Addr) (n' c' : Nat) (r acc : List Nat), b = .slice A' n' c' ∧ n' ≤ c' ∧ n' ≤ n ∧ acc.length ≤ n - n' ∧ Rd w w.heap.size 1 A' n' (ns .u8 r) ∧ Hid (∀ x ∈ r, x < 256) ∧
      Nats wr 24 .u64 w.heap.size a acc ∧ Hid (vall l = (vall r).map (acc ++ ·)) ∧ Below w.heap.size w wr) (fun b _ _ _ _ => lenOf b)
  case atStart => exact ⟨A, n, c, l, [], rfl, hnc, Nat.le_refl _, Nat.zero_le _, HR.out, HB, Nats.nil _ _ _ _, Lib.hid (by simp), Below.refl _ _⟩
  case round =>
    obtain ⟨A', n', c', r, acc, rfl, h1, h2, h3, hr, hb, ha, hv, hbel⟩ := hrel
    have HR' := Lib.hid hr
    by_cases h0 : n' = 0
    · subst h0
      have hr0 : r = [] := List.eq_nil_of_length_eq_zero hr.natLen
      subst hr0
      rw [vall_nil] at hv
      have HH := Lib.hid hr; clear hr HH
      go_wp2
      go_ret2
      exact ⟨hbel, .inl ⟨acc, by rw [hv.out]; simp, _, rfl, ha⟩⟩
    · have hz : (0 : Int) < (n' : Int) := by omega
      have hne : r ≠ [] := fun e => h0 (by rw [← hr.natLen, e]; rfl)
      have HNE := Lib.hid hne
      have HLE : Hid ((vget r).2 ≤ n') := Lib.hid (by have := vget_le r; rwa [hr.natLen] at this)
      have hgt := ((hr.below hbel).mono hbel.size)
      have HGT := Lib.hid hgt
      clear hr hgt hne
      by_cases hk : (vget r).2 = 0
      · have hk0 : (((vget r).2 : Int) == 0) = true := by simp; omega
        rw [vall_none HNE.out hk] at hv
        clear hk
        go_wp2_with (go_at_call 26; go_must (refine (get_any _ _ _ r _ HGT.out h1 hb.out (by omega)).mono ?_; rintro e w' ⟨rfl, rfl⟩))
        go_ret2
        exact ⟨hbel, .inr ⟨by rw [hv.out]; rfl, rfl⟩⟩
      · have hk0 : (((vget r).2 : Int) == 0) = false := by simp; omega
        have hk1 : (0 : Int) ≤ ((vget r).2 : Int) := by omega
        have hk2 : ((vget r).2 : Int) ≤ (n' : Int) := by have := HLE.out; omega
        have HK := Lib.hid hk
        clear hk
        go_wp2_with (first | (go_at_call 26; go_must (refine (get_any _ _ _ r _ HGT.out h1 hb.out (by omega)).mono ?_; rintro e w' ⟨rfl, rfl⟩)) | (at_builtin; go_must (refine app1n el64 (vget r).1 rfl _ _ rfl rfl ha rfl rfl ?_ ?_ ?_)))
        · exact room_ge (by omega)
        · exact hbel.size
        intro v1 w1 ha1 _ hb1
        go_wp2
        go_roundw
        case rel =>
          refine ⟨_, _, _, r.drop (vget r).2, acc ++ [(vget r).1], rfl, by omega, by omega, ?_, HR'.out.dropN HLE.out h1, Lib.hid fun x hx => hb.out x (List.mem_of_mem_drop hx), ha1, Lib.hid ?_, hbel.trans hb1⟩
          · have := HLE.out; have := HK.out; simp; omega
          · rw [hv.out, vall_some HNE.out HK.out]; simp [Function.comp_def]
        case measure => have := HLE.out; have := HK.out; simp [lenOf]; omega
set_option maxRecDepth 20000 in
theorem refAll_any (A : Option Addr) (n c : Nat) (l : List Nat) (w : World) (hr : Rd w w.heap.size 1 A n (ns .u8 l)) (hnc : n ≤ c) (hb : ∀ x ∈ l, x < 256) (hn : n ≤ 100000) :
    Calls Try.prog 29 #[.slice A n c] w fun e w' => Below w.heap.size w w' ∧ ((∃ xs, vall l = some xs ∧ ∃ v, e = .returned (.tuple #[v, .bool true]) ∧ Nats w' 24 .u64 w.heap.size v xs) ∨
      (vall l = none ∧ e = .returned (.tuple #[.slice none 0 0, .bool false]))) := by
  have HR := Lib.hid hr; have HB := Lib.hid hb
  clear hr hb
  go_enter Try.func29, Try.ntmps29
  go_wp2
  go_loopw [0, 4, 5, 6] (fun b a _ _ wr => ∃ (A' : Option Addr) (n' c' : Nat) (r acc : List Nat), b = .slice A' n' c' ∧ n' ≤ c' ∧ n' ≤ n ∧ acc.length ≤ n - n' ∧ Rd w w.heap.size 1 A' n' (ns .u8 r) ∧ Hid (∀ x ∈ r, x < 256) ∧
      Nats wr 24 .u64 w.heap.size a acc ∧ Hid (vall l = (vall r).map (acc ++ ·)) ∧ Below w.heap.size w wr) (fun b _ _ _ _ => lenOf b)
  case atStart => exact ⟨A, n, c, l, [], rfl, hnc, Nat.le_refl _, Nat.zero_le _, HR.out, HB, Nats.nil _ _ _ _, Lib.hid (by simp), Below.refl _ _⟩
  case round =>
    obtain ⟨A', n', c', r, acc, rfl, h1, h2, h3, hr, hb, ha, hv, hbel⟩ := hrel
    have HR' := Lib.hid hr
    by_cases h0 : n' = 0
    · subst h0
      have hr0 : r = [] := List.eq_nil_of_length_eq_zero hr.natLen
      subst hr0
      rw [vall_nil] at hv
      have HH := Lib.hid hr; clear hr HH
      go_wp2
      go_ret2
      exact ⟨hbel, .inl ⟨acc, by rw [hv.out]; simp, _, rfl, ha⟩⟩
    · have hz : (0 : Int) < (n' : Int) := by omega
      have hne : r ≠ [] := fun e => h0 (by rw [← hr.natLen, e]; rfl)
      have HNE := Lib.hid hne
      have HLE : Hid ((vget r).2 ≤ n') := Lib.hid (by have := vget_le r; rwa [hr.natLen] at this)
      have hgt := ((hr.below hbel).mono hbel.size)
      have HGT := Lib.hid hgt
      clear hr hgt hne
      by_cases hk : (vget r).2 = 0
      · have hk0 : (((vget r).2 : Int) == 0) = true := by simp; omega
        rw [vall_none HNE.out hk] at hv
        clear hk
        go_wp2_with fail
        refine (refGet_any _ _ _ r _ HGT.out h1 hb.out (by omega)).mono ?_
        rintro e w2 ⟨rfl, hb2⟩
        have hbel2 := hbel.trans (hb2.mono hbel.size)
        go_wp2_with fail
        go_ret2
        exact ⟨hbel2, .inr ⟨by rw [hv.out]; rfl, rfl⟩⟩
      · have hk0 : (((vget r).2 : Int) == 0) = false := by simp; omega
        have hk1 : (0 : Int) ≤ ((vget r).2 : Int) := by omega
        have hk2 : ((vget r).2 : Int) ≤ (n' : Int) := by have := HLE.out; omega
        have HK := Lib.hid hk
        clear hk
        go_wp2_with fail
        refine (refGet_any _ _ _ r _ HGT.out h1 hb.out (by omega)).mono ?_
        rintro e w2 ⟨rfl, hb2⟩
        have hbel2 := hbel.trans (hb2.mono hbel.size)
        have ha2 := ha.below hb2
        go_wp2_with (at_builtin; go_must (refine app1n el64 (vget r).1 rfl _ _ rfl rfl ha2 rfl rfl ?_ ?_ ?_))
        · exact room_ge (by omega)
        · exact hbel2.size
        intro v1 w1 ha1 _ hb1
        go_wp2
        go_roundw
        case rel =>
          refine ⟨_, _, _, r.drop (vget r).2, acc ++ [(vget r).1], rfl, by omega, by omega, ?_, HR'.out.dropN HLE.out h1, Lib.hid fun x hx => hb.out x (List.mem_of_mem_drop hx), ha1, Lib.hid ?_, hbel2.trans hb1⟩
          · have := HLE.out; have := HK.out; simp; omega
          · rw [hv.out, vall_some HNE.out HK.out]; simp [Function.comp_def]
        case measure => have := HLE.out; have := HK.out; simp [lenOf]; omega

set_option maxRecDepth 20000 in
theorem row_any (A C : Option Addr) (n m c d : Nat) (l k : List Nat) (w : World) (hl : Rd w w.heap.size 1 A n (ns .u64 l)) (hk : Rd w w.heap.size 1 C m (ns .u64 k)) (hn : n ≤ 1000000) (hm : m ≤ 1000000) :
    Calls Try.prog 30 #[.slice A n c, .slice C m d] w fun e w' => e = .returned (.bool (decide (l = k))) ∧ ∃ q, w' = w.drewN q := by
  have hl1 := hl.natLen; have hk1 := hk.natLen
  have HL := Lib.hid hl; have HK := Lib.hid hk; have HL1 := Lib.hid hl1; have HK1 := Lib.hid hk1
  clear hl hk hl1 hk1
  by_cases hnm : n = m
  · subst hnm
    have hne : ((n : Int) != (n : Int)) = false := by simp
    go_enter Try.func30, Try.ntmps30
    go_wp2
    go_loopw [5] (fun i wr => ∃ j q : Nat, j ≤ n ∧ i = .int .i64 j ∧ wr = w.drewN q ∧ Hid (l.take j = k.take j)) (fun i _ => n - (intOf i).toNat)
    case atStart => exact ⟨0, 0, Nat.zero_le _, rfl, rfl, Lib.hid rfl⟩
    case round =>
      obtain ⟨j, q, hj, rfl, rfl, ht⟩ := hrel
      by_cases hlt : j < n
      · obtain ⟨b, off, x, rfl, hb, hc, hx⟩ := HL.out.nth hlt
        obtain ⟨b', off', y, rfl, hb', hc', hy⟩ := HK.out.nth hlt
        have h0 : (0 : Int) ≤ (j : Int) := by omega
        have h1 : (j : Int) < (n : Int) := by omega
        by_cases hxy : x = y
        · subst hxy
          have hq : ((x : Int) != (x : Int)) = false := by simp
          go_wp2
          go_quiet (fail)
          go_wp2
          go_roundw
          case rel => exact ⟨j + 1, q + nq, by omega, by go_num, rfl, Lib.hid (by rw [nth_take hx, nth_take hy, ht.out])⟩
          case measure => simp [intOf]; omega
        · have hq : ((x : Int) != (y : Int)) = true := by simp; omega
          go_wp2
          go_quiet (fail)
          go_wp2
          go_ret
          refine ⟨ret_bool (decide_eq_false fun e => hxy ?_).symm, q + nq, World.drewN_drewN _ _ _⟩
          subst e
          have := hx.out.symm.trans hy.out
          injection this
      · have hj : j = n := by omega
        subst hj
        go_wp2
        go_ret
        refine ⟨ret_bool (decide_eq_true ?_).symm, q, rfl⟩
        have := ht.out
        rwa [List.take_of_length_le (by have := HL1.out; omega), List.take_of_length_le (by have := HK1.out; omega)] at this
  · have hne : ((n : Int) != (m : Int)) = true := by simp; omega
    go_enter Try.func30, Try.ntmps30
    go_wp2
    go_ret
    exact ⟨ret_bool (decide_eq_false (fun e => hnm (by rw [← HL1.out, ← HK1.out, e]))).symm, 0, rfl⟩

/-- Numbers with signs as numbers without. -/
def fold (n : Int) : Nat := if n < 0 then (-2 * n - 1).toNat else (2 * n).toNat
def unfold_ (n : Nat) : Int := if n % 2 = 1 then -((n / 2 : Nat) : Int) - 1 else ((n / 2 : Nat) : Int)
theorem fold_lt {n : Int} (h1 : -9223372036854775808 ≤ n) (h2 : n < 9223372036854775808) : fold n < 18446744073709551616 := by unfold fold; split <;> omega
theorem unfold_fold (n : Int) : unfold_ (fold n) = n := by unfold unfold_ fold; split <;> split <;> omega
theorem fold_unfold (n : Nat) : fold (unfold_ n) = n := by unfold unfold_ fold; split <;> split <;> omega
theorem unfold_in {n : Nat} (h : n < 18446744073709551616) : -9223372036854775808 ≤ unfold_ n ∧ unfold_ n < 9223372036854775808 := by unfold unfold_; split <;> omega

set_option maxRecDepth 20000 in
theorem fold_any (n : Int) (w : World) (h1 : -9223372036854775808 ≤ n) (h2 : n < 9223372036854775808) :
    Calls Try.prog 32 #[.int .i64 n] w fun e w' => e = .returned (.int .u64 (fold n : Nat)) ∧ w = w' := by
  have H1 := Lib.hid h1; have H2 := Lib.hid h2
  clear h1 h2
  by_cases h : n < 0
  · go_enter Try.func32, Try.ntmps32
    go_wp2
    go_ret
    have := H1.out; have := H2.out
    exact ⟨ret_int (by simp only [IntKind.wrap_u64, wrap64]; unfold fold; split <;> omega), rfl⟩
  · go_enter Try.func32, Try.ntmps32
    go_wp2
    go_ret
    have := H1.out; have := H2.out
    exact ⟨ret_int (by simp only [IntKind.wrap_u64]; unfold fold; split <;> omega), rfl⟩
theorem unfold_any (n : Nat) (w : World) (h1 : n < 18446744073709551616) :
    Calls Try.prog 31 #[.int .u64 n] w fun e w' => e = .returned (.int .i64 (unfold_ n)) ∧ w = w' := by
  have H1 := Lib.hid h1
  clear h1
  by_cases h : n % 2 = 1
  · have hb : (((n : Nat) : Int) % 2 == 1) = true := by simp; omega
    go_enter Try.func31, Try.ntmps31
    go_wp2
    go_ret
    have := H1.out
    exact ⟨ret_int (by simp only [IntKind.wrap_u64, wrap64]; unfold unfold_; split <;> omega), rfl⟩
  · have hb : (((n : Nat) : Int) % 2 == 1) = false := by simp; omega
    go_enter Try.func31, Try.ntmps31
    go_wp2
    go_ret
    have := H1.out
    exact ⟨ret_int (by simp only [IntKind.wrap_u64, wrap64]; unfold unfold_; split <;> omega), rfl⟩
end Go.Proofs.Ytnnhndgeedlpgaa
