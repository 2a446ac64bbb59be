/- Layer 43: Deltas, Undeltas. -/
import Derived.Test.YtnnhndgeedlpgaaVar6
namespace Go.Proofs.Ytnnhndgeedlpgaa
open Go.RowKit
set_option linter.unusedVariables false
theorem elz : El Try.prog 58 2 (.int .i64 0) 1 8 := ⟨Try.underlying58, by kernel_rfl, rfl, by omega, by omega⟩

/-- What 64 bits with a sign keep. -/
def w64 (n : Int) : Int := wrap64 n
theorem w64_in (n : Int) : -9223372036854775808 ≤ w64 n ∧ w64 n < 9223372036854775808 := by unfold w64 wrap64; omega
theorem w64_of {n : Int} (h : -9223372036854775808 ≤ n ∧ n < 9223372036854775808) : w64 n = n := by unfold w64 wrap64; omega
/-- How far each is from the one ahead, folded. -/
def dl (last : Int) : List Int → List Nat
  | [] => []
  | x :: l => fold (w64 (x - last)) :: dl x l
def undl (last : Int) : List Nat → List Int
  | [] => []
  | x :: l => w64 (last + unfold_ x) :: undl (w64 (last + unfold_ x)) l
theorem dl_len (l : List Int) : ∀ last, (dl last l).length = l.length := by
  induction l with
  | nil => intro _; rfl
  | cons x l ih => intro last; simp [dl, ih]
theorem undl_len (l : List Nat) : ∀ last, (undl last l).length = l.length := by
  induction l with
  | nil => intro _; rfl
  | cons x l ih => intro last; simp [undl, ih]
theorem dl_lt (l : List Int) : ∀ last, ∀ x ∈ dl last l, x < 18446744073709551616 := by
  induction l with
  | nil => intro _ x hx; simp [dl] at hx
  | cons y l ih =>
    intro last x hx
    simp [dl] at hx
    rcases hx with rfl | hx
    · exact fold_lt (w64_in _).1 (w64_in _).2
    · exact ih _ x hx
theorem undl_in (l : List Nat) : ∀ last, ∀ x ∈ undl last l, -9223372036854775808 ≤ x ∧ x < 9223372036854775808 := by
  induction l with
  | nil => intro _ x hx; simp [undl] at hx
  | cons y l ih =>
    intro last x hx
    simp [undl] at hx
    rcases hx with rfl | hx
    · exact w64_in _
    · exact ih _ x hx
theorem undl_dl (l : List Int) (h : ∀ x ∈ l, -9223372036854775808 ≤ x ∧ x < 9223372036854775808) : ∀ last, undl last (dl last l) = l := by
  induction l with
  | nil => intro _; rfl
  | cons x l ih =>
    intro last
    have hx := h x (by simp)
    have e : w64 (last + unfold_ (fold (w64 (x - last)))) = x := by rw [unfold_fold]; unfold w64 wrap64; omega
    simp only [dl, undl, e, ih (fun y hy => h y (by simp [hy]))]
theorem dl_undl (u : List Nat) (h : ∀ x ∈ u, x < 18446744073709551616) : ∀ last, dl last (undl last u) = u := by
  induction u with
  | nil => intro _; rfl
  | cons x u ih =>
    intro last
    have hx := unfold_in (h x (by simp))
    have e : fold (w64 (w64 (last + unfold_ x) - last)) = x := by
      have : w64 (w64 (last + unfold_ x) - last) = unfold_ x := by unfold w64 wrap64; omega
      rw [this, fold_unfold]
    simp only [dl, undl, e, ih (fun y hy => h y (by simp [hy]))]

set_option maxRecDepth 20000 in
theorem deltas_any (A : Option Addr) (n c : Nat) (l : List Int) (w : World) (hr : Rd w w.heap.size 1 A n (zs .i64 l)) (hn : n ≤ 100000) :
    Calls Try.prog 35 #[.slice A n c] w fun e w' => ∃ v, e = .returned v ∧ Nats w' 5 .u8 w.heap.size v (vbs (dl 0 l)) ∧ Below w.heap.size w w' := by
  have HR := Lib.hid hr; have HN := Lib.hid hr.intLen
  clear hr
  go_enter Try.func35, Try.ntmps35
  go_wp2
  go_loopw [3, 4, 6, 9] (fun v la _ i wr => ∃ (k : Nat) (z : Int) (acc : List Nat), k ≤ n ∧ i = .int .i64 k ∧ la = .int .i64 z ∧ Nats wr 5 .u8 w.heap.size v acc ∧ acc.length ≤ 10 * k ∧ Hid (vbs (dl 0 l) = acc ++ vbs (dl z (l.drop k))) ∧ Below w.heap.size w wr) (fun _ _ _ i _ => n - (intOf i).toNat)
  case atStart => exact ⟨0, 0, [], Nat.zero_le _, rfl, rfl, Nats.nil _ _ _ _, by simp, Lib.hid (by simp), Below.refl _ _⟩
  case round =>
    obtain ⟨k, z, acc, hk, rfl, rfl, h1, hl, hv, hb⟩ := hrel
    by_cases hlt : k < n
    · obtain ⟨b, off, x, rfl, hbk, hcell, hx⟩ := (HR.out.below hb).nthz hlt
      go_wp2_with fail
      have e1 : wrap64 (x - z) = w64 (x - z) := rfl
      rw [e1]
      refine (fold_any (w64 (x - z)) wr (w64_in _).1 (w64_in _).2).mono ?_
      rintro e w2 ⟨rfl, rfl⟩
      have hlt64 := fold_lt (w64_in (x - z)).1 (w64_in (x - z)).2
      have hv10 := vb_len64 hlt64
      have H64 := Lib.hid hlt64; clear hlt64 e1
      go_wp2_with fail
      refine (write_any _ _ _ _ wr h1 hb.size ?_).mono ?_
      · simp; exact room_ge (by omega)
      rintro e w3 ⟨v3, rfl, h3, hb3⟩
      go_wp2
      go_roundw
      case rel =>
        refine ⟨k + 1, x, acc ++ vb (fold (w64 (x - z))), by omega, by go_num, rfl, h3, by simp; omega, Lib.hid ?_, hb.trans hb3⟩
        rw [hv.out, nth_drop hx]
        simp [dl, vbs]
      case measure => simp [intOf]; omega
    · have hk : k = n := by omega
      subst hk
      go_wp2
      go_ret
      refine ⟨_, rfl, ?_, hb⟩
      rw [hv.out, List.drop_of_length_le (by have := HN.out; omega)]
      simpa [dl, vbs] using h1

set_option maxRecDepth 20000 in
theorem undeltas_any (A : Option Addr) (n c : Nat) (l : List Nat) (w : World) (hr : Rd w w.heap.size 1 A n (ns .u8 l)) (hnc : n ≤ c) (hb : ∀ x ∈ l, x < 256) (hn : n ≤ 100000) :
    Calls Try.prog 34 #[.slice A n c] w fun e w' => Below w.heap.size w w' ∧ ((∃ xs, vall l = some xs ∧ ∃ v, e = .returned (.tuple #[v, .bool true]) ∧ Zats w' 2 .i64 w.heap.size v (undl 0 xs)) ∨
      (vall l = none ∧ e = .returned (.tuple #[.slice none 0 0, .bool false]))) := by
  have HR := Lib.hid hr; have HB := Lib.hid hb; have HN := Lib.hid hr.natLen
  clear hr hb
  go_enter Try.func34, Try.ntmps34
  go_wp2_with fail
  refine (all_any A n c l w HR.out hnc HB.out hn).mono ?_
  rintro e w1 ⟨hb1, hc⟩
  rcases hc with ⟨xs, hv, v1, rfl, h1⟩ | ⟨hv, rfl⟩
  · have HV := Lib.hid hv
    have hxl := vall_len hv
    rw [HN.out] at hxl
    have H64 := Lib.hid (vbs_vall l xs hv).2
    clear hv
    obtain ⟨A1, c1, rfl, hc1⟩ := h1.form
    have hz1 := hb1.size
    have R1 := Lib.hid h1.rd
    go_wp2_with (at_make; go_must (refine mkz (k := .i64) (kl := .i64) (kc := .i64) (base := w1.heap.size) elz rfl _ _ rfl xs.length rfl rfl rfl ?_ (Nat.le_refl _) ?_))
    · exact room_ge (by omega)
    intro w2 h2 hb2
    clear h1
    go_wp2
    go_loopw [6, 7, 9, 22] (fun v la _ i wr => ∃ (k : Nat) (z : Int) (acc : List Int), k ≤ xs.length ∧ i = .int .i64 k ∧ la = .int .i64 z ∧ Zats wr 2 .i64 w1.heap.size v acc ∧ acc.length = k ∧ Hid (undl 0 xs = acc ++ undl z (xs.drop k)) ∧ Below w1.heap.size w1 wr) (fun _ _ _ i _ => xs.length - (intOf i).toNat)
    case atStart => exact ⟨0, 0, [], Nat.zero_le _, rfl, rfl, h2, rfl, Lib.hid (by simp), hb2⟩
    case round =>
      obtain ⟨k, z, acc, hk, rfl, rfl, h3, hl, hv, hb3⟩ := hrel
      have HLEN := Lib.hid hl
      clear h2 hb2 hl
      by_cases hlt : k < xs.length
      · obtain ⟨b, off, x, rfl, hbk, hcell, hx⟩ := (R1.out.below hb3).nth hlt
        go_wp2_with fail
        refine (unfold_any x wr (H64.out _ (nth_mem hx))).mono ?_
        rintro e w4 ⟨rfl, rfl⟩
        have e1 : wrap64 (z + unfold_ x) = w64 (z + unfold_ x) := rfl
        go_wp2_with (at_builtin; go_must (refine app1z elz (w64 (z + unfold_ x)) rfl _ _ rfl rfl h3 rfl rfl ?_ ?_ ?_))
        · have := HLEN.out; exact room_ge (by omega)
        · exact hb3.size
        intro v5 w5 h5 _ hb5
        go_wp2
        go_roundw
        case rel =>
          refine ⟨k + 1, w64 (z + unfold_ x), acc ++ [w64 (z + unfold_ x)], by omega, by go_num, rfl, h5, by simp [HLEN.out], Lib.hid ?_, hb3.trans hb5⟩
          rw [hv.out, nth_drop hx]
          simp [undl]
        case measure => simp [intOf]; omega
      · have hk : k = xs.length := by omega
        subst hk
        go_wp2
        go_ret2
        refine ⟨hb1.trans (hb3.mono hb1.size), .inl ⟨xs, HV.out, _, rfl, ?_⟩⟩
        rw [hv.out, List.drop_of_length_le (Nat.le_refl _)]
        have := h3.mono hb1.size
        simpa [undl] using this
  · have HV := Lib.hid hv; clear hv
    go_wp2_with fail
    go_ret2
    exact ⟨hb1, .inr ⟨HV.out, rfl⟩⟩
end Go.Proofs.Ytnnhndgeedlpgaa
