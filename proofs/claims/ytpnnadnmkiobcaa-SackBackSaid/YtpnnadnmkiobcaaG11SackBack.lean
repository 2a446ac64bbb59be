/- Contracts of package pack: split. -/
import Derived.Test.YtpnnadnmkiobcaaG9SackBack
import Derived.OwnWalk

namespace Go.Proofs.Ytpnnadnmkiobcaa
open Go.RowKit
set_option linter.unusedVariables false

/-- The numbers of these sizes, and what is left. -/
def cut : List Nat → List Int → Option (List Nat × List Nat)
  | b, [] => some ([], b)
  | b, s :: r => if okS s && decide (s.toNat ≤ b.length) then (cut (b.drop s.toNat) r).map (fun p => (ub (b.take s.toNat) :: p.1, p.2)) else none
theorem cut_bad {b : List Nat} {ss : List Int} {k : Nat} {s : Int} (hx : Hid (ss[k]? = some s)) (h : okS s = false ∨ ¬ s.toNat ≤ b.length) : cut b (ss.drop k) = none := by
  rw [nth_drop hx, cut, if_neg]
  rcases h with h | h <;> simp [h]
theorem cut_good {b : List Nat} {ss : List Int} {k : Nat} {t : Nat} (hx : Hid (ss[k]? = some (t : Int))) (h1 : 1 ≤ t) (h2 : t ≤ 8) (h3 : t ≤ b.length) :
    cut b (ss.drop k) = (cut (b.drop t) (ss.drop (k + 1))).map (fun p => (ub (b.take t) :: p.1, p.2)) := by
  rw [nth_drop hx, cut, if_pos]
  · simp
  · simp [okS]; omega

set_option maxRecDepth 20000 in
theorem psplit_any (A C : Option Addr) (n m c d : Nat) (lb : List Nat) (ss : List Int) (w : World) (hr : Rd w w.heap.size 1 A n (ns .u8 lb)) (hs : Rd w w.heap.size 1 C m (zs .i64 ss)) (hnc : n ≤ c) (hb : ∀ x ∈ lb, x < 256) (hn : n ≤ 100000) (hm : m ≤ 100000) :
    Calls Try.prog 30 #[.slice A n c, .slice C m d] w fun e w' => Below w.heap.size w w' ∧
      ((∃ (xs rest : List Nat) (v : Value) (A' : Option Addr) (n' c' : Nat), cut lb ss = some (xs, rest) ∧ e = .returned (.tuple #[v, .slice A' n' c', .bool true]) ∧ Nats w' 46 .u64 w.heap.size v xs ∧ n' ≤ c' ∧ n' ≤ n ∧ Rd w w.heap.size 1 A' n' (ns .u8 rest)) ∨
      (cut lb ss = none ∧ e = .returned (.tuple #[.slice none 0 0, .slice none 0 0, .bool false]))) := by
  have HR := Lib.hid hr; have HS := Lib.hid hs; have HB := Lib.hid hb; have HLS := Lib.hid hs.intLen
  clear hr hs hb
  obtain ⟨mm, hmm⟩ : ∃ mm : Nat, mm = min m n := ⟨_, rfl⟩
  have hmin : min (m : Int) (n : Int) = (mm : Int) := by omega
  have hmle : mm ≤ 100000 := by omega
  clear hmm
  by_cases hmn : (m : Int) < (n : Int)
  · have hmn2 : ¬ (n : Int) < (m : Int) := by omega
    have hmn3 : m < n := by omega
    have hmn4 : ¬ n < m := by omega
    have hmn5 : (m : Int) ≤ (n : Int) := by omega
    go_enter Try.func30, Try.ntmps30
    go_wp2_with (at_make; go_must (refine mkn (k := .u64) (kl := .i64) (kc := .i64) (base := w.heap.size) pel64 rfl _ _ rfl mm rfl rfl ?_ ?_ (Nat.le_refl _) ?_))
    · first | rfl | exact hmin | omega
    · exact room_ge (by omega)
    intro w1 h1 hb1
    go_wp2_with fail
    go_loopw [0, 7, 9, 18] (fun b v _ i wr => ∃ (k : Nat) (A' : Option Addr) (n' c' : Nat) (r acc : List Nat), k ≤ m ∧ i = .int .i64 k ∧ b = .slice A' n' c' ∧ n' ≤ c' ∧ n' ≤ n ∧ acc.length = k ∧ Rd w w.heap.size 1 A' n' (ns .u8 r) ∧ Hid (∀ x ∈ r, x < 256) ∧
        Nats wr 46 .u64 w.heap.size v acc ∧ Hid (cut lb ss = (cut r (ss.drop k)).map (fun p => (acc ++ p.1, p.2))) ∧ Below w.heap.size w wr) (fun _ _ _ i _ => m - (intOf i).toNat)
    case atStart => exact ⟨0, A, n, c, lb, [], Nat.zero_le _, rfl, rfl, hnc, Nat.le_refl _, rfl, HR.out, HB, h1, Lib.hid (by simp), hb1⟩
    case round =>
      obtain ⟨k, A', n', c', r, acc, hk, rfl, rfl, hn1, hn2, hal, hr, hb, ha, hv, hbel⟩ := hrel
      clear h1 hb1
      have HR' := Lib.hid hr; have HLR := Lib.hid hr.natLen
      clear hr
      by_cases hlt : k < m
      · obtain ⟨bb, off, s, rfl, hbk, hcell, hx⟩ := (HS.out.below hbel).nthz hlt
        have hI := isSize_any s
        cases hok : okS s with
        | false =>
          rw [cut_bad hx (.inl hok)] at hv
          simp only [hok] at hI
          have HI := Lib.hid hI
          clear hok hI
          go_wp2_with fail
          refine (HI.out _).mono ?_
          rintro e w2 ⟨rfl, rfl⟩
          go_wp2_with fail
          go_ret3
          exact ⟨hbel, .inr ⟨hv.out, rfl⟩⟩
        | true =>
          have h18 : 1 ≤ s ∧ s ≤ 8 := by simpa [okS] using hok
          obtain ⟨g1, g2⟩ := h18
          obtain ⟨t, rfl⟩ : ∃ t : Nat, s = (t : Int) := ⟨s.toNat, by omega⟩
          simp only [hok] at hI
          have HI := Lib.hid hI
          clear hok hI
          by_cases hle : t ≤ n'
          · have hv2 := hv.out
            rw [cut_good hx (by omega) (by omega) (by have := HLR.out; omega)] at hv2
            have HV := Lib.hid hv2
            clear hv hv2
            have h0 : (0 : Int) ≤ (t : Int) := by omega
            have h2 : (t : Int) ≤ (n' : Int) := by omega
            have h3 : (t : Int) ≤ (c' : Int) := by omega
            have h4 : decide ((n' : Int) < (t : Int)) = false := by simp; omega
            have HRT := Lib.hid (((HR'.out.takeN hle).below hbel).mono hbel.size)
            go_wp2_with fail
            refine (HI.out _).mono ?_
            rintro e w2 ⟨rfl, rfl⟩
            go_wp2_with fail
            refine (pnumber_any A' t c' (r.take t) wr HRT.out (fun x hx => hb.out x (List.mem_of_mem_take hx)) (by omega)).mono ?_
            rintro e w2 ⟨rfl, rfl⟩
            go_wp2_with (at_builtin; go_must (refine app1n pel64 (ub (r.take t)) rfl _ _ rfl rfl ha rfl rfl ?_ ?_ ?_))
            · exact room_ge (by omega)
            · exact hbel.size
            intro v1 w1 ha1 _ hb1
            go_wp2_with fail
            go_roundw
            case rel =>
              refine ⟨k + 1, _, n' - t, c' - t, r.drop t, acc ++ [ub (r.take t)], by omega, by go_num, ?_, by omega, by omega, by simp [hal], HR'.out.dropN hle hn1, Lib.hid fun x hx => hb.out x (List.mem_of_mem_drop hx), ha1, Lib.hid ?_, hbel.trans hb1⟩
              · simp
              · rw [HV.out]; simp [Function.comp_def]
            case measure => simp [intOf]; omega
          · have hv2 := hv.out
            rw [cut_bad hx (.inr (by have := HLR.out; simp; omega))] at hv2
            have HV := Lib.hid hv2
            clear hv hv2
            have h4 : (n' : Int) < (t : Int) := by omega
            go_wp2_with fail
            refine (HI.out _).mono ?_
            rintro e w2 ⟨rfl, rfl⟩
            go_wp2_with fail
            go_ret3
            exact ⟨hbel, .inr ⟨HV.out, rfl⟩⟩
      · have hk : k = m := by omega
        subst hk
        have hv2 := hv.out
        rw [List.drop_of_length_le (by have := HLS.out; omega), cut] at hv2
        have HV := Lib.hid hv2
        clear hv hv2
        go_wp2
        go_ret3
        exact ⟨hbel, .inl ⟨acc, r, _, A', n', c', by rw [HV.out]; simp, rfl, ha, hn1, hn2, HR'.out⟩⟩
  by_cases hnm : (n : Int) < (m : Int)
  · have hmn3 : n < m := by omega
    have hmn4 : ¬ m < n := by omega
    have hmn5 : (n : Int) ≤ (m : Int) := by omega
    go_enter Try.func30, Try.ntmps30
    go_wp2_with (at_make; go_must (refine mkn (k := .u64) (kl := .i64) (kc := .i64) (base := w.heap.size) pel64 rfl _ _ rfl mm rfl rfl ?_ ?_ (Nat.le_refl _) ?_))
    · first | rfl | exact hmin | omega
    · exact room_ge (by omega)
    intro w1 h1 hb1
    go_wp2_with fail
    go_loopw [0, 7, 9, 18] (fun b v _ i wr => ∃ (k : Nat) (A' : Option Addr) (n' c' : Nat) (r acc : List Nat), k ≤ m ∧ i = .int .i64 k ∧ b = .slice A' n' c' ∧ n' ≤ c' ∧ n' ≤ n ∧ acc.length = k ∧ Rd w w.heap.size 1 A' n' (ns .u8 r) ∧ Hid (∀ x ∈ r, x < 256) ∧
        Nats wr 46 .u64 w.heap.size v acc ∧ Hid (cut lb ss = (cut r (ss.drop k)).map (fun p => (acc ++ p.1, p.2))) ∧ Below w.heap.size w wr) (fun _ _ _ i _ => m - (intOf i).toNat)
    case atStart => exact ⟨0, A, n, c, lb, [], Nat.zero_le _, rfl, rfl, hnc, Nat.le_refl _, rfl, HR.out, HB, h1, Lib.hid (by simp), hb1⟩
    case round =>
      obtain ⟨k, A', n', c', r, acc, hk, rfl, rfl, hn1, hn2, hal, hr, hb, ha, hv, hbel⟩ := hrel
      clear h1 hb1
      have HR' := Lib.hid hr; have HLR := Lib.hid hr.natLen
      clear hr
      by_cases hlt : k < m
      · obtain ⟨bb, off, s, rfl, hbk, hcell, hx⟩ := (HS.out.below hbel).nthz hlt
        have hI := isSize_any s
        cases hok : okS s with
        | false =>
          rw [cut_bad hx (.inl hok)] at hv
          simp only [hok] at hI
          have HI := Lib.hid hI
          clear hok hI
          go_wp2_with fail
          refine (HI.out _).mono ?_
          rintro e w2 ⟨rfl, rfl⟩
          go_wp2_with fail
          go_ret3
          exact ⟨hbel, .inr ⟨hv.out, rfl⟩⟩
        | true =>
          have h18 : 1 ≤ s ∧ s ≤ 8 := by simpa [okS] using hok
          obtain ⟨g1, g2⟩ := h18
          obtain ⟨t, rfl⟩ : ∃ t : Nat, s = (t : Int) := ⟨s.toNat, by omega⟩
          simp only [hok] at hI
          have HI := Lib.hid hI
          clear hok hI
          by_cases hle : t ≤ n'
          · have hv2 := hv.out
            rw [cut_good hx (by omega) (by omega) (by have := HLR.out; omega)] at hv2
            have HV := Lib.hid hv2
            clear hv hv2
            have h0 : (0 : Int) ≤ (t : Int) := by omega
            have h2 : (t : Int) ≤ (n' : Int) := by omega
            have h3 : (t : Int) ≤ (c' : Int) := by omega
            have h4 : decide ((n' : Int) < (t : Int)) = false := by simp; omega
            have HRT := Lib.hid (((HR'.out.takeN hle).below hbel).mono hbel.size)
            go_wp2_with fail
            refine (HI.out _).mono ?_
            rintro e w2 ⟨rfl, rfl⟩
            go_wp2_with fail
            refine (pnumber_any A' t c' (r.take t) wr HRT.out (fun x hx => hb.out x (List.mem_of_mem_take hx)) (by omega)).mono ?_
            rintro e w2 ⟨rfl, rfl⟩
            go_wp2_with (at_builtin; go_must (refine app1n pel64 (ub (r.take t)) rfl _ _ rfl rfl ha rfl rfl ?_ ?_ ?_))
            · exact room_ge (by omega)
            · exact hbel.size
            intro v1 w1 ha1 _ hb1
            go_wp2_with fail
            go_roundw
            case rel =>
              refine ⟨k + 1, _, n' - t, c' - t, r.drop t, acc ++ [ub (r.take t)], by omega, by go_num, ?_, by omega, by omega, by simp [hal], HR'.out.dropN hle hn1, Lib.hid fun x hx => hb.out x (List.mem_of_mem_drop hx), ha1, Lib.hid ?_, hbel.trans hb1⟩
              · simp
              · rw [HV.out]; simp [Function.comp_def]
            case measure => simp [intOf]; omega
          · have hv2 := hv.out
            rw [cut_bad hx (.inr (by have := HLR.out; simp; omega))] at hv2
            have HV := Lib.hid hv2
            clear hv hv2
            have h4 : (n' : Int) < (t : Int) := by omega
            go_wp2_with fail
            refine (HI.out _).mono ?_
            rintro e w2 ⟨rfl, rfl⟩
            go_wp2_with fail
            go_ret3
            exact ⟨hbel, .inr ⟨HV.out, rfl⟩⟩
      · have hk : k = m := by omega
        subst hk
        have hv2 := hv.out
        rw [List.drop_of_length_le (by have := HLS.out; omega), cut] at hv2
        have HV := Lib.hid hv2
        clear hv hv2
        go_wp2
        go_ret3
        exact ⟨hbel, .inl ⟨acc, r, _, A', n', c', by rw [HV.out]; simp, rfl, ha, hn1, hn2, HR'.out⟩⟩
  · have hmn3 : ¬ n < m := by omega
    have hmn4 : ¬ m < n := by omega
    have hmn5 : (n : Int) ≤ (m : Int) := by omega
    have hmn6 : (m : Int) ≤ (n : Int) := by omega
    go_enter Try.func30, Try.ntmps30
    go_wp2_with (at_make; go_must (refine mkn (k := .u64) (kl := .i64) (kc := .i64) (base := w.heap.size) pel64 rfl _ _ rfl mm rfl rfl ?_ ?_ (Nat.le_refl _) ?_))
    · first | rfl | exact hmin | omega
    · exact room_ge (by omega)
    intro w1 h1 hb1
    go_wp2_with fail
    go_loopw [0, 7, 9, 18] (fun b v _ i wr => ∃ (k : Nat) (A' : Option Addr) (n' c' : Nat) (r acc : List Nat), k ≤ m ∧ i = .int .i64 k ∧ b = .slice A' n' c' ∧ n' ≤ c' ∧ n' ≤ n ∧ acc.length = k ∧ Rd w w.heap.size 1 A' n' (ns .u8 r) ∧ Hid (∀ x ∈ r, x < 256) ∧
        Nats wr 46 .u64 w.heap.size v acc ∧ Hid (cut lb ss = (cut r (ss.drop k)).map (fun p => (acc ++ p.1, p.2))) ∧ Below w.heap.size w wr) (fun _ _ _ i _ => m - (intOf i).toNat)
    case atStart => exact ⟨0, A, n, c, lb, [], Nat.zero_le _, rfl, rfl, hnc, Nat.le_refl _, rfl, HR.out, HB, h1, Lib.hid (by simp), hb1⟩
    case round =>
      obtain ⟨k, A', n', c', r, acc, hk, rfl, rfl, hn1, hn2, hal, hr, hb, ha, hv, hbel⟩ := hrel
      clear h1 hb1
      have HR' := Lib.hid hr; have HLR := Lib.hid hr.natLen
      clear hr
      by_cases hlt : k < m
      · obtain ⟨bb, off, s, rfl, hbk, hcell, hx⟩ := (HS.out.below hbel).nthz hlt
        have hI := isSize_any s
        cases hok : okS s with
        | false =>
          rw [cut_bad hx (.inl hok)] at hv
          simp only [hok] at hI
          have HI := Lib.hid hI
          clear hok hI
          go_wp2_with fail
          refine (HI.out _).mono ?_
          rintro e w2 ⟨rfl, rfl⟩
          go_wp2_with fail
          go_ret3
          exact ⟨hbel, .inr ⟨hv.out, rfl⟩⟩
        | true =>
          have h18 : 1 ≤ s ∧ s ≤ 8 := by simpa [okS] using hok
          obtain ⟨g1, g2⟩ := h18
          obtain ⟨t, rfl⟩ : ∃ t : Nat, s = (t : Int) := ⟨s.toNat, by omega⟩
          simp only [hok] at hI
          have HI := Lib.hid hI
          clear hok hI
          by_cases hle : t ≤ n'
          · have hv2 := hv.out
            rw [cut_good hx (by omega) (by omega) (by have := HLR.out; omega)] at hv2
            have HV := Lib.hid hv2
            clear hv hv2
            have h0 : (0 : Int) ≤ (t : Int) := by omega
            have h2 : (t : Int) ≤ (n' : Int) := by omega
            have h3 : (t : Int) ≤ (c' : Int) := by omega
            have h4 : decide ((n' : Int) < (t : Int)) = false := by simp; omega
            have HRT := Lib.hid (((HR'.out.takeN hle).below hbel).mono hbel.size)
            go_wp2_with fail
            refine (HI.out _).mono ?_
            rintro e w2 ⟨rfl, rfl⟩
            go_wp2_with fail
            refine (pnumber_any A' t c' (r.take t) wr HRT.out (fun x hx => hb.out x (List.mem_of_mem_take hx)) (by omega)).mono ?_
            rintro e w2 ⟨rfl, rfl⟩
            go_wp2_with (at_builtin; go_must (refine app1n pel64 (ub (r.take t)) rfl _ _ rfl rfl ha rfl rfl ?_ ?_ ?_))
            · exact room_ge (by omega)
            · exact hbel.size
            intro v1 w1 ha1 _ hb1
            go_wp2_with fail
            go_roundw
            case rel =>
              refine ⟨k + 1, _, n' - t, c' - t, r.drop t, acc ++ [ub (r.take t)], by omega, by go_num, ?_, by omega, by omega, by simp [hal], HR'.out.dropN hle hn1, Lib.hid fun x hx => hb.out x (List.mem_of_mem_drop hx), ha1, Lib.hid ?_, hbel.trans hb1⟩
              · simp
              · rw [HV.out]; simp [Function.comp_def]
            case measure => simp [intOf]; omega
          · have hv2 := hv.out
            rw [cut_bad hx (.inr (by have := HLR.out; simp; omega))] at hv2
            have HV := Lib.hid hv2
            clear hv hv2
            have h4 : (n' : Int) < (t : Int) := by omega
            go_wp2_with fail
            refine (HI.out _).mono ?_
            rintro e w2 ⟨rfl, rfl⟩
            go_wp2_with fail
            go_ret3
            exact ⟨hbel, .inr ⟨HV.out, rfl⟩⟩
      · have hk : k = m := by omega
        subst hk
        have hv2 := hv.out
        rw [List.drop_of_length_le (by have := HLS.out; omega), cut] at hv2
        have HV := Lib.hid hv2
        clear hv hv2
        go_wp2
        go_ret3
        exact ⟨hbel, .inl ⟨acc, r, _, A', n', c', by rw [HV.out]; simp, rfl, ha, hn1, hn2, HR'.out⟩⟩
end Go.Proofs.Ytpnnadnmkiobcaa
