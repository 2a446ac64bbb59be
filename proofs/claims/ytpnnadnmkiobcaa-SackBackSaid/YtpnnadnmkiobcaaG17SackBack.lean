/- The document's answers of layer 2, all of them. -/
import Derived.Test.YtpnnadnmkiobcaaG14SackBack

namespace Go.Proofs.Ytpnnadnmkiobcaa
open Go.RowKit
set_option linter.unusedVariables false

set_option maxRecDepth 20000 in
theorem rall_any (A C : Option Addr) (n m c d : Nat) (lb : List Nat) (ss : List Int) (w : World) (hr : Rd w w.heap.size 1 A n (ns .u8 lb)) (hs : Rd w w.heap.size 1 C m (zs .i64 ss)) (hnc : n ≤ c) (hb : ∀ x ∈ lb, x < 256) (hn : n ≤ 100000) (hmd : m ≤ d) (hm : m ≤ 10000) :
    Calls Try.prog 21 #[.slice A n c, .slice C m d] w fun e w' => Below w.heap.size w w' ∧
      ((∃ (xs rest : List Nat) (v : Value) (A' : Option Addr) (n' c' : Nat), cut lb ss = some (xs, rest) ∧ e = .returned (.tuple #[v, .slice A' n' c', .bool true]) ∧ Nats w' 46 .u64 w.heap.size v xs ∧ n' ≤ c' ∧ n' ≤ n ∧ Rd w w.heap.size 1 A' n' (ns .u8 rest)) ∨
      (cut lb ss = none ∧ e = .returned (.tuple #[.slice none 0 0, .slice none 0 0, .bool false]))) := by
  have HR := Lib.hid hr; have HS := Lib.hid hs; have HB := Lib.hid hb; have HLS := Lib.hid hs.intLen
  clear hr hs hb
  go_enter Try.func21, Try.ntmps21
  go_wp2_with fail
  go_loopw [0, 7, 8, 9, 10, 11] (fun b v i _ _ _ wr => ∃ (k : Nat) (A' : Option Addr) (n' c' : Nat) (r acc : List Nat), k ≤ m ∧ i = .int .i64 k ∧ b = .slice A' n' c' ∧ n' ≤ c' ∧ n' ≤ n ∧ acc.length = k ∧ Rd w w.heap.size 1 A' n' (ns .u8 r) ∧ Hid (∀ x ∈ r, x < 256) ∧
      Nats wr 46 .u64 w.heap.size v acc ∧ Hid (cut lb ss = (cut r (ss.drop k)).map (fun p => (acc ++ p.1, p.2))) ∧ Below w.heap.size w wr) (fun _ _ i _ _ _ _ => m - (intOf i).toNat)
  case atStart => exact ⟨0, A, n, c, lb, [], Nat.zero_le _, rfl, rfl, hnc, Nat.le_refl _, rfl, HR.out, HB, Nats.nil _ _ _ _, Lib.hid (by simp), Below.refl _ _⟩
  case round =>
    obtain ⟨k, A', n', c', r, acc, hk, rfl, rfl, hn1, hn2, hal, hr, hb, ha, hv, hbel⟩ := hrel
    have HR' := Lib.hid hr; have HLR := Lib.hid hr.natLen
    clear hr
    by_cases hlt : k < m
    · obtain ⟨bb, off, s, rfl, hbk, hcell, hx⟩ := (HS.out.below hbel).nthz hlt
      have h0 : (0 : Int) ≤ (k : Int) := by omega
      have h2 : (k : Int) < (m : Int) := by omega
      have HG := Lib.hid (rget_any A' n' c' r s w.heap.size wr (HR'.out.below hbel) hn1 hb.out (by omega))
      go_wp2_with fail
      refine HG.out.mono ?_
      clear HG
      rintro e w2 ⟨hb2, hc2⟩
      have hbel2 := hbel.trans (hb2.mono hbel.size)
      have ha2 := ha.below hb2
      rcases hc2 with ⟨t, A2, n2, c2, rfl, ht1, ht8, hnt, hnc2, rfl, hrd⟩ | ⟨hbad, rfl⟩
      · have hv2 := hv.out
        rw [cut_good hx ht1 ht8 (by have := HLR.out; omega)] at hv2
        have HV := Lib.hid hv2
        have HRD : Hid (Rd w w.heap.size 1 A2 n2 (ns .u8 (r.drop t)))  := Lib.hid (Rd.keep hrd (Nat.le_refl _) fun b o hl => (hbel.cell (p := ⟨b, o, none⟩) hl).symm)
        clear hv hv2 hrd
        go_wp2_with (at_builtin; go_must (refine app1n pel64 (ub (r.take t)) rfl _ _ rfl rfl ha2 rfl rfl ?_ ?_ ?_))
        · exact room_ge (by omega)
        · exact hbel2.size
        intro v1 w1 ha1 _ hb1
        go_wp2_with fail
        go_roundw
        case rel =>
          exact ⟨k + 1, A2, n2, c2, r.drop t, acc ++ [ub (r.take t)], by omega, by go_num, rfl, hnc2, by omega, by simp [hal], HRD.out, Lib.hid fun x hx => hb.out x (List.mem_of_mem_drop hx), ha1, Lib.hid (by rw [HV.out]; simp [Function.comp_def]), hbel2.trans hb1⟩
        case measure => simp [intOf]; omega
      · have hv2 := hv.out
        rw [cut_bad hx (by have := HLR.out; subst this; exact hbad)] at hv2
        have HV := Lib.hid hv2
        clear hv hv2 hbad
        go_wp2_with fail
        go_ret3
        exact ⟨hbel2, .inr ⟨HV.out, rfl⟩⟩
    · have hk : k = m := by omega
      subst hk
      have hv2 := hv.out
      rw [List.drop_of_length_le (by have := HLS.out; omega), cut] at hv2
      have HV := Lib.hid hv2
      clear hv hv2
      go_wp2
      go_ret3
      exact ⟨hbel, .inl ⟨acc, r, _, A', n', c', by rw [HV.out]; simp, rfl, ha, hn1, hn2, HR'.out⟩⟩
end Go.Proofs.Ytpnnadnmkiobcaa

/- The document's answers of layer 2, all of them: what is left lies where the bytes lay. -/
namespace Go.Proofs.Ytpnnadnmkiobcaa
open Go.RowKit
set_option linter.unusedVariables false
set_option maxRecDepth 20000 in
theorem rall2_any (A C : Option Addr) (n m c d Bb : Nat) (lb : List Nat) (ss : List Int) (w : World) (hr : Rd w Bb 1 A n (ns .u8 lb)) (hB : Bb ≤ w.heap.size) (hs : Rd w w.heap.size 1 C m (zs .i64 ss)) (hnc : n ≤ c) (hb : ∀ x ∈ lb, x < 256) (hn : n ≤ 100000) (hmd : m ≤ d) (hm : m ≤ 10000) :
    Calls Try.prog 21 #[.slice A n c, .slice C m d] w fun e w' => Below w.heap.size w w' ∧
      ((∃ (xs rest : List Nat) (v : Value) (A' : Option Addr) (n' c' : Nat), cut lb ss = some (xs, rest) ∧ e = .returned (.tuple #[v, .slice A' n' c', .bool true]) ∧ Nats w' 46 .u64 w.heap.size v xs ∧ n' ≤ c' ∧ n' ≤ n ∧ Rd w Bb 1 A' n' (ns .u8 rest)) ∨
      (cut lb ss = none ∧ e = .returned (.tuple #[.slice none 0 0, .slice none 0 0, .bool false]))) := by
  have HR := Lib.hid hr; have HS := Lib.hid hs; have HB := Lib.hid hb; have HLS := Lib.hid hs.intLen
  clear hr hs hb
  go_enter Try.func21, Try.ntmps21
  go_wp2_with fail
  go_loopw [0, 7, 8, 9, 10, 11] (fun b v i _ _ _ wr => ∃ (k : Nat) (A' : Option Addr) (n' c' : Nat) (r acc : List Nat), k ≤ m ∧ i = .int .i64 k ∧ b = .slice A' n' c' ∧ n' ≤ c' ∧ n' ≤ n ∧ acc.length = k ∧ Rd w Bb 1 A' n' (ns .u8 r) ∧ Hid (∀ x ∈ r, x < 256) ∧
      Nats wr 46 .u64 w.heap.size v acc ∧ Hid (cut lb ss = (cut r (ss.drop k)).map (fun p => (acc ++ p.1, p.2))) ∧ Below w.heap.size w wr) (fun _ _ i _ _ _ _ => m - (intOf i).toNat)
  case atStart => exact ⟨0, A, n, c, lb, [], Nat.zero_le _, rfl, rfl, hnc, Nat.le_refl _, rfl, HR.out, HB, Nats.nil _ _ _ _, Lib.hid (by simp), Below.refl _ _⟩
  case round =>
    obtain ⟨k, A', n', c', r, acc, hk, rfl, rfl, hn1, hn2, hal, hr, hb, ha, hv, hbel⟩ := hrel
    have HR' := Lib.hid hr; have HLR := Lib.hid hr.natLen
    clear hr
    by_cases hlt : k < m
    · obtain ⟨bb, off, s, rfl, hbk, hcell, hx⟩ := (HS.out.below hbel).nthz hlt
      have h0 : (0 : Int) ≤ (k : Int) := by omega
      have h2 : (k : Int) < (m : Int) := by omega
      have HG := Lib.hid (rget_any A' n' c' r s Bb wr (HR'.out.below (hbel.mono hB)) hn1 hb.out (by omega))
      go_wp2_with fail
      refine HG.out.mono ?_
      clear HG
      rintro e w2 ⟨hb2, hc2⟩
      have hbel2 := hbel.trans (hb2.mono hbel.size)
      have ha2 := ha.below hb2
      rcases hc2 with ⟨t, A2, n2, c2, rfl, ht1, ht8, hnt, hnc2, rfl, hrd⟩ | ⟨hbad, rfl⟩
      · have hv2 := hv.out
        rw [cut_good hx ht1 ht8 (by have := HLR.out; omega)] at hv2
        have HV := Lib.hid hv2
        have HRD : Hid (Rd w Bb 1 A2 n2 (ns .u8 (r.drop t)))  := Lib.hid (Rd.keep hrd (Nat.le_refl _) fun b o hl => (hbel.cell (p := ⟨b, o, none⟩) (Nat.lt_of_lt_of_le hl hB)).symm)
        clear hv hv2 hrd
        go_wp2_with (at_builtin; go_must (refine app1n pel64 (ub (r.take t)) rfl _ _ rfl rfl ha2 rfl rfl ?_ ?_ ?_))
        · exact room_ge (by omega)
        · exact hbel2.size
        intro v1 w1 ha1 _ hb1
        go_wp2_with fail
        go_roundw
        case rel =>
          exact ⟨k + 1, A2, n2, c2, r.drop t, acc ++ [ub (r.take t)], by omega, by go_num, rfl, hnc2, by omega, by simp [hal], HRD.out, Lib.hid fun x hx => hb.out x (List.mem_of_mem_drop hx), ha1, Lib.hid (by rw [HV.out]; simp [Function.comp_def]), hbel2.trans hb1⟩
        case measure => simp [intOf]; omega
      · have hv2 := hv.out
        rw [cut_bad hx (by have := HLR.out; subst this; exact hbad)] at hv2
        have HV := Lib.hid hv2
        clear hv hv2 hbad
        go_wp2_with fail
        go_ret3
        exact ⟨hbel2, .inr ⟨HV.out, rfl⟩⟩
    · have hk : k = m := by omega
      subst hk
      have hv2 := hv.out
      rw [List.drop_of_length_le (by have := HLS.out; omega), cut] at hv2
      have HV := Lib.hid hv2
      clear hv hv2
      go_wp2
      go_ret3
      exact ⟨hbel, .inl ⟨acc, r, _, A', n', c', by rw [HV.out]; simp, rfl, ha, hn1, hn2, HR'.out⟩⟩
end Go.Proofs.Ytpnnadnmkiobcaa
