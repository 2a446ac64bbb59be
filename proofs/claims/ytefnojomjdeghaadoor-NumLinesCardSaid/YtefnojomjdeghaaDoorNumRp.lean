/- The reference's Pieces, Same, Line. -/
import Derived.Test.YtefnojomjdeghaaDoorNumPc
import Derived.BigQuiet
import Derived.Deep.QuietTactic
namespace Go.Proofs.YtefnojomjdeghaaDoor
open Go.RowKit
set_option linter.unusedVariables false
def At2 (l : List Nat) (ps : List (List Nat)) (now : List Nat) (i : Nat) : Prop := pcs [] l = ps ++ pcs now (l.drop i)
theorem At2.other {l : List Nat} {ps : List (List Nat)} {now : List Nat} {i c : Nat} (h : At2 l ps now i) (hi : i < l.length) (hc : l.getD i 0 = c) (h1 : c ≠ 35) (h2 : c ≠ 32) : At2 l ps (now ++ [c]) (i + 1) := by
  unfold At2 at *
  rw [h, drop_cons l i hi, hc, pcs, if_neg h1, if_neg h2]
theorem At2.blank {l : List Nat} {ps : List (List Nat)} {now : List Nat} {i c : Nat} (h : At2 l ps now i) (hi : i < l.length) (hc : l.getD i 0 = c) (h2 : c = 32) : At2 l (ps ++ fl now) [] (i + 1) := by
  unfold At2 at *
  rw [h, drop_cons l i hi, hc, pcs, if_neg (by omega), if_pos h2, List.append_assoc]
theorem At2.sharp {l : List Nat} {ps : List (List Nat)} {now : List Nat} {i c : Nat} (h : At2 l ps now i) (hi : i < l.length) (hc : l.getD i 0 = c) (h2 : c = 35) : pcs [] l = ps ++ fl now := by
  unfold At2 at *
  rw [h, drop_cons l i hi, hc, pcs, if_pos h2]
theorem At2.end_ {l : List Nat} {ps : List (List Nat)} {now : List Nat} {i : Nat} (h : At2 l ps now i) (hi : l.length ≤ i) : pcs [] l = ps ++ fl now := by
  unfold At2 at *
  rw [h, List.drop_eq_nil_of_le hi]
  rfl
theorem At2.len {l : List Nat} {ps : List (List Nat)} {now : List Nat} {i : Nat} (h : At2 l ps now i) : ps.length ≤ l.length + 1 := by
  have := pcs_len l []
  unfold At2 at h
  rw [h, List.length_append] at this
  omega
theorem extract1 (s : ByteArray) (i : Nat) (h : i < s.size) : nats (s.extract i (i + 1)) = [(nats s).getD i 0] := by
  rw [nats_extract, Nat.add_sub_cancel_left, drop_cons _ _ (by rw [nats_len]; exact h)]
  rfl
theorem fl_empty {x : ByteArray} (h : x.size = 0) : fl (nats x) = [] := by
  have : nats x = [] := List.eq_nil_of_length_eq_zero (by rw [nats_len]; exact h)
  unfold fl
  rw [if_pos this]
theorem fl_full {x : ByteArray} (h : ¬ x.size = 0) : fl (nats x) = [nats x] := by
  have : nats x ≠ [] := by intro h'; have := nats_len x; rw [h'] at this; exact h this.symm
  unfold fl
  rw [if_neg this]
theorem empty_of {x : ByteArray} (h : x.size = 0) : x.toList.isEmpty = true := by rw [List.isEmpty_iff]; exact List.eq_nil_of_length_eq_zero (by rw [size_toList]; exact h)
theorem full_of {x : ByteArray} (h : ¬ x.size = 0) : x.toList.isEmpty = false := by
  cases h' : x.toList with
  | nil => have := size_toList x; rw [h'] at this; exact absurd this.symm h
  | cons _ _ => rfl
set_option maxHeartbeats 1000000 in
set_option maxRecDepth 20000 in
theorem rpieces_any (s : ByteArray) (w : World) (hs : s.size ≤ 99000) : Calls Tryd.prog 19 #[.string s] w fun e w' => Kp w.heap.size ((pcs [] (nats s)).map strN) w e w' := by
  have hsz' : (s.size : Int) ≤ 99000 := by omega
  go_enter Tryd.func19, Tryd.ntmps19
  go_wp2_with fail
  go_loopw [3, 4, 5] (fun lv xv iv wr => ∃ (i : Nat) (x : ByteArray) (ps : List (List Nat)), i ≤ s.size ∧ iv = .int .i64 i ∧ xv = .string x ∧ x.size ≤ i ∧ Hid (Strs wr w.heap.size lv (ps.map strN)) ∧ Hid (At2 (nats s) ps (nats x) i) ∧ Below w.heap.size w wr) (fun _ _ iv _ => s.size - (intOf iv).toNat)
  case atStart => exact ⟨0, ByteArray.empty, [], by omega, rfl, rfl, by decide, Lib.hid (Strs.nil _ _), Lib.hid (by unfold At2; simp [nats_empty]), Below.refl _ _⟩
  case round =>
    obtain ⟨i, x, ps, hi', rfl, rfl, hx, HS, HA, hbw⟩ := hrel
    have hpl := HA.out.len
    rw [nats_len] at hpl
    by_cases hp : i < s.size
    · have hp' : (i : Int) < (s.size : Int) := by omega
      have hpn : i < (nats s).length := by rw [nats_len]; exact hp
      have hx1 := run_sidx (P := Tryd.prog) Tryd.underlying9 s i hp
      have hex := extract1 s i hp
      have ho := HA.out.other hpn rfl
      have hbk := HA.out.blank hpn rfl
      have hsp := HA.out.sharp hpn rfl
      have hes : (s.extract i (i + 1)).size = 1 := by rw [← nats_len, hex]; rfl
      generalize (nats s).getD i 0 = c at hx1 hex ho hbk hsp
      have hsum : ¬ 9223372036854775807 < x.size + (s.extract i (i + 1)).size := by omega
      have HEX := Lib.hid hex; have HO := Lib.hid ho; have HBK := Lib.hid hbk; have HSP := Lib.hid hsp; have HES := Lib.hid hes
      clear hex ho hbk hsp hes
      by_cases h35 : c = 35
      · subst h35
        have HSP2 := Lib.hid (HSP.out rfl)
        clear HSP HBK HO
        by_cases h0 : x.size = 0
        · have g2 := empty_of h0
          have hf := fl_empty h0
          have HF := Lib.hid hf
          clear h0 hf
          go_wp2_with fail
          go_ret
          refine ⟨_, rfl, ?_, hbw⟩
          rw [HSP2.out, HF.out, List.append_nil]
          exact HS.out
        · have g2 := full_of h0
          have hf := fl_full h0
          have HF := Lib.hid hf
          clear h0 hf
          go_wp2_with (at_builtin; go_must (refine app1s x rfl _ _ rfl rfl HS.out rfl rfl ?_ ?_ ?_))
          · rw [List.length_map]; exact room_ge (by omega)
          · exact hbw.size
          intro v2 w2 hn2 _ hb2
          go_wp2
          go_ret
          refine ⟨_, rfl, ?_, hbw.trans hb2⟩
          rw [HSP2.out, HF.out, List.map_append]
          simpa [strN_nats] using hn2
      have h35' : ((c : Int) == 35) = false := beq_eq_false_iff_ne.2 (by omega)
      have h35n : ¬ (c : Int) = 35 := by omega
      by_cases h32 : c = 32
      · subst h32
        have HBK2 := Lib.hid (HBK.out rfl)
        clear HSP HBK HO
        by_cases h0 : x.size = 0
        · have g2 := empty_of h0
          have hf := fl_empty h0
          have HF := Lib.hid hf
          clear h0 hf
          go_wp2_with fail
          go_roundw
          case rel => exact ⟨i + 1, ByteArray.empty, ps, by omega, by go_num, rfl, by show 0 ≤ i + 1; omega, HS, Lib.hid (by have := HBK2.out; rw [HF.out, List.append_nil] at this; exact this), hbw⟩
          case measure => simp [intOf]; omega
        · have g2 := full_of h0
          have hf := fl_full h0
          have HF := Lib.hid hf
          clear h0 hf
          go_wp2_with (at_builtin; go_must (refine app1s x rfl _ _ rfl rfl HS.out rfl rfl ?_ ?_ ?_))
          · rw [List.length_map]; exact room_ge (by omega)
          · exact hbw.size
          intro v2 w2 hn2 _ hb2
          go_wp2
          go_roundw
          case rel => exact ⟨i + 1, ByteArray.empty, ps ++ [nats x], by omega, by go_num, rfl, by show 0 ≤ i + 1; omega, Lib.hid (by rw [List.map_append]; simpa [strN_nats] using hn2), Lib.hid (by have := HBK2.out; rw [HF.out] at this; exact this), hbw.trans hb2⟩
          case measure => simp [intOf]; omega
      have h32' : ((c : Int) == 32) = false := beq_eq_false_iff_ne.2 (by omega)
      have h32n : ¬ (c : Int) = 32 := by omega
      have HO2 := Lib.hid (HO.out h35 h32)
      clear HSP HBK HO
      go_wp2_with fail
      go_roundw
      case rel => exact ⟨i + 1, x ++ s.extract i (i + 1), ps, by omega, by go_num, rfl, by rw [ByteArray.size_append, HES.out]; omega, HS, Lib.hid (by rw [nats_append, HEX.out]; exact HO2.out), hbw⟩
      case measure => simp [intOf]; omega
    · have hp' : (s.size : Int) ≤ (i : Int) := by omega
      have HSP2 := Lib.hid (HA.out.end_ (by rw [nats_len]; omega))
      by_cases h0 : x.size = 0
      · have g2 := empty_of h0
        have hf := fl_empty h0
        have HF := Lib.hid hf
        clear h0 hf
        go_wp2_with fail
        go_ret
        refine ⟨_, rfl, ?_, hbw⟩
        rw [HSP2.out, HF.out, List.append_nil]
        exact HS.out
      · have g2 := full_of h0
        have hf := fl_full h0
        have HF := Lib.hid hf
        clear h0 hf
        go_wp2_with (at_builtin; go_must (refine app1s x rfl _ _ rfl rfl HS.out rfl rfl ?_ ?_ ?_))
        · rw [List.length_map]; exact room_ge (by omega)
        · exact hbw.size
        intro v2 w2 hn2 _ hb2
        go_wp2
        go_ret
        refine ⟨_, rfl, ?_, hbw.trans hb2⟩
        rw [HSP2.out, HF.out, List.map_append]
        simpa [strN_nats] using hn2
end Go.Proofs.YtefnojomjdeghaaDoor
