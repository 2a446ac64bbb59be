/- Package heap: rise, sink. -/
import Derived.Test.YtkekmcolekomjaaHep1
namespace Go.Proofs.Ytkekmcolekomjaa
open Go.RowKit
set_option linter.unusedVariables false
set_option linter.unusedSimpArgs false
set_option maxRecDepth 20000 in
set_option maxHeartbeats 400000 in
theorem hrise_any (g rb most puts n c i0 : Nat) (l0 : List Nd) (w : World) (h : HpR w g rb most puts n c l0) (hi0 : i0 < n) (hu : HU l0 i0) :
    Calls Try.prog 28 #[.pointer (some ⟨g, 0, none⟩), .int .i64 (i0 : Nat)] w fun e w' => e = .returned (.tuple #[]) ∧ (∃ l, Hp l ∧ l.Perm l0 ∧ HpR w' g rb most puts n c l) ∧ Solo rb w w' := by
  have H := Lib.hid h
  have HUU := Lib.hid hu
  have hms := h.ms
  clear h hu
  go_enter Try.func28, Try.ntmps28
  go_wp2_with fail
  go_loopw [1] (fun iv wr => ∃ (i : Nat) (l : List Nd), i < n ∧ iv = .int .i64 (i : Nat) ∧ Hid (HU l i) ∧ Hid (l.Perm l0) ∧ Hid (HpR wr g rb most puts n c l) ∧ Hid (Solo rb w wr)) (fun iv _ => (intOf iv).toNat)
  case atStart => exact ⟨i0, l0, hi0, rfl, HUU, Lib.hid (List.Perm.refl _), H, Lib.hid Solo.refl⟩
  case round =>
    clear H HUU
    obtain ⟨i, l, hi, rfl, HUU, HP, H, SS⟩ := hrel
    by_cases h0 : i = 0
    · subst h0
      go_wp2_with fail
      go_end0
      exact ⟨rfl, ⟨l, HUU.out.zero, HP.out, H.out⟩, SS.out⟩
    · have h0' : (0 : Int) < (i : Int) := by omega
      obtain ⟨p, hp⟩ : ∃ p, p = (i - 1) / 2 := ⟨_, rfl⟩
      have hpi := Lib.hid (show ((i - 1 : Nat) : Int) / 2 = (p : Nat) by rw [hp]; omega)
      have hpj := Lib.hid (show ((i : Int) - 1) / 2 = (p : Nat) by rw [hp]; omega)
      have hpn : p < n := by omega
      have hpl : p < i := by omega
      have hlen := H.out.len
      by_cases hlt : ltN (gN l i) (gN l p)
      · have HLT := Lib.hid hlt
        clear hlt
        go_wp2_with fail
        (try rw [hpi.out]); (try rw [hpj.out])
        refine (hahead_any g rb most puts n c i p l wr H.out hi hpn).mono ?_
        rintro e w2 ⟨rfl, q2, rfl⟩
        rw [decide_eq_true HLT.out]
        have H2 : Hid (HpR (wr.drewN q2) g rb most puts n c l) := Lib.hid ⟨H.out.blk, H.out.row, H.out.len, H.out.cm, H.out.ms⟩
        have S2 := Lib.hid (SS.out.drewN' q2)
        generalize wr.drewN q2 = w2 at H2 S2 ⊢
        clear H SS
        go_wp2_with fail
        (try rw [hpi.out]); (try rw [hpj.out])
        refine (hswap_any g rb most puts n c i p l w2 H2.out hi hpn).mono ?_
        rintro e w3 ⟨rfl, h3, hs3⟩
        have H3 := Lib.hid h3
        have S3 := Lib.hid (S2.out.trans hs3)
        have hup := HUU.out.up (by omega) (by omega) (by rw [← hp]; exact HLT.out)
        rw [← hp] at hup
        have HU3 := Lib.hid hup
        have HP3 := Lib.hid ((swN_perm (l := l) (i := i) (j := p) (by omega) (by omega)).trans HP.out)
        clear h3 hs3 H2 S2 hup hp
        go_wp2_with fail
        (try rw [hpi.out]); (try rw [hpj.out])
        go_roundw
        case rel => exact ⟨p, swN l i p, hpn, rfl, HU3, HP3, H3, S3⟩
        case measure => simp [intOf]; omega
      · have HLT := Lib.hid hlt
        clear hlt
        go_wp2_with fail
        (try rw [hpi.out]); (try rw [hpj.out])
        refine (hahead_any g rb most puts n c i p l wr H.out hi hpn).mono ?_
        rintro e w2 ⟨rfl, q2, rfl⟩
        rw [decide_eq_false HLT.out]
        have hst := HUU.out.stop (by rw [← hp]; exact HLT.out)
        have HST := Lib.hid hst
        clear hst
        go_wp2_with fail
        go_end0
        exact ⟨rfl, ⟨l, HST.out, HP.out, ⟨H.out.blk, H.out.row, H.out.len, H.out.cm, H.out.ms⟩⟩, SS.out.drewN' _⟩
/-- The first of a node and its children, as far as they are looked at: below which places all are at most. -/
def Fst (l : List Nd) (i f ch : Nat) : Prop := (f = i ∨ (f < l.length ∧ (f = 2 * i + 1 ∨ f = 2 * i + 2))) ∧ leN (gN l f) (gN l i) ∧ (2 * i + 1 < ch → 2 * i + 1 < l.length → leN (gN l f) (gN l (2 * i + 1))) ∧ (2 * i + 2 < ch → 2 * i + 2 < l.length → leN (gN l f) (gN l (2 * i + 2)))
theorem Fst.start (l : List Nd) (i : Nat) : Fst l i i (2 * i + 1) := ⟨.inl rfl, leN_refl _, fun h => absurd h (by omega), fun h => absurd h (by omega)⟩
theorem Fst.take {l : List Nd} {i f ch : Nat} (h : Fst l i f ch) (hc : ch = 2 * i + 1 ∨ ch = 2 * i + 2) (hl : ch < l.length) (hlt : ltN (gN l ch) (gN l f)) : Fst l i ch (ch + 1) := by
  obtain ⟨h2, h3, h4, h5⟩ := h
  have hle := leN_of hlt
  refine ⟨.inr ⟨hl, hc⟩, leN_trans hle h3, fun ha hb => ?_, fun ha hb => ?_⟩
  · by_cases e : ch = 2 * i + 1
    · rw [e]; exact leN_refl _
    · exact leN_trans hle (h4 (by omega) hb)
  · by_cases e : ch = 2 * i + 2
    · rw [e]; exact leN_refl _
    · exact leN_trans hle (h5 (by omega) hb)
theorem Fst.pass {l : List Nd} {i f ch : Nat} (h : Fst l i f ch) (hn : ch < l.length → ¬ ltN (gN l ch) (gN l f)) : Fst l i f (ch + 1) := by
  obtain ⟨h2, h3, h4, h5⟩ := h
  refine ⟨h2, h3, fun ha hb => ?_, fun ha hb => ?_⟩
  · by_cases e : ch = 2 * i + 1
    · rw [← e]; exact leN_of_not (hn (by omega))
    · exact h4 (by omega) hb
  · by_cases e : ch = 2 * i + 2
    · rw [← e]; exact leN_of_not (hn (by omega))
    · exact h5 (by omega) hb
set_option maxRecDepth 20000 in
set_option maxHeartbeats 400000 in
theorem hsink_any (g rb most puts n c : Nat) (l0 : List Nd) (w : World) (h : HpR w g rb most puts n c l0) (hd : HD l0 0) :
    Calls Try.prog 27 #[.pointer (some ⟨g, 0, none⟩)] w fun e w' => e = .returned (.tuple #[]) ∧ (∃ l, Hp l ∧ l.Perm l0 ∧ HpR w' g rb most puts n c l) ∧ Solo rb w w' := by
  have H := Lib.hid h
  have HDD := Lib.hid hd
  have hms := h.ms
  clear h hd
  go_enter Try.func27, Try.ntmps27
  go_wp2_with fail
  go_loopw [2] (fun iv wr => ∃ (i : Nat) (l : List Nd), i ≤ n ∧ iv = .int .i64 (i : Nat) ∧ Hid (HD l i) ∧ Hid (l.Perm l0) ∧ Hid (HpR wr g rb most puts n c l) ∧ Hid (Solo rb w wr)) (fun iv _ => n - (intOf iv).toNat)
  case atStart => exact ⟨0, l0, Nat.zero_le _, rfl, HDD, Lib.hid (List.Perm.refl _), H, Lib.hid Solo.refl⟩
  case round =>
    clear H HDD
    obtain ⟨i, l, hi, rfl, HDD, HP, H, SS⟩ := hrel
    have hlen := H.out.len
    go_wp2_with fail
    go_loopw [3, 4] (fun fv cv wk => ∃ (f ch : Nat), 2 * i + 1 ≤ ch ∧ ch ≤ 2 * i + 3 ∧ f ≤ 2 * i + 2 ∧ fv = .int .i64 (f : Nat) ∧ cv = .int .i64 (ch : Nat) ∧ Hid (Fst l i f ch) ∧ Hid (HpR wk g rb most puts n c l) ∧ Hid (Solo rb w wk)) (fun _ cv _ => 2 * i + 3 - (intOf cv).toNat)
    case atStart => exact ⟨i, 2 * i + 1, by omega, by omega, by omega, rfl, by go_num, Lib.hid (Fst.start l i), H, SS⟩
    case round =>
      clear H SS
      obtain ⟨f, ch, hc1, hc2, hf2, rfl, rfl, HF, H, SS⟩ := hrel
      have hlen := H.out.len
      by_cases hce : ch ≤ 2 * i + 2
      · have hce' : (ch : Int) ≤ 2 * (i : Int) + 2 := by omega
        have HC := Lib.hid (show ch = 2 * i + 1 ∨ ch = 2 * i + 2 by omega)
        obtain ⟨c0, c1, c2⟩ := ptc3 H.out.blk
        by_cases hcn : ch < n
        · have hcn' : (ch : Int) < (n : Int) := by omega
          have hfn : f < n := by
            rcases HF.out.1 with h | h <;> omega
          by_cases hlt : ltN (gN l ch) (gN l f)
          · have HLT := Lib.hid hlt
            have HFT := Lib.hid (HF.out.take HC.out (by omega) hlt)
            clear hlt
            go_wp2_with fail
            refine (hahead_any g rb most puts n c ch f l wr H.out hcn hfn).mono ?_
            rintro e w2 ⟨rfl, q2, rfl⟩
            rw [decide_eq_true HLT.out]
            have H2 : Hid (HpR (wr.drewN q2) g rb most puts n c l) := Lib.hid ⟨H.out.blk, H.out.row, H.out.len, H.out.cm, H.out.ms⟩
            have S2 := Lib.hid (SS.out.drewN' q2)
            generalize wr.drewN q2 = w2 at H2 S2 ⊢
            clear H SS c0 c1 c2
            go_wp2_with fail
            go_roundw
            case rel => exact ⟨ch, ch + 1, by omega, by omega, hce, rfl, by go_num, HFT, H2, S2⟩
            case measure => simp [intOf]; omega
          · have HLT := Lib.hid hlt
            have HFT := Lib.hid (HF.out.pass (fun _ => hlt))
            clear hlt
            go_wp2_with fail
            refine (hahead_any g rb most puts n c ch f l wr H.out hcn hfn).mono ?_
            rintro e w2 ⟨rfl, q2, rfl⟩
            rw [decide_eq_false HLT.out]
            have H2 : Hid (HpR (wr.drewN q2) g rb most puts n c l) := Lib.hid ⟨H.out.blk, H.out.row, H.out.len, H.out.cm, H.out.ms⟩
            have S2 := Lib.hid (SS.out.drewN' q2)
            generalize wr.drewN q2 = w2 at H2 S2 ⊢
            clear H SS c0 c1 c2
            go_wp2_with fail
            go_roundw
            case rel => exact ⟨f, ch + 1, by omega, by omega, hf2, rfl, by go_num, HFT, H2, S2⟩
            case measure => simp [intOf]; omega
        · have hcn' : ¬ (ch : Int) < (n : Int) := by omega
          have HFT := Lib.hid (HF.out.pass (fun h => absurd h (by omega)))
          go_wp2_with fail
          go_roundw
          case rel => exact ⟨f, ch + 1, by omega, by omega, hf2, rfl, by go_num, HFT, H, SS⟩
          case measure => simp [intOf]; omega
      · have hce' : ¬ (ch : Int) ≤ 2 * (i : Int) + 2 := by omega
        have hce2 : ch = 2 * i + 3 := by omega
        have HF2 := Lib.hid HF.out
        rw [hce2] at HF2
        clear hce2
        by_cases hfi : f = i
        · subst hfi
          have HST := Lib.hid (HDD.out.stop (HF2.out.2.2.1 (by omega)) (HF2.out.2.2.2 (by omega)))
          go_wp2_with fail
          exact bodyPost_ret (v := .tuple #[]) (by kernel_rfl) rfl ⟨rfl, ⟨l, HST.out, HP.out, H.out⟩, SS.out⟩
        · have hfi' : ¬ (f : Int) = (i : Int) := by omega
          obtain ⟨hfl, hfc⟩ : f < l.length ∧ (f = 2 * i + 1 ∨ f = 2 * i + 2) := by
            rcases HF2.out.1 with h | h
            · exact absurd h hfi
            · exact h
          have hil : i < l.length := by omega
          have HDN := Lib.hid (HDD.out.down hil hfl hfc HF2.out.2.1 (HF2.out.2.2.1 (by omega)) (HF2.out.2.2.2 (by omega)))
          have HP3 := Lib.hid ((swN_perm hil hfl).trans HP.out)
          have hin : i < n := by omega
          have hfn : f < n := by omega
          have hgt : i < f := by omega
          clear hil hfl hfc
          go_wp2_with fail
          refine (hswap_any g rb most puts n c i f l wr H.out hin hfn).mono ?_
          rintro e w3 ⟨rfl, h3, hs3⟩
          have H3 := Lib.hid h3
          have S3 := Lib.hid (SS.out.trans hs3)
          clear h3 hs3 H SS
          go_wp2_with fail
          go_roundw
          case rel => exact ⟨f, swN l i f, by omega, rfl, HDN, HP3, H3, S3⟩
          case measure => simp [intOf]; omega
end Go.Proofs.Ytkekmcolekomjaa
