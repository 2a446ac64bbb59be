/- The reference's Parse. -/
import Derived.Test.YtefnojomjdeghaaDoorNumQ
namespace Go.Proofs.YtefnojomjdeghaaDoor
open Go.RowKit
set_option linter.unusedVariables false
def NZ (s : ByteArray) : Prop := ¬ (1 < (nats s).length ∧ (nats s).getD 0 0 = 48)
def RPr (s : ByteArray) (w : World) (e : Ending) (w' : World) : Prop := e = .returned (.tuple #[.int .i64 ((prV (nats s) : Nat) : Int), .int .i64 ((prE (nats s) : Nat) : Int)]) ∧ w' = w
set_option maxHeartbeats 2000000 in
set_option maxRecDepth 20000 in
theorem rparse_any (s : ByteArray) (w : World) (hs : s.size ≤ 100000) : Calls Tryd.prog 7 #[.string s] w fun e w' => RPr s w e w' := by
  go_enter Tryd.func7, Tryd.ntmps7
  go_wp2_with fail
  go_loopw [4, 5] (fun nv iv wr => ∃ i : Nat, i ≤ s.size ∧ i ≤ 10 ∧ iv = .int .i64 i ∧ nv = .int .i64 ((pv ((nats s).take i) : Nat) : Int) ∧ Hid (((nats s).take i).all dgt = true) ∧ Hid (0 < i → NZ s) ∧ wr = w) (fun _ iv _ => s.size - (intOf iv).toNat)
  case atStart => exact ⟨0, by omega, by omega, rfl, rfl, Lib.hid rfl, Lib.hid (fun h => absurd h (by omega)), rfl⟩
  case round =>
    obtain ⟨i, hi', hi10, rfl, rfl, hall, hnz, rfl⟩ := hrel
    have hpb := pv_bound hall.out (by simp; omega)
    obtain ⟨P, hP⟩ : ∃ P, P = pv ((nats s).take i) := ⟨_, rfl⟩
    rw [← hP] at hpb ⊢
    have wa : wrap64 ((P : Int) * 10) = (P : Int) * 10 := IntWalk.wrap64_in _ (by omega)
    have wa' : IntKind.i64.wrap ((P : Int) * 10) = (P : Int) * 10 := IntWalk.i64_in _ (by omega)
    have hpc : ∀ c : Nat, 48 ≤ c → c ≤ 57 → wrap64 ((P : Int) * 10 + (c : Int)) = (P : Int) * 10 + (c : Int) := fun c h1 h2 => IntWalk.wrap64_in _ (by omega)
    have hpd : ∀ c : Nat, 48 ≤ c → c ≤ 57 → wrap64 ((P : Int) * 10 + (c : Int) - 48) = (P : Int) * 10 + (c : Int) - 48 := fun c h1 h2 => IntWalk.wrap64_in _ (by omega)
    have HPC := Lib.hid hpc
    have HPD := Lib.hid hpd
    clear hpb hpc hpd
    by_cases hp : i < s.size
    · have hp' : (i : Int) < (s.size : Int) := by omega
      by_cases h9 : 9 < i
      · obtain ⟨q1, q2⟩ := parse_no (s := s) (okp_long (by rw [nats_len]; omega))
        have Q1 := Lib.hid q1; have Q2 := Lib.hid q2
        have h9' : (9 : Int) < (i : Int) := by omega
        clear q1 q2 hP
        go_wp2_with fail
        go_ret2
        unfold RPr
        rw [Q1.out, Q2.out]
        exact ⟨rfl, rfl⟩
      have h9' : (i : Int) ≤ 9 := by omega
      have hpos : 0 < s.size := by omega
      have hx1 := run_sidx (P := Tryd.prog) Tryd.underlying9 s i hp
      have hx0 : ∀ w, (Instr.index 9 (.string s) (.int .i64 0)).run Tryd.prog w = .ok (.int .u8 (((nats s).getD 0 0 : Nat) : Int)) w := run_sidx (P := Tryd.prog) Tryd.underlying9 s 0 hpos
      have hbd := okp_bad (l := nats s) i (by rw [nats_len]; exact hp)
      have hbz := okp_zero (l := nats s)
      have hstep := take_snoc (nats s) 0 i (by rw [nats_len]; exact hp)
      have hc8 : (nats s).getD i 0 < 256 := nats_lt s _ (mem_getD _ _ _ (by rw [nats_len]; exact hp))
      generalize (nats s).getD i 0 = c at hx1 hbd hstep hc8
      generalize hz0 : (nats s).getD 0 0 = z at hx0 hbz
      rw [nats_len] at hbz
      have HZ0 := Lib.hid hz0
      have HST := Lib.hid hstep
      have HP := Lib.hid hP
      clear hstep hP hz0
      by_cases hlo : c < 48
      · obtain ⟨q1, q2⟩ := parse_no (s := s) (hbd (by simp only [dgt, decide_eq_false_iff_not]; omega))
        have Q1 := Lib.hid q1; have Q2 := Lib.hid q2
        have hlo' : (c : Int) < 48 := by omega
        clear q1 q2 hbd hbz hx0
        go_wp2_with fail
        go_ret2
        unfold RPr
        rw [Q1.out, Q2.out]
        exact ⟨rfl, rfl⟩
      by_cases hhi : 57 < c
      · obtain ⟨q1, q2⟩ := parse_no (s := s) (hbd (by simp only [dgt, decide_eq_false_iff_not]; omega))
        have Q1 := Lib.hid q1; have Q2 := Lib.hid q2
        have hhi' : (57 : Int) < (c : Int) := by omega
        clear q1 q2 hbd hbz hx0
        go_wp2_with fail
        go_ret2
        unfold RPr
        rw [Q1.out, Q2.out]
        exact ⟨rfl, rfl⟩
      have hdg : dgt c = true := by simp only [dgt, decide_eq_true_eq]; omega
      have hlo' : (48 : Int) ≤ (c : Int) := by omega
      have hhi' : (c : Int) ≤ 57 := by omega
      have wc := HPC.out c (by omega) (by omega)
      have wd := HPD.out c (by omega) (by omega)
      have hall' : ((nats s).take (i + 1)).all dgt = true := by rw [HST.out, List.all_append, hall.out]; simp [hdg]
      have hpv : ((pv ((nats s).take (i + 1)) : Nat) : Int) = (P : Int) * 10 + (c : Int) - 48 := by rw [HST.out, pv_snoc, ← HP.out]; omega
      have HA := Lib.hid hall'
      have HV := Lib.hid hpv
      clear hall' hpv hdg hbd hlo hhi
      by_cases hz : z = 48
      · subst hz
        by_cases ha : 1 < s.size
        · obtain ⟨q1, q2⟩ := parse_no (s := s) (hbz ha rfl)
          have Q1 := Lib.hid q1; have Q2 := Lib.hid q2
          have ha' : (1 : Int) < (s.size : Int) := by omega
          clear q1 q2 hbz
          go_wp2_with fail
          go_ret2
          unfold RPr
          rw [Q1.out, Q2.out]
          exact ⟨rfl, rfl⟩
        · have ha' : (s.size : Int) ≤ 1 := by omega
          have HZ : Hid (0 < i + 1 → NZ s) := Lib.hid (fun _ => by unfold NZ; intro h; rw [nats_len] at h; omega)
          clear hbz HZ0
          go_wp2_with fail
          go_roundw
          case rel => exact ⟨i + 1, by omega, by omega, by go_num, by rw [HV.out, wd], HA, HZ, trivial⟩
          case measure => simp [intOf]; omega
      · have hz1 : ¬ (z : Int) = 48 := by omega
        have hz' : ((z : Int) == 48) = false := beq_eq_false_iff_ne.2 hz1
        have HZ : Hid (0 < i + 1 → NZ s) := Lib.hid (fun _ => by unfold NZ; intro h; rw [HZ0.out] at h; exact hz h.2)
        clear hbz hz HZ0
        go_wp2_with fail
        go_roundw
        case rel => exact ⟨i + 1, by omega, by omega, by go_num, by rw [HV.out, wd], HA, HZ, trivial⟩
        case measure => simp [intOf]; omega
    · have hie : i = s.size := by omega
      have hie' : ((i : Nat) : Int) = (s.size : Int) := by omega
      have htk : (nats s).take i = nats s := List.take_of_length_le (by rw [nats_len]; omega)
      rw [htk] at hP
      have hal := hall.out
      rw [htk] at hal
      clear HPC HPD wa wa' hie'
      by_cases h0 : s.size = 0
      · have hn : nats s = [] := List.eq_nil_of_length_eq_zero (by rw [nats_len]; exact h0)
        obtain ⟨q1, q2⟩ := parse_no (s := s) (by rw [hn]; rfl)
        have h3 : s.toList = [] := by
          apply List.eq_nil_of_length_eq_zero
          have := nats_len s
          rw [← nats_toList, List.length_map] at this
          omega
        have g2 : s.toList.isEmpty = true := by rw [h3]; rfl
        have Q1 := Lib.hid q1; have Q2 := Lib.hid q2
        have hge : (s.size : Int) ≤ (i : Int) := by omega
        clear q1 q2 hn hP hal htk hie h0
        go_wp2_with fail
        go_ret2
        unfold RPr
        rw [Q1.out, Q2.out]
        exact ⟨rfl, rfl⟩
      have h3 : s.toList ≠ [] := by
        intro h
        have := nats_len s
        rw [← nats_toList, h] at this
        exact h0 this.symm
      have g2 : s.toList.isEmpty = false := by simpa using h3
      have hge : (s.size : Int) ≤ (i : Int) := by omega
      by_cases hgr : 2147483647 < P
      · obtain ⟨q1, q2⟩ := parse_no (s := s) (okp_great (by rw [← hP]; exact hgr))
        have Q1 := Lib.hid q1; have Q2 := Lib.hid q2
        have hgr' : (2147483647 : Int) < (P : Int) := by omega
        clear q1 q2 hP hal htk hie hgr
        go_wp2_with fail
        go_ret2
        unfold RPr
        rw [Q1.out, Q2.out]
        exact ⟨rfl, rfl⟩
      · obtain ⟨q1, q2⟩ := parse_yes (s := s) (okp_mk (by intro h; have := nats_len s; rw [h] at this; simp at this; omega) (by rw [nats_len]; omega) (hnz.out (by omega)) hal (by rw [← hP]; omega))
        rw [← hP] at q1
        have Q1 := Lib.hid q1; have Q2 := Lib.hid q2
        have hgr' : (P : Int) ≤ 2147483647 := by omega
        clear q1 q2 hP hal htk hie hgr
        go_wp2_with fail
        go_ret2
        unfold RPr
        rw [Q1.out, Q2.out]
        exact ⟨rfl, rfl⟩
end Go.Proofs.YtefnojomjdeghaaDoor
