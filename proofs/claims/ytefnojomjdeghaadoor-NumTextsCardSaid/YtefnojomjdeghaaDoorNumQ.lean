/- Package num: Parse. -/
import Derived.Test.YtefnojomjdeghaaDoorNumP
import Derived.Test.YtefnojomjdeghaaDoorNum4
namespace Go.Proofs.YtefnojomjdeghaaDoor
open Go.RowKit
set_option linter.unusedVariables false

/-- What Parse answers. -/
def prV (l : List Nat) : Nat := if okp l then pv l else 0
def prE (l : List Nat) : Nat := if okp l then 0 else 10
theorem okp_nil : okp [] = false := rfl
theorem okp_long {l : List Nat} (h : 10 < l.length) : okp l = false := by
  unfold okp
  rw [decide_eq_false (show ¬ l.length ≤ 10 by omega)]
  simp
theorem okp_zero {l : List Nat} (h : 1 < l.length) (h0 : l.getD 0 0 = 48) : okp l = false := by
  unfold okp
  rw [decide_eq_true h, decide_eq_true h0]
  simp
theorem okp_bad {l : List Nat} (i : Nat) (hi : i < l.length) (h : dgt (l.getD i 0) = false) : okp l = false := by
  unfold okp
  have : l.all dgt = false := by
    rw [List.all_eq_false]
    exact ⟨l.getD i 0, mem_getD l 0 i hi, by rw [h]; simp⟩
  rw [this]
  simp
theorem okp_great {l : List Nat} (h : 2147483647 < pv l) : okp l = false := by
  unfold okp
  rw [decide_eq_false (show ¬ pv l ≤ 2147483647 by omega)]
  simp
theorem okp_mk {l : List Nat} (h0 : l ≠ []) (h1 : l.length ≤ 10) (h2 : ¬ (1 < l.length ∧ l.getD 0 0 = 48)) (h3 : l.all dgt = true) (h4 : pv l ≤ 2147483647) : okp l = true := by
  unfold okp
  have e1 : l.isEmpty = false := by simpa using h0
  have e2 : (decide (1 < l.length) && decide (l.getD 0 0 = 48)) = false := by
    cases h : (decide (1 < l.length) && decide (l.getD 0 0 = 48)) with
    | false => rfl
    | true => simp only [Bool.and_eq_true, decide_eq_true_eq] at h; exact absurd h h2
  rw [e1, e2, h3, decide_eq_true h1, decide_eq_true h4]
  rfl
theorem pv_bound {l : List Nat} (h : l.all dgt = true) (hl : l.length ≤ 10) : pv l < 10000000000 := by
  have h1 := pv_lt l h
  have : 10 ^ l.length ≤ 10 ^ 10 := Nat.pow_le_pow_right (by omega) hl
  omega

theorem parse_no {s : ByteArray} (h : okp (nats s) = false) : prV (nats s) = 0 ∧ prE (nats s) = 10 := by unfold prV prE; rw [h]; exact ⟨rfl, rfl⟩
theorem parse_yes {s : ByteArray} (h : okp (nats s) = true) : prV (nats s) = pv (nats s) ∧ prE (nats s) = 0 := by unfold prV prE; rw [h]; exact ⟨rfl, rfl⟩
def Pr (s : ByteArray) (w : World) (e : Ending) (w' : World) : Prop := e = .returned (.tuple #[.int .i64 ((prV (nats s) : Nat) : Int), .int .i64 ((prE (nats s) : Nat) : Int)]) ∧ Below w.heap.size w w'
set_option maxRecDepth 20000 in
theorem parse_any (s : ByteArray) (w : World) (hs : s.size ≤ 100000) : Calls Tryd.prog 6 #[.string s] w fun e w' => Pr s w e w' := by
  by_cases h0 : s.size = 0
  · have hn : nats s = [] := List.eq_nil_of_length_eq_zero (by rw [nats_len]; exact h0)
    obtain ⟨q1, q2⟩ := parse_no (s := s) (by rw [hn]; rfl)
    have h3 : s.toList = [] := by
      apply List.eq_nil_of_length_eq_zero
      have := nats_len s
      rw [← nats_toList, List.length_map] at this
      omega
    have g2 : s.toList.isEmpty = true := by rw [h3]; rfl
    have Q1 := Lib.hid q1; have Q2 := Lib.hid q2
    clear q1 q2 hn h0
    go_enter Tryd.func6, Tryd.ntmps6
    go_wp2_with fail
    go_ret2
    unfold Pr
    rw [Q1.out, Q2.out]
    exact ⟨rfl, Below.refl _ _⟩
  have h3 : s.toList ≠ [] := by
    intro h
    have := nats_len s
    rw [← nats_toList, h] at this
    exact h0 this.symm
  have g2 : s.toList.isEmpty = false := by simpa using h3
  by_cases h1 : 10 < s.size
  · obtain ⟨q1, q2⟩ := parse_no (s := s) (okp_long (by rw [nats_len]; exact h1))
    have Q1 := Lib.hid q1; have Q2 := Lib.hid q2
    have h1' : (10 : Int) < (s.size : Int) := by omega
    clear q1 q2 h0
    go_enter Tryd.func6, Tryd.ntmps6
    go_wp2_with fail
    go_ret2
    unfold Pr
    rw [Q1.out, Q2.out]
    exact ⟨rfl, Below.refl _ _⟩
  have h1' : (s.size : Int) ≤ 10 := by omega
  have hs10 : s.size ≤ 10 := by omega
  have hpos : 0 < s.size := by omega
  have hpos' : (0 : Int) < (s.size : Int) := by omega
  have hn0 := nats_nth s 0 hpos
  clear h1 h0
  by_cases h2 : 1 < s.size ∧ (s[0]'hpos).toNat = 48
  · obtain ⟨q1, q2⟩ := parse_no (s := s) (okp_zero (by rw [nats_len]; exact h2.1) (by rw [hn0]; exact h2.2))
    have Q1 := Lib.hid q1; have Q2 := Lib.hid q2
    obtain ⟨ha, hb⟩ := h2
    have ha' : (1 : Int) < (s.size : Int) := by omega
    clear q1 q2 hn0
    go_enter Tryd.func6, Tryd.ntmps6
    go_wp2_with fail
    go_ret2
    unfold Pr
    rw [Q1.out, Q2.out]
    exact ⟨rfl, Below.refl _ _⟩
  have hnz : ¬ (1 < (nats s).length ∧ (nats s).getD 0 0 = 48) := by rw [nats_len, hn0]; exact h2
  have HNZ := Lib.hid hnz
  clear hnz hn0
  by_cases h5 : 1 < s.size
  · have h6 : ¬ (s[0]'hpos).toNat = 48 := fun h => h2 ⟨h5, h⟩
    have h5' : (1 : Int) < (s.size : Int) := by omega
    have h6' : (((s[0]'hpos).toNat : Int) == 48) = false := by rw [beq_eq_false_iff_ne]; omega
    clear h2
    go_enter Tryd.func6, Tryd.ntmps6
    go_wp2_with fail
    have hI := World.iter_heap w s 0
    go_loopw [4] (fun nv wr => ∃ i : Nat, i ≤ s.size ∧ wr.heap[w.heap.size]? = some (.stringIter s i) ∧ nv = .int .i64 ((pv ((nats s).take i) : Nat) : Int) ∧ Hid (((nats s).take i).all dgt = true) ∧ Below w.heap.size w wr) (fun _ wr => s.size - wr.iterPos w.heap.size)
    case atStart => exact ⟨0, by omega, hI, rfl, Lib.hid rfl, (Below.refl _ _).alloc (Nat.le_refl _) _⟩
    case round =>
      obtain ⟨i, hi', hit, rfl, hall, hbw⟩ := hrel
      clear hI
      clear h6 h6'
      have hpb := pv_bound hall.out (by simp; omega)
      obtain ⟨P, hP⟩ : ∃ P, P = pv ((nats s).take i) := ⟨_, rfl⟩
      rw [← hP] at hpb ⊢
      have wa : IntKind.i64.wrap (10 * (P : Int)) = 10 * (P : Int) := IntWalk.i64_in _ (by omega)
      have wb : wrap64 (10 * (P : Int)) = 10 * (P : Int) := by rw [← IntWalk.i64_left]; exact wa
      have hpc : ∀ c : Nat, 48 ≤ c → c ≤ 57 → IntKind.i64.wrap (10 * (P : Int) + ((c : Int) - 48)) = 10 * (P : Int) + ((c : Int) - 48) := fun c h1 h2 => IntWalk.i64_in _ (by omega)
      have HPC := Lib.hid hpc
      clear hpb hpc
      by_cases hp : i < s.size
      · have hd1 := decode_le s i
        have hnn := nats_nth s i hp
        by_cases hc128 : (s[i]'hp).toNat < 128
        · have hnx' : ∀ ty, (Instr.next (.pointer (some ⟨w.heap.size, 0, none⟩)) true ty).run Tryd.prog wr = _ := fun ty => Lib.run_next_ascii_at wr w.heap.size s i ty hit hp hc128
          rw [← hnn] at hnx'
          have hstep := take_snoc (nats s) 0 i (by rw [nats_len]; exact hp)
          have hcl : (nats s).getD i 0 < 128 := by rw [hnn]; exact hc128
          have hbd := okp_bad (l := nats s) i (by rw [nats_len]; exact hp)
          generalize hcc : (nats s).getD i 0 = c at hnx' hstep hcl hbd
          have HC := Lib.hid hcc
          have HS := Lib.hid hstep
          have HP := Lib.hid hP
          cases hdg : dgt c with
          | true =>
            have hd : 48 ≤ c ∧ c ≤ 57 := by simpa [dgt] using hdg
            have hall' : ((nats s).take (i + 1)).all dgt = true := by rw [hstep, List.all_append, hall.out]; simp [hdg]
            have hpv : ((pv ((nats s).take (i + 1)) : Nat) : Int) = 10 * (P : Int) + ((c : Int) - 48) := by rw [hstep, pv_snoc, ← hP]; omega
            have HA := Lib.hid hall'
            have HV := Lib.hid hpv
            obtain ⟨d1, d2⟩ := hd
            have d1' : (48 : Int) ≤ (c : Int) := by omega
            have d2' : (c : Int) ≤ 57 := by omega
            have wc := HPC.out c d1 d2
            have wd : wrap64 (10 * (P : Int) + ((c : Int) - 48)) = 10 * (P : Int) + ((c : Int) - 48) := by rw [← IntWalk.i64_left]; exact wc
            clear hnn hcc hc128 hdg hall' hpv hstep hP hbd
            have hnx := hnx'
            clear hnx'
            go_wp2_with fail
            have hpos2 := Lib.iterAt_heap wr w.heap.size s i (i + 1) hit
            refine ⟨⟨i + 1, by omega, hpos2, by rw [HV.out], HA, Lib.below_iterAt hbw (Nat.le_refl _) s (i + 1)⟩, ?_⟩
            simp only [World.iterPos, hpos2, hit]
            omega
          | false =>
            obtain ⟨q1, q2⟩ := parse_no (s := s) (hbd hdg)
            have Q1 := Lib.hid q1; have Q2 := Lib.hid q2
            have hd : c < 48 ∨ 57 < c := by
              simp only [dgt, decide_eq_false_iff_not] at hdg
              omega
            clear hnn hcc hc128 hdg hstep hP hbd q1 q2
            have hnx := hnx'
            clear hnx'
            rcases hd with hd | hd
            · have hd' : (c : Int) < 48 := by omega
              go_wp2_with fail
              go_ret2
              unfold Pr
              rw [Q1.out, Q2.out]
              exact ⟨rfl, Lib.below_iterAt hbw (Nat.le_refl _) s (i + 1)⟩
            · have hd' : (57 : Int) < (c : Int) := by omega
              go_wp2_with fail
              go_ret2
              unfold Pr
              rw [Q1.out, Q2.out]
              exact ⟨rfl, Lib.below_iterAt hbw (Nat.le_refl _) s (i + 1)⟩
        · have hnx : ∀ ty, (Instr.next (.pointer (some ⟨w.heap.size, 0, none⟩)) true ty).run Tryd.prog wr = _ := fun ty => Lib.run_next_any_at wr w.heap.size s i ty hit hp
          have hhi := (decode_high s i hp (by omega)).1
          obtain ⟨q1, q2⟩ := parse_no (s := s) (okp_bad i (by rw [nats_len]; exact hp) (by rw [hnn]; simp only [dgt, decide_eq_false_iff_not]; omega))
          have Q1 := Lib.hid q1; have Q2 := Lib.hid q2
          generalize hrr : (Utf8.decode s i).1 = r at hnx hd1 hhi
          generalize hpp : i + (Utf8.decode s i).2 = q at hnx
          have hd' : (57 : Int) < (r : Int) := by omega
          clear hnn hrr hpp hP q1 q2
          go_wp2_with fail
          go_ret2
          unfold Pr
          rw [Q1.out, Q2.out]
          exact ⟨rfl, Lib.below_iterAt hbw (Nat.le_refl _) s q⟩
      · have hnx : ∀ ty, (Instr.next (.pointer (some ⟨w.heap.size, 0, none⟩)) true ty).run Tryd.prog wr = _ := fun ty => Lib.run_next_end_at wr w.heap.size s i ty hit (by omega)
        have htk : (nats s).take i = nats s := List.take_of_length_le (by rw [nats_len]; omega)
        rw [htk] at hP
        have hal := hall.out
        rw [htk] at hal
        by_cases hgr : 2147483647 < P
        · obtain ⟨q1, q2⟩ := parse_no (s := s) (okp_great (by rw [← hP]; exact hgr))
          have Q1 := Lib.hid q1; have Q2 := Lib.hid q2
          have hgr' : (2147483647 : Int) < (P : Int) := by omega
          clear q1 q2 hP hal htk hgr
          go_wp2_with fail
          go_ret2
          unfold Pr
          rw [Q1.out, Q2.out]
          exact ⟨rfl, hbw⟩
        · obtain ⟨q1, q2⟩ := parse_yes (s := s) (okp_mk (by intro h; have := nats_len s; rw [h] at this; simp at this; omega) (by rw [nats_len]; exact hs10) (HNZ.out) hal (by rw [← hP]; omega))
          rw [← hP] at q1
          have Q1 := Lib.hid q1; have Q2 := Lib.hid q2
          have hgr' : (P : Int) ≤ 2147483647 := by omega
          clear q1 q2 hP hal htk hgr
          go_wp2_with fail
          go_ret2
          unfold Pr
          rw [Q1.out, Q2.out]
          exact ⟨rfl, hbw⟩
  · have h5' : (s.size : Int) ≤ 1 := by omega
    clear h2
    go_enter Tryd.func6, Tryd.ntmps6
    go_wp2_with fail
    have hI := World.iter_heap w s 0
    go_loopw [4] (fun nv wr => ∃ i : Nat, i ≤ s.size ∧ wr.heap[w.heap.size]? = some (.stringIter s i) ∧ nv = .int .i64 ((pv ((nats s).take i) : Nat) : Int) ∧ Hid (((nats s).take i).all dgt = true) ∧ Below w.heap.size w wr) (fun _ wr => s.size - wr.iterPos w.heap.size)
    case atStart => exact ⟨0, by omega, hI, rfl, Lib.hid rfl, (Below.refl _ _).alloc (Nat.le_refl _) _⟩
    case round =>
      obtain ⟨i, hi', hit, rfl, hall, hbw⟩ := hrel
      clear hI
      have hpb := pv_bound hall.out (by simp; omega)
      obtain ⟨P, hP⟩ : ∃ P, P = pv ((nats s).take i) := ⟨_, rfl⟩
      rw [← hP] at hpb ⊢
      have wa : IntKind.i64.wrap (10 * (P : Int)) = 10 * (P : Int) := IntWalk.i64_in _ (by omega)
      have wb : wrap64 (10 * (P : Int)) = 10 * (P : Int) := by rw [← IntWalk.i64_left]; exact wa
      have hpc : ∀ c : Nat, 48 ≤ c → c ≤ 57 → IntKind.i64.wrap (10 * (P : Int) + ((c : Int) - 48)) = 10 * (P : Int) + ((c : Int) - 48) := fun c h1 h2 => IntWalk.i64_in _ (by omega)
      have HPC := Lib.hid hpc
      clear hpb hpc
      by_cases hp : i < s.size
      · have hd1 := decode_le s i
        have hnn := nats_nth s i hp
        by_cases hc128 : (s[i]'hp).toNat < 128
        · have hnx' : ∀ ty, (Instr.next (.pointer (some ⟨w.heap.size, 0, none⟩)) true ty).run Tryd.prog wr = _ := fun ty => Lib.run_next_ascii_at wr w.heap.size s i ty hit hp hc128
          rw [← hnn] at hnx'
          have hstep := take_snoc (nats s) 0 i (by rw [nats_len]; exact hp)
          have hcl : (nats s).getD i 0 < 128 := by rw [hnn]; exact hc128
          have hbd := okp_bad (l := nats s) i (by rw [nats_len]; exact hp)
          generalize hcc : (nats s).getD i 0 = c at hnx' hstep hcl hbd
          have HC := Lib.hid hcc
          have HS := Lib.hid hstep
          have HP := Lib.hid hP
          cases hdg : dgt c with
          | true =>
            have hd : 48 ≤ c ∧ c ≤ 57 := by simpa [dgt] using hdg
            have hall' : ((nats s).take (i + 1)).all dgt = true := by rw [hstep, List.all_append, hall.out]; simp [hdg]
            have hpv : ((pv ((nats s).take (i + 1)) : Nat) : Int) = 10 * (P : Int) + ((c : Int) - 48) := by rw [hstep, pv_snoc, ← hP]; omega
            have HA := Lib.hid hall'
            have HV := Lib.hid hpv
            obtain ⟨d1, d2⟩ := hd
            have d1' : (48 : Int) ≤ (c : Int) := by omega
            have d2' : (c : Int) ≤ 57 := by omega
            have wc := HPC.out c d1 d2
            have wd : wrap64 (10 * (P : Int) + ((c : Int) - 48)) = 10 * (P : Int) + ((c : Int) - 48) := by rw [← IntWalk.i64_left]; exact wc
            clear hnn hcc hc128 hdg hall' hpv hstep hP hbd
            have hnx := hnx'
            clear hnx'
            go_wp2_with fail
            have hpos2 := Lib.iterAt_heap wr w.heap.size s i (i + 1) hit
            refine ⟨⟨i + 1, by omega, hpos2, by rw [HV.out], HA, Lib.below_iterAt hbw (Nat.le_refl _) s (i + 1)⟩, ?_⟩
            simp only [World.iterPos, hpos2, hit]
            omega
          | false =>
            obtain ⟨q1, q2⟩ := parse_no (s := s) (hbd hdg)
            have Q1 := Lib.hid q1; have Q2 := Lib.hid q2
            have hd : c < 48 ∨ 57 < c := by
              simp only [dgt, decide_eq_false_iff_not] at hdg
              omega
            clear hnn hcc hc128 hdg hstep hP hbd q1 q2
            have hnx := hnx'
            clear hnx'
            rcases hd with hd | hd
            · have hd' : (c : Int) < 48 := by omega
              go_wp2_with fail
              go_ret2
              unfold Pr
              rw [Q1.out, Q2.out]
              exact ⟨rfl, Lib.below_iterAt hbw (Nat.le_refl _) s (i + 1)⟩
            · have hd' : (57 : Int) < (c : Int) := by omega
              go_wp2_with fail
              go_ret2
              unfold Pr
              rw [Q1.out, Q2.out]
              exact ⟨rfl, Lib.below_iterAt hbw (Nat.le_refl _) s (i + 1)⟩
        · have hnx : ∀ ty, (Instr.next (.pointer (some ⟨w.heap.size, 0, none⟩)) true ty).run Tryd.prog wr = _ := fun ty => Lib.run_next_any_at wr w.heap.size s i ty hit hp
          have hhi := (decode_high s i hp (by omega)).1
          obtain ⟨q1, q2⟩ := parse_no (s := s) (okp_bad i (by rw [nats_len]; exact hp) (by rw [hnn]; simp only [dgt, decide_eq_false_iff_not]; omega))
          have Q1 := Lib.hid q1; have Q2 := Lib.hid q2
          generalize hrr : (Utf8.decode s i).1 = r at hnx hd1 hhi
          generalize hpp : i + (Utf8.decode s i).2 = q at hnx
          have hd' : (57 : Int) < (r : Int) := by omega
          clear hnn hrr hpp hP q1 q2
          go_wp2_with fail
          go_ret2
          unfold Pr
          rw [Q1.out, Q2.out]
          exact ⟨rfl, Lib.below_iterAt hbw (Nat.le_refl _) s q⟩
      · have hnx : ∀ ty, (Instr.next (.pointer (some ⟨w.heap.size, 0, none⟩)) true ty).run Tryd.prog wr = _ := fun ty => Lib.run_next_end_at wr w.heap.size s i ty hit (by omega)
        have htk : (nats s).take i = nats s := List.take_of_length_le (by rw [nats_len]; omega)
        rw [htk] at hP
        have hal := hall.out
        rw [htk] at hal
        by_cases hgr : 2147483647 < P
        · obtain ⟨q1, q2⟩ := parse_no (s := s) (okp_great (by rw [← hP]; exact hgr))
          have Q1 := Lib.hid q1; have Q2 := Lib.hid q2
          have hgr' : (2147483647 : Int) < (P : Int) := by omega
          clear q1 q2 hP hal htk hgr
          go_wp2_with fail
          go_ret2
          unfold Pr
          rw [Q1.out, Q2.out]
          exact ⟨rfl, hbw⟩
        · obtain ⟨q1, q2⟩ := parse_yes (s := s) (okp_mk (by intro h; have := nats_len s; rw [h] at this; simp at this; omega) (by rw [nats_len]; exact hs10) (HNZ.out) hal (by rw [← hP]; omega))
          rw [← hP] at q1
          have Q1 := Lib.hid q1; have Q2 := Lib.hid q2
          have hgr' : (P : Int) ≤ 2147483647 := by omega
          clear q1 q2 hP hal htk hgr
          go_wp2_with fail
          go_ret2
          unfold Pr
          rw [Q1.out, Q2.out]
          exact ⟨rfl, hbw⟩
end Go.Proofs.YtefnojomjdeghaaDoor
