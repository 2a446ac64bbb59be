/- Package num: Unhex. -/
import Derived.Test.YtefnojomjdeghaaDoorNum3
namespace Go.Proofs.YtefnojomjdeghaaDoor
open Go.RowKit
set_option linter.unusedVariables false
theorem Nats.zeros {w : World} {e : TypeId} {B m : Nat} {v : Value} (h : w.ownsRow B e 1 v m (madeCells (Value.int .u8 0).cells (m * 1)).toList) : Nats w e .u8 B v (List.replicate m 0) := by
  have h1 : (madeCells (Value.int .u8 0).cells (m * 1)).toList = ns .u8 (List.replicate m 0) := by
    show (madeCells #[Value.int .u8 0] (m * 1)).toList = _
    rw [toList_madeCells_one, Nat.mul_one]
    simp [ns]
  rw [h1] at h
  unfold Nats
  rw [List.length_replicate]
  exact h
theorem Nats.iterAt' {w : World} {e : TypeId} {k : IntKind} {B : Nat} {v : Value} {l : List Nat} {p : Nat} {s : ByteArray} {pos pos' : Nat} (h : Nats w e k B v l) (hp : w.heap[p]? = some (.stringIter s pos)) : Nats (w.iterAt p s pos') e k B v l := by
  rcases h.2 with ⟨hv, h0⟩ | ⟨g, cap, cur, hv, hb, hh, _⟩
  · refine h.kept fun j hj => ?_
    rw [hv] at hj
    simp [Value.ownBlock] at hj
  · refine h.kept fun j hj => ?_
    rw [hv] at hj
    simp [Value.ownBlock] at hj
    subst hj
    exact Lib.iterAt_other w p g s pos' (by
      intro h'
      rw [h'] at hh
      rw [hh] at hp
      injection hp with hp
      cases hp)
/-- The answer, as the program gives it. -/
def Unh (s : ByteArray) (w : World) (e : Ending) (w' : World) : Prop :=
  ∃ v, e = .returned (.tuple #[v, .int .i64 (if (unhex (nats s)).isSome then 0 else 11)]) ∧ Nats w' 5 .u8 w.heap.size v ((unhex (nats s)).getD []) ∧ Below w.heap.size w w'

set_option maxRecDepth 20000 in
theorem unhex_any (s : ByteArray) (w : World) (hs : s.size ≤ 100000) :
    Calls Tryd.prog 11 #[.string s] w fun e w' => Unh s w e w' := by
  by_cases h1 : s.toList = [45]
  · have hq : unhex (nats s) = some [] := by rw [← nats_toList, h1]; rfl
    have g1 : (s.toList == [45]) = true := by rw [h1]; rfl
    go_enter Tryd.func11, Tryd.ntmps11
    go_wp2_with fail
    go_ret2
    unfold Unh
    rw [hq]
    exact ⟨_, rfl, Nats.nil _ _ _ _, Below.refl _ _⟩
  have g1 : (s.toList == [45]) = false := by simpa using h1
  have hn1 : nats s ≠ [45] := by
    intro h
    rw [← nats_toList] at h
    apply h1
    match hl : s.toList, h with
    | [x], h =>
      simp at h
      have : x = 45 := UInt8.toNat_inj.1 (by rw [h]; rfl)
      rw [this]
    | [], h => simp at h
    | _ :: _ :: _, h => simp at h
  by_cases h2 : s.size = 0
  · have hq : unhex (nats s) = none := by
      have : nats s = [] := List.eq_nil_of_length_eq_zero (by rw [nats_len]; exact h2)
      unfold unhex
      rw [if_neg hn1, if_pos this]
    have h3 : s.toList = [] := by
      apply List.eq_nil_of_length_eq_zero
      have := nats_len s
      rw [← nats_toList, List.length_map] at this
      omega
    have g2 : s.toList.isEmpty = true := by rw [h3]; rfl
    go_enter Tryd.func11, Tryd.ntmps11
    go_wp2_with fail
    go_ret2
    unfold Unh
    rw [hq]
    exact ⟨_, rfl, Nats.nil _ _ _ _, Below.refl _ _⟩
  have hn2 : nats s ≠ [] := by
    intro h
    have := nats_len s
    rw [h] at this
    exact h2 this.symm
  have hq : unhex (nats s) = unh (nats s) := by unfold unhex; rw [if_neg hn1, if_neg hn2]
  have h3 : s.toList ≠ [] := by
    intro h
    rw [← nats_toList, h] at hn2
    exact hn2 rfl
  have g2 : s.toList.isEmpty = false := by simpa using h3
  by_cases h4 : s.size % 2 = 1
  · have hz : unh (nats s) = none := unh_odd (s.size / 2) _ (by rw [nats_len]; omega)
    go_enter Tryd.func11, Tryd.ntmps11
    go_wp2_with fail
    go_ret2
    unfold Unh
    rw [hq, hz]
    exact ⟨_, rfl, Nats.nil _ _ _ _, Below.refl _ _⟩
  obtain ⟨m, hm⟩ : ∃ m, s.size = 2 * m := ⟨s.size / 2, by omega⟩
  have hmx : m ≤ 50000 := by omega
  obtain ⟨i0, hi, hz0, hz1, hz2⟩ := info_parts infByte
  obtain ⟨w1, hrun, ho1, hgr⟩ := run_make_full w w.heap.size 30 5 i0 (.int .u8 0) 1 Tryd.underlying30 hi hz0 hz1   .i64 .i64 m (by rw [hz2]; omega) (by unfold maxLen; omega) (Nat.le_refl _)
  have HO := Lib.hid (Nats.zeros ho1)
  have hb1 : Below w.heap.size w w1 := (Below.refl _ _).grown hgr (Nat.le_refl _) fun k hk => by cases hk
  clear ho1 hgr
  have em : ((m : Nat) : Int) = (s.size : Int) / 2 := by omega
  have HQ := Lib.hid hq
  have HM := Lib.hid em
  have HR := Lib.hid hrun
  clear hq hrun em hn1 hn2
  go_enter Tryd.func11, Tryd.ntmps11
  go_wp2_with fail
  rw [HR.out]
  simp only [Result.andThen]
  rw [Oper.upon_value]
  go_wp2_with fail
  have hI := World.iter_heap w1 s 0
  go_loopw [] (fun wr => ∃ i : Nat, i ≤ 2 * m ∧ wr.heap[w1.heap.size]? = some (.stringIter s i) ∧ Hid (Nats wr 5 .u8 w.heap.size (.slice (some ⟨w.heap.size, 0, none⟩) m m) (row (nats s) m i)) ∧ Below w.heap.size w wr ∧ Hid (∀ k, k < i → hok ((nats s).getD k 0) = true)) (fun wr => s.size - wr.iterPos w1.heap.size)
  case atStart =>
    refine ⟨0, by omega, hI, Lib.hid ?_, hb1.alloc (hb1.size) _, Lib.hid (fun k hk => by omega)⟩
    rw [row_zero]
    exact HO.out.alloc _
  case round =>
    obtain ⟨i, hi', hit, HN, hbw, hoks⟩ := hrel
    have hlt : w.heap.size < w1.heap.size := by
      rcases HO.out.2 with ⟨hv, _⟩ | ⟨g, cap, cur, hv, _, hh, _⟩
      · cases hv
      · obtain rfl : w.heap.size = g := by injection hv with hv; injection hv with hv; injection hv
        exact (Array.getElem?_eq_some_iff.1 hh).1
    clear HO hb1 hI HR
    by_cases hp : i < 2 * m
    · have hp' : i < s.size := by omega
      have hd1 := decode_le s i
      have hnn := nats_nth s i hp'
      have HN' := Lib.hid (fun q => HN.out.iterAt' (pos' := q) hit)
      cases hok' : hok ((nats s).getD i 0) with
      | true =>
        have hc128 : (s[i]'hp').toNat < 128 := by
          rw [← hnn]
          simp only [hok, decide_eq_true_eq] at hok'
          omega
        have hnx' : ∀ ty, (Instr.next (.pointer (some ⟨w1.heap.size, 0, none⟩)) true ty).run Tryd.prog wr = _ := fun ty => Lib.run_next_ascii_at wr w1.heap.size s i ty hit hp' hc128
        rw [← hnn] at hnx'
        have hx16 := hd_lt hok'
        generalize hcc : (nats s).getD i 0 = c at hnx' hok' hx16
        have HC := Lib.hid hcc
        have hdg := digit_any c (wr.iterAt w1.heap.size s (i + 1)) (by rw [← hcc, hnn]; omega)
        rw [hok'] at hdg
        simp only [if_true] at hdg
        have hcn : c < 128 := by rw [← hcc, hnn]; exact hc128
        have HX := Lib.hid (show hok c = true from hok')
        clear hnn hcc hc128 hok'
        have hnx := hnx'
        go_wp2_with fail
        refine hdg.mono ?_
        rintro e w2 ⟨rfl, rfl⟩
        obtain ⟨g, x, hA, hBg, hcell, hfr, hx, hset, hoth⟩ := (HN'.out (i + 1)).cellw (i := i / 2) (by omega)
        obtain rfl : w.heap.size = g := by injection hA with hA; injection hA
        have hxa : at_ (nats s) i (i / 2) = x := by
          have h := hx.out
          rw [row_nth _ _ _ _ (by omega)] at h
          injection h
        have hx256 : x < 256 := by
          rw [← hxa]
          unfold at_
          rw [if_neg (by omega)]
          split
          · have := hd_lt (hoks.out (2 * (i / 2)) (by omega)); omega
          · omega
        have HA := Lib.hid hxa
        generalize hdd : hd c = d at hx16
        have HD := Lib.hid hdd
        clear hxa hdd hA
        go_wp2_with fail
        have hor : bits .or .u8 ((x : Int) * 16 % 256) (d : Int) = (((x * 16 % 256) ||| d : Nat) : Int) := u8_or_nat (x * 16 % 256) d (Nat.mod_lt _ (by omega)) (by omega)
        rw [hor]
        have hoks' : ∀ k, k < i + 1 → hok ((nats s).getD k 0) = true := by
          intro k hk
          rcases Nat.lt_or_ge k i with h | h
          · exact hoks.out k h
          · rw [show k = i by omega, HC.out]; exact HX.out
        have hst := row_step (nats s) m i hp hoks'
        rw [HA.out, HC.out, HD.out] at hst
        have hit2 := Lib.iterAt_heap wr w1.heap.size s i (i + 1) hit
        have hpos : ((wr.iterAt w1.heap.size s (i + 1)).setCell ⟨w.heap.size, i / 2, none⟩ (.int .u8 (((x * 16 % 256) ||| d : Nat) : Int))).heap[w1.heap.size]? = some (.stringIter s (i + 1)) := by
          rw [hoth.out _ _ (by omega)]
          exact hit2
        refine ⟨⟨i + 1, by omega, hpos, Lib.hid ?_, (Lib.below_iterAt hbw (by omega) s (i + 1)).setCell (p := ⟨w.heap.size, i / 2, none⟩) (Nat.le_refl _) _, Lib.hid hoks'⟩, ?_⟩
        · rw [hst]
          exact hset.out _
        · simp only [World.iterPos, hpos, hit]
          omega
      | false =>
        have hnx : ∀ ty, (Instr.next (.pointer (some ⟨w1.heap.size, 0, none⟩)) true ty).run Tryd.prog wr = _ := fun ty => Lib.run_next_any_at wr w1.heap.size s i ty hit hp'
        have hbad : unh (nats s) = none := unh_bad m _ (by rw [nats_len]; exact hm) i hp hok'
        have hrf : hok (Utf8.decode s i).1 = false := by
          rcases Nat.lt_or_ge (s[i]'hp').toNat 128 with h | h
          · rw [decode_ascii s i hp' h, ← hnn]
            exact hok'
          · have := (decode_high s i hp' h).1
            simp only [hok, decide_eq_false_iff_not]
            omega
        generalize hrr : (Utf8.decode s i).1 = r at hnx hd1 hrf
        generalize hpp : i + (Utf8.decode s i).2 = q at hnx
        have hdg := digit_any r (wr.iterAt w1.heap.size s q) (by omega)
        rw [hrf] at hdg
        have HBD := Lib.hid hbad
        clear hbad hok' hnn hrr hpp
        go_wp2_with fail
        refine hdg.mono ?_
        rintro e w2 ⟨rfl, rfl⟩
        go_wp2_with fail
        go_ret2
        unfold Unh
        rw [HQ.out, HBD.out]
        exact ⟨_, rfl, Nats.nil _ _ _ _, Lib.below_iterAt hbw (by omega) s q⟩
    · have hnx : ∀ ty, (Instr.next (.pointer (some ⟨w1.heap.size, 0, none⟩)) true ty).run Tryd.prog wr = _ := fun ty => Lib.run_next_end_at wr w1.heap.size s i ty hit (by omega)
      have hie : i = 2 * m := by omega
      subst hie
      have hfin : unh (nats s) = some (row (nats s) m (2 * m)) := unh_row m _ (by rw [nats_len]; exact hm) hoks.out
      have HF := Lib.hid hfin
      clear hfin
      go_wp2_with fail
      go_ret2
      unfold Unh
      rw [HQ.out, HF.out]
      exact ⟨_, rfl, HN.out, hbw⟩
end Go.Proofs.YtefnojomjdeghaaDoor
