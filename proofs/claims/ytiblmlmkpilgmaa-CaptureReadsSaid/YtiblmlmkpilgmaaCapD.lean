/- Layer 34: the document's capture of some bytes. -/
import Derived.Test.YtiblmlmkpilgmaaCapN
import Derived.Test.YtiblmlmkpilgmaaCap9
import Derived.Test.YtiblmlmkpilgmaaCapRall
import Derived.Test.YtiblmlmkpilgmaaOrdC
import Derived.Deep.AppendLies
namespace Go.Proofs.Ytiblmlmkpilgmaa
open Go.RowKit
set_option linter.unusedVariables false
set_option linter.unusedSimpArgs false
theorem cut42 {l : List Nat} (h : 6 ≤ l.length) : cut l [4, 2] = some ([ub (l.take 4), ub ((l.drop 4).take 2)], l.drop 6) := by
  have h1 : 4 ≤ l.length := by omega
  have h2 : 2 ≤ l.length - 4 := by omega
  simp [cut, okS, h1, h2]
theorem cut42_no {l : List Nat} (h : l.length < 6) : cut l [4, 2] = none := by
  by_cases h1 : 4 ≤ l.length
  · have h2 : ¬ 2 ≤ l.length - 4 := by omega
    simp [cut, okS, h1, h2]
  · simp [cut, okS, h1]
theorem cut412 {l : List Nat} (h : 7 ≤ l.length) : cut l [4, 1, 2] = some ([ub (l.take 4), l.getD 4 0, ub ((l.drop 5).take 2)], l.drop 7) := by
  match l, h with
  | a0 :: a1 :: a2 :: a3 :: a4 :: a5 :: a6 :: r, _ => simp [cut, okS, ub]
theorem cut412_no {l : List Nat} (h : l.length < 7) : cut l [4, 1, 2] = none := by
  by_cases h1 : 4 ≤ l.length
  · by_cases h2 : 1 ≤ l.length - 4
    · have h3 : ¬ 2 ≤ l.length - 5 := by omega
      simp [cut, okS, h1, h2, h3]
    · simp [cut, okS, h1, h2]
  · simp [cut, okS, h1]
theorem capE_parR {l : List Rcd} {b : List Nat} (h : capE l = b) (hr : rightR l) : 10 ≤ b.length ∧ ub ((b.drop 4).take 2) = l.length ∧ parR l.length 0 (b.drop 6) = some (l, be (sumS (capB l)) 4) := by
  obtain ⟨h1, _, _, _, h5, _⟩ := capE_parts h hr
  refine ⟨h1, h5, ?_⟩
  subst h
  have e : capE l = capH l.length ++ (recsB 0 l ++ be (sumS (capB l)) 4) := by
    show (capH l.length ++ recsB 0 l) ++ be (sumS (capB l)) 4 = _
    rw [List.append_assoc]
  rw [e, drop_app (capH_len _)]
  exact parR_recs l 0 (be (sumS (capB l)) 4) hr.2 (by omega)
/-- What the document's Decode answers. -/
def RDPost (lb : List Nat) (w' : World) (e : Ending) : Prop :=
  (∃ (A : Option Addr) (n c : Nat) (l : List Rcd), e = .returned (.tuple #[.slice A n c, .bool true]) ∧ Rd w' w'.heap.size 4 A n (rcs l) ∧ l.length = n ∧ rightR l ∧ capE l = lb) ∨
  (e = .returned (.tuple #[.slice none 0 0, .bool false]) ∧ ∀ l, ¬ (rightR l ∧ capE l = lb))
theorem RDPost.no {lb : List Nat} {w' : World} (h : ∀ l, rightR l → capE l = lb → False) : RDPost lb w' (.returned (.tuple #[.slice none 0 0, .bool false])) := .inr ⟨rfl, fun l hl => h l hl.1 hl.2⟩
def tk31 (t : Nat) : Prop := t < 2147483648
theorem run_cut_hu {P : Program} {t e : TypeId} {z : Value} {sz bytes : Nat} (el : El P t e z sz bytes) (A : Option Addr) (n c k : Nat) (h2 : k ≤ c) (w : World) :
    (Instr.slice t (.slice A n c) none (some (.int .u64 (k : Int))) none).run P w = .ok (.slice A k c) w := by
  obtain ⟨ht, hinf, hzs, hsz, hb1⟩ := el
  obtain ⟨i, hi, hz, hsize, hby⟩ := info_parts hinf
  have he : P.elem t = e := by unfold Program.elem; rw [ht]
  have ht' : P.underlying t = some (.slice (P.elem t)) := by rw [he]; exact ht
  rw [run_slice_h (P := P) w t A n c ht' .u64 (k : Int) (by omega) (by omega)]
  rw [he]
  have := cutA_zero A c sz
  unfold cutA at this
  simp only [Nat.zero_mul] at this
  simp [sizeOf, typeInfo, hi, hsize, sliced, Result.andThen]
  intro hc
  cases A with
  | none => rfl
  | some a => simp [Addr.add]
theorem run_cut_lu {P : Program} {t e : TypeId} {z : Value} {sz bytes : Nat} (el : El P t e z sz bytes) (A : Option Addr) (n c h : Nat) (h1 : h ≤ n) (w : World) :
    (Instr.slice t (.slice A n c) (some (.int .u64 (h : Int))) none none).run P w = .ok (.slice (cutA A c h sz) (n - h) (c - h)) w := by
  obtain ⟨ht, hinf, hzs, hsz, hb1⟩ := el
  obtain ⟨i, hi, hz, hsize, hby⟩ := info_parts hinf
  have he : P.elem t = e := by unfold Program.elem; rw [ht]
  have ht' : P.underlying t = some (.slice (P.elem t)) := by rw [he]; exact ht
  rw [run_slice_l (P := P) w t A n c ht' .u64 (h : Int) (by omega) (by omega)]
  rw [he]
  simp [sizeOf, typeInfo, hi, hsize, sliced, Result.andThen, cutA]
set_option maxRecDepth 20000 in
set_option maxHeartbeats 8000000 in
theorem rdecode_any (A : Option Addr) (n c : Nat) (lb : List Nat) (w : World) (h : Rd w w.heap.size 1 A n (ns .u8 lb)) (hnc : n ≤ c) (hb : ∀ x ∈ lb, x < 256) (hn : n ≤ 20000) :
    Calls Try.prog 65 #[.slice A n c] w fun e w' => RDPost lb w' e ∧ Below w.heap.size w w' := by
  have hA : Below w.heap.size w (w.alloc (.cells #[.int .i64 4, .int .i64 2] 3)) := (Below.refl _ _).alloc (Nat.le_refl _) _
  have hzs := Zats.lit (w := w) (e := 3) (k := .i64) (ss := [4, 2]) (n := 2) #[.int .i64 4, .int .i64 2] rfl rfl (by unfold maxLen; omega)
  have HALL := Lib.hid (rall2_any A (some ⟨w.heap.size, 0, none⟩) n 2 c 2 w.heap.size lb [4, 2] _ (h.below hA) hA.size hzs.rd hnc hb (by omega) (by omega) (by omega))
  have HLEN := Lib.hid h.natLen
  have HR := Lib.hid h
  have HB := Lib.hid hb
  have BA := Lib.hid hA
  clear h hb hA hzs
  go_enter Try.func65, Try.ntmps65
  go_wp2_with fail
  refine HALL.out.mono ?_
  rintro e w2 ⟨hb2, hres⟩
  have B2 := Lib.hid (BA.out.trans (hb2.mono BA.out.size))
  clear HALL
  generalize w.alloc (.cells #[.int .i64 4, .int .i64 2] 3) = wa at *
  rcases hres with ⟨xs, rest, v, A1, n1, c1, hcut, rfl, hN, hn1, hn1n, hr⟩ | ⟨hcut, rfl⟩
  rotate_left
  · have HNO := Lib.hid (show ∀ l, rightR l → capE l = lb → False from fun l hr he => by
      have h10 := (capE_parR he hr).1
      rw [cut42 (by omega)] at hcut
      cases hcut)
    clear hcut hb2
    go_wp2_with fail
    go_ret2
    exact ⟨RDPost.no HNO.out, B2.out⟩
  by_cases h6 : lb.length < 6
  · rw [cut42_no h6] at hcut
    cases hcut
  rw [cut42 (by omega)] at hcut
  injection hcut with hcut
  injection hcut with e1 e2
  subst e1
  subst e2
  have hub2 := ub_lt 2 ((lb.drop 4).take 2) (by rw [List.length_take, List.length_drop]; omega) fun x hx => HB.out x (List.mem_of_mem_drop (List.mem_of_mem_take hx))
  obtain ⟨H, hH⟩ : ∃ H, H = ub ((lb.drop 4).take 2) := ⟨_, rfl⟩
  rw [← hH] at hN hub2
  have hH16 : h16 H := hub2
  obtain ⟨g0, cg0, rfl, hg0B, hg0l, hg0c, hcell⟩ := nats_open hN (by simp)
  have d1 := hcell 1 _ rfl
  simp only [List.length_cons, List.length_nil, Nat.zero_add, Nat.reduceAdd] at hg0c ⊢
  have HR1 := Lib.hid (show Rd w2 w.heap.size 1 A1 n1 (ns .u8 (lb.drop 6)) from hr.below (hb2.mono BA.out.size))
  have HSAY := Lib.hid (show ∀ l, rightR l → capE l = lb → l.length = H ∧ ∃ r, parR H 0 (lb.drop 6) = some (l, r) from fun l hr he => by
    obtain ⟨_, h5, h6⟩ := capE_parR he hr
    rw [hH, h5]
    exact ⟨rfl, _, h6⟩)
  have HB6 := Lib.hid (show ∀ x ∈ lb.drop 6, x < 256 from fun x hx => HB.out x (List.mem_of_mem_drop hx))
  clear hcell hN hub2 hH hr hb2 h6 BA hg0B
  go_wp2_with fail
  go_loopw [5, 7, 8, 9] (fun bv ov tv iv wr => ∃ (k tk N C : Nat) (X : Option Addr) (r : List Nat) (lo : List Rcd), k ≤ H ∧ k ≤ 1024 ∧ iv = .int .u64 (k : Int) ∧ tv = .int .u64 (tk : Int) ∧ tk31 tk ∧ bv = .slice X N C ∧ N ≤ C ∧ Hid (Rd wr w.heap.size 1 X N (ns .u8 r)) ∧ Hid (∀ x ∈ r, x < 256) ∧ Hid (RO wr w2.heap.size ov lo) ∧ lo.length = k ∧ Hid (∀ p ∈ lo, p.2.2.2.length ≤ 65535 ∧ ∀ x ∈ p.2.2.2, x < 256) ∧ bsum lo + N ≤ n ∧ Hid (parR H 0 (lb.drop 6) = (parR (H - k) tk r).map fun p => (lo ++ p.1, p.2)) ∧ Below w2.heap.size w2 wr) (fun _ _ _ iv _ => H - (intOf iv).toNat)
  case atStart => exact ⟨0, 0, n1, c1, A1, lb.drop 6, [], Nat.zero_le _, by omega, rfl, rfl, by unfold tk31; omega, rfl, hn1, HR1, HB6, Lib.hid (RO.nil _ _), rfl, Lib.hid (by simp), by simpa [bsum] using hn1n, Lib.hid (by simp), Below.refl _ _⟩
  case round =>
    obtain ⟨k, tk, N, C, X, r, lo, hk, hk10, rfl, rfl, htk, rfl, hNC, hrd, hrb, hown, hlk, hbod, hbs, hpar, hbw⟩ := hrel
    clear HR1 HB6
    obtain ⟨A7, n7, c7, rfl, hnc7, hl7, hr7⟩ := hown.out.out
    have hn7 : k = n7 := by rw [← hl7.out, hlk]
    subst hn7
    have q1 := (hbw.cell (p := ⟨g0, 1, none⟩) hg0l).trans d1
    have HRN := Lib.hid hrd.out.natLen
    by_cases hlt : k < H
    · have hlt' : (k : Int) < (H : Int) := by omega
      obtain ⟨j, hj⟩ : ∃ j, H - k = j + 1 := ⟨H - k - 1, by omega⟩
      have hp := hpar.out
      rw [hj] at hp
      rw [parR_succ] at hp
      have hww : w.heap.size ≤ wr.heap.size := Nat.le_trans B2.out.size hbw.size
      have hA : Below wr.heap.size wr (wr.alloc (.cells #[.int .i64 4, .int .i64 1, .int .i64 2] 3)) := (Below.refl _ _).alloc (Nat.le_refl _) _
      have hzs := Zats.lit (w := wr) (e := 3) (k := .i64) (ss := [4, 1, 2]) (n := 3) #[.int .i64 4, .int .i64 1, .int .i64 2] rfl rfl (by unfold maxLen; omega)
      have HALL := Lib.hid (rall2_any X (some ⟨wr.heap.size, 0, none⟩) N 3 C 3 w.heap.size r [4, 1, 2] _ (hrd.out.below (hA.mono hww)) (Nat.le_trans hww hA.size) hzs.rd hNC hrb.out (by omega) (by omega) (by omega))
      have HA := Lib.hid hA
      have HP := Lib.hid hp
      have HW := Lib.hid hww
      have HNE := Lib.hid (show ∀ gg, (Value.slice A7 k c7).ownBlock = some gg → gg < wr.heap.size from fun gg h => (hown.out.lt gg h).2)
      clear hA hzs hp hpar hrd hr7 hl7 hww
      go_wp2_with fail
      refine HALL.out.mono ?_
      rintro e w3 ⟨hb3, hres⟩
      clear HALL
      have hAw := HA.out.size
      have HB3 := Lib.hid (HA.out.trans (hb3.mono HA.out.size))
      have O3 := Lib.hid (hown.out.below HB3.out)
      have B3 := Lib.hid (hbw.trans (HB3.out.mono hbw.size))
      have HA2 := Lib.hid (show w.heap.size ≤ (wr.alloc (.cells #[.int .i64 4, .int .i64 1, .int .i64 2] 3)).heap.size from Nat.le_trans HW.out HA.out.size)
      generalize wr.alloc (.cells #[.int .i64 4, .int .i64 1, .int .i64 2] 3) = wa at *
      have BW3 := Lib.hid (B2.out.trans (B3.out.mono B2.out.size))
      clear hown hbw
      rcases hres with ⟨xs, rest, v, Y, N2, C2, hcut, rfl, hN, hNC2, hN2n, hr⟩ | ⟨hcut, rfl⟩
      rotate_left
      · have HNO := Lib.hid (show ∀ l, rightR l → capE l = lb → False from fun l hr he => by
          obtain ⟨_, r', h2⟩ := HSAY.out l hr he
          have h7 : r.length < 7 := by
            apply Decidable.byContradiction
            intro h7
            rw [cut412 (by omega)] at hcut
            cases hcut
          have hp := HP.out
          rw [if_pos h7, h2] at hp
          cases hp)
        clear hcut hb3
        go_wp2_with fail
        go_ret2
        exact ⟨RDPost.no HNO.out, BW3.out⟩
      by_cases h7 : r.length < 7
      · rw [cut412_no h7] at hcut
        cases hcut
      have hp := HP.out
      rw [if_neg h7] at hp
      rw [cut412 (by omega)] at hcut
      injection hcut with hcut
      injection hcut with e1 e2
      subst e1
      subst e2
      have hlenr : r.length = N := HRN.out
      have hub2 := ub_lt 2 ((r.drop 5).take 2) (by rw [List.length_take, List.length_drop]; omega) fun x hx => hrb.out x (List.mem_of_mem_drop (List.mem_of_mem_take hx))
      have hub4 := ub_lt 4 (r.take 4) (by rw [List.length_take]; omega) fun x hx => hrb.out x (List.mem_of_mem_take hx)
      have HQ32 := Lib.hid (show q32 (ub (r.take 4)) from hub4)
      have HM16 := Lib.hid (show h16 (ub ((r.drop 5).take 2)) from hub2)
      clear hub4 hub2
      have hg4 : r.getD 4 0 < 256 := hrb.out _ (mem_getD r 0 4 (by omega))
      generalize hd : ub (r.take 4) = d at *
      generalize hh : r.getD 4 0 = hb8 at *
      generalize hm : ub ((r.drop 5).take 2) = m at *
      have hN2 : N2 = N - 7 := by have := hr.natLen; rw [List.length_drop] at this; omega
      obtain ⟨g, cg, rfl, hgB, hgl, hgc, hcell⟩ := nats_open hN (by simp)
      have c0 := hcell 0 _ rfl
      have c1 := hcell 1 _ rfl
      have c2 := hcell 2 _ rfl
      simp only [List.length_cons, List.length_nil] at hgc ⊢
      have RD3 := Lib.hid (show Rd w3 w.heap.size 1 Y N2 (ns .u8 (r.drop 7)) from hr.below (hb3.mono HA2.out))
      have HGG := Lib.hid (show wr.heap.size ≤ g from Nat.le_trans hAw hgB)
      have wN2 : IntKind.u64.wrap (N2 : Int) = (N2 : Int) := by rw [IntKind.wrap_u64]; omega
      clear hcell hN hr hb3 HB3 HA HA2 hgB hd hh hm hAw
      by_cases hmN : N2 < m
      · have hmN' : (N2 : Int) < (m : Int) := by omega
        have HNO := Lib.hid (show ∀ l, rightR l → capE l = lb → False from fun l hr he => by
          obtain ⟨_, r', h2⟩ := HSAY.out l hr he
          rw [if_pos (by omega), h2] at hp
          cases hp)
        clear hp hN2 hlenr
        go_wp2_with fail
        go_ret2
        exact ⟨RDPost.no HNO.out, BW3.out⟩
      have hmN' : ¬ (N2 : Int) < (m : Int) := by omega
      have hmND : decide ((N2 : Int) < (m : Int)) = false := decide_eq_false hmN'
      by_cases hk24 : 1024 ≤ k
      · have hk24' : (1024 : Int) ≤ (k : Int) := by omega
        have HNO := Lib.hid (show ∀ l, rightR l → capE l = lb → False from fun l hr he => by
          obtain ⟨h1, _⟩ := HSAY.out l hr he
          have := hr.1
          omega)
        clear hp hN2 hlenr
        go_wp2_with fail
        go_ret2
        exact ⟨RDPost.no HNO.out, BW3.out⟩
      have hk24' : ¬ (1024 : Int) ≤ (k : Int) := by omega
      have hk24D : decide ((1024 : Int) ≤ (k : Int)) = false := decide_eq_false hk24'
      rw [if_neg (by omega)] at hp
      obtain ⟨t2, ht2⟩ : ∃ t2, t2 = tk + d := ⟨_, rfl⟩
      have hd32 : d < 4294967296 := HQ32.out
      have htk2 : tk < 2147483648 := htk
      have et2 : (tk : Int) + (d : Int) = (t2 : Int) := by omega
      have wt2 : IntKind.u64.wrap ((tk : Int) + (d : Int)) = (t2 : Int) := by rw [et2, IntKind.wrap_u64]; omega
      have wt3 : IntKind.i64.wrap (t2 : Int) = (t2 : Int) := by rw [IntKind.wrap_i64]; omega
      obtain ⟨hq, hhq⟩ : ∃ hq, hq = hb8 / 128 := ⟨_, rfl⟩
      obtain ⟨hr8, hhr⟩ : ∃ hr, hr = hb8 % 128 := ⟨_, rfl⟩
      obtain ⟨bd, hbd⟩ : ∃ bd, bd = (r.drop 7).take m := ⟨_, rfl⟩
      have HPN := Lib.hid (show parR H 0 (lb.drop 6) = (parR (H - (k + 1)) t2 (r.drop (7 + m))).map fun p => ((lo ++ [((t2 : Int), (hq : Int), (hr8 : Int), bd)]) ++ p.1, p.2) from by
        rw [show H - (k + 1) = j by omega, hp, ht2, hhq, hhr, hbd]
        rw [Option.map_map]
        congr 1
        funext p
        simp)
      clear hp
      by_cases ht31 : 2147483647 < t2
      · have ht31' : (2147483647 : Int) < (t2 : Int) := by omega
        have HNO := Lib.hid (show ∀ l, rightR l → capE l = lb → False from fun l hr he => by
          obtain ⟨_, r', h2⟩ := HSAY.out l hr he
          have h3 := HPN.out
          rw [h2] at h3
          cases h4 : parR (H - (k + 1)) t2 (r.drop (7 + m)) with
          | none => rw [h4] at h3; cases h3
          | some p =>
            rw [h4] at h3
            injection h3 with h3
            injection h3 with h3 _
            obtain ⟨b, hok⟩ := rightGo_mem hr.2 ((t2 : Int), (hq : Int), (hr8 : Int), bd) (by rw [h3]; simp)
            have := hok.2.1
            dsimp only at this
            omega)
        clear hN2 hlenr ht2 et2 hhq hhr hbd hd32 htk2
        go_wp2_with fail
        go_ret2
        exact ⟨RDPost.no HNO.out, BW3.out⟩
      have ht31' : ¬ (2147483647 : Int) < (t2 : Int) := by omega
      have ht31D : decide ((2147483647 : Int) < (t2 : Int)) = false := decide_eq_false ht31'
      have ht2b : tk31 t2 := by unfold tk31; omega
      have eq1 : (hb8 : Int).tdiv 128 = (hq : Int) := by rw [hhq, Int.tdiv_eq_ediv_of_nonneg (by omega)]; omega
      have er1 : (hb8 : Int).tmod 128 = (hr8 : Int) := by rw [hhr, Int.tmod_eq_emod_of_nonneg (by omega)]; omega
      have wq1 : IntKind.u64.wrap (hq : Int) = (hq : Int) := by rw [IntKind.wrap_u64]; omega
      have wq2 : IntKind.i64.wrap (hq : Int) = (hq : Int) := by rw [IntKind.wrap_i64]; omega
      have wr1 : IntKind.u64.wrap (hr8 : Int) = (hr8 : Int) := by rw [IntKind.wrap_u64]; omega
      have wr2 : IntKind.i64.wrap (hr8 : Int) = (hr8 : Int) := by rw [IntKind.wrap_i64]; omega
      have HU := Lib.hid (show Try.prog.underlying 37 = some (.slice (Try.prog.elem 37)) by unfold Program.elem; rw [Try.underlying37])
      have hs1 : ∀ w, (Instr.slice 37 (.slice Y N2 C2) none (some (.int .u64 (m : Int))) none).run Try.prog w = .ok (.slice Y m C2) w := fun w => run_cut_hu pel8 Y N2 C2 m (by omega) w
      have hs2 : ∀ w, (Instr.sliceAt 37 (.slice Y N2 C2) none (some (.int .u64 (m : Int))) none).run Try.prog w = .ok (.slice Y m C2) w := fun w => (run_sliceAt_slice w _ _ _ _ _ HU.out).trans (hs1 w)
      obtain ⟨N3, hN3⟩ : ∃ N3, N3 = N2 - m := ⟨_, rfl⟩
      obtain ⟨C3, hC3⟩ : ∃ C3, C3 = C2 - m := ⟨_, rfl⟩
      have hs3 : ∀ w, (Instr.slice 37 (.slice Y N2 C2) (some (.int .u64 (m : Int))) none none).run Try.prog w = .ok (.slice (cutA Y C2 m 1) N3 C3) w := fun w => by
        have := run_cut_lu pel8 Y N2 C2 m (by omega) w
        rw [← hN3, ← hC3] at this
        exact this
      have hs4 : ∀ w, (Instr.sliceAt 37 (.slice Y N2 C2) (some (.int .u64 (m : Int))) none none).run Try.prog w = .ok (.slice (cutA Y C2 m 1) N3 C3) w := fun w => (run_sliceAt_slice w _ _ _ _ _ HU.out).trans (hs3 w)
      have hrY := RD3.out.takeN (show m ≤ N2 by omega)
      rw [← hbd] at hrY
      have hrZ := RD3.out.cut1 (h := m) (c := C2) (by omega) hNC2
      rw [← hN3, List.drop_drop] at hrZ
      generalize cutA Y C2 m 1 = Z at *
      have RY := Lib.hid hrY
      have RZ := Lib.hid hrZ
      have HRB := Lib.hid (show ∀ x ∈ r.drop (7 + m), x < 256 from fun x hx => hrb.out x (List.mem_of_mem_drop hx))
      have hbdl : bd.length = m := by rw [hbd, List.length_take, List.length_drop]; omega
      have HBOD := Lib.hid (show ∀ p ∈ lo ++ [((t2 : Int), (hq : Int), (hr8 : Int), bd)], p.2.2.2.length ≤ 65535 ∧ ∀ x ∈ p.2.2.2, x < 256 from by
        intro p hp
        rcases List.mem_append.1 hp with hp | hp
        · exact hbod.out p hp
        · simp only [List.mem_singleton] at hp
          subst hp
          have : m < 65536 := HM16.out
          exact ⟨by dsimp only; omega, fun x hx => hrb.out x (List.mem_of_mem_drop (List.mem_of_mem_take (by rw [hbd] at hx; exact hx)))⟩)
      have hNC3 : N3 ≤ C3 := by omega
      have hbs2 : bsum (lo ++ [((t2 : Int), (hq : Int), (hr8 : Int), bd)]) + N3 ≤ n := by rw [bsum_snoc]; dsimp only; omega
      have hlo2 : (lo ++ [((t2 : Int), (hq : Int), (hr8 : Int), bd)]).length = k + 1 := by rw [List.length_append, hlk]; rfl
      obtain ⟨k2, hk2⟩ : ∃ k2, k2 = k + 1 := ⟨_, rfl⟩
      have ek2 : (k : Int) + 1 = (k2 : Int) := by omega
      have hH64 : H < 65536 := hH16
      have wk2 : IntKind.u64.wrap ((k : Int) + 1) = (k2 : Int) := by rw [ek2, IntKind.wrap_u64]; omega
      have wk3 : IntKind.u64.wrap (k2 : Int) = (k2 : Int) := by rw [IntKind.wrap_u64]; omega
      have wt4 : IntKind.u64.wrap (t2 : Int) = (t2 : Int) := by rw [IntKind.wrap_u64]; omega
      have HLO := Lib.hid hlk
      have C2H := Lib.hid c2
      have ht2' : t2 ≤ 2147483647 := by omega
      clear hN2 hlenr ht2 et2 hhq hhr hbd hd32 htk2 HU hN3 hC3 hrY hrZ hrb hbod RD3 hbdl ek2 hH64 HQ32 HM16 htk hg4 hlk hbs HRN h7
      go_wp2_with fail
      refine wp_ord [(0, .pure), (1, .pure), (2, .pure), (3, .pure), (4, .pure), (5, .read), (6, .pure), (7, .pure), (8, .pure), (9, .pure), (10, .read), (11, .pure), (12, .pure), (13, .pure), (14, .pure), (15, .pure), (16, .read), (17, .pure), (18, .read), (19, .pure), (20, .sole), (21, .sole), (22, .pure)] [21] (by kernel_rfl) (by kernel_rfl) (fun QQ hQ wd hwd => ?_); simp only [List.map_cons, List.map_nil, List.getD_cons_zero, List.getD_cons_succ]
      have hD : Below w3.heap.size w3 wd := by rw [hwd.out]; exact (Below.refl _ _).drew
      have y1 : wd.cell? ⟨g, 1, none⟩ = some (.int .u64 (hb8 : Int)) := by rw [hwd.out]; exact c1
      have y2 : wd.cell? ⟨g, 2, none⟩ = some (.int .u64 (m : Int)) := by rw [hwd.out]; exact c2
      have Y2 := Lib.hid y2
      have hgd : g < wd.heap.size := by rw [hwd.out]; exact hgl
      have OD := Lib.hid (O3.out.below hD)
      have BD := Lib.hid (B3.out.trans (hD.mono B3.out.size))
      have RYD := Lib.hid ((RY.out.below (hD.mono BW3.out.size)).mono (Nat.le_trans BW3.out.size hD.size))
      have RZD := Lib.hid (RZ.out.below (hD.mono BW3.out.size))
      clear hD hwd c0 c1 c2 O3 B3 RY RZ
      (refine o_pure (v := ?_) (by rfl) (fun w' => ?_) ?_; rotate_left; (focus (go_simp; (try with_reducible rfl))); (try simp only [Act.put, List.setIfInBounds_toArray, List.set_cons_zero, List.set_cons_succ]))
      (refine o_pure (v := ?_) (by rfl) (fun w' => ?_) ?_; rotate_left; (focus (go_simp; (try with_reducible rfl))); (try simp only [Act.put, List.setIfInBounds_toArray, List.set_cons_zero, List.set_cons_succ]))
      (refine o_pure (v := ?_) (by rfl) (fun w' => ?_) ?_; rotate_left; (focus (go_simp; (try with_reducible rfl))); (try simp only [Act.put, List.setIfInBounds_toArray, List.set_cons_zero, List.set_cons_succ]))
      (refine o_pure (v := ?_) (by rfl) (fun w' => ?_) ?_; rotate_left; (focus (go_simp; (try with_reducible rfl))); (try simp only [Act.put, List.setIfInBounds_toArray, List.set_cons_zero, List.set_cons_succ]))
      (refine o_pure (v := ?_) (by rfl) (fun w' => ?_) ?_; rotate_left; (focus (go_simp; (try with_reducible rfl))); (try simp only [Act.put, List.setIfInBounds_toArray, List.set_cons_zero, List.set_cons_succ]))
      (refine o_load _ (by rfl) rfl rfl (by assumption) (by kernel_rfl) ?_; simp only [Act.put, List.setIfInBounds_toArray, List.set_cons_zero, List.set_cons_succ])
      (refine o_pure (v := ?_) (by rfl) (fun w' => ?_) ?_; rotate_left; (focus (go_simp; (try with_reducible rfl))); (try simp only [Act.put, List.setIfInBounds_toArray, List.set_cons_zero, List.set_cons_succ]))
      (refine o_pure (v := ?_) (by rfl) (fun w' => ?_) ?_; rotate_left; (focus (go_simp; (try with_reducible rfl))); (try simp only [Act.put, List.setIfInBounds_toArray, List.set_cons_zero, List.set_cons_succ]))
      (refine o_pure (v := ?_) (by rfl) (fun w' => ?_) ?_; rotate_left; (focus (go_simp; (try with_reducible rfl))); (try simp only [Act.put, List.setIfInBounds_toArray, List.set_cons_zero, List.set_cons_succ]))
      (refine o_pure (v := ?_) (by rfl) (fun w' => ?_) ?_; rotate_left; (focus (go_simp; (try with_reducible rfl))); (try simp only [Act.put, List.setIfInBounds_toArray, List.set_cons_zero, List.set_cons_succ]))
      (refine o_load _ (by rfl) rfl rfl (by assumption) (by kernel_rfl) ?_; simp only [Act.put, List.setIfInBounds_toArray, List.set_cons_zero, List.set_cons_succ])
      (refine o_pure (v := ?_) (by rfl) (fun w' => ?_) ?_; rotate_left; (focus (go_simp; (try with_reducible rfl))); (try simp only [Act.put, List.setIfInBounds_toArray, List.set_cons_zero, List.set_cons_succ]))
      (refine o_pure (v := ?_) (by rfl) (fun w' => ?_) ?_; rotate_left; (focus (go_simp; (try with_reducible rfl))); (try simp only [Act.put, List.setIfInBounds_toArray, List.set_cons_zero, List.set_cons_succ]))
      (refine o_pure (v := ?_) (by rfl) (fun w' => ?_) ?_; rotate_left; (focus (go_simp; (try with_reducible rfl))); (try simp only [Act.put, List.setIfInBounds_toArray, List.set_cons_zero, List.set_cons_succ]))
      (refine o_pure (v := ?_) (by rfl) (fun w' => ?_) ?_; rotate_left; (focus (go_simp; (try with_reducible rfl))); (try simp only [Act.put, List.setIfInBounds_toArray, List.set_cons_zero, List.set_cons_succ]))
      (refine o_pure (v := ?_) (by rfl) (fun w' => ?_) ?_; rotate_left; (focus (go_simp; (try with_reducible rfl))); (try simp only [Act.put, List.setIfInBounds_toArray, List.set_cons_zero, List.set_cons_succ]))
      (refine o_load _ (by rfl) rfl rfl (by assumption) (by kernel_rfl) ?_; simp only [Act.put, List.setIfInBounds_toArray, List.set_cons_zero, List.set_cons_succ])
      (refine o_pure (v := ?_) (by rfl) (fun w' => ?_) ?_; rotate_left; (focus (go_simp; (try with_reducible rfl))); (try simp only [Act.put, List.setIfInBounds_toArray, List.set_cons_zero, List.set_cons_succ]))
      (refine o_conv Try.underlying37 Try.underlying5 Try.underlying9 _ (by rfl) rfl rfl (RYD.out) ?_; simp only [Act.put, List.setIfInBounds_toArray, List.set_cons_zero, List.set_cons_succ])
      (refine o_pure (v := ?_) (by rfl) (fun w' => ?_) ?_; rotate_left; (focus (go_simp; (try with_reducible rfl))); (try simp only [Act.put, List.setIfInBounds_toArray, List.set_cons_zero, List.set_cons_succ]))
      clear y1 y2
      refine o_sole (fun K hK => ?_)
      go_wp2_with fail
      refine hK _ _ (fun _ => Ext.of ((Below.refl _ _).alloc (Nat.le_refl _) _)) ?_; clear hK K
      refine o_sole (fun K hK => ?_)
      refine appZ relR #[.int .i64 (t2 : Int), .int .i64 (hq : Int), .int .i64 (hr8 : Int), .string (strN bd)] rfl (rcs_one [((t2 : Int), (hq : Int), (hr8 : Int), bd)]) rfl (.tmp 60) (.tmp 80) rfl rfl (show wd.ownsRow w2.heap.size 134 4 (.slice A7 k c7) k (rcs lo) from by have h := OD.out; unfold RO at h; rwa [HLO.out] at h) rfl rfl (room_ge (by omega)) BD.out.size ?_
      intro v24 w24 ho24 hg24 hb24
      have O24 := Lib.hid (show RO w24 w2.heap.size v24 (lo ++ [((t2 : Int), (hq : Int), (hr8 : Int), bd)]) from by
        unfold RO
        rw [List.length_append, HLO.out, rcs_append]
        exact ho24)
      have B24 := Lib.hid (BD.out.trans hb24)
      have c2 : w24.cell? ⟨g, 2, none⟩ = some (.int .u64 (m : Int)) := (hg24.cell_far ⟨g, 2, none⟩ hgd fun h => Nat.not_lt.2 HGG.out (HNE.out g h.symm)).trans Y2.out
      have RZ24 := Lib.hid (RZD.out.below (hb24.mono B2.out.size))
      obtain ⟨A24, n24, c24, rfl, _, _, _⟩ := O24.out.out
      refine wpList_nil ?_
      refine hK _ _ (fun h => by cases h) ?_; clear hK K
      clear ho24 hb24 hg24 OD BD RYD RZD Y2 hgd
      (refine o_pure (v := ?_) (by rfl) (fun w' => ?_) ?_; rotate_left; (focus (go_simp; (try with_reducible rfl))); (try simp only [Act.put, List.setIfInBounds_toArray, List.set_cons_zero, List.set_cons_succ]))
      refine o_nil (hQ.out _ _ ?_); clear hQ QQ
      go_wp2_with fail
      go_roundw
      case rel => exact ⟨k2, t2, N3, C3, Z, r.drop (7 + m), _, by omega, by omega, by go_num, rfl, ht2b, rfl, hNC3, RZ24, HRB, O24, by omega, HBOD, hbs2, by rw [hk2]; exact HPN, B24.out⟩
      case measure => simp [intOf]; omega
    · have hge : ¬ (k : Int) < (H : Int) := by omega
      have hkH : k = H := by omega
      subst hkH
      have hp := hpar.out
      rw [Nat.sub_self] at hp
      have HSAY2 := Lib.hid (show ∀ l, rightR l → capE l = lb → l = lo from fun l hr he => by
        obtain ⟨_, r', h2⟩ := HSAY.out l hr he
        rw [h2] at hp
        simp [parR] at hp
        exact hp.1)
      have HE := Lib.hid (rcencode_any A7 k c7 lo wr hr7.out (by omega) (fun p hp => by have := (hbod.out p hp).1; unfold maxLen; omega) (fun p hp => (hbod.out p hp).2) (fun _ => by omega))
      have BWR := Lib.hid (B2.out.trans (hbw.mono B2.out.size))
      have HBY := Lib.hid (show ∀ p ∈ lo, ∀ x ∈ p.2.2.2, x < 256 from fun p hp => (hbod.out p hp).2)
      clear hp hpar hbod hrd hrb hown hl7 HRN
      go_wp2_with fail
      refine HE.out.mono ?_
      rintro e w9 ⟨⟨v9, b9, rfl, hi9, hN9⟩, hb⟩
      have RO9 := Lib.hid (hr7.out.into hb)
      have B9 := Lib.hid (BWR.out.trans (hb.mono BWR.out.size))
      obtain ⟨X9, m9, d9, rfl, hmd9, hl9, hr9⟩ := hN9.out
      clear HE hN9 hb
      cases b9 with
      | false =>
        have HNO := Lib.hid (show ∀ l, rightR l → capE l = lb → False from fun l hr he => by
          have := HSAY2.out l hr he
          subst this
          have := hi9.2 hr
          cases this)
        clear hi9 hl9 hr9 hmd9
        go_wp2_with fail
        go_ret2
        exact ⟨RDPost.no HNO.out, B9.out⟩
      | true =>
        have HRR := Lib.hid (hi9.1 rfl)
        have RB := Lib.hid (HR.out.into B9.out)
        have R9 := Lib.hid (show Rd w9 w9.heap.size 1 X9 m9 (ns .u8 (capE lo)) from hr9.out)
        clear hi9 hl9 hr9 hmd9
        by_cases heq : capE lo = lb
        · rw [heq] at R9
          have hself := strN_self lb
          have hself2 : ((strN lb).toList != (strN lb).toList) = false := by simp
          have HEQ := Lib.hid heq
          clear heq
          go_wp2_with (first | refine wpList_conv Try.underlying37 Try.underlying5 Try.underlying9 rfl _ rfl rfl R9.out ?_ | refine wpList_conv Try.underlying37 Try.underlying5 Try.underlying9 rfl _ rfl rfl RB.out ?_)
          go_ret2
          exact ⟨.inl ⟨A7, k, c7, lo, rfl, RO9.out, hlk, HRR.out, HEQ.out⟩, B9.out⟩
        · have hne1 : ((strN (capE lo)).toList == (strN lb).toList) = false := by rw [strN_beq (capE_byte HRR.out HBY.out) HB.out]; exact decide_eq_false heq
          have hne2 : ((strN (capE lo)).toList != (strN lb).toList) = true := by unfold bne; rw [hne1]; rfl
          have HNO := Lib.hid (show ∀ l, rightR l → capE l = lb → False from fun l hr he => by
            have := HSAY2.out l hr he
            subst this
            exact heq he)
          clear heq
          go_wp2_with (first | refine wpList_conv Try.underlying37 Try.underlying5 Try.underlying9 rfl _ rfl rfl R9.out ?_ | refine wpList_conv Try.underlying37 Try.underlying5 Try.underlying9 rfl _ rfl rfl RB.out ?_)
          go_ret2
          exact ⟨RDPost.no HNO.out, B9.out⟩
end Go.Proofs.Ytiblmlmkpilgmaa
