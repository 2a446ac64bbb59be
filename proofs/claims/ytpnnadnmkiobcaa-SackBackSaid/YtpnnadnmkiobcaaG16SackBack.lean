/- Layer 31: the document's body of an option. -/
import Derived.Test.YtpnnadnmkiobcaaG13SackBack
import Derived.Test.YtpnnadnmkiobcaaG14SackBack
import Derived.Test.YtpnnadnmkiobcaaOrdB

namespace Go.Proofs.Ytpnnadnmkiobcaa
open Go.RowKit
set_option linter.unusedVariables false
set_option linter.unusedSimpArgs false
/-- What the document's Option answers. -/
def RSOPost (wait : Int) (l : List Bk) (B : Nat) (w' : World) (e : Ending) : Prop :=
  (∃ v, e = .returned (.tuple #[v, .bool true]) ∧ l ≠ [] ∧ bkR wait l ∧ Nats w' 5 .u8 B v (bksB wait l)) ∨
  (e = .returned (.tuple #[.slice none 0 0, .bool false]) ∧ ¬ (l ≠ [] ∧ bkR wait l))
set_option maxRecDepth 20000 in
set_option maxHeartbeats 8000000 in
theorem rsoption_any (wait : Int) (A : Option Addr) (n c : Nat) (l : List Bk) (w : World) (h : Rd w w.heap.size 2 A n (bks l)) (hn : n ≤ 100000) (hu : U32s l) (hw : U32 wait) :
    Calls Try.prog 6 #[.int .u32 wait, .slice A n c] w fun e w' => RSOPost wait l w.heap.size w' e ∧ Below w.heap.size w w' := by
  have HO := Lib.hid h
  have HL := Lib.hid h.bkLen
  have HE := Lib.hid (srright_any wait A n c l w h hn hu hw)
  clear h hu hw
  go_enter Try.func6, Try.ntmps6
  by_cases h0 : n = 0
  · subst h0
    have HN := Lib.hid (show ¬ (l ≠ [] ∧ bkR wait l) from fun h => h.1 (List.eq_nil_of_length_eq_zero HL.out))
    clear HE
    go_wp2_with fail
    go_ret2
    exact ⟨.inr ⟨rfl, HN.out⟩, Below.refl _ _⟩
  have h0' : ((n : Int) == 0) = false := by simp; omega
  have HN0 := Lib.hid (show l ≠ [] from fun h => by have := HL.out; rw [h] at this; simp at this; omega)
  clear h0
  go_wp2_with fail
  refine HE.out.mono ?_
  rintro e w1 ⟨⟨b, rfl, hb⟩, hb1⟩
  have B1 := Lib.hid hb1
  have HBB := Lib.hid hb
  clear hb hb1 HE
  cases b with
  | false =>
    have HN := Lib.hid (show ¬ (l ≠ [] ∧ bkR wait l) from fun h => by have := HBB.out.2 h.2; cases this)
    go_wp2_with fail
    go_ret2
    exact ⟨.inr ⟨rfl, HN.out⟩, B1.out⟩
  | true =>
    have HRR := Lib.hid (HBB.out.1 rfl)
    have hn4 : n ≤ 4 := by have := HRR.out.1; rw [HL.out] at this; exact this
    go_wp2_with fail
    go_loopw [6, 7, 8] (fun bv ev iv wr => ∃ (k : Nat) (a : Int), k ≤ n ∧ iv = .int .i64 (k : Int) ∧ ev = .int .u32 a ∧ Hid (a = bkLast wait (l.take k)) ∧ Hid (Nats wr 5 .u8 w.heap.size bv (bksB wait (l.take k))) ∧ Below w.heap.size w wr) (fun _ _ iv _ => n - (intOf iv).toNat)
    case atStart => exact ⟨0, wait, Nat.zero_le _, rfl, rfl, Lib.hid (by simp [bkLast]), Lib.hid (by simpa [bksB] using Nats.nil w1 5 .u8 w.heap.size), B1.out⟩
    case round =>
      obtain ⟨k, a, hk, rfl, rfl, hla, hN, hbw⟩ := hrel
      by_cases hlt : k < n
      · have hlt' : (k : Int) < (n : Int) := by omega
        obtain ⟨b, off, x, y, rfl, hbb, p0, p1, hp⟩ := (HO.out.below hbw).bk hlt
        have hp2 := hp.out
        obtain ⟨d1, hd1⟩ : ∃ d, d = gp a x := ⟨_, rfl⟩
        obtain ⟨d2, hd2⟩ : ∃ d, d = gp x y := ⟨_, rfl⟩
        have wd1 : IntKind.u32.wrap (x - a) = (d1 : Int) := by rw [hd1]; exact gp_wrap a x
        have wd2 : IntKind.u32.wrap (y - x) = (d2 : Int) := by rw [hd2]; exact gp_wrap x y
        have hl1 : d1 < 4294967296 := by rw [hd1]; exact gp_lt _ _
        have hl2 : d2 < 4294967296 := by rw [hd2]; exact gp_lt _ _
        have wd3 : IntKind.u64.wrap (d1 : Int) = (d1 : Int) := by rw [IntKind.wrap_u64]; omega
        have wd4 : IntKind.u64.wrap (d2 : Int) = (d2 : Int) := by rw [IntKind.wrap_u64]; omega
        have HL1 := Lib.hid hl1
        have HL2 := Lib.hid hl2
        have HREC := Lib.hid (show bksB wait (l.take (k + 1)) = bksB wait (l.take k) ++ be d1 4 ++ be d2 4 from by rw [nth_take (Lib.hid hp2), bksB_snoc, ← hla.out, hd1, hd2, List.append_assoc]; rfl)
        have HLA := Lib.hid (show y = bkLast wait (l.take (k + 1)) from by rw [nth_take (Lib.hid hp2), bkLast_snoc])
        have HBL := Lib.hid (show (bksB wait (l.take k)).length ≤ 1000 from by rw [bksB_len, List.length_take]; omega)
        obtain ⟨A7, n7, c7, rfl, _, _, _⟩ := hN.out.out
        obtain ⟨T, hT⟩ : ∃ T, T = w.heap.size := ⟨_, rfl⟩
        have HT := Lib.hid hT
        have hbT : b < T := by rw [hT]; exact hbb
        clear hd1 hd2 hl1 hl2 hla hp hp2 hT
        go_wp2_with fail
        refine OB.wp_ord [(0, .pure), (1, .pure), (2, .pure), (3, .pure), (4, .pure), (5, .read), (6, .pure), (7, .pure), (8, .pure), (10, .pure), (11, .pure), (12, .pure), (13, .pure), (14, .read), (15, .pure), (16, .pure), (17, .pure), (18, .pure), (19, .read), (20, .pure), (21, .pure), (9, .sole), (22, .sole), (23, .pure)] ⟨fun k => k < T, [22]⟩ (by kernel_rfl) (by kernel_rfl) (fun QQ hQ wd hwd => ?_); (try simp only [List.map_cons, List.map_nil, List.getD_cons_zero, List.getD_cons_succ])
        have y0 : wd.cell? ⟨b, off + k * 2, none⟩ = some (.int .u32 x) := by rw [hwd.out]; exact p0
        have y1 : wd.cell? ⟨b, off + k * 2 + 1, none⟩ = some (.int .u32 y) := by rw [hwd.out]; exact p1
        have ND := Lib.hid (show Nats wd 5 .u8 w.heap.size (.slice A7 n7 c7) (bksB wait (l.take k)) by rw [hwd.out]; exact hN.out)
        have BD := Lib.hid (show Below w.heap.size w wd by rw [hwd.out]; exact hbw.drew)
        clear hwd p0 p1 hN hbw
        (refine OB.o_pure (v := ?_) (by rfl) (fun w' => ?_) ?_; rotate_left; (focus (go_simp; (try with_reducible rfl))); (try simp only [Act.put, List.setIfInBounds_toArray, List.set_cons_zero, List.set_cons_succ]))
        (refine OB.o_pure (v := ?_) (by rfl) (fun w' => ?_) ?_; rotate_left; (focus (go_simp; (try with_reducible rfl))); (try simp only [Act.put, List.setIfInBounds_toArray, List.set_cons_zero, List.set_cons_succ]))
        (refine OB.o_pure (v := ?_) (by rfl) (fun w' => ?_) ?_; rotate_left; (focus (go_simp; (try with_reducible rfl))); (try simp only [Act.put, List.setIfInBounds_toArray, List.set_cons_zero, List.set_cons_succ]))
        (refine OB.o_pure (v := ?_) (by rfl) (fun w' => ?_) ?_; rotate_left; (focus (go_simp; (try with_reducible rfl))); (try simp only [Act.put, List.setIfInBounds_toArray, List.set_cons_zero, List.set_cons_succ]))
        (refine OB.o_pure (v := ?_) (by rfl) (fun w' => ?_) ?_; rotate_left; (focus (go_simp; (try with_reducible rfl))); (try simp only [Act.put, List.setIfInBounds_toArray, List.set_cons_zero, List.set_cons_succ]))
        (refine OB.o_load _ (by rfl) rfl rfl (by dsimp only; first | assumption | omega) (by assumption) (by kernel_rfl) ?_; simp only [Act.put, List.setIfInBounds_toArray, List.set_cons_zero, List.set_cons_succ])
        (refine OB.o_pure (v := ?_) (by rfl) (fun w' => ?_) ?_; rotate_left; (focus (go_simp; (try with_reducible rfl))); (try simp only [Act.put, List.setIfInBounds_toArray, List.set_cons_zero, List.set_cons_succ]))
        (refine OB.o_pure (v := ?_) (by rfl) (fun w' => ?_) ?_; rotate_left; (focus (go_simp; (try with_reducible rfl))); (try simp only [Act.put, List.setIfInBounds_toArray, List.set_cons_zero, List.set_cons_succ]))
        (refine OB.o_pure (v := ?_) (by rfl) (fun w' => ?_) ?_; rotate_left; (focus (go_simp; (try with_reducible rfl))); (try simp only [Act.put, List.setIfInBounds_toArray, List.set_cons_zero, List.set_cons_succ]))
        (refine OB.o_pure (v := ?_) (by rfl) (fun w' => ?_) ?_; rotate_left; (focus (go_simp; (try with_reducible rfl))); (try simp only [Act.put, List.setIfInBounds_toArray, List.set_cons_zero, List.set_cons_succ]))
        (refine OB.o_pure (v := ?_) (by rfl) (fun w' => ?_) ?_; rotate_left; (focus (go_simp; (try with_reducible rfl))); (try simp only [Act.put, List.setIfInBounds_toArray, List.set_cons_zero, List.set_cons_succ]))
        (refine OB.o_pure (v := ?_) (by rfl) (fun w' => ?_) ?_; rotate_left; (focus (go_simp; (try with_reducible rfl))); (try simp only [Act.put, List.setIfInBounds_toArray, List.set_cons_zero, List.set_cons_succ]))
        (refine OB.o_pure (v := ?_) (by rfl) (fun w' => ?_) ?_; rotate_left; (focus (go_simp; (try with_reducible rfl))); (try simp only [Act.put, List.setIfInBounds_toArray, List.set_cons_zero, List.set_cons_succ]))
        (refine OB.o_load _ (by rfl) rfl rfl (by dsimp only; first | assumption | omega) (by assumption) (by kernel_rfl) ?_; simp only [Act.put, List.setIfInBounds_toArray, List.set_cons_zero, List.set_cons_succ])
        (refine OB.o_pure (v := ?_) (by rfl) (fun w' => ?_) ?_; rotate_left; (focus (go_simp; (try with_reducible rfl))); (try simp only [Act.put, List.setIfInBounds_toArray, List.set_cons_zero, List.set_cons_succ]))
        (refine OB.o_pure (v := ?_) (by rfl) (fun w' => ?_) ?_; rotate_left; (focus (go_simp; (try with_reducible rfl))); (try simp only [Act.put, List.setIfInBounds_toArray, List.set_cons_zero, List.set_cons_succ]))
        (refine OB.o_pure (v := ?_) (by rfl) (fun w' => ?_) ?_; rotate_left; (focus (go_simp; (try with_reducible rfl))); (try simp only [Act.put, List.setIfInBounds_toArray, List.set_cons_zero, List.set_cons_succ]))
        (refine OB.o_pure (v := ?_) (by rfl) (fun w' => ?_) ?_; rotate_left; (focus (go_simp; (try with_reducible rfl))); (try simp only [Act.put, List.setIfInBounds_toArray, List.set_cons_zero, List.set_cons_succ]))
        (refine OB.o_load _ (by rfl) rfl rfl (by dsimp only; first | assumption | omega) (by assumption) (by kernel_rfl) ?_; simp only [Act.put, List.setIfInBounds_toArray, List.set_cons_zero, List.set_cons_succ])
        (refine OB.o_pure (v := ?_) (by rfl) (fun w' => ?_) ?_; rotate_left; (focus (go_simp; (try with_reducible rfl))); (try simp only [Act.put, List.setIfInBounds_toArray, List.set_cons_zero, List.set_cons_succ]))
        (refine OB.o_pure (v := ?_) (by rfl) (fun w' => ?_) ?_; rotate_left; (focus (go_simp; (try with_reducible rfl))); (try simp only [Act.put, List.setIfInBounds_toArray, List.set_cons_zero, List.set_cons_succ]))
        clear y0 y1
        refine OB.o_sole (fun K hK => ?_)
        go_wp2_with fail
        refine (rput_any 4 _ _ d1 w.heap.size wd (by omega) ND.out BD.out.size (by have := HBL.out; omega) (by have := HL1.out; omega)).mono ?_
        rintro e v1 ⟨u1, rfl, hN1, hb⟩
        have N1 := Lib.hid hN1
        have X1 := Lib.hid (BD.out.trans hb)
        obtain ⟨A8, n8, c8, rfl, _, _, _⟩ := N1.out.out
        have hbT2 : Below T wd v1 := by rw [HT.out]; exact hb
        go_wp2_with fail
        refine hK _ _ (fun _ => OB.ExtB.of (hbT2)) ?_; clear hK K
        clear hb hbT2 hN1 ND BD
        refine OB.o_sole (fun K hK => ?_)
        go_wp2_with fail
        refine (rput_any 4 _ _ d2 w.heap.size v1 (by omega) N1.out X1.out.size (by have := HBL.out; simp [be_len]; omega) (by have := HL2.out; omega)).mono ?_
        rintro e v2 ⟨u2, rfl, hN2, hb⟩
        have N2 := Lib.hid (show Nats v2 5 .u8 w.heap.size u2 (bksB wait (l.take (k + 1))) from by rw [HREC.out]; exact hN2)
        have X2 := Lib.hid (X1.out.trans hb)
        obtain ⟨A9, n9, c9, rfl, _, _, _⟩ := N2.out.out
        go_wp2_with fail
        refine hK _ _ (fun h => by cases h) ?_; clear hK K
        clear hb hN2 N1 X1
        (refine OB.o_pure (v := ?_) (by rfl) (fun w' => ?_) ?_; rotate_left; (focus (go_simp; (try with_reducible rfl))); (try simp only [Act.put, List.setIfInBounds_toArray, List.set_cons_zero, List.set_cons_succ]))
        refine OB.o_nil (hQ.out _ _ ?_); clear hQ QQ
        obtain ⟨b2, off2, x2, y2, e2, hbb2, p0, p1, hp⟩ := (HO.out.below X2.out).bk hlt
        injection e2 with e2
        injection e2 with e2 e3
        subst e2 e3
        have ey := hp.out
        go_wp2_with fail
        go_roundw
        case rel => exact ⟨k + 1, y2, by omega, by go_num, rfl, Lib.hid (by rw [nth_take (Lib.hid ey), bkLast_snoc]), N2, X2.out⟩
        case measure => simp [intOf]; omega
      · have hge : ¬ (k : Int) < (n : Int) := by omega
        have h1 := hN.out
        rw [List.take_of_length_le (by rw [HL.out]; omega)] at h1
        have NF := Lib.hid h1
        obtain ⟨A7, n7, c7, rfl, _, _, _⟩ := h1.out
        clear h1 hN hla
        go_wp2_with fail
        go_ret2
        exact ⟨.inl ⟨_, rfl, HN0.out, HRR.out, NF.out⟩, hbw⟩
end Go.Proofs.Ytpnnadnmkiobcaa
