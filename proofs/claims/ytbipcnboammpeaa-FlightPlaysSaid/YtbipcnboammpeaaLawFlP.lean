/- Layer 16: the law FlightPlays. -/
import Derived.Test.YtbipcnboammpeaaFlr6
import Derived.Test.YtbipcnboammpeaaFlr7
namespace Go.Proofs.Ytbipcnboammpeaa
open Go.RowKit
set_option linter.unusedVariables false
set_option linter.unusedSimpArgs false
def opfs (l : List OpF) : List Value := l.flatMap OpF.el
theorem opfs_len (l : List OpF) : (opfs l).length = l.length * 11 := fm_len opf_len l
theorem Rd.opf {w : World} {B n : Nat} {A : Option Addr} {l : List OpF} (h : Rd w B 11 A n (opfs l)) {i : Nat} (hi : i < n) :
    ∃ (b off : Nat) (o : OpF), A = some ⟨b, off, none⟩ ∧ b < B ∧ Hid (∀ j v, o.el[j]? = some v → w.cell? ⟨b, off + i * 11 + j, none⟩ = some v) ∧ Hid (l[i]? = some o) := by
  obtain ⟨b, off, e, hb, hc⟩ := h.2 (by omega)
  have hl : l.length = n := by have := h.1; rw [opfs_len] at this; omega
  have hg : l[i]? = some l[i] := by rw [List.getElem?_eq_getElem (by omega)]
  refine ⟨b, off, l[i], e, hb, Lib.hid fun j v hv => ?_, Lib.hid hg⟩
  have hj : j < 11 := by have := (List.getElem?_eq_some_iff.1 hv).1; rw [opf_len] at this; exact this
  rw [Nat.add_assoc, hc (i * 11 + j) (by omega)]
  exact (fm_get opf_len hg hj).trans hv
theorem op11 {w : World} {b o : Nat} {c : OpF} (h : ∀ j v, c.el[j]? = some v → w.cell? ⟨b, o + j, none⟩ = some v) : w.cell? ⟨b, o, none⟩ = some (.int .i64 c.k) ∧ w.cell? ⟨b, o + 1, none⟩ = some (.int .u64 (c.c.fr : Nat)) ∧ w.cell? ⟨b, o + 2, none⟩ = some (.int .i64 c.c.len) ∧ w.cell? ⟨b, o + 3, none⟩ = some (.bool c.c.fin) ∧ w.cell? ⟨b, o + 4, none⟩ = some (.int .i64 c.c.flow) ∧ w.cell? ⟨b, o + 5, none⟩ = some (.int .u32 c.c.en) ∧ w.cell? ⟨b, o + 6, none⟩ = some (.int .i64 c.c.sent) ∧ w.cell? ⟨b, o + 7, none⟩ = some (.int .i64 c.c.tries) ∧ w.cell? ⟨b, o + 8, none⟩ = some (.bool c.c.came) ∧ w.cell? ⟨b, o + 9, none⟩ = some (.bool c.c.lost) ∧ w.cell? ⟨b, o + 10, none⟩ = some (.int .i64 c.wt) :=
  ⟨h 0 _ rfl, h 1 _ rfl, h 2 _ rfl, h 3 _ rfl, h 4 _ rfl, h 5 _ rfl, h 6 _ rfl, h 7 _ rfl, h 8 _ rfl, h 9 _ rfl, h 10 _ rfl⟩
structure OpF.okay (o : OpF) : Prop where
  c : o.c.fr < 18446744073709551616 ∧ (-9223372036854775808 ≤ o.c.len ∧ o.c.len < 9223372036854775808) ∧ (-9223372036854775808 ≤ o.c.flow ∧ o.c.flow < 9223372036854775808) ∧ U32 o.c.en
  k : -9223372036854775808 ≤ o.k ∧ o.k < 9223372036854775808
theorem OpF.okay.full {o : OpF} (h : o.okay) (hr : o.rt) : o.c.ok := ⟨h.c.1, h.c.2.1, h.c.2.2.1, h.c.2.2.2, hr.1, hr.2.2⟩
theorem lplain_row (v : Value) (B : Nat) (l : List Chk) (w : World) (h : w.ownsRow B 30 9 v l.length (chs l)) (hl : l.length ≤ 100) :
    Calls Try.prog 12 #[v] w fun e w' => ∃ v, e = .returned v ∧ w'.ownsRow 0 38 9 v l.length (chs l) ∧ Below w.heap.size w w' := by
  obtain ⟨A, c, rfl, _, _, h3⟩ := own_form h
  exact (lplain_any A _ c l w h3 hl).mono fun e w' ⟨v, a, b, c⟩ => ⟨v, a, own_mono b (Nat.zero_le _), c⟩
theorem rsame_row (v : Value) (B : Nat) (A : Option Addr) (n c : Nat) (l : List Chk) (w : World) (h : w.ownsRow B 38 9 v l.length (chs l)) (hr : Rd w w.heap.size 9 A n (chs l)) (hl : l.length ≤ 100) :
    Calls Try.prog 11 #[v, .slice A n c] w fun e w' => e = .returned (.bool true) ∧ Below w.heap.size w w' := by
  obtain ⟨A1, c1, rfl, _, _, h3⟩ := own_form h
  exact rsame_any A1 A _ c1 n c l w h3 hr hl
theorem nilC_ok : nilC.ok := ⟨by decide, by decide, by decide, by unfold U32; decide, by decide, by decide⟩
theorem fnd_ok {p : Chk → Bool} {l : List Chk} (h : ∀ c ∈ l, c.ok) : ((fndC p l).getD nilC).ok := by
  induction l with
  | nil => exact nilC_ok
  | cons d l ih =>
    unfold fndC
    split
    · exact h d (by simp)
    · exact ih fun c hc => h c (by simp [hc])
set_option maxRecDepth 20000 in
set_option maxHeartbeats 4000000 in
theorem flightPlays_walk (mi : Int) (A : Option Addr) (n c : Nat) (l : List OpF) (w : World) (hmi : (Lit.int .i64 mi).wf = true) (hr : Rd w w.heap.size 11 A n (opfs l)) (hnc : n ≤ c) (hc : c ≤ maxLen) (hl : ∀ o ∈ l, o.okay) :
    Calls Try.prog 3 #[.int .i64 mi, .slice A n c] w fun e w' => e = .returned (.bool true) ∧ Below w.heap.size w w' := by
  have HR := Lib.hid hr
  have HL := Lib.hid hl
  unfold maxLen at hc
  have HNW := Lib.hid (fl_new mi w hmi)
  have CM := Lib.hid (fun w => lmost_any mi w hmi)
  have hm64 := clN_le (show 1 ≤ 64 by omega) mi
  obtain ⟨most, hmo⟩ : ∃ x, x = clN 1 64 mi := ⟨_, rfl⟩
  rw [← hmo] at HNW CM hm64
  have HM64 := Lib.hid hm64
  clear hr hl hmi hmo hm64
  by_cases h6 : 100 < n
  · have h6' : (100 : Int) < (n : Int) := by omega
    go_enter Try.func3, Try.ntmps3
    go_wp2_with fail
    go_ret
    exact ⟨rfl, Below.refl _ _⟩
  have h6' : ¬ (100 : Int) < (n : Int) := by omega
  have hn : n ≤ 100 := by omega
  go_enter Try.func3, Try.ntmps3
  go_wp2_with fail
  refine HNW.out.mono ?_
  rintro e w2 ⟨rfl, h2, b2⟩
  have F2 := Lib.hid h2
  have B2 := Lib.hid b2
  clear h2 b2 h6 h6' HNW
  go_wp2_with fail
  have Q2 : Hid (w2.ownsRow w.heap.size 38 9 (.slice none 0 0) 0 (chs [])) := Lib.hid (World.ownsRow_nil _ _ _ _)
  go_loopw [6, 7] (fun rv iv wr => ∃ (i : Nat) (A2 : Option Addr) (n2 c2 : Nat) (l2 : List Chk), i ≤ n ∧ iv = .int .i64 (i : Nat) ∧ rv = .slice A2 n2 c2 ∧ Hid (FL wr w.heap.size w.heap.size most l2) ∧ Hid (wr.ownsRow w.heap.size 38 9 (.slice A2 n2 c2) n2 (chs l2)) ∧ Hid (l2.length ≤ most) ∧ Hid (∀ c ∈ l2, c.ok) ∧ Hid (Below w.heap.size w wr)) (fun _ iv _ => n - (intOf iv).toNat)
  case atStart => exact ⟨0, none, 0, 0, [], Nat.zero_le _, rfl, rfl, F2, Q2, Lib.hid (by simp), Lib.hid (by simp), B2⟩
  case round =>
    clear F2 B2 Q2
    obtain ⟨i, A1, n1, c1, l1, hi, rfl, rfl, FF, QQ1, HLM1, HOK1, BB⟩ := hrel
    by_cases hlt : i < n
    · have hlt' : (i : Int) < (n : Int) := by omega
      have hi0 : ¬ (i : Int) < 0 := by omega
      obtain ⟨rb, off, o, hA, hrb, HC, HX⟩ := HR.out.opf hlt
      subst hA
      have hoo := HL.out o (List.mem_of_getElem? HX.out)
      have HOO := Lib.hid hoo
      have COP := Lib.hid (fun w' (hb : Below w.heap.size w w') j v (hj : o.el[j]? = some v) => (hb.cell (p := ⟨rb, off + i * 11 + j, none⟩) hrb).trans (HC.out j v hj))
      obtain ⟨p0, p1, p2, p3, p4, p5, p6, p7, p8, p9, p10⟩ := op11 (COP.out wr BB.out)
      clear hoo
      go_wp2_with fail
      refine (lright_any o wr).mono ?_
      rintro e w3 ⟨bv, rfl, hbv, hb3⟩
      have F3 := Lib.hid (FF.out.into hb3)
      have Q3 := Lib.hid (own_below QQ1.out hb3 fun g hg => (QQ1.out.lt g hg).2)
      have B3 := Lib.hid (BB.out.trans (hb3.mono BB.out.size))
      have HBV := Lib.hid hbv
      clear hb3 hbv FF QQ1 BB p0 p1 p2 p3 p4 p5 p6 p7 p8 p9 p10
      cases bv
      · go_wp2_with fail
        go_ret
        exact ⟨rfl, B3.out⟩
      have HRT := Lib.hid (HBV.out rfl)
      have HOC := Lib.hid (HOO.out.full HRT.out)
      clear HBV
      go_upto_region 13 with fail
      refine wp_ord [(0, .pure), (1, .pure), (2, .pure), (3, .pure), (4, .pure), (5, .read), (6, .pure), (7, .sole), (8, .sole), (9, .pure), (10, .pure), (11, .pure), (12, .pure), (13, .pure)] [8] (by kernel_rfl) (by kernel_rfl) (fun QQ hQ wd hwd => ?_); simp only [List.map_cons, List.map_nil, List.getD_cons_zero, List.getD_cons_succ]
      have hD : Below w3.heap.size w3 wd := by rw [hwd.out]; exact (Below.refl _ _).drew
      have FD := Lib.hid (F3.out.into hD)
      have QD := Lib.hid (own_below Q3.out hD fun g hg => (Q3.out.lt g hg).2)
      have BD := Lib.hid (B3.out.trans (hD.mono B3.out.size))
      have HCD := Lib.hid (COP.out wd BD.out)
      clear hD hwd F3 Q3 B3
      (refine o_pure (v := ?_) (by rfl) (fun w' => ?_) ?_; rotate_left; (focus (go_simp; (try with_reducible rfl); (try (rw [if_pos (by omega)]; (try with_reducible rfl))))); (try simp only [Act.put, List.setIfInBounds_toArray, List.set_cons_zero, List.set_cons_succ]))
      (refine o_pure (v := ?_) (by rfl) (fun w' => ?_) ?_; rotate_left; (focus (go_simp; (try with_reducible rfl); (try (rw [if_pos (by omega)]; (try with_reducible rfl))))); (try simp only [Act.put, List.setIfInBounds_toArray, List.set_cons_zero, List.set_cons_succ]))
      (refine o_pure (v := ?_) (by rfl) (fun w' => ?_) ?_; rotate_left; (focus (go_simp; (try with_reducible rfl); (try (rw [if_pos (by omega)]; (try with_reducible rfl))))); (try simp only [Act.put, List.setIfInBounds_toArray, List.set_cons_zero, List.set_cons_succ]))
      (refine o_pure (v := ?_) (by rfl) (fun w' => ?_) ?_; rotate_left; (focus (go_simp; (try with_reducible rfl); (try (rw [if_pos (by omega)]; (try with_reducible rfl))))); (try simp only [Act.put, List.setIfInBounds_toArray, List.set_cons_zero, List.set_cons_succ]))
      (refine o_pure (v := ?_) (by rfl) (fun w' => ?_) ?_; rotate_left; (focus (go_simp; (try with_reducible rfl); (try (rw [if_pos (by omega)]; (try with_reducible rfl))))); (try simp only [Act.put, List.setIfInBounds_toArray, List.set_cons_zero, List.set_cons_succ]))
      (refine o_loads _ [.int .i64 o.k, .int .u64 (o.c.fr : Nat), .int .i64 o.c.len, .bool o.c.fin, .int .i64 o.c.flow, .int .u32 o.c.en, .int .i64 o.c.sent, .int .i64 o.c.tries, .bool o.c.came, .bool o.c.lost, .int .i64 o.wt] (by rfl) rfl rfl (HCD.out) (Nat.succ_pos _) (by kernel_rfl) (by kernel_rfl) ?_; simp only [Act.put, List.setIfInBounds_toArray, List.set_cons_zero, List.set_cons_succ])
      (refine o_pure (v := ?_) (by rfl) (fun w' => ?_) ?_; rotate_left; (focus (go_simp; (try with_reducible rfl); (try (rw [if_pos (by omega)]; (try with_reducible rfl))))); (try simp only [Act.put, List.setIfInBounds_toArray, List.set_cons_zero, List.set_cons_succ]))
      refine o_sole (fun K hK => ?_)
      go_wp2_with fail
      refine (CM.out wd).mono ?_
      rintro e w4 ⟨rfl, hw4⟩
      have hw4 := hw4.symm
      subst hw4
      go_wp2_with fail
      refine hK _ _ (fun _ => Ext.of (Below.refl _ _)) ?_; clear hK K
      refine o_sole (fun K hK => ?_)
      go_wp2_with fail
      refine (ldo_any w.heap.size w.heap.size most A1 n1 c1 l1 o wd FD.out QD.out HLM1.out HM64.out HOK1.out HOC.out HOO.out.k).mono ?_
      rintro e w4 ⟨A2, n2, c2, l2, rfl, hdo⟩
      have F4 := Lib.hid hdo.fl
      have Q4 := Lib.hid hdo.row
      have HLM2 := Lib.hid hdo.len
      have HOK2 := Lib.hid hdo.ok
      have B4 := Lib.hid (BD.out.trans (hdo.kp.below (Nat.le_refl _) (Nat.le_refl _) BD.out.size))
      clear hdo FD QD HCD HOC HRT COP BD HLM1 HOK1
      go_wp2_with fail
      refine hK _ _ (fun h => by cases h) ?_; clear hK K
      (refine o_pure (v := ?_) (by rfl) (fun w' => ?_) ?_; rotate_left; (focus (go_simp; (try with_reducible rfl); (try (rw [if_pos (by omega)]; (try with_reducible rfl))))); (try simp only [Act.put, List.setIfInBounds_toArray, List.set_cons_zero, List.set_cons_succ]))
      (refine o_pure (v := ?_) (by rfl) (fun w' => ?_) ?_; rotate_left; (focus (go_simp; (try with_reducible rfl); (try (rw [if_pos (by omega)]; (try with_reducible rfl))))); (try simp only [Act.put, List.setIfInBounds_toArray, List.set_cons_zero, List.set_cons_succ]))
      (refine o_pure (v := ?_) (by rfl) (fun w' => ?_) ?_; rotate_left; (focus (go_simp; (try with_reducible rfl); (try (rw [if_pos (by omega)]; (try with_reducible rfl))))); (try simp only [Act.put, List.setIfInBounds_toArray, List.set_cons_zero, List.set_cons_succ]))
      (refine o_pure (v := ?_) (by rfl) (fun w' => ?_) ?_; rotate_left; (focus (go_simp; (try with_reducible rfl); (try (rw [if_pos (by omega)]; (try with_reducible rfl))))); (try simp only [Act.put, List.setIfInBounds_toArray, List.set_cons_zero, List.set_cons_succ]))
      (refine o_pure (v := ?_) (by rfl) (fun w' => ?_) ?_; rotate_left; (focus (go_simp; (try with_reducible rfl); (try (rw [if_pos (by omega)]; (try with_reducible rfl))))); (try simp only [Act.put, List.setIfInBounds_toArray, List.set_cons_zero, List.set_cons_succ]))
      refine o_nil (hQ.out _ _ ?_); clear hQ QQ
      have HL64 := Lib.hid (show l2.length ≤ 64 by have := HLM2.out; have := HM64.out; omega)
      have HL100 := Lib.hid (show l2.length ≤ 100 by have := HLM2.out; have := HM64.out; omega)
      have hnl2 : l2.length = n2 := (Rd.of_own Q4.out).chkLen
      have HNL2 := Lib.hid hnl2
      clear hnl2
      have CA := Lib.hid (fun w' h => fl_again w.heap.size w.heap.size most l2 w' h HL64.out)
      have CB := Lib.hid (fun w' h => lagain_any A2 n2 c2 l2 w' h (by rw [← HNL2.out]; exact HL100.out))
      have HOKF := Lib.hid (fnd_ok (p := fun c => c.lost) HOK2.out)
      obtain ⟨oo, hoo⟩ : ∃ oo, oo = fndC (fun c => c.lost) l2 := ⟨_, rfl⟩
      rw [← hoo] at CA CB HOKF
      clear hoo
      unfold fndV at CA CB
      obtain ⟨f0, hf0⟩ : ∃ f0, f0 = oo.getD nilC := ⟨_, rfl⟩
      obtain ⟨bo, hbo⟩ : ∃ bo, bo = oo.isSome := ⟨_, rfl⟩
      rw [← hf0] at CA CB HOKF
      rw [← hbo] at CA CB
      rw [chk_agg] at CA CB
      clear hf0 hbo
      go_wp2_with fail
      refine (CA.out w4 F4.out).mono ?_
      rintro e w5 ⟨rfl, hb5⟩
      have F5 := Lib.hid (F4.out.into hb5)
      have Q5 := Lib.hid (own_below Q4.out hb5 fun g hg => (Q4.out.lt g hg).2)
      have B5 := Lib.hid (B4.out.trans (hb5.mono B4.out.size))
      clear hb5 F4 Q4 B4 CA
      go_upto_region 15 with fail
      have hA := (Below.refl w5.heap.size w5).alloc (Nat.le_refl _) (.cells #[.int .u64 (f0.fr : Nat), .int .i64 f0.len, .bool f0.fin, .int .i64 f0.flow, .int .u32 f0.en, .int .i64 f0.sent, .int .i64 f0.tries, .bool f0.came, .bool f0.lost] 30)
      have K9 := Lib.hid (Blk.new w5 30 #[.int .u64 (f0.fr : Nat), .int .i64 f0.len, .bool f0.fin, .int .i64 f0.flow, .int .u32 f0.en, .int .i64 f0.sent, .int .i64 f0.tries, .bool f0.came, .bool f0.lost])
      have F6 := Lib.hid (F5.out.into hA)
      have Q6 := Lib.hid (own_below Q5.out hA fun g hg => (Q5.out.lt g hg).2)
      have B6 := Lib.hid (B5.out.trans (hA.mono B5.out.size))
      obtain ⟨X9, hX9⟩ : ∃ X9, X9 = w5.heap.size := ⟨_, rfl⟩
      rw [← hX9] at K9 ⊢
      clear hA hX9 F5 Q5 B5
      generalize w5.alloc (.cells #[.int .u64 (f0.fr : Nat), .int .i64 f0.len, .bool f0.fin, .int .i64 f0.flow, .int .u32 f0.en, .int .i64 f0.sent, .int .i64 f0.tries, .bool f0.came, .bool f0.lost] 30) = w6 at *
      have R6 := Lib.hid (Rd.of_own Q6.out)
      go_wp2_with fail
      refine (CB.out w6 R6.out).mono ?_
      rintro e w7 ⟨rfl, hb7⟩
      replace K9 := Lib.hid (K9.out.below hb7 K9.out.lt)
      replace F6 := Lib.hid (F6.out.into hb7)
      replace Q6 := Lib.hid (own_below Q6.out hb7 fun g hg => (Q6.out.lt g hg).2)
      replace B6 := Lib.hid (B6.out.trans (hb7.mono B6.out.size))
      clear hb7 R6 CB
      go_upto_region 16 with fail
      have hA := (Below.refl w7.heap.size w7).alloc (Nat.le_refl _) (.cells #[.int .u64 (f0.fr : Nat), .int .i64 f0.len, .bool f0.fin, .int .i64 f0.flow, .int .u32 f0.en, .int .i64 f0.sent, .int .i64 f0.tries, .bool f0.came, .bool f0.lost] 38)
      have K11 := Lib.hid (Blk.new w7 38 #[.int .u64 (f0.fr : Nat), .int .i64 f0.len, .bool f0.fin, .int .i64 f0.flow, .int .u32 f0.en, .int .i64 f0.sent, .int .i64 f0.tries, .bool f0.came, .bool f0.lost])
      replace F6 := Lib.hid (F6.out.into hA)
      replace Q6 := Lib.hid (own_below Q6.out hA fun g hg => (Q6.out.lt g hg).2)
      replace B6 := Lib.hid (B6.out.trans (hA.mono B6.out.size))
      replace K9 := Lib.hid (K9.out.below hA K9.out.lt)
      obtain ⟨X11, hX11⟩ : ∃ X11, X11 = w7.heap.size := ⟨_, rfl⟩
      rw [← hX11] at K11 ⊢
      clear hA hX11
      generalize w7.alloc (.cells #[.int .u64 (f0.fr : Nat), .int .i64 f0.len, .bool f0.fin, .int .i64 f0.flow, .int .u32 f0.en, .int .i64 f0.sent, .int .i64 f0.tries, .bool f0.came, .bool f0.lost] 38) = w8 at *
      have R6 := Lib.hid (Rd.of_own Q6.out)
      obtain ⟨d, hd⟩ : ∃ d, d = most - l2.length := ⟨_, rfl⟩
      have hdi : (most : Int) - (n2 : Int) = (d : Nat) := by have := HNL2.out; have := HLM2.out; omega
      have hwd : IntKind.i64.wrap (d : Int) = (d : Nat) := by rw [IntKind.wrap_i64]; have := HM64.out; omega
      have CALL := Lib.hid (fun w' (hb : Below w8.heap.size w8 w') => (fl_all w.heap.size w.heap.size most l2 w' (F6.out.into hb) HL64.out).mono fun (e : Ending) w'' ⟨v, a, b, c⟩ => (show ∃ v, e = Ending.returned v ∧ w''.ownsRow 0 30 9 v l2.length (chs l2) ∧ Below w'.heap.size w' w'' from ⟨v, a, own_mono b (Nat.zero_le _), c⟩))
      have CLEN := Lib.hid (fun w' (hb : Below w8.heap.size w8 w') => (fl_leng w.heap.size w.heap.size most l2 w' (F6.out.into hb)).mono fun (e : Ending) w'' ⟨a, b⟩ => (show e = Ending.returned (.int .i64 (n2 : Nat)) ∧ Below w'.heap.size w' w'' from ⟨by rw [← HNL2.out]; exact a, by rw [b]; exact Below.refl _ _⟩))
      have CFREE := Lib.hid (fun w' (hb : Below w8.heap.size w8 w') => fl_free w.heap.size w.heap.size most l2 w' (F6.out.into hb) HLM2.out HM64.out)
      rw [← hd] at CFREE
      have CMOST := Lib.hid (fun w' => (CM.out w').mono fun (e : Ending) w'' ⟨a, b⟩ => (show e = Ending.returned (.int .i64 (most : Nat)) ∧ Below w'.heap.size w' w'' from ⟨a, by rw [b]; exact Below.refl _ _⟩))
      clear hd
      refine GH.wp_ghl2 (M := false) 38 ((GH.SP.eq (.bool true)) :: (GH.SP.eq (.bool false)) :: (GH.SP.eq (.bool false)) :: (GH.SP.eq (.pointer (some ⟨w.heap.size, 0, none⟩))) :: (GH.SP.row 30 9 (0) (l2.length) (chs l2)) :: (GH.SP.row 38 9 (0) (l2.length) (chs l2)) :: (GH.SP.eq (.slice A2 n2 c2)) :: (GH.SP.eq (.bool true)) :: (GH.SP.eq (.bool false)) :: (GH.SP.eq (.bool false)) :: (GH.SP.eq (.bool false)) :: (GH.SP.eq (.pointer (some ⟨w.heap.size, 0, none⟩))) :: (GH.SP.eq (.int .i64 (n2 : Nat))) :: (GH.SP.eq (.slice A2 n2 c2)) :: (GH.SP.eq (.int .i64 (n2 : Nat))) :: (GH.SP.eq (.bool false)) :: (GH.SP.eq (.bool false)) :: (GH.SP.eq (.bool false)) :: (GH.SP.eq (.pointer (some ⟨w.heap.size, 0, none⟩))) :: (GH.SP.eq (.int .i64 (d : Nat))) :: (GH.SP.eq (.int .i64 mi)) :: (GH.SP.eq (.int .i64 (most : Nat))) :: (GH.SP.eq (.slice A2 n2 c2)) :: (GH.SP.eq (.int .i64 (n2 : Nat))) :: (GH.SP.eq (.int .i64 (d : Nat))) :: (GH.SP.eq (.bool false)) :: (GH.SP.eq (.bool false)) :: (GH.SP.eq (.bool false)) :: (GH.SP.eq (.bool bo)) :: (GH.SP.eq (.bool bo)) :: (GH.SP.eq (.bool false)) :: (GH.SP.eq (.bool false)) :: (GH.SP.eq (.bool false)) :: (GH.SP.eq (.agg #[.int .u64 (f0.fr : Nat), .int .i64 f0.len, .bool f0.fin, .int .i64 f0.flow, .int .u32 f0.en, .int .i64 f0.sent, .int .i64 f0.tries, .bool f0.came, .bool f0.lost])) :: (GH.SP.eq (.agg #[.int .u64 (f0.fr : Nat), .int .i64 f0.len, .bool f0.fin, .int .i64 f0.flow, .int .u32 f0.en, .int .i64 f0.sent, .int .i64 f0.tries, .bool f0.came, .bool f0.lost])) :: (GH.SP.eq (.agg #[.int .u64 (f0.fr : Nat), .int .i64 f0.len, .bool f0.fin, .int .i64 f0.flow, .int .u32 f0.en, .int .i64 f0.sent, .int .i64 f0.tries, .bool f0.came, .bool f0.lost])) :: (GH.SP.eq (.bool false)) :: (GH.SP.eq (.bool false)) :: []) (none :: none :: none :: none :: none :: none :: none :: none :: none :: none :: none :: none :: none :: none :: none :: none :: none :: none :: none :: none :: none :: none :: none :: none :: none :: none :: none :: none :: none :: none :: none :: none :: none :: none :: none :: none :: none :: none :: none :: none :: none :: none :: none :: none :: none :: none :: none :: none :: none :: none :: none :: none :: none :: none :: none :: none :: (some 0) :: (some 1) :: (some 2) :: (some 3) :: (some 4) :: (some 5) :: (some 6) :: (some 7) :: (some 8) :: (some 9) :: (some 10) :: (some 11) :: (some 12) :: (some 13) :: (some 14) :: (some 15) :: (some 16) :: (some 17) :: (some 18) :: (some 19) :: (some 20) :: (some 21) :: (some 22) :: (some 23) :: (some 24) :: (some 25) :: (some 26) :: (some 27) :: (some 28) :: (some 29) :: (some 30) :: (some 31) :: (some 32) :: (some 33) :: (some 34) :: (some 35) :: (some 36) :: (some 37) :: none :: none :: none :: none :: none :: none :: none :: none :: none :: none :: none :: none :: none :: none :: none :: none :: none :: none :: none :: none :: none :: none :: none :: none :: none :: none :: none :: none :: none :: none :: []) [56, 57, 58, 59, 60, 61, 62, 63, 64, 65, 66, 67, 68, 69, 70, 71, 72, 73, 74, 75, 76, 77, 78, 79, 80, 81, 82, 83, 84, 85, 86, 87, 88, 89, 90, 91, 92, 93] (by rfl) (by kernel_rfl) (by kernel_rfl) ?_ ?_ ?_
      · intro S jx v hjx
        match jx, hjx with
        | 0, _ => rfl
        | 1, _ => rfl
        | 2, _ => rfl
        | 3, _ => rfl
        | 4, _ => rfl
        | 5, _ => rfl
        | 6, _ => rfl
        | 7, _ => rfl
        | 8, _ => rfl
        | 9, _ => rfl
        | 10, _ => rfl
        | 11, _ => rfl
        | 12, _ => rfl
        | 13, _ => rfl
        | 14, _ => rfl
        | 15, _ => rfl
        | 16, _ => rfl
        | 17, _ => rfl
        | 18, _ => rfl
        | 19, _ => rfl
        | 20, _ => rfl
        | 21, _ => rfl
        | 22, _ => rfl
        | 23, _ => rfl
        | 24, _ => rfl
        | 25, _ => rfl
        | 26, _ => rfl
        | 27, _ => rfl
        | 28, _ => rfl
        | 29, _ => rfl
        | 30, _ => rfl
        | 31, _ => rfl
        | 32, _ => rfl
        | 33, _ => rfl
        | 34, _ => rfl
        | 35, _ => rfl
        | 36, _ => rfl
        | 37, _ => rfl
        | nx + 38, hjx => omega
      · intro jx hjx S w' hb hd
        match jx, hjx, hd with
        | 0, _, hd =>
          simp only [GH.mkL, List.getD_cons_succ, List.getD_cons_zero]
          clear hd
          refine GH.st_eq (by rfl) ?_
          go_simp
          (try with_reducible rfl)
        | 1, _, hd =>
          simp only [GH.mkL, List.getD_cons_succ, List.getD_cons_zero]
          have d0 : S 0 = .bool true := (hd 0 (by kernel_rfl)).2
          rw [d0]
          clear d0
          clear hd
          refine GH.st_eq (by rfl) ?_
          go_simp
          (try simp only [bne_self_eq_false])
          (try with_reducible rfl)
        | 2, _, hd =>
          simp only [GH.mkL, List.getD_cons_succ, List.getD_cons_zero]
          have d1 : S 1 = .bool false := (hd 1 (by kernel_rfl)).2
          rw [d1]
          clear d1
          clear hd
          refine GH.st_eq (by rfl) ?_
          go_simp
          (try with_reducible rfl)
        | 3, _, hd =>
          simp only [GH.mkL, List.getD_cons_succ, List.getD_cons_zero]
          have d2 : S 2 = .bool false := (hd 2 (by kernel_rfl)).2
          rw [d2]
          clear d2
          clear hd
          refine GH.st_eq (by rfl) ?_
          go_simp
          (try with_reducible rfl)
        | 4, _, hd =>
          simp only [GH.mkL, List.getD_cons_succ, List.getD_cons_zero]
          have d2 : S 2 = .bool false := (hd 2 (by kernel_rfl)).2
          rw [d2]
          clear d2
          have d3 : S 3 = .pointer (some ⟨w.heap.size, 0, none⟩) := (hd 3 (by kernel_rfl)).2
          rw [d3]
          clear d3
          clear hd
          refine GH.st_call (by rfl) hb.below.size (by go_simp) ((CALL.out w' hb.below).mono ?_)
          rintro e w9 ⟨v9, rfl, ho9, hb9⟩
          exact ⟨_, rfl, hb9, ho9⟩
        | 5, _, hd =>
          simp only [GH.mkL, List.getD_cons_succ, List.getD_cons_zero]
          have d2 : S 2 = .bool false := (hd 2 (by kernel_rfl)).2
          rw [d2]
          clear d2
          have H4 := Lib.hid (show World.ownsRow _ _ _ _ (S 4) _ _ from (hd 4 (by kernel_rfl)).2)
          generalize S 4 = v4 at H4 ⊢
          clear hd
          refine GH.st_call (by rfl) hb.below.size (by go_simp) ((lplain_row _ _ _ w' H4.out HL100.out).mono ?_)
          rintro e w9 ⟨v9, rfl, ho9, hb9⟩
          exact ⟨_, rfl, hb9, ho9⟩
        | 6, _, hd =>
          simp only [GH.mkL, List.getD_cons_succ, List.getD_cons_zero]
          have d2 : S 2 = .bool false := (hd 2 (by kernel_rfl)).2
          rw [d2]
          clear d2
          clear hd
          refine GH.st_eq (by rfl) ?_
          go_simp
          (try with_reducible rfl)
        | 7, _, hd =>
          simp only [GH.mkL, List.getD_cons_succ, List.getD_cons_zero]
          have d2 : S 2 = .bool false := (hd 2 (by kernel_rfl)).2
          rw [d2]
          clear d2
          have H5 := Lib.hid (show World.ownsRow _ _ _ _ (S 5) _ _ from (hd 5 (by kernel_rfl)).2)
          generalize S 5 = v5 at H5 ⊢
          have d6 : S 6 = .slice A2 n2 c2 := (hd 6 (by kernel_rfl)).2
          rw [d6]
          clear d6
          clear hd
          refine GH.st_call (by rfl) hb.below.size (by go_simp) ((rsame_row _ _ A2 n2 c2 _ w' H5.out (R6.out.into hb.below) HL100.out).mono ?_)
          rintro e w9 ⟨rfl, hb9⟩
          exact ⟨_, rfl, hb9, rfl⟩
        | 8, _, hd =>
          simp only [GH.mkL, List.getD_cons_succ, List.getD_cons_zero]
          have d2 : S 2 = .bool false := (hd 2 (by kernel_rfl)).2
          rw [d2]
          clear d2
          have d7 : S 7 = .bool true := (hd 7 (by kernel_rfl)).2
          rw [d7]
          clear d7
          clear hd
          refine GH.st_eq (by rfl) ?_
          go_simp
          (try simp only [bne_self_eq_false])
          (try with_reducible rfl)
        | 9, _, hd =>
          simp only [GH.mkL, List.getD_cons_succ, List.getD_cons_zero]
          have d2 : S 2 = .bool false := (hd 2 (by kernel_rfl)).2
          rw [d2]
          clear d2
          have d8 : S 8 = .bool false := (hd 8 (by kernel_rfl)).2
          rw [d8]
          clear d8
          clear hd
          refine GH.st_eq (by rfl) ?_
          go_simp
          (try simp only [bne_self_eq_false])
          (try with_reducible rfl)
        | 10, _, hd =>
          simp only [GH.mkL, List.getD_cons_succ, List.getD_cons_zero]
          have d7 : S 7 = .bool true := (hd 7 (by kernel_rfl)).2
          rw [d7]
          clear d7
          have d9 : S 9 = .bool false := (hd 9 (by kernel_rfl)).2
          rw [d9]
          clear d9
          clear hd
          refine GH.st_eq (by rfl) ?_
          go_simp
          (try with_reducible rfl)
        | 11, _, hd =>
          simp only [GH.mkL, List.getD_cons_succ, List.getD_cons_zero]
          have d10 : S 10 = .bool false := (hd 10 (by kernel_rfl)).2
          rw [d10]
          clear d10
          clear hd
          refine GH.st_eq (by rfl) ?_
          go_simp
          (try with_reducible rfl)
        | 12, _, hd =>
          simp only [GH.mkL, List.getD_cons_succ, List.getD_cons_zero]
          have d10 : S 10 = .bool false := (hd 10 (by kernel_rfl)).2
          rw [d10]
          clear d10
          have d11 : S 11 = .pointer (some ⟨w.heap.size, 0, none⟩) := (hd 11 (by kernel_rfl)).2
          rw [d11]
          clear d11
          clear hd
          refine GH.st_call (by rfl) hb.below.size (by go_simp) ((CLEN.out w' hb.below).mono ?_)
          rintro e w9 ⟨rfl, hb9⟩
          exact ⟨_, rfl, hb9, rfl⟩
        | 13, _, hd =>
          simp only [GH.mkL, List.getD_cons_succ, List.getD_cons_zero]
          have d10 : S 10 = .bool false := (hd 10 (by kernel_rfl)).2
          rw [d10]
          clear d10
          clear hd
          refine GH.st_eq (by rfl) ?_
          go_simp
          (try with_reducible rfl)
        | 14, _, hd =>
          simp only [GH.mkL, List.getD_cons_succ, List.getD_cons_zero]
          have d10 : S 10 = .bool false := (hd 10 (by kernel_rfl)).2
          rw [d10]
          clear d10
          have d13 : S 13 = .slice A2 n2 c2 := (hd 13 (by kernel_rfl)).2
          rw [d13]
          clear d13
          clear hd
          refine GH.st_eq (by rfl) ?_
          go_simp
          (try with_reducible rfl)
        | 15, _, hd =>
          simp only [GH.mkL, List.getD_cons_succ, List.getD_cons_zero]
          have d10 : S 10 = .bool false := (hd 10 (by kernel_rfl)).2
          rw [d10]
          clear d10
          have d12 : S 12 = .int .i64 (n2 : Nat) := (hd 12 (by kernel_rfl)).2
          rw [d12]
          clear d12
          have d14 : S 14 = .int .i64 (n2 : Nat) := (hd 14 (by kernel_rfl)).2
          rw [d14]
          clear d14
          clear hd
          refine GH.st_eq (by rfl) ?_
          go_simp
          (try simp only [bne_self_eq_false])
          (try with_reducible rfl)
        | 16, _, hd =>
          simp only [GH.mkL, List.getD_cons_succ, List.getD_cons_zero]
          have d10 : S 10 = .bool false := (hd 10 (by kernel_rfl)).2
          rw [d10]
          clear d10
          have d15 : S 15 = .bool false := (hd 15 (by kernel_rfl)).2
          rw [d15]
          clear d15
          clear hd
          refine GH.st_eq (by rfl) ?_
          go_simp
          (try simp only [bne_self_eq_false])
          (try with_reducible rfl)
        | 17, _, hd =>
          simp only [GH.mkL, List.getD_cons_succ, List.getD_cons_zero]
          have d12 : S 12 = .int .i64 (n2 : Nat) := (hd 12 (by kernel_rfl)).2
          rw [d12]
          clear d12
          have d16 : S 16 = .bool false := (hd 16 (by kernel_rfl)).2
          rw [d16]
          clear d16
          clear hd
          refine GH.st_eq (by rfl) ?_
          go_simp
          (try with_reducible rfl)
        | 18, _, hd =>
          simp only [GH.mkL, List.getD_cons_succ, List.getD_cons_zero]
          have d17 : S 17 = .bool false := (hd 17 (by kernel_rfl)).2
          rw [d17]
          clear d17
          clear hd
          refine GH.st_eq (by rfl) ?_
          go_simp
          (try with_reducible rfl)
        | 19, _, hd =>
          simp only [GH.mkL, List.getD_cons_succ, List.getD_cons_zero]
          have d17 : S 17 = .bool false := (hd 17 (by kernel_rfl)).2
          rw [d17]
          clear d17
          have d18 : S 18 = .pointer (some ⟨w.heap.size, 0, none⟩) := (hd 18 (by kernel_rfl)).2
          rw [d18]
          clear d18
          clear hd
          refine GH.st_call (by rfl) hb.below.size (by go_simp) ((CFREE.out w' hb.below).mono ?_)
          rintro e w9 ⟨rfl, hb9⟩
          exact ⟨_, rfl, hb9, rfl⟩
        | 20, _, hd =>
          simp only [GH.mkL, List.getD_cons_succ, List.getD_cons_zero]
          have d17 : S 17 = .bool false := (hd 17 (by kernel_rfl)).2
          rw [d17]
          clear d17
          clear hd
          refine GH.st_eq (by rfl) ?_
          go_simp
          (try with_reducible rfl)
        | 21, _, hd =>
          simp only [GH.mkL, List.getD_cons_succ, List.getD_cons_zero]
          have d17 : S 17 = .bool false := (hd 17 (by kernel_rfl)).2
          rw [d17]
          clear d17
          have d19 : S 19 = .int .i64 (d : Nat) := (hd 19 (by kernel_rfl)).2
          rw [d19]
          clear d19
          have d20 : S 20 = .int .i64 mi := (hd 20 (by kernel_rfl)).2
          rw [d20]
          clear d20
          clear hd
          refine GH.st_call (by rfl) hb.below.size (by go_simp) ((CMOST.out w').mono ?_)
          rintro e w9 ⟨rfl, hb9⟩
          exact ⟨_, rfl, hb9, rfl⟩
        | 22, _, hd =>
          simp only [GH.mkL, List.getD_cons_succ, List.getD_cons_zero]
          have d17 : S 17 = .bool false := (hd 17 (by kernel_rfl)).2
          rw [d17]
          clear d17
          clear hd
          refine GH.st_eq (by rfl) ?_
          go_simp
          (try with_reducible rfl)
        | 23, _, hd =>
          simp only [GH.mkL, List.getD_cons_succ, List.getD_cons_zero]
          have d17 : S 17 = .bool false := (hd 17 (by kernel_rfl)).2
          rw [d17]
          clear d17
          have d22 : S 22 = .slice A2 n2 c2 := (hd 22 (by kernel_rfl)).2
          rw [d22]
          clear d22
          clear hd
          refine GH.st_eq (by rfl) ?_
          go_simp
          (try with_reducible rfl)
        | 24, _, hd =>
          simp only [GH.mkL, List.getD_cons_succ, List.getD_cons_zero]
          have d17 : S 17 = .bool false := (hd 17 (by kernel_rfl)).2
          rw [d17]
          clear d17
          have d21 : S 21 = .int .i64 (most : Nat) := (hd 21 (by kernel_rfl)).2
          rw [d21]
          clear d21
          have d23 : S 23 = .int .i64 (n2 : Nat) := (hd 23 (by kernel_rfl)).2
          rw [d23]
          clear d23
          clear hd
          refine GH.st_eq (by rfl) ?_
          go_simp
          (try simp only [hdi, hwd])
          (try with_reducible rfl)
        | 25, _, hd =>
          simp only [GH.mkL, List.getD_cons_succ, List.getD_cons_zero]
          have d17 : S 17 = .bool false := (hd 17 (by kernel_rfl)).2
          rw [d17]
          clear d17
          have d19 : S 19 = .int .i64 (d : Nat) := (hd 19 (by kernel_rfl)).2
          rw [d19]
          clear d19
          have d24 : S 24 = .int .i64 (d : Nat) := (hd 24 (by kernel_rfl)).2
          rw [d24]
          clear d24
          clear hd
          refine GH.st_eq (by rfl) ?_
          go_simp
          (try simp only [bne_self_eq_false])
          (try with_reducible rfl)
        | 26, _, hd =>
          simp only [GH.mkL, List.getD_cons_succ, List.getD_cons_zero]
          have d17 : S 17 = .bool false := (hd 17 (by kernel_rfl)).2
          rw [d17]
          clear d17
          have d25 : S 25 = .bool false := (hd 25 (by kernel_rfl)).2
          rw [d25]
          clear d25
          clear hd
          refine GH.st_eq (by rfl) ?_
          go_simp
          (try simp only [bne_self_eq_false])
          (try with_reducible rfl)
        | 27, _, hd =>
          simp only [GH.mkL, List.getD_cons_succ, List.getD_cons_zero]
          have d21 : S 21 = .int .i64 (most : Nat) := (hd 21 (by kernel_rfl)).2
          rw [d21]
          clear d21
          have d26 : S 26 = .bool false := (hd 26 (by kernel_rfl)).2
          rw [d26]
          clear d26
          clear hd
          refine GH.st_eq (by rfl) ?_
          go_simp
          (try with_reducible rfl)
        | 28, _, hd =>
          simp only [GH.mkL, List.getD_cons_succ, List.getD_cons_zero]
          have d27 : S 27 = .bool false := (hd 27 (by kernel_rfl)).2
          rw [d27]
          clear d27
          clear hd
          refine GH.st_eq (by rfl) ?_
          go_simp
          (try with_reducible rfl)
        | 29, _, hd =>
          simp only [GH.mkL, List.getD_cons_succ, List.getD_cons_zero]
          have d27 : S 27 = .bool false := (hd 27 (by kernel_rfl)).2
          rw [d27]
          clear d27
          clear hd
          refine GH.st_eq (by rfl) ?_
          go_simp
          (try with_reducible rfl)
        | 30, _, hd =>
          simp only [GH.mkL, List.getD_cons_succ, List.getD_cons_zero]
          have d27 : S 27 = .bool false := (hd 27 (by kernel_rfl)).2
          rw [d27]
          clear d27
          have d28 : S 28 = .bool bo := (hd 28 (by kernel_rfl)).2
          rw [d28]
          clear d28
          have d29 : S 29 = .bool bo := (hd 29 (by kernel_rfl)).2
          rw [d29]
          clear d29
          clear hd
          refine GH.st_eq (by rfl) ?_
          go_simp
          (try simp only [bne_self_eq_false])
          (try with_reducible rfl)
        | 31, _, hd =>
          simp only [GH.mkL, List.getD_cons_succ, List.getD_cons_zero]
          have d27 : S 27 = .bool false := (hd 27 (by kernel_rfl)).2
          rw [d27]
          clear d27
          have d30 : S 30 = .bool false := (hd 30 (by kernel_rfl)).2
          rw [d30]
          clear d30
          clear hd
          refine GH.st_eq (by rfl) ?_
          go_simp
          (try simp only [bne_self_eq_false])
          (try with_reducible rfl)
        | 32, _, hd =>
          simp only [GH.mkL, List.getD_cons_succ, List.getD_cons_zero]
          have d27 : S 27 = .bool false := (hd 27 (by kernel_rfl)).2
          rw [d27]
          clear d27
          have d31 : S 31 = .bool false := (hd 31 (by kernel_rfl)).2
          rw [d31]
          clear d31
          clear hd
          refine GH.st_eq (by rfl) ?_
          go_simp
          (try with_reducible rfl)
        | 33, _, hd =>
          simp only [GH.mkL, List.getD_cons_succ, List.getD_cons_zero]
          have d32 : S 32 = .bool false := (hd 32 (by kernel_rfl)).2
          rw [d32]
          clear d32
          clear hd
          exact GH.st_loads _ [.int .u64 (f0.fr : Nat), .int .i64 f0.len, .bool f0.fin, .int .i64 f0.flow, .int .u32 f0.en, .int .i64 f0.sent, .int .i64 f0.tries, .bool f0.came, .bool f0.lost] (by rfl) rfl rfl (((K9.out.below hb.below K9.out.lt)).loads 0 _ (by rfl)) (by kernel_rfl) (by kernel_rfl)
        | 34, _, hd =>
          simp only [GH.mkL, List.getD_cons_succ, List.getD_cons_zero]
          have d32 : S 32 = .bool false := (hd 32 (by kernel_rfl)).2
          rw [d32]
          clear d32
          have d33 : S 33 = .agg #[.int .u64 (f0.fr : Nat), .int .i64 f0.len, .bool f0.fin, .int .i64 f0.flow, .int .u32 f0.en, .int .i64 f0.sent, .int .i64 f0.tries, .bool f0.came, .bool f0.lost] := (hd 33 (by kernel_rfl)).2
          rw [d33]
          clear d33
          clear hd
          refine GH.st_call (by rfl) hb.below.size (by go_simp) ((lone_any f0 w').mono ?_)
          rintro e w9 ⟨rfl, hb9⟩
          exact ⟨_, rfl, hb9, rfl⟩
        | 35, _, hd =>
          simp only [GH.mkL, List.getD_cons_succ, List.getD_cons_zero]
          have d32 : S 32 = .bool false := (hd 32 (by kernel_rfl)).2
          rw [d32]
          clear d32
          clear hd
          exact GH.st_loads _ [.int .u64 (f0.fr : Nat), .int .i64 f0.len, .bool f0.fin, .int .i64 f0.flow, .int .u32 f0.en, .int .i64 f0.sent, .int .i64 f0.tries, .bool f0.came, .bool f0.lost] (by rfl) rfl rfl (((K11.out.below hb.below K11.out.lt)).loads 0 _ (by rfl)) (by kernel_rfl) (by kernel_rfl)
        | 36, _, hd =>
          simp only [GH.mkL, List.getD_cons_succ, List.getD_cons_zero]
          have d32 : S 32 = .bool false := (hd 32 (by kernel_rfl)).2
          rw [d32]
          clear d32
          have d34 : S 34 = .agg #[.int .u64 (f0.fr : Nat), .int .i64 f0.len, .bool f0.fin, .int .i64 f0.flow, .int .u32 f0.en, .int .i64 f0.sent, .int .i64 f0.tries, .bool f0.came, .bool f0.lost] := (hd 34 (by kernel_rfl)).2
          rw [d34]
          clear d34
          have d35 : S 35 = .agg #[.int .u64 (f0.fr : Nat), .int .i64 f0.len, .bool f0.fin, .int .i64 f0.flow, .int .u32 f0.en, .int .i64 f0.sent, .int .i64 f0.tries, .bool f0.came, .bool f0.lost] := (hd 35 (by kernel_rfl)).2
          rw [d35]
          clear d35
          clear hd
          have hne := neqC f0 w'
          refine GH.st_eq (by rfl) ?_
          go_simp
          (try simp only [bne_self_eq_false])
          (try with_reducible rfl)
        | 37, _, hd =>
          simp only [GH.mkL, List.getD_cons_succ, List.getD_cons_zero]
          have d32 : S 32 = .bool false := (hd 32 (by kernel_rfl)).2
          rw [d32]
          clear d32
          have d36 : S 36 = .bool false := (hd 36 (by kernel_rfl)).2
          rw [d36]
          clear d36
          clear hd
          refine GH.st_eq (by rfl) ?_
          go_simp
          (try simp only [bne_self_eq_false])
          (try with_reducible rfl)
        | nx + 38, hjx, _ => omega
      intro S w' hb hG
      simp only [GH.mkL, List.drop_succ_cons, List.drop_zero]
      have d37 : S 37 = .bool false := hG 37 (by omega)
      rw [d37]
      clear d37
      clear hG
      have B7 := Lib.hid (B6.out.trans (hb.below.mono B6.out.size))
      have F7 := Lib.hid (F6.out.into hb.below)
      have Q7 := Lib.hid (own_below Q6.out hb.below fun g hg => (Q6.out.lt g hg).2)
      clear hb F6 Q6 B6 K9 K11 CALL CLEN CFREE CMOST R6 hdi hwd HOKF
      have hnz := HNL2.out
      rcases l2 with _ | ⟨h0, tl⟩
      · have hn0 : ¬ 0 < n2 := by simp at hnz; omega
        have hn0' : ¬ (0 : Int) < (n2 : Int) := by omega
        clear hnz
        have CF := Lib.hid (fun w' h => (fl_first w.heap.size w.heap.size most [] w' h (by simp)).mono fun (e : Ending) w'' ⟨a, b⟩ => (show e = Ending.returned (.tuple #[.agg #[.int .u64 0, .int .i64 0, .bool false, .int .i64 0, .int .u32 0, .int .i64 0, .int .i64 0, .bool false, .bool false], .bool false]) ∧ Below w'.heap.size w' w'' from ⟨a, b⟩))
        obtain ⟨f1, hf1⟩ : ∃ f1 : Chk, f1 = nilC := ⟨_, rfl⟩
        have hz9 : (.agg #[.int .u64 0, .int .i64 0, .bool false, .int .i64 0, .int .u32 0, .int .i64 0, .int .i64 0, .bool false, .bool false] : Value) = .agg #[.int .u64 (f1.fr : Nat), .int .i64 f1.len, .bool f1.fin, .int .i64 f1.flow, .int .u32 f1.en, .int .i64 f1.sent, .int .i64 f1.tries, .bool f1.came, .bool f1.lost] := by rw [hf1]; rfl
        rw [hz9] at CF
        clear hz9
        have HF1 := Lib.hid (show f1.ok by rw [hf1]; exact nilC_ok)
        have HFH := Lib.hid hf1
        clear hf1
        obtain ⟨tn, htn⟩ : ∃ tn, tn = toN f1 := ⟨_, rfl⟩
        have CTO := Lib.hid (fun w' => flto_any f1 w' HF1.out)
        have CRTO := Lib.hid (fun w' => rto_any f1 w' HF1.out)
        rw [← htn] at CTO CRTO
        clear htn
        go_wp2_with fail
        refine (CF.out _ F7.out).mono ?_
        rintro e w9 ⟨rfl, hb9⟩
        replace F7 := Lib.hid (F7.out.into hb9)
        replace Q7 := Lib.hid (own_below Q7.out hb9 fun g hg => (Q7.out.lt g hg).2)
        replace B7 := Lib.hid (B7.out.trans (hb9.mono B7.out.size))
        clear hb9 CF
        go_upto_region 19 with fail
        have hA := (Below.refl w9.heap.size w9).alloc (Nat.le_refl _) (.cells #[.int .u64 (f1.fr : Nat), .int .i64 f1.len, .bool f1.fin, .int .i64 f1.flow, .int .u32 f1.en, .int .i64 f1.sent, .int .i64 f1.tries, .bool f1.came, .bool f1.lost] 30)
        have K13 := Lib.hid (Blk.new w9 30 #[.int .u64 (f1.fr : Nat), .int .i64 f1.len, .bool f1.fin, .int .i64 f1.flow, .int .u32 f1.en, .int .i64 f1.sent, .int .i64 f1.tries, .bool f1.came, .bool f1.lost])
        replace F7 := Lib.hid (F7.out.into hA)
        replace Q7 := Lib.hid (own_below Q7.out hA fun g hg => (Q7.out.lt g hg).2)
        replace B7 := Lib.hid (B7.out.trans (hA.mono B7.out.size))
        obtain ⟨X13, hX13⟩ : ∃ X13, X13 = w9.heap.size := ⟨_, rfl⟩
        rw [← hX13] at K13 ⊢
        clear hA hX13
        generalize w9.alloc (.cells #[.int .u64 (f1.fr : Nat), .int .i64 f1.len, .bool f1.fin, .int .i64 f1.flow, .int .u32 f1.en, .int .i64 f1.sent, .int .i64 f1.tries, .bool f1.came, .bool f1.lost] 30) = w10 at *
        refine GH.wp_ghl2 (M := false) 24 ((GH.SP.eq (.bool false)) :: (GH.SP.eq (.slice A2 n2 c2)) :: (GH.SP.eq (.int .i64 (n2 : Nat))) :: (GH.SP.eq (.bool false)) :: (GH.SP.eq (.bool false)) :: (GH.SP.eq (.bool false)) :: (GH.SP.eq (.bool false)) :: (GH.SP.eq (.bool false)) :: (GH.SP.eq (undef)) :: (GH.SP.eq (undef)) :: (GH.SP.eq (undef)) :: (GH.SP.eq (undef)) :: (GH.SP.eq (undef)) :: (GH.SP.eq (undef)) :: (GH.SP.eq (.bool false)) :: (GH.SP.eq (.bool false)) :: (GH.SP.eq (.bool false)) :: (GH.SP.eq (.agg #[.int .u64 (f1.fr : Nat), .int .i64 f1.len, .bool f1.fin, .int .i64 f1.flow, .int .u32 f1.en, .int .i64 f1.sent, .int .i64 f1.tries, .bool f1.came, .bool f1.lost])) :: (GH.SP.eq (.int .u64 (tn : Nat))) :: (GH.SP.eq (.agg #[.int .u64 (f1.fr : Nat), .int .i64 f1.len, .bool f1.fin, .int .i64 f1.flow, .int .u32 f1.en, .int .i64 f1.sent, .int .i64 f1.tries, .bool f1.came, .bool f1.lost])) :: (GH.SP.eq (.agg #[.int .u64 (f1.fr : Nat), .int .i64 f1.len, .bool f1.fin, .int .i64 f1.flow, .int .u32 f1.en, .int .i64 f1.sent, .int .i64 f1.tries, .bool f1.came, .bool f1.lost])) :: (GH.SP.eq (.int .u64 (tn : Nat))) :: (GH.SP.eq (.bool false)) :: (GH.SP.eq (.bool false)) :: []) (none :: none :: none :: none :: none :: none :: none :: none :: none :: none :: none :: none :: none :: none :: none :: none :: none :: none :: none :: none :: none :: none :: none :: none :: none :: none :: none :: none :: none :: none :: none :: none :: none :: none :: none :: none :: none :: none :: none :: none :: none :: none :: none :: none :: none :: none :: none :: none :: none :: none :: none :: none :: none :: none :: none :: none :: none :: none :: none :: none :: none :: none :: none :: none :: none :: none :: none :: none :: none :: none :: none :: none :: none :: none :: none :: none :: none :: none :: none :: none :: none :: none :: none :: none :: none :: none :: none :: none :: none :: none :: none :: none :: none :: none :: none :: none :: none :: none :: none :: (some 0) :: (some 1) :: (some 2) :: (some 3) :: (some 4) :: (some 5) :: (some 6) :: (some 7) :: (some 8) :: (some 9) :: (some 10) :: (some 11) :: (some 12) :: (some 13) :: (some 14) :: (some 15) :: (some 16) :: (some 17) :: (some 18) :: (some 19) :: (some 20) :: (some 21) :: (some 22) :: (some 23) :: none :: []) [99, 100, 101, 102, 103, 104, 105, 106, 107, 108, 109, 110, 111, 112, 113, 114, 115, 116, 117, 118, 119, 120, 121, 122] (by rfl) (by kernel_rfl) (by kernel_rfl) ?_ ?_ ?_
        · intro S jx v hjx
          match jx, hjx with
          | 0, _ => rfl
          | 1, _ => rfl
          | 2, _ => rfl
          | 3, _ => rfl
          | 4, _ => rfl
          | 5, _ => rfl
          | 6, _ => rfl
          | 7, _ => rfl
          | 8, _ => rfl
          | 9, _ => rfl
          | 10, _ => rfl
          | 11, _ => rfl
          | 12, _ => rfl
          | 13, _ => rfl
          | 14, _ => rfl
          | 15, _ => rfl
          | 16, _ => rfl
          | 17, _ => rfl
          | 18, _ => rfl
          | 19, _ => rfl
          | 20, _ => rfl
          | 21, _ => rfl
          | 22, _ => rfl
          | 23, _ => rfl
          | nx + 24, hjx => omega
        · intro jx hjx S w' hb hd
          match jx, hjx, hd with
          | 0, _, hd =>
            simp only [GH.mkL, List.getD_cons_succ, List.getD_cons_zero]
            clear hd
            refine GH.st_eq (by rfl) ?_
            go_simp
            (try with_reducible rfl)
          | 1, _, hd =>
            simp only [GH.mkL, List.getD_cons_succ, List.getD_cons_zero]
            clear hd
            refine GH.st_eq (by rfl) ?_
            go_simp
            (try with_reducible rfl)
          | 2, _, hd =>
            simp only [GH.mkL, List.getD_cons_succ, List.getD_cons_zero]
            have d1 : S 1 = .slice A2 n2 c2 := (hd 1 (by kernel_rfl)).2
            rw [d1]
            clear d1
            clear hd
            refine GH.st_eq (by rfl) ?_
            go_simp
            (try with_reducible rfl)
          | 3, _, hd =>
            simp only [GH.mkL, List.getD_cons_succ, List.getD_cons_zero]
            have d2 : S 2 = .int .i64 (n2 : Nat) := (hd 2 (by kernel_rfl)).2
            rw [d2]
            clear d2
            clear hd
            refine GH.st_eq (by rfl) ?_
            go_simp
            (try with_reducible rfl)
          | 4, _, hd =>
            simp only [GH.mkL, List.getD_cons_succ, List.getD_cons_zero]
            have d0 : S 0 = .bool false := (hd 0 (by kernel_rfl)).2
            rw [d0]
            clear d0
            have d3 : S 3 = .bool false := (hd 3 (by kernel_rfl)).2
            rw [d3]
            clear d3
            clear hd
            refine GH.st_eq (by rfl) ?_
            go_simp
            (try simp only [bne_self_eq_false])
            (try with_reducible rfl)
          | 5, _, hd =>
            simp only [GH.mkL, List.getD_cons_succ, List.getD_cons_zero]
            have d4 : S 4 = .bool false := (hd 4 (by kernel_rfl)).2
            rw [d4]
            clear d4
            clear hd
            refine GH.st_eq (by rfl) ?_
            go_simp
            (try with_reducible rfl)
          | 6, _, hd =>
            simp only [GH.mkL, List.getD_cons_succ, List.getD_cons_zero]
            have d5 : S 5 = .bool false := (hd 5 (by kernel_rfl)).2
            rw [d5]
            clear d5
            clear hd
            refine GH.st_eq (by rfl) ?_
            go_simp
            (try with_reducible rfl)
          | 7, _, hd =>
            simp only [GH.mkL, List.getD_cons_succ, List.getD_cons_zero]
            have d5 : S 5 = .bool false := (hd 5 (by kernel_rfl)).2
            rw [d5]
            clear d5
            have d6 : S 6 = .bool false := (hd 6 (by kernel_rfl)).2
            rw [d6]
            clear d6
            clear hd
            refine GH.st_eq (by rfl) ?_
            go_simp
            (try with_reducible rfl)
          | 8, _, hd =>
            simp only [GH.mkL, List.getD_cons_succ, List.getD_cons_zero]
            have d7 : S 7 = .bool false := (hd 7 (by kernel_rfl)).2
            rw [d7]
            clear d7
            clear hd
            exact GH.st_skip (by rfl) rfl
          | 9, _, hd =>
            simp only [GH.mkL, List.getD_cons_succ, List.getD_cons_zero]
            have d7 : S 7 = .bool false := (hd 7 (by kernel_rfl)).2
            rw [d7]
            clear d7
            have d8 : S 8 = undef := (hd 8 (by kernel_rfl)).2
            rw [d8]
            clear d8
            clear hd
            exact GH.st_skip (by rfl) rfl
          | 10, _, hd =>
            simp only [GH.mkL, List.getD_cons_succ, List.getD_cons_zero]
            have d7 : S 7 = .bool false := (hd 7 (by kernel_rfl)).2
            rw [d7]
            clear d7
            clear hd
            exact GH.st_skip (by rfl) rfl
          | 11, _, hd =>
            simp only [GH.mkL, List.getD_cons_succ, List.getD_cons_zero]
            have d7 : S 7 = .bool false := (hd 7 (by kernel_rfl)).2
            rw [d7]
            clear d7
            have d10 : S 10 = undef := (hd 10 (by kernel_rfl)).2
            rw [d10]
            clear d10
            clear hd
            exact GH.st_skip (by rfl) rfl
          | 12, _, hd =>
            simp only [GH.mkL, List.getD_cons_succ, List.getD_cons_zero]
            have d7 : S 7 = .bool false := (hd 7 (by kernel_rfl)).2
            rw [d7]
            clear d7
            have d11 : S 11 = undef := (hd 11 (by kernel_rfl)).2
            rw [d11]
            clear d11
            clear hd
            exact GH.st_skip (by rfl) rfl
          | 13, _, hd =>
            simp only [GH.mkL, List.getD_cons_succ, List.getD_cons_zero]
            have d7 : S 7 = .bool false := (hd 7 (by kernel_rfl)).2
            rw [d7]
            clear d7
            have d9 : S 9 = undef := (hd 9 (by kernel_rfl)).2
            rw [d9]
            clear d9
            have d12 : S 12 = undef := (hd 12 (by kernel_rfl)).2
            rw [d12]
            clear d12
            clear hd
            exact GH.st_skip (by rfl) rfl
          | 14, _, hd =>
            simp only [GH.mkL, List.getD_cons_succ, List.getD_cons_zero]
            have d5 : S 5 = .bool false := (hd 5 (by kernel_rfl)).2
            rw [d5]
            clear d5
            have d7 : S 7 = .bool false := (hd 7 (by kernel_rfl)).2
            rw [d7]
            clear d7
            have d13 : S 13 = undef := (hd 13 (by kernel_rfl)).2
            rw [d13]
            clear d13
            clear hd
            refine GH.st_eq (by rfl) ?_
            go_simp
            (try simp only [bne_self_eq_false])
            (try with_reducible rfl)
          | 15, _, hd =>
            simp only [GH.mkL, List.getD_cons_succ, List.getD_cons_zero]
            have d5 : S 5 = .bool false := (hd 5 (by kernel_rfl)).2
            rw [d5]
            clear d5
            have d14 : S 14 = .bool false := (hd 14 (by kernel_rfl)).2
            rw [d14]
            clear d14
            clear hd
            refine GH.st_eq (by rfl) ?_
            go_simp
            (try simp only [bne_self_eq_false])
            (try with_reducible rfl)
          | 16, _, hd =>
            simp only [GH.mkL, List.getD_cons_succ, List.getD_cons_zero]
            have d9 : S 9 = undef := (hd 9 (by kernel_rfl)).2
            rw [d9]
            clear d9
            have d15 : S 15 = .bool false := (hd 15 (by kernel_rfl)).2
            rw [d15]
            clear d15
            clear hd
            refine GH.st_eq (by rfl) ?_
            go_simp
            (try with_reducible rfl)
          | 17, _, hd =>
            simp only [GH.mkL, List.getD_cons_succ, List.getD_cons_zero]
            have d16 : S 16 = .bool false := (hd 16 (by kernel_rfl)).2
            rw [d16]
            clear d16
            clear hd
            exact GH.st_loads _ [.int .u64 (f1.fr : Nat), .int .i64 f1.len, .bool f1.fin, .int .i64 f1.flow, .int .u32 f1.en, .int .i64 f1.sent, .int .i64 f1.tries, .bool f1.came, .bool f1.lost] (by rfl) rfl rfl (((K13.out.below hb.below K13.out.lt)).loads 0 _ (by rfl)) (by kernel_rfl) (by kernel_rfl)
          | 18, _, hd =>
            simp only [GH.mkL, List.getD_cons_succ, List.getD_cons_zero]
            have d16 : S 16 = .bool false := (hd 16 (by kernel_rfl)).2
            rw [d16]
            clear d16
            have d17 : S 17 = .agg #[.int .u64 (f1.fr : Nat), .int .i64 f1.len, .bool f1.fin, .int .i64 f1.flow, .int .u32 f1.en, .int .i64 f1.sent, .int .i64 f1.tries, .bool f1.came, .bool f1.lost] := (hd 17 (by kernel_rfl)).2
            rw [d17]
            clear d17
            clear hd
            refine GH.st_call (by rfl) hb.below.size (by go_simp) ((CTO.out w').mono ?_)
            rintro e w9 ⟨rfl, hb9⟩
            exact ⟨_, rfl, hb9, rfl⟩
          | 19, _, hd =>
            simp only [GH.mkL, List.getD_cons_succ, List.getD_cons_zero]
            have d16 : S 16 = .bool false := (hd 16 (by kernel_rfl)).2
            rw [d16]
            clear d16
            clear hd
            exact GH.st_loads _ [.int .u64 (f1.fr : Nat), .int .i64 f1.len, .bool f1.fin, .int .i64 f1.flow, .int .u32 f1.en, .int .i64 f1.sent, .int .i64 f1.tries, .bool f1.came, .bool f1.lost] (by rfl) rfl rfl (((K13.out.below hb.below K13.out.lt)).loads 0 _ (by rfl)) (by kernel_rfl) (by kernel_rfl)
          | 20, _, hd =>
            simp only [GH.mkL, List.getD_cons_succ, List.getD_cons_zero]
            have d16 : S 16 = .bool false := (hd 16 (by kernel_rfl)).2
            rw [d16]
            clear d16
            have d18 : S 18 = .int .u64 (tn : Nat) := (hd 18 (by kernel_rfl)).2
            rw [d18]
            clear d18
            have d19 : S 19 = .agg #[.int .u64 (f1.fr : Nat), .int .i64 f1.len, .bool f1.fin, .int .i64 f1.flow, .int .u32 f1.en, .int .i64 f1.sent, .int .i64 f1.tries, .bool f1.came, .bool f1.lost] := (hd 19 (by kernel_rfl)).2
            rw [d19]
            clear d19
            clear hd
            refine GH.st_call (by rfl) hb.below.size (by go_simp) ((lone_any f1 w').mono ?_)
            rintro e w9 ⟨rfl, hb9⟩
            exact ⟨_, rfl, hb9, rfl⟩
          | 21, _, hd =>
            simp only [GH.mkL, List.getD_cons_succ, List.getD_cons_zero]
            have d16 : S 16 = .bool false := (hd 16 (by kernel_rfl)).2
            rw [d16]
            clear d16
            have d20 : S 20 = .agg #[.int .u64 (f1.fr : Nat), .int .i64 f1.len, .bool f1.fin, .int .i64 f1.flow, .int .u32 f1.en, .int .i64 f1.sent, .int .i64 f1.tries, .bool f1.came, .bool f1.lost] := (hd 20 (by kernel_rfl)).2
            rw [d20]
            clear d20
            clear hd
            refine GH.st_call (by rfl) hb.below.size (by go_simp) ((CRTO.out w').mono ?_)
            rintro e w9 ⟨rfl, hb9⟩
            exact ⟨_, rfl, hb9, rfl⟩
          | 22, _, hd =>
            simp only [GH.mkL, List.getD_cons_succ, List.getD_cons_zero]
            have d16 : S 16 = .bool false := (hd 16 (by kernel_rfl)).2
            rw [d16]
            clear d16
            have d18 : S 18 = .int .u64 (tn : Nat) := (hd 18 (by kernel_rfl)).2
            rw [d18]
            clear d18
            have d21 : S 21 = .int .u64 (tn : Nat) := (hd 21 (by kernel_rfl)).2
            rw [d21]
            clear d21
            clear hd
            refine GH.st_eq (by rfl) ?_
            go_simp
            (try simp only [bne_self_eq_false])
            (try with_reducible rfl)
          | 23, _, hd =>
            simp only [GH.mkL, List.getD_cons_succ, List.getD_cons_zero]
            have d16 : S 16 = .bool false := (hd 16 (by kernel_rfl)).2
            rw [d16]
            clear d16
            have d22 : S 22 = .bool false := (hd 22 (by kernel_rfl)).2
            rw [d22]
            clear d22
            clear hd
            refine GH.st_eq (by rfl) ?_
            go_simp
            (try simp only [bne_self_eq_false])
            (try with_reducible rfl)
          | nx + 24, hjx, _ => omega
        intro S w' hb hG
        simp only [GH.mkL, List.drop_succ_cons, List.drop_zero]
        have d23 : S 23 = .bool false := hG 23 (by omega)
        rw [d23]
        clear d23
        clear hG
        have B8 := Lib.hid (B7.out.trans (hb.below.mono B7.out.size))
        have F8 := Lib.hid (F7.out.into hb.below)
        have Q8 := Lib.hid (own_below Q7.out hb.below fun g hg => (Q7.out.lt g hg).2)
        clear hb F7 Q7 B7 K13 CTO CRTO
        go_wp2_with fail
        go_roundw
        case rel => exact ⟨i + 1, A2, n2, c2, _, by omega, by go_num, rfl, F8, Q8, HLM2, HOK2, B8⟩
        case measure => simp [intOf]; omega
      · clear hnz
        have CF := Lib.hid (fun w' h => (fl_first w.heap.size w.heap.size most (h0 :: tl) w' h HL64.out).mono fun (e : Ending) w'' ⟨a, b⟩ => (show e = Ending.returned (.tuple #[.agg #[.int .u64 (h0.fr : Nat), .int .i64 h0.len, .bool h0.fin, .int .i64 h0.flow, .int .u32 h0.en, .int .i64 h0.sent, .int .i64 h0.tries, .bool h0.came, .bool h0.lost], .bool true]) ∧ Below w'.heap.size w' w'' from ⟨a, b⟩))
        obtain ⟨f1, hf1⟩ : ∃ f1 : Chk, f1 = h0 := ⟨_, rfl⟩
        have hz9 : (.agg #[.int .u64 (h0.fr : Nat), .int .i64 h0.len, .bool h0.fin, .int .i64 h0.flow, .int .u32 h0.en, .int .i64 h0.sent, .int .i64 h0.tries, .bool h0.came, .bool h0.lost] : Value) = .agg #[.int .u64 (f1.fr : Nat), .int .i64 f1.len, .bool f1.fin, .int .i64 f1.flow, .int .u32 f1.en, .int .i64 f1.sent, .int .i64 f1.tries, .bool f1.came, .bool f1.lost] := by rw [hf1]
        rw [hz9] at CF
        clear hz9
        have HF1 := Lib.hid (show f1.ok by rw [hf1]; exact HOK2.out _ (by simp))
        have HFH := Lib.hid hf1
        clear hf1
        obtain ⟨tn, htn⟩ : ∃ tn, tn = toN f1 := ⟨_, rfl⟩
        have CTO := Lib.hid (fun w' => flto_any f1 w' HF1.out)
        have CRTO := Lib.hid (fun w' => rto_any f1 w' HF1.out)
        rw [← htn] at CTO CRTO
        clear htn
        go_wp2_with fail
        refine (CF.out _ F7.out).mono ?_
        rintro e w9 ⟨rfl, hb9⟩
        replace F7 := Lib.hid (F7.out.into hb9)
        replace Q7 := Lib.hid (own_below Q7.out hb9 fun g hg => (Q7.out.lt g hg).2)
        replace B7 := Lib.hid (B7.out.trans (hb9.mono B7.out.size))
        clear hb9 CF
        go_upto_region 19 with fail
        have hA := (Below.refl w9.heap.size w9).alloc (Nat.le_refl _) (.cells #[.int .u64 (f1.fr : Nat), .int .i64 f1.len, .bool f1.fin, .int .i64 f1.flow, .int .u32 f1.en, .int .i64 f1.sent, .int .i64 f1.tries, .bool f1.came, .bool f1.lost] 30)
        have K13 := Lib.hid (Blk.new w9 30 #[.int .u64 (f1.fr : Nat), .int .i64 f1.len, .bool f1.fin, .int .i64 f1.flow, .int .u32 f1.en, .int .i64 f1.sent, .int .i64 f1.tries, .bool f1.came, .bool f1.lost])
        replace F7 := Lib.hid (F7.out.into hA)
        replace Q7 := Lib.hid (own_below Q7.out hA fun g hg => (Q7.out.lt g hg).2)
        replace B7 := Lib.hid (B7.out.trans (hA.mono B7.out.size))
        obtain ⟨X13, hX13⟩ : ∃ X13, X13 = w9.heap.size := ⟨_, rfl⟩
        rw [← hX13] at K13 ⊢
        clear hA hX13
        generalize w9.alloc (.cells #[.int .u64 (f1.fr : Nat), .int .i64 f1.len, .bool f1.fin, .int .i64 f1.flow, .int .u32 f1.en, .int .i64 f1.sent, .int .i64 f1.tries, .bool f1.came, .bool f1.lost] 30) = w10 at *
        have hR7 := Rd.of_own Q7.out
        obtain ⟨rb2, off2, x, hA2, hrb2, HC7, HX7⟩ := hR7.chk (i := 0) (by have := HNL2.out; simp at this; omega)
        subst hA2
        have hxf : f1 = x := by have := HX7.out; simp at this; rw [← this]; exact HFH.out
        subst hxf
        have C7 := Lib.hid (fun j v (hj : f1.el[j]? = some v) => (show w10.cell? ⟨rb2, off2 + j, none⟩ = some v by have := HC7.out j v hj; rwa [Nat.zero_mul, Nat.add_zero] at this))
        have HRB2 := Lib.hid hrb2
        have hn0 : 0 < n2 := by have := HNL2.out; simp at this; omega
        have hn0' : (0 : Int) < (n2 : Int) := by omega
        have hn0'' : ¬ n2 ≤ 0 := by omega
        clear hR7 HC7 HX7 hrb2 HFH
        refine GH.wp_ghl2 (M := false) 24 ((GH.SP.eq (.bool true)) :: (GH.SP.eq (.slice (some ⟨rb2, off2, none⟩) n2 c2)) :: (GH.SP.eq (.int .i64 (n2 : Nat))) :: (GH.SP.eq (.bool true)) :: (GH.SP.eq (.bool false)) :: (GH.SP.eq (.bool false)) :: (GH.SP.eq (.bool true)) :: (GH.SP.eq (.bool true)) :: (GH.SP.eq (.agg #[.int .u64 (f1.fr : Nat), .int .i64 f1.len, .bool f1.fin, .int .i64 f1.flow, .int .u32 f1.en, .int .i64 f1.sent, .int .i64 f1.tries, .bool f1.came, .bool f1.lost])) :: (GH.SP.eq (.agg #[.int .u64 (f1.fr : Nat), .int .i64 f1.len, .bool f1.fin, .int .i64 f1.flow, .int .u32 f1.en, .int .i64 f1.sent, .int .i64 f1.tries, .bool f1.came, .bool f1.lost])) :: (GH.SP.eq (.slice (some ⟨rb2, off2, none⟩) n2 c2)) :: (GH.SP.eq (.pointer (some ⟨rb2, off2, none⟩))) :: (GH.SP.eq (.agg #[.int .u64 (f1.fr : Nat), .int .i64 f1.len, .bool f1.fin, .int .i64 f1.flow, .int .u32 f1.en, .int .i64 f1.sent, .int .i64 f1.tries, .bool f1.came, .bool f1.lost])) :: (GH.SP.eq (.bool false)) :: (GH.SP.eq (.bool false)) :: (GH.SP.eq (.bool false)) :: (GH.SP.eq (.bool false)) :: (GH.SP.eq (.agg #[.int .u64 (f1.fr : Nat), .int .i64 f1.len, .bool f1.fin, .int .i64 f1.flow, .int .u32 f1.en, .int .i64 f1.sent, .int .i64 f1.tries, .bool f1.came, .bool f1.lost])) :: (GH.SP.eq (.int .u64 (tn : Nat))) :: (GH.SP.eq (.agg #[.int .u64 (f1.fr : Nat), .int .i64 f1.len, .bool f1.fin, .int .i64 f1.flow, .int .u32 f1.en, .int .i64 f1.sent, .int .i64 f1.tries, .bool f1.came, .bool f1.lost])) :: (GH.SP.eq (.agg #[.int .u64 (f1.fr : Nat), .int .i64 f1.len, .bool f1.fin, .int .i64 f1.flow, .int .u32 f1.en, .int .i64 f1.sent, .int .i64 f1.tries, .bool f1.came, .bool f1.lost])) :: (GH.SP.eq (.int .u64 (tn : Nat))) :: (GH.SP.eq (.bool false)) :: (GH.SP.eq (.bool false)) :: []) (none :: none :: none :: none :: none :: none :: none :: none :: none :: none :: none :: none :: none :: none :: none :: none :: none :: none :: none :: none :: none :: none :: none :: none :: none :: none :: none :: none :: none :: none :: none :: none :: none :: none :: none :: none :: none :: none :: none :: none :: none :: none :: none :: none :: none :: none :: none :: none :: none :: none :: none :: none :: none :: none :: none :: none :: none :: none :: none :: none :: none :: none :: none :: none :: none :: none :: none :: none :: none :: none :: none :: none :: none :: none :: none :: none :: none :: none :: none :: none :: none :: none :: none :: none :: none :: none :: none :: none :: none :: none :: none :: none :: none :: none :: none :: none :: none :: none :: none :: (some 0) :: (some 1) :: (some 2) :: (some 3) :: (some 4) :: (some 5) :: (some 6) :: (some 7) :: (some 8) :: (some 9) :: (some 10) :: (some 11) :: (some 12) :: (some 13) :: (some 14) :: (some 15) :: (some 16) :: (some 17) :: (some 18) :: (some 19) :: (some 20) :: (some 21) :: (some 22) :: (some 23) :: none :: []) [99, 100, 101, 102, 103, 104, 105, 106, 107, 108, 109, 110, 111, 112, 113, 114, 115, 116, 117, 118, 119, 120, 121, 122] (by rfl) (by kernel_rfl) (by kernel_rfl) ?_ ?_ ?_
        · intro S jx v hjx
          match jx, hjx with
          | 0, _ => rfl
          | 1, _ => rfl
          | 2, _ => rfl
          | 3, _ => rfl
          | 4, _ => rfl
          | 5, _ => rfl
          | 6, _ => rfl
          | 7, _ => rfl
          | 8, _ => rfl
          | 9, _ => rfl
          | 10, _ => rfl
          | 11, _ => rfl
          | 12, _ => rfl
          | 13, _ => rfl
          | 14, _ => rfl
          | 15, _ => rfl
          | 16, _ => rfl
          | 17, _ => rfl
          | 18, _ => rfl
          | 19, _ => rfl
          | 20, _ => rfl
          | 21, _ => rfl
          | 22, _ => rfl
          | 23, _ => rfl
          | nx + 24, hjx => omega
        · intro jx hjx S w' hb hd
          match jx, hjx, hd with
          | 0, _, hd =>
            simp only [GH.mkL, List.getD_cons_succ, List.getD_cons_zero]
            clear hd
            refine GH.st_eq (by rfl) ?_
            go_simp
            (try with_reducible rfl)
          | 1, _, hd =>
            simp only [GH.mkL, List.getD_cons_succ, List.getD_cons_zero]
            clear hd
            refine GH.st_eq (by rfl) ?_
            go_simp
            (try with_reducible rfl)
          | 2, _, hd =>
            simp only [GH.mkL, List.getD_cons_succ, List.getD_cons_zero]
            have d1 : S 1 = .slice (some ⟨rb2, off2, none⟩) n2 c2 := (hd 1 (by kernel_rfl)).2
            rw [d1]
            clear d1
            clear hd
            refine GH.st_eq (by rfl) ?_
            go_simp
            (try with_reducible rfl)
          | 3, _, hd =>
            simp only [GH.mkL, List.getD_cons_succ, List.getD_cons_zero]
            have d2 : S 2 = .int .i64 (n2 : Nat) := (hd 2 (by kernel_rfl)).2
            rw [d2]
            clear d2
            clear hd
            refine GH.st_eq (by rfl) ?_
            go_simp
            (try with_reducible rfl)
          | 4, _, hd =>
            simp only [GH.mkL, List.getD_cons_succ, List.getD_cons_zero]
            have d0 : S 0 = .bool true := (hd 0 (by kernel_rfl)).2
            rw [d0]
            clear d0
            have d3 : S 3 = .bool true := (hd 3 (by kernel_rfl)).2
            rw [d3]
            clear d3
            clear hd
            refine GH.st_eq (by rfl) ?_
            go_simp
            (try simp only [bne_self_eq_false])
            (try with_reducible rfl)
          | 5, _, hd =>
            simp only [GH.mkL, List.getD_cons_succ, List.getD_cons_zero]
            have d4 : S 4 = .bool false := (hd 4 (by kernel_rfl)).2
            rw [d4]
            clear d4
            clear hd
            refine GH.st_eq (by rfl) ?_
            go_simp
            (try with_reducible rfl)
          | 6, _, hd =>
            simp only [GH.mkL, List.getD_cons_succ, List.getD_cons_zero]
            have d5 : S 5 = .bool false := (hd 5 (by kernel_rfl)).2
            rw [d5]
            clear d5
            clear hd
            refine GH.st_eq (by rfl) ?_
            go_simp
            (try with_reducible rfl)
          | 7, _, hd =>
            simp only [GH.mkL, List.getD_cons_succ, List.getD_cons_zero]
            have d5 : S 5 = .bool false := (hd 5 (by kernel_rfl)).2
            rw [d5]
            clear d5
            have d6 : S 6 = .bool true := (hd 6 (by kernel_rfl)).2
            rw [d6]
            clear d6
            clear hd
            refine GH.st_eq (by rfl) ?_
            go_simp
            (try with_reducible rfl)
          | 8, _, hd =>
            simp only [GH.mkL, List.getD_cons_succ, List.getD_cons_zero]
            have d7 : S 7 = .bool true := (hd 7 (by kernel_rfl)).2
            rw [d7]
            clear d7
            clear hd
            exact GH.st_loads _ [.int .u64 (f1.fr : Nat), .int .i64 f1.len, .bool f1.fin, .int .i64 f1.flow, .int .u32 f1.en, .int .i64 f1.sent, .int .i64 f1.tries, .bool f1.came, .bool f1.lost] (by rfl) rfl rfl (((K13.out.below hb.below K13.out.lt)).loads 0 _ (by rfl)) (by kernel_rfl) (by kernel_rfl)
          | 9, _, hd =>
            simp only [GH.mkL, List.getD_cons_succ, List.getD_cons_zero]
            have d7 : S 7 = .bool true := (hd 7 (by kernel_rfl)).2
            rw [d7]
            clear d7
            have d8 : S 8 = .agg #[.int .u64 (f1.fr : Nat), .int .i64 f1.len, .bool f1.fin, .int .i64 f1.flow, .int .u32 f1.en, .int .i64 f1.sent, .int .i64 f1.tries, .bool f1.came, .bool f1.lost] := (hd 8 (by kernel_rfl)).2
            rw [d8]
            clear d8
            clear hd
            refine GH.st_call (by rfl) hb.below.size (by go_simp) ((lone_any f1 w').mono ?_)
            rintro e w9 ⟨rfl, hb9⟩
            exact ⟨_, rfl, hb9, rfl⟩
          | 10, _, hd =>
            simp only [GH.mkL, List.getD_cons_succ, List.getD_cons_zero]
            have d7 : S 7 = .bool true := (hd 7 (by kernel_rfl)).2
            rw [d7]
            clear d7
            clear hd
            refine GH.st_eq (by rfl) ?_
            go_simp
            (try with_reducible rfl)
          | 11, _, hd =>
            simp only [GH.mkL, List.getD_cons_succ, List.getD_cons_zero]
            have d7 : S 7 = .bool true := (hd 7 (by kernel_rfl)).2
            rw [d7]
            clear d7
            have d10 : S 10 = .slice (some ⟨rb2, off2, none⟩) n2 c2 := (hd 10 (by kernel_rfl)).2
            rw [d10]
            clear d10
            clear hd
            refine GH.st_eq (by rfl) ?_
            go_simp
            (try with_reducible rfl)
          | 12, _, hd =>
            simp only [GH.mkL, List.getD_cons_succ, List.getD_cons_zero]
            have d7 : S 7 = .bool true := (hd 7 (by kernel_rfl)).2
            rw [d7]
            clear d7
            have d11 : S 11 = .pointer (some ⟨rb2, off2, none⟩) := (hd 11 (by kernel_rfl)).2
            rw [d11]
            clear d11
            clear hd
            exact GH.st_loads _ [.int .u64 (f1.fr : Nat), .int .i64 f1.len, .bool f1.fin, .int .i64 f1.flow, .int .u32 f1.en, .int .i64 f1.sent, .int .i64 f1.tries, .bool f1.came, .bool f1.lost] (by rfl) rfl rfl (fun j v hj => (hb.below.cell (p := ⟨rb2, off2 + j, none⟩) HRB2.out).trans (C7.out j v hj)) (by kernel_rfl) (by kernel_rfl)
          | 13, _, hd =>
            simp only [GH.mkL, List.getD_cons_succ, List.getD_cons_zero]
            have d7 : S 7 = .bool true := (hd 7 (by kernel_rfl)).2
            rw [d7]
            clear d7
            have d9 : S 9 = .agg #[.int .u64 (f1.fr : Nat), .int .i64 f1.len, .bool f1.fin, .int .i64 f1.flow, .int .u32 f1.en, .int .i64 f1.sent, .int .i64 f1.tries, .bool f1.came, .bool f1.lost] := (hd 9 (by kernel_rfl)).2
            rw [d9]
            clear d9
            have d12 : S 12 = .agg #[.int .u64 (f1.fr : Nat), .int .i64 f1.len, .bool f1.fin, .int .i64 f1.flow, .int .u32 f1.en, .int .i64 f1.sent, .int .i64 f1.tries, .bool f1.came, .bool f1.lost] := (hd 12 (by kernel_rfl)).2
            rw [d12]
            clear d12
            clear hd
            have hne := neqC f1 w'
            refine GH.st_eq (by rfl) ?_
            go_simp
            (try simp only [bne_self_eq_false])
            (try with_reducible rfl)
          | 14, _, hd =>
            simp only [GH.mkL, List.getD_cons_succ, List.getD_cons_zero]
            have d5 : S 5 = .bool false := (hd 5 (by kernel_rfl)).2
            rw [d5]
            clear d5
            have d7 : S 7 = .bool true := (hd 7 (by kernel_rfl)).2
            rw [d7]
            clear d7
            have d13 : S 13 = .bool false := (hd 13 (by kernel_rfl)).2
            rw [d13]
            clear d13
            clear hd
            refine GH.st_eq (by rfl) ?_
            go_simp
            (try simp only [bne_self_eq_false])
            (try with_reducible rfl)
          | 15, _, hd =>
            simp only [GH.mkL, List.getD_cons_succ, List.getD_cons_zero]
            have d5 : S 5 = .bool false := (hd 5 (by kernel_rfl)).2
            rw [d5]
            clear d5
            have d14 : S 14 = .bool false := (hd 14 (by kernel_rfl)).2
            rw [d14]
            clear d14
            clear hd
            refine GH.st_eq (by rfl) ?_
            go_simp
            (try simp only [bne_self_eq_false])
            (try with_reducible rfl)
          | 16, _, hd =>
            simp only [GH.mkL, List.getD_cons_succ, List.getD_cons_zero]
            have d9 : S 9 = .agg #[.int .u64 (f1.fr : Nat), .int .i64 f1.len, .bool f1.fin, .int .i64 f1.flow, .int .u32 f1.en, .int .i64 f1.sent, .int .i64 f1.tries, .bool f1.came, .bool f1.lost] := (hd 9 (by kernel_rfl)).2
            rw [d9]
            clear d9
            have d15 : S 15 = .bool false := (hd 15 (by kernel_rfl)).2
            rw [d15]
            clear d15
            clear hd
            refine GH.st_eq (by rfl) ?_
            go_simp
            (try with_reducible rfl)
          | 17, _, hd =>
            simp only [GH.mkL, List.getD_cons_succ, List.getD_cons_zero]
            have d16 : S 16 = .bool false := (hd 16 (by kernel_rfl)).2
            rw [d16]
            clear d16
            clear hd
            exact GH.st_loads _ [.int .u64 (f1.fr : Nat), .int .i64 f1.len, .bool f1.fin, .int .i64 f1.flow, .int .u32 f1.en, .int .i64 f1.sent, .int .i64 f1.tries, .bool f1.came, .bool f1.lost] (by rfl) rfl rfl (((K13.out.below hb.below K13.out.lt)).loads 0 _ (by rfl)) (by kernel_rfl) (by kernel_rfl)
          | 18, _, hd =>
            simp only [GH.mkL, List.getD_cons_succ, List.getD_cons_zero]
            have d16 : S 16 = .bool false := (hd 16 (by kernel_rfl)).2
            rw [d16]
            clear d16
            have d17 : S 17 = .agg #[.int .u64 (f1.fr : Nat), .int .i64 f1.len, .bool f1.fin, .int .i64 f1.flow, .int .u32 f1.en, .int .i64 f1.sent, .int .i64 f1.tries, .bool f1.came, .bool f1.lost] := (hd 17 (by kernel_rfl)).2
            rw [d17]
            clear d17
            clear hd
            refine GH.st_call (by rfl) hb.below.size (by go_simp) ((CTO.out w').mono ?_)
            rintro e w9 ⟨rfl, hb9⟩
            exact ⟨_, rfl, hb9, rfl⟩
          | 19, _, hd =>
            simp only [GH.mkL, List.getD_cons_succ, List.getD_cons_zero]
            have d16 : S 16 = .bool false := (hd 16 (by kernel_rfl)).2
            rw [d16]
            clear d16
            clear hd
            exact GH.st_loads _ [.int .u64 (f1.fr : Nat), .int .i64 f1.len, .bool f1.fin, .int .i64 f1.flow, .int .u32 f1.en, .int .i64 f1.sent, .int .i64 f1.tries, .bool f1.came, .bool f1.lost] (by rfl) rfl rfl (((K13.out.below hb.below K13.out.lt)).loads 0 _ (by rfl)) (by kernel_rfl) (by kernel_rfl)
          | 20, _, hd =>
            simp only [GH.mkL, List.getD_cons_succ, List.getD_cons_zero]
            have d16 : S 16 = .bool false := (hd 16 (by kernel_rfl)).2
            rw [d16]
            clear d16
            have d18 : S 18 = .int .u64 (tn : Nat) := (hd 18 (by kernel_rfl)).2
            rw [d18]
            clear d18
            have d19 : S 19 = .agg #[.int .u64 (f1.fr : Nat), .int .i64 f1.len, .bool f1.fin, .int .i64 f1.flow, .int .u32 f1.en, .int .i64 f1.sent, .int .i64 f1.tries, .bool f1.came, .bool f1.lost] := (hd 19 (by kernel_rfl)).2
            rw [d19]
            clear d19
            clear hd
            refine GH.st_call (by rfl) hb.below.size (by go_simp) ((lone_any f1 w').mono ?_)
            rintro e w9 ⟨rfl, hb9⟩
            exact ⟨_, rfl, hb9, rfl⟩
          | 21, _, hd =>
            simp only [GH.mkL, List.getD_cons_succ, List.getD_cons_zero]
            have d16 : S 16 = .bool false := (hd 16 (by kernel_rfl)).2
            rw [d16]
            clear d16
            have d20 : S 20 = .agg #[.int .u64 (f1.fr : Nat), .int .i64 f1.len, .bool f1.fin, .int .i64 f1.flow, .int .u32 f1.en, .int .i64 f1.sent, .int .i64 f1.tries, .bool f1.came, .bool f1.lost] := (hd 20 (by kernel_rfl)).2
            rw [d20]
            clear d20
            clear hd
            refine GH.st_call (by rfl) hb.below.size (by go_simp) ((CRTO.out w').mono ?_)
            rintro e w9 ⟨rfl, hb9⟩
            exact ⟨_, rfl, hb9, rfl⟩
          | 22, _, hd =>
            simp only [GH.mkL, List.getD_cons_succ, List.getD_cons_zero]
            have d16 : S 16 = .bool false := (hd 16 (by kernel_rfl)).2
            rw [d16]
            clear d16
            have d18 : S 18 = .int .u64 (tn : Nat) := (hd 18 (by kernel_rfl)).2
            rw [d18]
            clear d18
            have d21 : S 21 = .int .u64 (tn : Nat) := (hd 21 (by kernel_rfl)).2
            rw [d21]
            clear d21
            clear hd
            refine GH.st_eq (by rfl) ?_
            go_simp
            (try simp only [bne_self_eq_false])
            (try with_reducible rfl)
          | 23, _, hd =>
            simp only [GH.mkL, List.getD_cons_succ, List.getD_cons_zero]
            have d16 : S 16 = .bool false := (hd 16 (by kernel_rfl)).2
            rw [d16]
            clear d16
            have d22 : S 22 = .bool false := (hd 22 (by kernel_rfl)).2
            rw [d22]
            clear d22
            clear hd
            refine GH.st_eq (by rfl) ?_
            go_simp
            (try simp only [bne_self_eq_false])
            (try with_reducible rfl)
          | nx + 24, hjx, _ => omega
        intro S w' hb hG
        simp only [GH.mkL, List.drop_succ_cons, List.drop_zero]
        have d23 : S 23 = .bool false := hG 23 (by omega)
        rw [d23]
        clear d23
        clear hG
        have B8 := Lib.hid (B7.out.trans (hb.below.mono B7.out.size))
        have F8 := Lib.hid (F7.out.into hb.below)
        have Q8 := Lib.hid (own_below Q7.out hb.below fun g hg => (Q7.out.lt g hg).2)
        clear hb F7 Q7 B7 K13 CTO CRTO
        go_wp2_with fail
        go_roundw
        case rel => exact ⟨i + 1, some ⟨rb2, off2, none⟩, n2, c2, _, by omega, by go_num, rfl, F8, Q8, HLM2, HOK2, B8⟩
        case measure => simp [intOf]; omega
    · obtain rfl : i = n := by omega
      clear hlt
      go_wp2_with fail
      refine (alive16 _).mono ?_
      rintro e w9 ⟨rfl, hb9⟩
      have B9 := Lib.hid (BB.out.trans (hb9.mono BB.out.size))
      go_wp2_with fail
      go_ret
      exact ⟨rfl, B9.out⟩
end Go.Proofs.Ytbipcnboammpeaa
