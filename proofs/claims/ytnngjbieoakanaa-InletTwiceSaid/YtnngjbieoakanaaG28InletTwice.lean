/- Package inlet: bound, top, Ended, Ack, Pieces. -/
import Derived.Test.YtnngjbieoakanaaG27InletTwice

namespace Go.Proofs.Ytnngjbieoakanaa
open Go.RowKit
set_option linter.unusedVariables false
set_option linter.unusedSimpArgs false
set_option maxRecDepth 20000 in
theorem in_bound (B x g p s : Nat) (st : Ist) (w : World) (h : IN w B x g p s st) :
    Calls Try.prog 22 #[.pointer (some ⟨x, 0, none⟩)] w fun e w' => e = .returned (.int .u64 (st.bound : Int)) ∧ ∃ n, w' = w.drewN n := by
  have c3 := h.c3
  have c4 := h.c4
  have HE0 := Sh.mk (in_edge B x g p s st w h)
  have HE := Sh.mk fun n => in_edge B x g p s st (w.drewN n) (h.drewN n)
  have HB := Sh.mk (show st.bound = if st.kn then min (st.base + st.size) st.en else st.base + st.size from rfl)
  generalize st.bound = b at HB ⊢
  obtain ⟨e, he⟩ : ∃ e, e = st.base + st.size := ⟨_, rfl⟩
  rw [← he] at HE HE0 HB
  clear h he
  generalize st.kn = kn at c4 HB
  cases kn
  · go_enter Try.func22, Try.ntmps22
    go_wp2_with fail
    refine HE0.out.mono ?_
    rintro e' w1 ⟨rfl, q, rfl⟩
    go_wp2_with fail
    go_ret
    exact ⟨by rw [HB.out]; rfl, _, rfl⟩
  · have hm : (if e < st.en then (e : Int) else (st.en : Int)) = (b : Nat) := by rw [HB.out]; simp only [if_true]; split <;> omega
    have hm2 : (if st.en < e then (st.en : Int) else (e : Int)) = (b : Nat) := by rw [HB.out]; simp only [if_true]; split <;> omega
    clear HB
    go_enter Try.func22, Try.ntmps22
    go_wp2_with fail
    go_quiet ((go_at_call 13; exact Calls.quiet_of (HE.out _)))
    go_wp2
    go_ret
    exact ⟨rfl, _, rfl⟩
set_option maxRecDepth 20000 in
theorem in_ended (B x g p s : Nat) (st : Ist) (w : World) (h : IN w B x g p s st) :
    Calls Try.prog 26 #[.pointer (some ⟨x, 0, none⟩)] w fun e w' => e = .returned (.bool st.ended) ∧ ∃ n, w' = w.drewN n := by
  have c3 := h.c3
  have c4 := h.c4
  have HE := Sh.mk fun n => in_next B x g p s st (w.drewN n) (h.drewN n)
  have HB := Sh.mk (show st.ended = (st.kn && decide (st.en ≤ st.next)) from rfl)
  generalize st.ended = b at HB ⊢
  generalize st.next = e at HB HE
  generalize st.en = en at c3 HB
  clear h
  generalize st.kn = kn at c4 HB
  cases kn
  · have hb : b = false := by rw [HB.out]; rfl
    subst hb
    clear HB HE
    go_enter Try.func26, Try.ntmps26
    go_wp2_with fail
    go_quiet (fail)
    go_wp2
    go_ret
    exact ⟨rfl, _, rfl⟩
  · by_cases hen : en ≤ e
    · have hb : b = true := by rw [HB.out]; simpa using hen
      have h1 : (en : Int) ≤ (e : Int) := by omega
      subst hb
      clear HB
      go_enter Try.func26, Try.ntmps26
      go_wp2_with fail
      go_quiet ((go_at_call 10; exact Calls.quiet_of (HE.out _)))
      go_wp2
      go_ret
      exact ⟨rfl, _, rfl⟩
    · have hb : b = false := by rw [HB.out]; simpa using hen
      have h1 : ¬ (en : Int) ≤ (e : Int) := by omega
      subst hb
      clear HB
      go_enter Try.func26, Try.ntmps26
      go_wp2_with fail
      go_quiet ((go_at_call 10; exact Calls.quiet_of (HE.out _)))
      go_wp2
      go_ret
      exact ⟨rfl, _, rfl⟩
theorem Ist.ok.next_le {st : Ist} (h : st.ok) : st.next ≤ st.base + st.size := by have := h.ts; unfold Ist.next; omega
set_option maxRecDepth 20000 in
theorem in_ack (B x g p s : Nat) (st : Ist) (w : World) (h : IN w B x g p s st) :
    Calls Try.prog 12 #[.pointer (some ⟨x, 0, none⟩)] w fun e w' => e = .returned (.int .u64 (st.ack : Int)) ∧ ∃ n, w' = w.drewN n := by
  have HD := Sh.mk (in_ended B x g p s st w h)
  have HE := Sh.mk fun n => in_next B x g p s st (w.drewN n) (h.drewN n)
  have HB := Sh.mk (show st.ack = (if st.ended then st.next + 1 else st.next) from rfl)
  have hn := h.ok.next_le
  have hb := h.ok.bl
  have hz2 := h.ok.s6
  unfold iLim at hb
  have hw : IntKind.u64.wrap ((st.next : Int) + 1) = ((st.next + 1 : Nat) : Int) := by rw [IntKind.wrap_u64]; omega
  clear h hn hb hz2
  generalize st.ack = a at HB ⊢
  generalize st.next = n at HE HB hw
  generalize st.ended = d at HD HB
  cases d
  · obtain rfl : a = n := HB.out
    clear HB hw
    go_enter Try.func12, Try.ntmps12
    go_wp2_with fail
    refine HD.out.mono ?_
    rintro e' w1 ⟨rfl, q, rfl⟩
    go_wp2_with fail
    refine (HE.out q).mono ?_
    rintro e' w1 ⟨rfl, q2, rfl⟩
    go_wp2_with fail
    go_ret
    exact ⟨rfl, q + q2, rfl⟩
  · obtain rfl : a = n + 1 := HB.out
    clear HB
    go_enter Try.func12, Try.ntmps12
    go_wp2_with fail
    refine HD.out.mono ?_
    rintro e' w1 ⟨rfl, q, rfl⟩
    go_wp2_with fail
    refine (HE.out q).mono ?_
    rintro e' w1 ⟨rfl, q2, rfl⟩
    go_wp2_with fail
    go_ret
    exact ⟨rfl, q + q2, rfl⟩
set_option maxRecDepth 20000 in
theorem in_pieces (B x g p s : Nat) (st : Ist) (w : World) (h : IN w B x g p s st) :
    Calls Try.prog 11 #[.pointer (some ⟨x, 0, none⟩)] w fun e w' => e = .returned (.int .i64 (st.P.length : Int)) ∧ Below w.heap.size w w' := by
  have c2 := h.c2
  obtain ⟨v, hv⟩ := h.sp
  have HL := Sh.mk (list_any s B st.most v st.P w hv)
  clear h hv
  go_enter Try.func11, Try.ntmps11
  go_wp2_with fail
  refine HL.out.mono ?_
  rintro e' w1 ⟨v', rfl, ho, hb⟩
  obtain ⟨A, c, rfl, _, _, _⟩ := own_form ho
  clear ho
  go_wp2_with fail
  go_ret
  exact ⟨rfl, hb⟩
set_option maxRecDepth 20000 in
theorem in_top (B x g p s : Nat) (st : Ist) (w : World) (h : IN w B x g p s st) :
    Calls Try.prog 29 #[.pointer (some ⟨x, 0, none⟩)] w fun e w' => e = .returned (.int .u64 (st.top : Int)) ∧ Below w.heap.size w w' := by
  have c2 := h.c2
  obtain ⟨v, hv⟩ := h.sp
  have HL := Sh.mk (list_any s B st.most v st.P w hv)
  have HN := Sh.mk fun w1 (hb : Below w.heap.size w w1) => in_next B x g p s st w1 (h.into hb)
  have HT := Sh.mk (show st.top = (match st.P.getLast? with | some p => max st.next p.2 | none => st.next) from rfl)
  clear h hv
  generalize st.top = top at HT ⊢
  generalize st.next = nx at HT HN
  go_enter Try.func29, Try.ntmps29
  go_wp2_with fail
  refine HL.out.mono ?_
  rintro e' w1 ⟨v', rfl, ho, hb⟩
  obtain ⟨A, n, c, rfl, hc, hcm, hln, hrd⟩ := Pcs.out ho
  by_cases h0 : n = 0
  · subst h0
    have e0 : st.P = [] := List.eq_nil_of_length_eq_zero hln.out
    rw [e0] at HT
    obtain rfl : top = nx := HT.out
    clear HT e0 hrd hln ho
    go_wp2_with fail
    refine (HN.out w1 hb).mono ?_
    rintro e' w2 ⟨rfl, q, rfl⟩
    go_wp2_with fail
    go_ret
    exact ⟨rfl, below_drewN hb q⟩
  · obtain ⟨k, hk⟩ : ∃ k, n = k + 1 := ⟨n - 1, by omega⟩
    obtain ⟨b, off, y, z, rfl, hbb, p0, p1, hp⟩ := hrd.out.pc (i := k) (by omega)
    have hlast : st.P.getLast? = some (y, z) := by rw [List.getLast?_eq_getElem?, hln.out, hk]; simpa using hp.out
    rw [hlast] at HT
    have hm : (if nx < z then (z : Int) else (nx : Int)) = (top : Nat) := by rw [HT.out]; simp only []; split <;> omega
    have hw1 : IntKind.i64.wrap ((n : Int) - 1) = (k : Nat) := by unfold maxLen at hcm; rw [IntKind.wrap_i64]; omega
    have i1 : (0 : Int) ≤ (k : Int) := by omega
    have i2 : (k : Int) < (n : Int) := by omega
    have i3 : k < n := by omega
    have i4 : 0 < n := by omega
    have i5 : (0 : Int) < (n : Int) := by omega
    clear HT hlast hp hk hrd hln ho h0
    have HN2 := Sh.mk fun m => HN.out (w1.drewN m) (below_drewN hb m)
    clear HN
    go_wp2_with fail
    go_quiet ((go_at_call 10; exact Calls.quiet_of (HN2.out _)))
    go_wp2
    go_ret
    exact ⟨rfl, below_drewN hb _⟩
end Go.Proofs.Ytnngjbieoakanaa

/- Package inlet: order, come. -/
namespace Go.Proofs.Ytnngjbieoakanaa
open Go.RowKit
set_option linter.unusedVariables false
set_option linter.unusedSimpArgs false
section
variable {s : Ist} {L : List Nat} {P : List Sp}
theorem Ist.ok.withL (h : s.ok) (hl : L.length = s.size) : ({ s with L := L } : Ist).ok := ⟨h.bl, h.s0, h.s6, h.ts, hl, h.rs, h.pb, h.pl⟩
theorem Ist.ok.withP (h : s.ok) (hr : Rise P) (hb : ∀ p ∈ P, p.2 ≤ s.base + s.size) (hl : P.length ≤ s.most) : ({ s with P := P } : Ist).ok := ⟨h.bl, h.s0, h.s6, h.ts, h.ll, hr, hb, hl⟩
theorem Ist.ok.withT {t : Nat} (h : s.ok) (ht : t ≤ s.size) : ({ s with there := t } : Ist).ok := ⟨h.bl, h.s0, h.s6, ht, h.ll, h.rs, h.pb, h.pl⟩
theorem Ist.ok.cut (h : s.ok) (b : Nat) : ({ s with P := cutL s.P b } : Ist).ok :=
  h.withP (cutL_rise h.rs) (fun p hp => by have := cutL_bd (l := s.P) (b := b) (N := s.base + s.size + 1) (fun p hp => by have := h.pb p hp; omega) p hp; omega) (Nat.le_trans (cutL_len _ _) h.pl)
end
theorem run_cut_lhU {P : Program} {t e : TypeId} {z : Value} {sz bytes : Nat} (el : El P t e z sz bytes) (A : Option Addr) (n c h k : Nat) (h1 : h ≤ k) (h2 : k ≤ c) (w : World) :
    (Instr.slice t (.slice A n c) (some (.int .u64 (h : Int))) (some (.int .u64 (k : Int))) none).run P w = .ok (.slice (cutA A c h sz) (k - h) (c - h)) w := by
  obtain ⟨ht, hinf, hzs, hsz, hb1⟩ := el
  obtain ⟨i, hi, hz, hsize, hby⟩ := info_parts hinf
  have he : P.elem t = e := by unfold Program.elem; rw [ht]
  have ht' : P.underlying t = some (.slice (P.elem t)) := by rw [he]; exact ht
  rw [run_slice_lh (P := P) w t A n c ht' .u64 .u64 (h : Int) (k : Int) (by omega) (by omega) (by omega)]
  rw [he]
  simp [sizeOf, typeInfo, hi, hsize, sliced, Result.andThen, cutA]
theorem Apart.cut {w : World} {B n m p c h sz : Nat} {A : Option Addr} {xs : List Value} (hr : Rd w B sz A n xs) (k : Apart A n p) (hm : 0 < m → 0 < n) : Apart (cutA A c h sz) m p := fun h0 b off e => by
  obtain ⟨b2, o2, rfl, _, _⟩ := hr.2 (hm h0)
  have hk := k (hm h0) b2 o2 rfl
  unfold cutA at e
  split at e
  · injection e with e
    injection e with e1 _
    omega
  · simp only [Option.map_some, addr_add] at e
    injection e with e
    injection e with e1 _
    omega
theorem Rd.cutTo {w : World} {B n c h k : Nat} {A : Option Addr} {l : List Nat} (hr : Rd w B 1 A n (ns .u8 l)) (h1 : h ≤ k) (h2 : k ≤ n) (hc : n ≤ c) : Rd w B 1 (cutA A c h 1) (k - h) (ns .u8 ((l.drop h).take (k - h))) := by
  have h3 := hr.cut (k := h) (by omega) hc
  have h4 := h3.take (k := k - h) (by omega)
  rw [Nat.mul_one, Nat.mul_one] at h4
  simpa [ns] using h4
set_option maxRecDepth 20000 in
theorem in_order (B x g p s : Nat) (st : Ist) (to : Nat) (w : World) (h : IN w B x g p s st) (h1 : st.next ≤ to) (h2 : to ≤ st.base + st.size) :
    Calls Try.prog 37 #[.pointer (some ⟨x, 0, none⟩), .int .u64 (to : Int)] w fun e w' => (∃ u, e = .returned u) ∧ IN w' B x g p s { st with there := to - st.base, P := cutL st.P to } ∧ IK B x g p s w w' := by
  have c0 := h.c0
  have c2 := h.c2
  obtain ⟨n1, n2, n3, n4, n5, n6⟩ := h.ne
  have hb := h.ok.bl
  have hz2 := h.ok.s6
  have ht := h.ok.ts
  unfold iLim at hb
  have HE := Sh.mk fun w1 (hb : Below w.heap.size w w1) => in_next B x g p s st w1 (h.into hb)
  obtain ⟨d, hd⟩ : ∃ d, d = to - st.next := ⟨_, rfl⟩
  have hn : st.next = st.base + st.there := rfl
  have hw1 : IntKind.u64.wrap ((to : Int) - (st.next : Int)) = (d : Nat) := by rw [IntKind.wrap_u64]; omega
  have hw2 : IntKind.i64.wrap (d : Int) = (d : Nat) := by rw [IntKind.wrap_i64]; omega
  have HG := Sh.mk fun w1 (hb : Below w.heap.size w w1) => grow_any g p st.size st.there d st.L w1 (h.into hb).rg (by omega)
  have et : st.there + d = to - st.base := by omega
  rw [et] at HG
  have HT := Sh.mk (show to - st.base ≤ st.size by omega)
  have HH := Sh.mk h
  generalize st.next = nx at HE hw1
  clear h hb hz2 ht hd hn et
  go_enter Try.func37, Try.ntmps37
  go_wp2_with fail
  refine wp_ord [(0, .pure), (1, .pure), (2, .pure), (3, .read), (4, .pure), (5, .pure), (6, .sole), (7, .pure), (8, .pure), (9, .sole)] [9] (by kernel_rfl) (by kernel_rfl) (fun QQ hQ wd hwd => ?_); simp only [List.map_cons, List.map_nil, List.getD_cons_zero, List.getD_cons_succ]
  have cc0 : wd.cell? ⟨x, 0, none⟩ = some (.pointer (some ⟨g, 0, none⟩)) := by rw [hwd.out]; exact c0
  have hbd : Below w.heap.size w wd := by rw [hwd.out]; exact (Below.refl _ _).drew
  have cc2 : wd.cell? ⟨x, 2, none⟩ = some (.pointer (some ⟨s, 0, none⟩)) := by rw [hwd.out]; exact c2
  clear hwd c0 c2
  (refine o_pure (v := ?_) (by rfl) (fun w' => ?_) ?_; rotate_left; (focus (go_simp; (try with_reducible rfl); (try (rw [if_pos (by omega)]; (try with_reducible rfl))))); (try simp only [Act.put, List.setIfInBounds_toArray, List.set_cons_zero, List.set_cons_succ]))
  (refine o_pure (v := ?_) (by rfl) (fun w' => ?_) ?_; rotate_left; (focus (go_simp; (try with_reducible rfl); (try (rw [if_pos (by omega)]; (try with_reducible rfl))))); (try simp only [Act.put, List.setIfInBounds_toArray, List.set_cons_zero, List.set_cons_succ]))
  (refine o_pure (v := ?_) (by rfl) (fun w' => ?_) ?_; rotate_left; (focus (go_simp; (try with_reducible rfl); (try (rw [if_pos (by omega)]; (try with_reducible rfl))))); (try simp only [Act.put, List.setIfInBounds_toArray, List.set_cons_zero, List.set_cons_succ]))
  (refine o_load _ (by rfl) rfl rfl (by assumption) (by kernel_rfl) ?_; simp only [Act.put, List.setIfInBounds_toArray, List.set_cons_zero, List.set_cons_succ])
  (refine o_pure (v := ?_) (by rfl) (fun w' => ?_) ?_; rotate_left; (focus (go_simp; (try with_reducible rfl); (try (rw [if_pos (by omega)]; (try with_reducible rfl))))); (try simp only [Act.put, List.setIfInBounds_toArray, List.set_cons_zero, List.set_cons_succ]))
  (refine o_pure (v := ?_) (by rfl) (fun w' => ?_) ?_; rotate_left; (focus (go_simp; (try with_reducible rfl); (try (rw [if_pos (by omega)]; (try with_reducible rfl))))); (try simp only [Act.put, List.setIfInBounds_toArray, List.set_cons_zero, List.set_cons_succ]))
  refine o_sole (fun K hK => ?_)
  go_wp2_with fail
  refine (HE.out wd hbd).mono ?_
  rintro e w1 ⟨rfl, q, hq⟩
  have hb1 : Below w.heap.size w w1 := by rw [hq]; exact below_drewN hbd q
  have c2 : w1.cell? ⟨x, 2, none⟩ = some (.pointer (some ⟨s, 0, none⟩)) := by rw [hq]; exact cc2
  have hb1' : Below wd.heap.size wd w1 := by rw [hq]; exact below_drewN (Below.refl _ _) q
  clear hq cc0 cc2 HE hbd
  go_wp2_with fail
  refine hK _ _ (fun _ => Ext.of hb1') ?_; clear hK K
  clear hb1'
  (refine o_pure (v := ?_) (by rfl) (fun w' => ?_) ?_; rotate_left; (focus (go_simp; (try with_reducible rfl); (try (rw [if_pos (by omega)]; (try with_reducible rfl))))); (try simp only [Act.put, List.setIfInBounds_toArray, List.set_cons_zero, List.set_cons_succ]))
  (refine o_pure (v := ?_) (by rfl) (fun w' => ?_) ?_; rotate_left; (focus (go_simp; (try with_reducible rfl); (try (rw [if_pos (by omega)]; (try with_reducible rfl))))); (try simp only [Act.put, List.setIfInBounds_toArray, List.set_cons_zero, List.set_cons_succ]))
  refine o_sole (fun K hK => ?_)
  go_wp2_with fail
  refine (HG.out w1 hb1).mono ?_
  rintro e w2 ⟨rfl, hd2, hr2⟩
  have H2 := Sh.mk (IN.ring (HH.out.into hb1) hd2 hr2 (HH.out.ok.withT HT.out))
  have hk2 : IK B x g p s w w2 := (IK.of hb1).trans (IK.ofR hd2)
  have cc2 : w2.cell? ⟨x, 2, none⟩ = some (.pointer (some ⟨s, 0, none⟩)) := H2.out.c2
  clear c2 hr2
  go_wp2_with fail
  refine hK _ _ (fun h => by cases h) ?_; clear hK K
  refine o_nil (hQ.out _ _ ?_); clear hQ QQ
  obtain ⟨v, hv⟩ := H2.out.sp
  have HV := Sh.mk hv
  clear hv
  go_wp2_with fail
  refine (cut_any s B st.most v st.P to w2 HV.out).mono ?_
  rintro e w3 ⟨⟨u, rfl⟩, ⟨v', hv', hk'⟩, hb'⟩
  have HV' := Sh.mk hv'
  have HK' := Sh.mk hk'
  have HB' := Sh.mk hb'
  clear hv' hk' hb'
  go_wp2_with fail
  go_end0
  exact ⟨⟨_, rfl⟩, IN.pcs H2.out HV.out HK'.out HV'.out (H2.out.ok.cut to), hk2.trans (IK.ofS HV.out HK'.out HB'.out)⟩
end Go.Proofs.Ytnngjbieoakanaa
