/- Package inlet: order, come. -/
import Derived.Test.YtflmnhibjgehnaaG38InletOrder

namespace Go.Proofs.Ytflmnhibjgehnaa
open Go.RowKit
set_option linter.unusedVariables false
set_option linter.unusedSimpArgs false
section
variable {s : Ist} {L : List Nat} {P : List Sp}
theorem Ist.ok.withL (h : s.ok) (hl : L.length = s.size) : ({ s with L := L } : Ist).ok := ⟨h.bl, h.s0, h.s6, h.ts, hl, h.rs, h.pb, h.pl⟩
theorem Ist.ok.withP (h : s.ok) (hr : Rise P) (hb : ∀ p ∈ P, p.2 ≤ s.base + s.size) (hl : P.length ≤ s.most) : ({ s with P := P } : Ist).ok := ⟨h.bl, h.s0, h.s6, h.ts, h.ll, hr, hb, hl⟩
theorem Ist.ok.withT {t : Nat} (h : s.ok) (ht : t ≤ s.size) : ({ s with there := t } : Ist).ok := ⟨h.bl, h.s0, h.s6, ht, h.ll, h.rs, h.pb, h.pl⟩
theorem Ist.ok.cut (h : s.ok) (b : Nat) : ({ s with P := cutL s.P b } : Ist).ok :=
  h.withP (cutL_rise h.rs) (fun p hp => by have := cutL_bd (l := s.P) (b := b) (N := s.base + s.size + 1) (fun p hp => by have := h.pb p hp; omega) p hp; omega) (Nat.le_trans (cutL_len _ _) h.pl)
end
theorem run_cut_lhU {P : Program} {t e : TypeId} {z : Value} {sz bytes : Nat} (el : El P t e z sz bytes) (A : Option Addr) (n c h k : Nat) (h1 : h ≤ k) (h2 : k ≤ c) (w : World) :
    (Instr.slice t (.slice A n c) (some (.int .u64 (h : Int))) (some (.int .u64 (k : Int))) none).run P w = .ok (.slice (cutA A c h sz) (k - h) (c - h)) w := by
  obtain ⟨ht, hinf, hzs, hsz, hb1⟩ := el
  obtain ⟨i, hi, hz, hsize, hby⟩ := info_parts hinf
  have he : P.elem t = e := by unfold Program.elem; rw [ht]
  have ht' : P.underlying t = some (.slice (P.elem t)) := by rw [he]; exact ht
  rw [run_slice_lh (P := P) w t A n c ht' .u64 .u64 (h : Int) (k : Int) (by omega) (by omega) (by omega)]
  rw [he]
  simp [sizeOf, typeInfo, hi, hsize, sliced, Result.andThen, cutA]
theorem Apart.cut {w : World} {B n m p c h sz : Nat} {A : Option Addr} {xs : List Value} (hr : Rd w B sz A n xs) (k : Apart A n p) (hm : 0 < m → 0 < n) : Apart (cutA A c h sz) m p := fun h0 b off e => by
  obtain ⟨b2, o2, rfl, _, _⟩ := hr.2 (hm h0)
  have hk := k (hm h0) b2 o2 rfl
  unfold cutA at e
  split at e
  · injection e with e
    injection e with e1 _
    omega
  · simp only [Option.map_some, addr_add] at e
    injection e with e
    injection e with e1 _
    omega
theorem Rd.cutTo {w : World} {B n c h k : Nat} {A : Option Addr} {l : List Nat} (hr : Rd w B 1 A n (ns .u8 l)) (h1 : h ≤ k) (h2 : k ≤ n) (hc : n ≤ c) : Rd w B 1 (cutA A c h 1) (k - h) (ns .u8 ((l.drop h).take (k - h))) := by
  have h3 := hr.cut (k := h) (by omega) hc
  have h4 := h3.take (k := k - h) (by omega)
  rw [Nat.mul_one, Nat.mul_one] at h4
  simpa [ns] using h4
set_option maxRecDepth 20000 in
theorem in_order (B x g p s : Nat) (st : Ist) (to : Nat) (w : World) (h : IN w B x g p s st) (h1 : st.next ≤ to) (h2 : to ≤ st.base + st.size) :
    Calls Try.prog 34 #[.pointer (some ⟨x, 0, none⟩), .int .u64 (to : Int)] w fun e w' => (∃ u, e = .returned u) ∧ IN w' B x g p s { st with there := to - st.base, P := cutL st.P to } ∧ IK B x g p s w w' := by
  have c0 := h.c0
  have c2 := h.c2
  obtain ⟨n1, n2, n3, n4, n5, n6⟩ := h.ne
  have hb := h.ok.bl
  have hz2 := h.ok.s6
  have ht := h.ok.ts
  unfold iLim at hb
  have HE := Sh.mk fun w1 (hb : Below w.heap.size w w1) => in_next B x g p s st w1 (h.into hb)
  obtain ⟨d, hd⟩ : ∃ d, d = to - st.next := ⟨_, rfl⟩
  have hn : st.next = st.base + st.there := rfl
  have hw1 : IntKind.u64.wrap ((to : Int) - (st.next : Int)) = (d : Nat) := by rw [IntKind.wrap_u64]; omega
  have hw2 : IntKind.i64.wrap (d : Int) = (d : Nat) := by rw [IntKind.wrap_i64]; omega
  have HG := Sh.mk fun w1 (hb : Below w.heap.size w w1) => grow_any g p st.size st.there d st.L w1 (h.into hb).rg (by omega)
  have et : st.there + d = to - st.base := by omega
  rw [et] at HG
  have HT := Sh.mk (show to - st.base ≤ st.size by omega)
  have HH := Sh.mk h
  generalize st.next = nx at HE hw1
  clear h hb hz2 ht hd hn et
  go_enter Try.func34, Try.ntmps34
  go_wp2_with fail
  refine wp_ord [(0, .pure), (1, .pure), (2, .pure), (3, .read), (4, .pure), (5, .pure), (6, .sole), (7, .pure), (8, .pure), (9, .sole)] [9] (by kernel_rfl) (by kernel_rfl) (fun QQ hQ wd hwd => ?_); simp only [List.map_cons, List.map_nil, List.getD_cons_zero, List.getD_cons_succ]
  have cc0 : wd.cell? ⟨x, 0, none⟩ = some (.pointer (some ⟨g, 0, none⟩)) := by rw [hwd.out]; exact c0
  have hbd : Below w.heap.size w wd := by rw [hwd.out]; exact (Below.refl _ _).drew
  have cc2 : wd.cell? ⟨x, 2, none⟩ = some (.pointer (some ⟨s, 0, none⟩)) := by rw [hwd.out]; exact c2
  clear hwd c0 c2
  (refine o_pure (v := ?_) (by rfl) (fun w' => ?_) ?_; rotate_left; (focus (go_simp; (try with_reducible rfl); (try (rw [if_pos (by omega)]; (try with_reducible rfl))))); (try simp only [Act.put, List.setIfInBounds_toArray, List.set_cons_zero, List.set_cons_succ]))
  (refine o_pure (v := ?_) (by rfl) (fun w' => ?_) ?_; rotate_left; (focus (go_simp; (try with_reducible rfl); (try (rw [if_pos (by omega)]; (try with_reducible rfl))))); (try simp only [Act.put, List.setIfInBounds_toArray, List.set_cons_zero, List.set_cons_succ]))
  (refine o_pure (v := ?_) (by rfl) (fun w' => ?_) ?_; rotate_left; (focus (go_simp; (try with_reducible rfl); (try (rw [if_pos (by omega)]; (try with_reducible rfl))))); (try simp only [Act.put, List.setIfInBounds_toArray, List.set_cons_zero, List.set_cons_succ]))
  (refine o_load _ (by rfl) rfl rfl (by assumption) (by kernel_rfl) ?_; simp only [Act.put, List.setIfInBounds_toArray, List.set_cons_zero, List.set_cons_succ])
  (refine o_pure (v := ?_) (by rfl) (fun w' => ?_) ?_; rotate_left; (focus (go_simp; (try with_reducible rfl); (try (rw [if_pos (by omega)]; (try with_reducible rfl))))); (try simp only [Act.put, List.setIfInBounds_toArray, List.set_cons_zero, List.set_cons_succ]))
  (refine o_pure (v := ?_) (by rfl) (fun w' => ?_) ?_; rotate_left; (focus (go_simp; (try with_reducible rfl); (try (rw [if_pos (by omega)]; (try with_reducible rfl))))); (try simp only [Act.put, List.setIfInBounds_toArray, List.set_cons_zero, List.set_cons_succ]))
  refine o_sole (fun K hK => ?_)
  go_wp2_with fail
  refine (HE.out wd hbd).mono ?_
  rintro e w1 ⟨rfl, q, hq⟩
  have hb1 : Below w.heap.size w w1 := by rw [hq]; exact below_drewN hbd q
  have c2 : w1.cell? ⟨x, 2, none⟩ = some (.pointer (some ⟨s, 0, none⟩)) := by rw [hq]; exact cc2
  have hb1' : Below wd.heap.size wd w1 := by rw [hq]; exact below_drewN (Below.refl _ _) q
  clear hq cc0 cc2 HE hbd
  go_wp2_with fail
  refine hK _ _ (fun _ => Ext.of hb1') ?_; clear hK K
  clear hb1'
  (refine o_pure (v := ?_) (by rfl) (fun w' => ?_) ?_; rotate_left; (focus (go_simp; (try with_reducible rfl); (try (rw [if_pos (by omega)]; (try with_reducible rfl))))); (try simp only [Act.put, List.setIfInBounds_toArray, List.set_cons_zero, List.set_cons_succ]))
  (refine o_pure (v := ?_) (by rfl) (fun w' => ?_) ?_; rotate_left; (focus (go_simp; (try with_reducible rfl); (try (rw [if_pos (by omega)]; (try with_reducible rfl))))); (try simp only [Act.put, List.setIfInBounds_toArray, List.set_cons_zero, List.set_cons_succ]))
  refine o_sole (fun K hK => ?_)
  go_wp2_with fail
  refine (HG.out w1 hb1).mono ?_
  rintro e w2 ⟨rfl, hd2, hr2⟩
  have H2 := Sh.mk (IN.ring (HH.out.into hb1) hd2 hr2 (HH.out.ok.withT HT.out))
  have hk2 : IK B x g p s w w2 := (IK.of hb1).trans (IK.ofR hd2)
  have cc2 : w2.cell? ⟨x, 2, none⟩ = some (.pointer (some ⟨s, 0, none⟩)) := H2.out.c2
  clear c2 hr2
  go_wp2_with fail
  refine hK _ _ (fun h => by cases h) ?_; clear hK K
  refine o_nil (hQ.out _ _ ?_); clear hQ QQ
  obtain ⟨v, hv⟩ := H2.out.sp
  have HV := Sh.mk hv
  clear hv
  go_wp2_with fail
  refine (cut_any s B st.most v st.P to w2 HV.out).mono ?_
  rintro e w3 ⟨⟨u, rfl⟩, ⟨v', hv', hk'⟩, hb'⟩
  have HV' := Sh.mk hv'
  have HK' := Sh.mk hk'
  have HB' := Sh.mk hb'
  clear hv' hk' hb'
  go_wp2_with fail
  go_end0
  exact ⟨⟨_, rfl⟩, IN.pcs H2.out HV.out HK'.out HV'.out (H2.out.ok.cut to), hk2.trans (IK.ofS HV.out HK'.out HB'.out)⟩
end Go.Proofs.Ytflmnhibjgehnaa
