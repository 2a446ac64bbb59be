/- Package inlet: bound, top, Ended, Ack, Pieces. -/
import Derived.Test.YtflmnhibjgehnaaG37InletOrder

namespace Go.Proofs.Ytflmnhibjgehnaa
open Go.RowKit
set_option linter.unusedVariables false
set_option linter.unusedSimpArgs false
set_option maxRecDepth 20000 in
theorem in_bound (B x g p s : Nat) (st : Ist) (w : World) (h : IN w B x g p s st) :
    Calls Try.prog 21 #[.pointer (some ⟨x, 0, none⟩)] w fun e w' => e = .returned (.int .u64 (st.bound : Int)) ∧ ∃ n, w' = w.drewN n := by
  have c3 := h.c3
  have c4 := h.c4
  have HE0 := Sh.mk (in_edge B x g p s st w h)
  have HE := Sh.mk fun n => in_edge B x g p s st (w.drewN n) (h.drewN n)
  have HB := Sh.mk (show st.bound = if st.kn then min (st.base + st.size) st.en else st.base + st.size from rfl)
  generalize st.bound = b at HB ⊢
  obtain ⟨e, he⟩ : ∃ e, e = st.base + st.size := ⟨_, rfl⟩
  rw [← he] at HE HE0 HB
  clear h he
  generalize st.kn = kn at c4 HB
  cases kn
  · go_enter Try.func21, Try.ntmps21
    go_wp2_with fail
    refine HE0.out.mono ?_
    rintro e' w1 ⟨rfl, q, rfl⟩
    go_wp2_with fail
    go_ret
    exact ⟨by rw [HB.out]; rfl, _, rfl⟩
  · have hm : (if e < st.en then (e : Int) else (st.en : Int)) = (b : Nat) := by rw [HB.out]; simp only [if_true]; split <;> omega
    have hm2 : (if st.en < e then (st.en : Int) else (e : Int)) = (b : Nat) := by rw [HB.out]; simp only [if_true]; split <;> omega
    clear HB
    go_enter Try.func21, Try.ntmps21
    go_wp2_with fail
    go_quiet ((go_at_call 18; exact Calls.quiet_of (HE.out _)))
    go_wp2
    go_ret
    exact ⟨rfl, _, rfl⟩
set_option maxRecDepth 20000 in
theorem in_ended (B x g p s : Nat) (st : Ist) (w : World) (h : IN w B x g p s st) :
    Calls Try.prog 11 #[.pointer (some ⟨x, 0, none⟩)] w fun e w' => e = .returned (.bool st.ended) ∧ ∃ n, w' = w.drewN n := by
  have c3 := h.c3
  have c4 := h.c4
  have HE := Sh.mk fun n => in_next B x g p s st (w.drewN n) (h.drewN n)
  have HB := Sh.mk (show st.ended = (st.kn && decide (st.en ≤ st.next)) from rfl)
  generalize st.ended = b at HB ⊢
  generalize st.next = e at HB HE
  generalize st.en = en at c3 HB
  clear h
  generalize st.kn = kn at c4 HB
  cases kn
  · have hb : b = false := by rw [HB.out]; rfl
    subst hb
    clear HB HE
    go_enter Try.func11, Try.ntmps11
    go_wp2_with fail
    go_quiet (fail)
    go_wp2
    go_ret
    exact ⟨rfl, _, rfl⟩
  · by_cases hen : en ≤ e
    · have hb : b = true := by rw [HB.out]; simpa using hen
      have h1 : (en : Int) ≤ (e : Int) := by omega
      subst hb
      clear HB
      go_enter Try.func11, Try.ntmps11
      go_wp2_with fail
      go_quiet ((go_at_call 9; exact Calls.quiet_of (HE.out _)))
      go_wp2
      go_ret
      exact ⟨rfl, _, rfl⟩
    · have hb : b = false := by rw [HB.out]; simpa using hen
      have h1 : ¬ (en : Int) ≤ (e : Int) := by omega
      subst hb
      clear HB
      go_enter Try.func11, Try.ntmps11
      go_wp2_with fail
      go_quiet ((go_at_call 9; exact Calls.quiet_of (HE.out _)))
      go_wp2
      go_ret
      exact ⟨rfl, _, rfl⟩
theorem Ist.ok.next_le {st : Ist} (h : st.ok) : st.next ≤ st.base + st.size := by have := h.ts; unfold Ist.next; omega
set_option maxRecDepth 20000 in
theorem in_ack (B x g p s : Nat) (st : Ist) (w : World) (h : IN w B x g p s st) :
    Calls Try.prog 17 #[.pointer (some ⟨x, 0, none⟩)] w fun e w' => e = .returned (.int .u64 (st.ack : Int)) ∧ ∃ n, w' = w.drewN n := by
  have HD := Sh.mk (in_ended B x g p s st w h)
  have HE := Sh.mk fun n => in_next B x g p s st (w.drewN n) (h.drewN n)
  have HB := Sh.mk (show st.ack = (if st.ended then st.next + 1 else st.next) from rfl)
  have hn := h.ok.next_le
  have hb := h.ok.bl
  have hz2 := h.ok.s6
  unfold iLim at hb
  have hw : IntKind.u64.wrap ((st.next : Int) + 1) = ((st.next + 1 : Nat) : Int) := by rw [IntKind.wrap_u64]; omega
  clear h hn hb hz2
  generalize st.ack = a at HB ⊢
  generalize st.next = n at HE HB hw
  generalize st.ended = d at HD HB
  cases d
  · obtain rfl : a = n := HB.out
    clear HB hw
    go_enter Try.func17, Try.ntmps17
    go_wp2_with fail
    refine HD.out.mono ?_
    rintro e' w1 ⟨rfl, q, rfl⟩
    go_wp2_with fail
    refine (HE.out q).mono ?_
    rintro e' w1 ⟨rfl, q2, rfl⟩
    go_wp2_with fail
    go_ret
    exact ⟨rfl, q + q2, rfl⟩
  · obtain rfl : a = n + 1 := HB.out
    clear HB
    go_enter Try.func17, Try.ntmps17
    go_wp2_with fail
    refine HD.out.mono ?_
    rintro e' w1 ⟨rfl, q, rfl⟩
    go_wp2_with fail
    refine (HE.out q).mono ?_
    rintro e' w1 ⟨rfl, q2, rfl⟩
    go_wp2_with fail
    go_ret
    exact ⟨rfl, q + q2, rfl⟩
set_option maxRecDepth 20000 in
theorem in_pieces (B x g p s : Nat) (st : Ist) (w : World) (h : IN w B x g p s st) :
    Calls Try.prog 16 #[.pointer (some ⟨x, 0, none⟩)] w fun e w' => e = .returned (.int .i64 (st.P.length : Int)) ∧ Below w.heap.size w w' := by
  have c2 := h.c2
  obtain ⟨v, hv⟩ := h.sp
  have HL := Sh.mk (list_any s B st.most v st.P w hv)
  clear h hv
  go_enter Try.func16, Try.ntmps16
  go_wp2_with fail
  refine HL.out.mono ?_
  rintro e' w1 ⟨v', rfl, ho, hb⟩
  obtain ⟨A, c, rfl, _, _, _⟩ := own_form ho
  clear ho
  go_wp2_with fail
  go_ret
  exact ⟨rfl, hb⟩
set_option maxRecDepth 20000 in
theorem in_top (B x g p s : Nat) (st : Ist) (w : World) (h : IN w B x g p s st) :
    Calls Try.prog 25 #[.pointer (some ⟨x, 0, none⟩)] w fun e w' => e = .returned (.int .u64 (st.top : Int)) ∧ Below w.heap.size w w' := by
  have c2 := h.c2
  obtain ⟨v, hv⟩ := h.sp
  have HL := Sh.mk (list_any s B st.most v st.P w hv)
  have HN := Sh.mk fun w1 (hb : Below w.heap.size w w1) => in_next B x g p s st w1 (h.into hb)
  have HT := Sh.mk (show st.top = (match st.P.getLast? with | some p => max st.next p.2 | none => st.next) from rfl)
  clear h hv
  generalize st.top = top at HT ⊢
  generalize st.next = nx at HT HN
  go_enter Try.func25, Try.ntmps25
  go_wp2_with fail
  refine HL.out.mono ?_
  rintro e' w1 ⟨v', rfl, ho, hb⟩
  obtain ⟨A, n, c, rfl, hc, hcm, hln, hrd⟩ := Pcs.out ho
  by_cases h0 : n = 0
  · subst h0
    have e0 : st.P = [] := List.eq_nil_of_length_eq_zero hln.out
    rw [e0] at HT
    obtain rfl : top = nx := HT.out
    clear HT e0 hrd hln ho
    go_wp2_with fail
    refine (HN.out w1 hb).mono ?_
    rintro e' w2 ⟨rfl, q, rfl⟩
    go_wp2_with fail
    go_ret
    exact ⟨rfl, below_drewN hb q⟩
  · obtain ⟨k, hk⟩ : ∃ k, n = k + 1 := ⟨n - 1, by omega⟩
    obtain ⟨b, off, y, z, rfl, hbb, p0, p1, hp⟩ := hrd.out.pc (i := k) (by omega)
    have hlast : st.P.getLast? = some (y, z) := by rw [List.getLast?_eq_getElem?, hln.out, hk]; simpa using hp.out
    rw [hlast] at HT
    have hm : (if nx < z then (z : Int) else (nx : Int)) = (top : Nat) := by rw [HT.out]; simp only []; split <;> omega
    have hw1 : IntKind.i64.wrap ((n : Int) - 1) = (k : Nat) := by unfold maxLen at hcm; rw [IntKind.wrap_i64]; omega
    have i1 : (0 : Int) ≤ (k : Int) := by omega
    have i2 : (k : Int) < (n : Int) := by omega
    have i3 : k < n := by omega
    have i4 : 0 < n := by omega
    have i5 : (0 : Int) < (n : Int) := by omega
    clear HT hlast hp hk hrd hln ho h0
    have HN2 := Sh.mk fun m => HN.out (w1.drewN m) (below_drewN hb m)
    clear HN
    go_wp2_with fail
    go_quiet ((go_at_call 9; exact Calls.quiet_of (HN2.out _)))
    go_wp2
    go_ret
    exact ⟨rfl, below_drewN hb _⟩
end Go.Proofs.Ytflmnhibjgehnaa
