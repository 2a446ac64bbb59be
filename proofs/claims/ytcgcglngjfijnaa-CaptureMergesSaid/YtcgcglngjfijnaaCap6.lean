/- Layer 34: records as the document's. -/
import Derived.Test.YtcgcglngjfijnaaCap5
import Derived.Test.YtcgcglngjfijnaaSz3
import Derived.Test.YtcgcglngjfijnaaOrdC
namespace Go.Proofs.Ytcgcglngjfijnaa
open Go.RowKit
set_option linter.unusedVariables false
set_option linter.unusedSimpArgs false
def rcel (p : Rcd) : List Value := [.int .i64 p.1, .int .i64 p.2.1, .int .i64 p.2.2.1, .string (strN p.2.2.2)]
def rcs (l : List Rcd) : List Value := l.flatMap rcel
theorem rcs_cons (p : Rcd) (l : List Rcd) : rcs (p :: l) = .int .i64 p.1 :: .int .i64 p.2.1 :: .int .i64 p.2.2.1 :: .string (strN p.2.2.2) :: rcs l := rfl
theorem rcs_append (l m : List Rcd) : rcs (l ++ m) = rcs l ++ rcs m := by simp [rcs]
theorem rcs_len (l : List Rcd) : (rcs l).length = l.length * 4 := by
  induction l with
  | nil => rfl
  | cons p l ih => rw [rcs_cons, List.length_cons, List.length_cons, List.length_cons, List.length_cons, ih, List.length_cons]; omega
theorem rcs_get {l : List Rcd} {i : Nat} {p : Rcd} (h : l[i]? = some p) : (rcs l)[i * 4]? = some (.int .i64 p.1) ∧ (rcs l)[i * 4 + 1]? = some (.int .i64 p.2.1) ∧ (rcs l)[i * 4 + 2]? = some (.int .i64 p.2.2.1) ∧ (rcs l)[i * 4 + 3]? = some (.string (strN p.2.2.2)) := by
  induction l generalizing i with
  | nil => simp at h
  | cons q l ih =>
    cases i with
    | zero => simp at h; subst h; exact ⟨rfl, rfl, rfl, rfl⟩
    | succ i =>
      have e0 : (i + 1) * 4 = i * 4 + 1 + 1 + 1 + 1 := by omega
      have e1 : (i + 1) * 4 + 1 = i * 4 + 1 + 1 + 1 + 1 + 1 := by omega
      have e2 : (i + 1) * 4 + 2 = i * 4 + 2 + 1 + 1 + 1 + 1 := by omega
      have e3 : (i + 1) * 4 + 3 = i * 4 + 3 + 1 + 1 + 1 + 1 := by omega
      rw [rcs_cons, e1, e2, e3, e0]
      simp only [List.getElem?_cons_succ]
      exact ih (by simpa using h)
theorem rcs_one (l : List Rcd) : ∀ v ∈ rcs l, v.oneCell' = true := by
  intro v hv
  simp only [rcs, rcel, List.mem_flatMap] at hv
  obtain ⟨p, _, hv⟩ := hv
  simp at hv
  rcases hv with rfl | rfl | rfl | rfl <;> rfl
/-- The document's record at a place. -/
theorem Rd.rec4 {w : World} {B n : Nat} {A : Option Addr} {l : List Rcd} {i : Nat} (h : Rd w B 4 A n (rcs l)) (hi : i < n) :
    ∃ (b off : Nat) (t s p : Int) (bs : List Nat), A = some ⟨b, off, none⟩ ∧ b < B ∧ w.cell? ⟨b, off + i * 4, none⟩ = some (.int .i64 t) ∧ w.cell? ⟨b, off + i * 4 + 1, none⟩ = some (.int .i64 s) ∧ w.cell? ⟨b, off + i * 4 + 2, none⟩ = some (.int .i64 p) ∧ w.cell? ⟨b, off + i * 4 + 3, none⟩ = some (.string (strN bs)) ∧ Hid (l[i]? = some (t, s, p, bs)) := by
  obtain ⟨b, off, e, hb, hc⟩ := h.2 (by omega)
  have hl : l.length = n := by have := h.1; rw [rcs_len] at this; omega
  have hg : l[i]? = some (l[i]'(by omega)) := List.getElem?_eq_getElem (by omega)
  obtain ⟨g0, g1, g2, g3⟩ := rcs_get hg
  refine ⟨b, off, (l[i]'(by omega)).1, (l[i]'(by omega)).2.1, (l[i]'(by omega)).2.2.1, (l[i]'(by omega)).2.2.2, e, hb, ?_, ?_, ?_, ?_, Lib.hid hg⟩
  · rw [hc (i * 4) (by omega), g0]
  · rw [Nat.add_assoc, hc (i * 4 + 1) (by omega), g1]
  · rw [Nat.add_assoc, hc (i * 4 + 2) (by omega), g2]
  · rw [Nat.add_assoc, hc (i * 4 + 3) (by omega), g3]
theorem rcLen {w : World} {B n : Nat} {A : Option Addr} {l : List Rcd} (h : Rd w B 4 A n (rcs l)) : l.length = n := by have := h.1; rw [rcs_len] at this; omega
theorem relR : El Try.prog 89 95 (.agg #[.int .i64 0, .int .i64 0, .int .i64 0, .string ByteArray.empty]) 4 40 := ⟨Try.underlying89, by kernel_rfl, rfl, by omega, by omega⟩
/-- A row of the document's records, of one's own. -/
def RO (w : World) (B : Nat) (v : Value) (l : List Rcd) : Prop := w.ownsRow B 95 4 v l.length (rcs l)
theorem RO.nil (w : World) (B : Nat) : RO w B (.slice none 0 0) [] := World.ownsRow_nil w B _ _
theorem RO.out {w : World} {B : Nat} {v : Value} {l : List Rcd} (h : RO w B v l) : ∃ (A : Option Addr) (n c : Nat), v = .slice A n c ∧ n ≤ c ∧ Hid (l.length = n) ∧ Hid (Rd w w.heap.size 4 A n (rcs l)) := by
  obtain ⟨A, c, e, h1, _, h2⟩ := own_form h
  exact ⟨A, l.length, c, e, h1, rfl, h2⟩
theorem RO.below {w w' : World} {B : Nat} {v : Value} {l : List Rcd} (h : RO w B v l) (hb : Below w.heap.size w w') : RO w' B v l := own_below h hb fun g hg => (h.lt g hg).2
theorem rsay_take (l : List Rb) (k : Nat) : rsay (l.take k) = (rsay l).take k := by simp [rsay, List.map_take]
set_option maxRecDepth 20000 in
set_option maxHeartbeats 4000000 in
theorem cplain_any (A : Option Addr) (n c : Nat) (l : List Rb) (w : World) (h : Rs w A n c l) (hn : n ≤ 100000) :
    Calls Try.prog 45 #[.slice A n c] w fun e w' => ∃ v, e = .returned v ∧ RO w' w.heap.size v (rsay l) ∧ Below w.heap.size w w' := by
  have HO := Lib.hid h
  have HL := Lib.hid h.len
  clear h
  go_enter Try.func45, Try.ntmps45
  go_wp2_with fail
  go_loopw [3, 4] (fun ov iv wr => ∃ k : Nat, k ≤ n ∧ iv = .int .i64 k ∧ Hid (RO wr w.heap.size ov ((rsay l).take k)) ∧ Below w.heap.size w wr) (fun _ iv _ => n - (intOf iv).toNat)
  case atStart => exact ⟨0, Nat.zero_le _, rfl, Lib.hid (RO.nil w _), Below.refl _ _⟩
  case round =>
    obtain ⟨k, hk, rfl, hO, hbw⟩ := hrel
    by_cases hlt : k < n
    · have hlt' : (k : Int) < (n : Int) := by omega
      obtain ⟨b, off, t, s, p, q, rfl, hbb, p0, p1, p2, p3, hp, hq, hql, hbs⟩ := (HO.out.into hbw).at_ hlt
      obtain ⟨qA, qn, qc, ql⟩ := q
      dsimp only at *
      obtain ⟨vA, vn, vc, rfl, _, hvl, _⟩ := hO.out.out
      have hnk : vn = k := by have := hvl.out; rw [List.length_take, rsay_len, HL.out] at this; omega
      subst hnk
      go_wp2_with fail
      refine wp_ord [(0, .pure), (1, .pure), (2, .pure), (3, .pure), (4, .pure), (5, .read), (6, .pure), (7, .pure), (8, .pure), (9, .pure), (10, .read), (11, .pure), (12, .pure), (13, .pure), (14, .pure), (15, .read), (16, .pure), (17, .pure), (18, .pure), (19, .pure), (20, .read), (21, .read), (22, .pure), (23, .sole), (24, .sole), (25, .pure)] [24] (by kernel_rfl) (by kernel_rfl) (fun QQ hQ wd hwd => ?_); simp only [List.map_cons, List.map_nil, List.getD_cons_zero, List.getD_cons_succ]
      have y0 : wd.cell? ⟨b, off + vn * 4, none⟩ = some (.int .i64 t) := by rw [hwd.out]; exact p0
      have y1 : wd.cell? ⟨b, off + vn * 4 + 1, none⟩ = some (.int .i64 s) := by rw [hwd.out]; exact p1
      have y2 : wd.cell? ⟨b, off + vn * 4 + 2, none⟩ = some (.int .i64 p) := by rw [hwd.out]; exact p2
      have y3 : wd.cell? ⟨b, off + vn * 4 + 3, none⟩ = some (.slice qA qn qc) := by rw [hwd.out]; exact p3
      have hD : Below wr.heap.size wr wd := by rw [hwd.out]; exact (Below.refl _ _).drew
      have OD := Lib.hid (hO.out.below hD)
      have BD := Lib.hid (hbw.trans (hD.mono hbw.size))
      have QD := Lib.hid (hq.out.into hD)
      have HP := Lib.hid (rsay_at hp)
      clear p0 p1 p2 p3 hD hwd hO hbw hq hp hbs hvl
      (refine o_pure (v := ?_) (by rfl) (fun w' => ?_) ?_; rotate_left; (focus (go_simp; (try with_reducible rfl))); (try simp only [Act.put, List.setIfInBounds_toArray, List.set_cons_zero, List.set_cons_succ]))
      (refine o_pure (v := ?_) (by rfl) (fun w' => ?_) ?_; rotate_left; (focus (go_simp; (try with_reducible rfl))); (try simp only [Act.put, List.setIfInBounds_toArray, List.set_cons_zero, List.set_cons_succ]))
      (refine o_pure (v := ?_) (by rfl) (fun w' => ?_) ?_; rotate_left; (focus (go_simp; (try with_reducible rfl))); (try simp only [Act.put, List.setIfInBounds_toArray, List.set_cons_zero, List.set_cons_succ]))
      (refine o_pure (v := ?_) (by rfl) (fun w' => ?_) ?_; rotate_left; (focus (go_simp; (try with_reducible rfl))); (try simp only [Act.put, List.setIfInBounds_toArray, List.set_cons_zero, List.set_cons_succ]))
      (refine o_pure (v := ?_) (by rfl) (fun w' => ?_) ?_; rotate_left; (focus (go_simp; (try with_reducible rfl))); (try simp only [Act.put, List.setIfInBounds_toArray, List.set_cons_zero, List.set_cons_succ]))
      (refine o_load _ (by rfl) rfl rfl (by assumption) (by kernel_rfl) ?_; simp only [Act.put, List.setIfInBounds_toArray, List.set_cons_zero, List.set_cons_succ])
      (refine o_pure (v := ?_) (by rfl) (fun w' => ?_) ?_; rotate_left; (focus (go_simp; (try with_reducible rfl))); (try simp only [Act.put, List.setIfInBounds_toArray, List.set_cons_zero, List.set_cons_succ]))
      (refine o_pure (v := ?_) (by rfl) (fun w' => ?_) ?_; rotate_left; (focus (go_simp; (try with_reducible rfl))); (try simp only [Act.put, List.setIfInBounds_toArray, List.set_cons_zero, List.set_cons_succ]))
      (refine o_pure (v := ?_) (by rfl) (fun w' => ?_) ?_; rotate_left; (focus (go_simp; (try with_reducible rfl))); (try simp only [Act.put, List.setIfInBounds_toArray, List.set_cons_zero, List.set_cons_succ]))
      (refine o_pure (v := ?_) (by rfl) (fun w' => ?_) ?_; rotate_left; (focus (go_simp; (try with_reducible rfl))); (try simp only [Act.put, List.setIfInBounds_toArray, List.set_cons_zero, List.set_cons_succ]))
      (refine o_load _ (by rfl) rfl rfl (by assumption) (by kernel_rfl) ?_; simp only [Act.put, List.setIfInBounds_toArray, List.set_cons_zero, List.set_cons_succ])
      (refine o_pure (v := ?_) (by rfl) (fun w' => ?_) ?_; rotate_left; (focus (go_simp; (try with_reducible rfl))); (try simp only [Act.put, List.setIfInBounds_toArray, List.set_cons_zero, List.set_cons_succ]))
      (refine o_pure (v := ?_) (by rfl) (fun w' => ?_) ?_; rotate_left; (focus (go_simp; (try with_reducible rfl))); (try simp only [Act.put, List.setIfInBounds_toArray, List.set_cons_zero, List.set_cons_succ]))
      (refine o_pure (v := ?_) (by rfl) (fun w' => ?_) ?_; rotate_left; (focus (go_simp; (try with_reducible rfl))); (try simp only [Act.put, List.setIfInBounds_toArray, List.set_cons_zero, List.set_cons_succ]))
      (refine o_pure (v := ?_) (by rfl) (fun w' => ?_) ?_; rotate_left; (focus (go_simp; (try with_reducible rfl))); (try simp only [Act.put, List.setIfInBounds_toArray, List.set_cons_zero, List.set_cons_succ]))
      (refine o_load _ (by rfl) rfl rfl (by assumption) (by kernel_rfl) ?_; simp only [Act.put, List.setIfInBounds_toArray, List.set_cons_zero, List.set_cons_succ])
      (refine o_pure (v := ?_) (by rfl) (fun w' => ?_) ?_; rotate_left; (focus (go_simp; (try with_reducible rfl))); (try simp only [Act.put, List.setIfInBounds_toArray, List.set_cons_zero, List.set_cons_succ]))
      (refine o_pure (v := ?_) (by rfl) (fun w' => ?_) ?_; rotate_left; (focus (go_simp; (try with_reducible rfl))); (try simp only [Act.put, List.setIfInBounds_toArray, List.set_cons_zero, List.set_cons_succ]))
      (refine o_pure (v := ?_) (by rfl) (fun w' => ?_) ?_; rotate_left; (focus (go_simp; (try with_reducible rfl))); (try simp only [Act.put, List.setIfInBounds_toArray, List.set_cons_zero, List.set_cons_succ]))
      (refine o_pure (v := ?_) (by rfl) (fun w' => ?_) ?_; rotate_left; (focus (go_simp; (try with_reducible rfl))); (try simp only [Act.put, List.setIfInBounds_toArray, List.set_cons_zero, List.set_cons_succ]))
      (refine o_load _ (by rfl) rfl rfl (by assumption) (by kernel_rfl) ?_; simp only [Act.put, List.setIfInBounds_toArray, List.set_cons_zero, List.set_cons_succ])
      (refine o_conv Try.underlying51 Try.underlying5 Try.underlying9 _ (by rfl) rfl rfl (QD.out) ?_; simp only [Act.put, List.setIfInBounds_toArray, List.set_cons_zero, List.set_cons_succ])
      (refine o_pure (v := ?_) (by rfl) (fun w' => ?_) ?_; rotate_left; (focus (go_simp; (try with_reducible rfl))); (try simp only [Act.put, List.setIfInBounds_toArray, List.set_cons_zero, List.set_cons_succ]))
      clear y0 y1 y2 y3
      refine o_sole (fun K hK => ?_)
      go_wp2_with fail
      refine hK _ _ (fun _ => Ext.of ((Below.refl _ _).alloc (Nat.le_refl _) _)) ?_; clear hK K
      refine o_sole (fun K hK => ?_)
      have hsk : ((rsay l).take vn).length = vn := by rw [List.length_take, rsay_len, HL.out]; omega
      refine appZ relR #[.int .i64 t, .int .i64 s, .int .i64 p, .string (strN ql)] rfl (rcs_one [(t, s, p, ql)]) rfl (.tmp 11) (.tmp 34) rfl rfl (show wd.ownsRow w.heap.size 95 4 (.slice vA vn vc) vn (rcs ((rsay l).take vn)) from by have h := OD.out; unfold RO at h; rwa [hsk] at h) rfl rfl (room_ge (by omega)) BD.out.size ?_
      intro v24 w24 ho24 _ hb24
      have O24 := Lib.hid (show RO w24 w.heap.size v24 ((rsay l).take (vn + 1)) from by
        unfold RO
        rw [nth_take (Lib.hid HP.out), List.length_append, hsk, rcs_append]
        exact ho24)
      have B24 := Lib.hid (BD.out.trans hb24)
      obtain ⟨A24, n24, c24, rfl, _, _, _⟩ := O24.out.out
      refine wpList_nil ?_
      refine hK _ _ (fun h => by cases h) ?_; clear hK K
      clear ho24 hb24 OD BD QD
      (refine o_pure (v := ?_) (by rfl) (fun w' => ?_) ?_; rotate_left; (focus (go_simp; (try with_reducible rfl))); (try simp only [Act.put, List.setIfInBounds_toArray, List.set_cons_zero, List.set_cons_succ]))
      refine o_nil (hQ.out _ _ ?_); clear hQ QQ
      go_wp2_with fail
      go_roundw
      case rel => exact ⟨vn + 1, by omega, by go_num, O24, B24.out⟩
      case measure => simp [intOf]; omega
    · have hge : ¬ (k : Int) < (n : Int) := by omega
      have hall : (rsay l).take k = rsay l := List.take_of_length_le (by rw [rsay_len, HL.out]; omega)
      have h1 := hO.out
      rw [hall] at h1
      have H1 := Lib.hid h1
      clear h1 hall hO
      go_wp2_with fail
      go_ret
      exact ⟨_, rfl, H1.out, hbw⟩
end Go.Proofs.Ytcgcglngjfijnaa
