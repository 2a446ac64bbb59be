/- Layer 7: the first option of a kind, ours and the document's; the document's Take. -/
import Derived.Test.YtiabafnfiedlcaaSg5
import Derived.Test.YtiabafnfiedlcaaSg7
import Derived.Test.YtiabafnfiedlcaaSg9
namespace Go.Proofs.Ytiabafnfiedlcaa
open Go.RowKit
set_option linter.unusedVariables false
def firstS (l : List Opn) (k : Nat) : Nat × List Nat × Bool := match l.find? (fun p => p.1 == k) with
  | some p => (p.1, p.2, true)
  | none => (0, [], false)
theorem firstS_none {l : List Opn} {k : Nat} (h : ∀ p ∈ l, p.1 ≠ k) : firstS l k = (0, [], false) := by
  unfold firstS
  rw [List.find?_eq_none.2 (fun p hp => by simp [h p hp])]
theorem firstS_at {l : List Opn} {i k : Nat} {b : List Nat} (h : l[i]? = some (k, b)) (hb : ∀ p ∈ l.take i, p.1 ≠ k) : firstS l k = (k, b, true) := by
  unfold firstS
  have e : l = l.take i ++ (k, b) :: l.drop (i + 1) := by
    have h2 := nth_take (Lib.hid h)
    conv => lhs; rw [← List.take_append_drop (i + 1) l, h2]
    simp
  rw [e, List.find?_append, List.find?_eq_none.2 (fun p hp => by simp [hb p hp])]
  simp
/-- What First answers. -/
def FirPost (l : List Opn) (k : Nat) (w' : World) (e : Ending) : Prop := ∃ (kd : Nat) (A : Option Addr) (n c : Nat) (b : List Nat) (is : Bool), e = .returned (.tuple #[.agg #[.int .u8 (kd : Int), .slice A n c], .bool is]) ∧ Rd w' w'.heap.size 1 A n (ns .u8 b) ∧ firstS l k = (kd, b, is)
section
variable {w w0 : World} {T B : Nat} {b0 b1 : Value} (a0 a1 : Value)
def put2 (w : World) (T : Nat) (a0 a1 : Value) : World := (w.setCell ⟨T, 0, none⟩ a0).setCell ⟨T, 1, none⟩ a1
theorem seg2 {t : TypeId} (h : Blk w T t #[b0, b1]) : Blk (put2 w T a0 a1) T t #[a0, a1] := by
  have h1 : Blk (w.setCell ⟨T, 0, none⟩ a0) T t #[a0, b1] := h.set 0 a0
  have h2 : Blk ((w.setCell ⟨T, 0, none⟩ a0).setCell ⟨T, 1, none⟩ a1) T t #[a0, a1] := h1.set 1 a1
  exact h2
theorem bel2 (h : Below B w0 w) (hT : B ≤ T) : Below B w0 (put2 w T a0 a1) := (h.setCell (p := ⟨T, 0, none⟩) hT a0).setCell (p := ⟨T, 1, none⟩) hT a1
theorem blk2 {t : TypeId} (h : Blk w T t #[a0, a1]) : w.cell? ⟨T, 0, none⟩ = some a0 ∧ w.cell? ⟨T, 1, none⟩ = some a1 := by
  refine ⟨?_, ?_⟩ <;> (rw [h.cell]; rfl)
end
set_option maxRecDepth 20000 in
set_option maxHeartbeats 1000000 in
theorem rtake_any (v : Value) (g : Sg) (w : World) (h : SegV w v g) (hs : g.small) (hg : g.flags < 256) :
    Calls Try.prog 45 #[v] w fun e w' => e = .returned (.int .u32 (takeS g : Int)) ∧ Below w.heap.size w w' := by
  obtain ⟨A, n, c, D, m, d, l, rfl, hO, ho, hD, hmd, hdm⟩ := h
  have HSB := Lib.hid (SBox.mk' (d := d) hO ho hD)
  have hdl := HSB.out.dlen
  have hmb : m ≤ 10000 := by have := hs.data; omega
  obtain ⟨_, _, _, _, t4, _, t6⟩ := seg_cells HSB.out.blk
  have wm : IntKind.u32.wrap (m : Int) = (m : Int) := by rw [IntKind.wrap_u32]; omega
  obtain ⟨r, hr⟩ : ∃ r, r = g.flags % 2 := ⟨_, rfl⟩
  have e2 : (g.flags : Int).tmod 2 = (r : Int) := by rw [hr, Int.tmod_eq_emod_of_nonneg (by omega)]; omega
  have w1 : IntKind.u8.wrap (r : Int) = (r : Int) := by rw [IntKind.wrap_u8]; omega
  have w2 : IntKind.u32.wrap (r : Int) = (r : Int) := by rw [IntKind.wrap_u32]; omega
  obtain ⟨s, hs2⟩ : ∃ s, s = m + r := ⟨_, rfl⟩
  have es : (m : Int) + (r : Int) = (s : Int) := by omega
  have w3 : IntKind.u32.wrap ((m : Int) + (r : Int)) = (s : Int) := by rw [es, IntKind.wrap_u32]; omega
  have HT := Lib.hid (show takeS g = s by unfold takeS; rw [hdl, hs2, hr])
  clear hO ho hD hmd hdm hs hdl hr hs2 es
  unfold segCs at *
  go_enter Try.func45, Try.ntmps45
  go_wp2_with fail
  go_ret
  exact ⟨ret_int (by rw [HT.out]), HSB.out.bel⟩
set_option maxRecDepth 20000 in
set_option maxHeartbeats 4000000 in
theorem rfirst_any (v : Value) (g : Sg) (kd : Nat) (w : World) (h : SegV w v g) (hs : g.small) :
    Calls Try.prog 42 #[v, .int .u8 (kd : Int)] w fun e w' => FirPost g.opts kd w' e ∧ Below w.heap.size w w' := by
  obtain ⟨A, n, c, D, m, d, l, rfl, hO, ho, hD, hmd, hdm⟩ := h
  have hb0 : Below w.heap.size w ((w.alloc (.cells (segCs g A n c D m d) 56)).alloc (.cells #[.int .u8 0, .slice none 0 0] 74)) := ((Below.refl _ _).alloc (Nat.le_refl _) _).alloc (by simp) _
  have hk1 := (Blk.new w 56 (segCs g A n c D m d)).alloc (.cells #[.int .u8 0, .slice none 0 0] 74)
  have hk2 := Blk.new (w.alloc (.cells (segCs g A n c D m d) 56)) 74 #[.int .u8 0, .slice none 0 0]
  rw [show (w.alloc (.cells (segCs g A n c D m d) 56)).heap.size = w.heap.size + 1 by simp] at hk2
  have HBN := Lib.hid (show ∀ p ∈ osay l, p.2.length ≤ 10000 from by rw [← ho]; exact hs.bodies)
  have hn : n ≤ 10000 := by have h1 := hs.opts; rw [ho] at h1; unfold osay at h1; rw [List.length_map, hO.len] at h1; exact h1
  have HL := Lib.hid hO.len
  rw [ho]
  have HO := Lib.hid hO
  have HB0 := Lib.hid hb0
  have K1 := Lib.hid hk1
  have K2 := Lib.hid hk2
  obtain ⟨_, _, _, _, _, s5, _⟩ := seg_cells hk1
  clear hO ho hD hmd hdm hs hb0 hk1 hk2
  unfold segCs at *
  go_enter Try.func42, Try.ntmps42
  go_wp2_with fail
  generalize (w.alloc (.cells #[.int .u16 (g.src : Int), .int .u16 (g.dst : Int), .int .u32 (g.seq : Int), .int .u32 (g.ack : Int), .int .u8 (g.flags : Int), .slice A n c, .slice D m d] 56)).alloc (.cells #[.int .u8 0, .slice none 0 0] 74) = W at *
  obtain ⟨T, hT⟩ : ∃ T, T = w.heap.size := ⟨_, rfl⟩
  rw [← hT] at K1 K2 s5 ⊢
  have HT := Lib.hid hT
  clear hT
  go_loopw [6] (fun iv wr => ∃ k : Nat, k ≤ n ∧ iv = .int .i64 k ∧ Hid (wr = W) ∧ Hid (∀ p ∈ (osay l).take k, p.1 ≠ kd)) (fun iv _ => n - (intOf iv).toNat)
  case atStart => exact ⟨0, Nat.zero_le _, rfl, Lib.hid rfl, Lib.hid (by simp)⟩
  case round =>
    obtain ⟨k, hk, rfl, hw, hno⟩ := hrel
    have hw := hw.out
    subst hw
    obtain ⟨t0, t1⟩ := blk2 _ _ K2.out
    have f0 := K2.out.frozen 0
    have f1 := K2.out.frozen 1
    by_cases hlt : k < n
    · have hlt' : (k : Int) < (n : Int) := by omega
      obtain ⟨b, off, kq, q, rfl, hbb, p0, p1, hp, hq, hql⟩ := HO.out.at_ hlt
      have P0 := (HB0.out.cell (p := ⟨b, off + k * 2, none⟩) hbb).trans p0
      have P1 := (HB0.out.cell (p := ⟨b, off + k * 2 + 1, none⟩) hbb).trans p1
      obtain ⟨qA, qn, qc, ql⟩ := q
      dsimp only at *
      have HP := Lib.hid (osay_at hp)
      clear p0 p1 hp
      by_cases he : kq = kd
      · subst he
        have HF := Lib.hid (firstS_at HP.out hno.out)
        clear hql hno
        go_wp2_with fail
        have hkz := seg2 (.int .u8 (kq : Int)) (.slice qA qn qc) K2.out
        have hbz := bel2 (.int .u8 (kq : Int)) (.slice qA qn qc) HB0.out (show w.heap.size ≤ T + 1 by rw [HT.out]; omega)
        unfold put2 at hkz hbz
        generalize (wr.setCell ⟨T + 1, 0, none⟩ (.int .u8 (kq : Int))).setCell ⟨T + 1, 1, none⟩ (.slice qA qn qc) = wz at *
        clear t0 t1 f0 f1
        obtain ⟨z0, z1⟩ := blk2 _ _ hkz
        exact bodyPost_ret (v := .tuple #[.agg #[.int .u8 (kq : Int), .slice qA qn qc], .bool true]) (by simp [results, Try.results42, go_sem, z0, z1]) rfl ⟨⟨kq, qA, qn, qc, ql, true, rfl, hq.out.into hbz, HF.out⟩, hbz⟩
      · have he' : ((kq : Int) == (kd : Int)) = false := beq_eq_false_iff_ne.2 (by omega)
        have he2 : (kq == kd) = false := beq_eq_false_iff_ne.2 he
        have HNO : Hid (∀ p ∈ (osay l).take (k + 1), p.1 ≠ kd) := Lib.hid (by
          rw [nth_take (Lib.hid HP.out)]
          intro p hp
          rcases List.mem_append.1 hp with hp | hp
          · exact hno.out p hp
          · simp at hp; subst hp; exact he)
        clear hq hql hno t0 t1 f0 f1
        go_wp2_with fail
        go_roundw
        case rel => exact ⟨k + 1, by omega, by go_num, Lib.hid (by first | trivial | rfl), HNO⟩
        case measure => simp [intOf]; omega
    · have hge : ¬ (k : Int) < (n : Int) := by omega
      have hall : (osay l).take k = osay l := List.take_of_length_le (by unfold osay; rw [List.length_map, HL.out]; omega)
      have h2 := hno.out
      rw [hall] at h2
      have HF := Lib.hid (firstS_none h2)
      clear hall h2 hno
      go_wp2_with fail
      have hkz := seg2 (.int .u8 0) (.slice none 0 0) K2.out
      have hbz := bel2 (.int .u8 0) (.slice none 0 0) HB0.out (show w.heap.size ≤ T + 1 by rw [HT.out]; omega)
      unfold put2 at hkz hbz
      generalize (wr.setCell ⟨T + 1, 0, none⟩ (.int .u8 0)).setCell ⟨T + 1, 1, none⟩ (.slice none 0 0) = wz at *
      clear t0 t1 f0 f1
      obtain ⟨z0, z1⟩ := blk2 _ _ hkz
      exact bodyPost_ret (v := .tuple #[.agg #[.int .u8 0, .slice none 0 0], .bool false]) (by simp [results, Try.results42, go_sem, z0, z1]) rfl ⟨⟨0, none, 0, 0, [], false, rfl, Rd.nil _ _ _ _, HF.out⟩, hbz⟩
set_option maxRecDepth 20000 in
set_option maxHeartbeats 4000000 in
theorem first_any (v : Value) (g : Sg) (kd : Nat) (w : World) (h : SegV w v g) (hs : g.small) :
    Calls Try.prog 41 #[v, .int .u8 (kd : Int)] w fun e w' => FirPost g.opts kd w' e ∧ Below w.heap.size w w' := by
  obtain ⟨A, n, c, D, m, d, l, rfl, hO, ho, hD, hmd, hdm⟩ := h
  have hb0 : Below w.heap.size w ((w.alloc (.cells (segCs g A n c D m d) 56)).alloc (.cells #[.int .u8 0, .slice none 0 0] 74)) := ((Below.refl _ _).alloc (Nat.le_refl _) _).alloc (by simp) _
  have hk1 := (Blk.new w 56 (segCs g A n c D m d)).alloc (.cells #[.int .u8 0, .slice none 0 0] 74)
  have hk2 := Blk.new (w.alloc (.cells (segCs g A n c D m d) 56)) 74 #[.int .u8 0, .slice none 0 0]
  rw [show (w.alloc (.cells (segCs g A n c D m d) 56)).heap.size = w.heap.size + 1 by simp] at hk2
  have HBN := Lib.hid (show ∀ p ∈ osay l, p.2.length ≤ 10000 from by rw [← ho]; exact hs.bodies)
  have hn : n ≤ 10000 := by have h1 := hs.opts; rw [ho] at h1; unfold osay at h1; rw [List.length_map, hO.len] at h1; exact h1
  have HL := Lib.hid hO.len
  rw [ho]
  have HO := Lib.hid hO
  have HB0 := Lib.hid hb0
  have K1 := Lib.hid hk1
  have K2 := Lib.hid hk2
  obtain ⟨_, _, _, _, _, s5, _⟩ := seg_cells hk1
  clear hO ho hD hmd hdm hs hb0 hk1 hk2
  unfold segCs at *
  go_enter Try.func41, Try.ntmps41
  go_wp2_with fail
  generalize (w.alloc (.cells #[.int .u16 (g.src : Int), .int .u16 (g.dst : Int), .int .u32 (g.seq : Int), .int .u32 (g.ack : Int), .int .u8 (g.flags : Int), .slice A n c, .slice D m d] 56)).alloc (.cells #[.int .u8 0, .slice none 0 0] 74) = W at *
  obtain ⟨T, hT⟩ : ∃ T, T = w.heap.size := ⟨_, rfl⟩
  rw [← hT] at K1 K2 s5 ⊢
  have HT := Lib.hid hT
  clear hT
  go_loopw [11] (fun iv wr => ∃ k : Nat, k ≤ n ∧ iv = .int .i64 k ∧ Hid (Blk wr (T + 1) 74 #[.int .u8 0, .slice none 0 0]) ∧ Below w.heap.size w wr ∧ Hid (∀ p ∈ (osay l).take k, p.1 ≠ kd)) (fun iv _ => n - (intOf iv).toNat)
  case atStart => exact ⟨0, Nat.zero_le _, rfl, K2, HB0.out, Lib.hid (by simp)⟩
  case round =>
    clear K2 K1 s5
    obtain ⟨k, hk, rfl, K2, hbw, hno⟩ := hrel
    by_cases hlt : k < n
    · have hlt' : (k : Int) < (n : Int) := by omega
      obtain ⟨b, off, kq, q, rfl, hbb, p0, p1, hp, hq, hql⟩ := HO.out.at_ hlt
      have P0 := (hbw.cell (p := ⟨b, off + k * 2, none⟩) hbb).trans p0
      have P1 := (hbw.cell (p := ⟨b, off + k * 2 + 1, none⟩) hbb).trans p1
      obtain ⟨qA, qn, qc, ql⟩ := q
      dsimp only at *
      have HP := Lib.hid (osay_at hp)
      have hq1 : qn ≤ 10000 := by have := HBN.out _ (List.mem_of_getElem? HP.out); rw [← hql.out]; exact this
      clear p0 p1 hp
      by_cases he : kq = kd
      · subst he
        have HF := Lib.hid (firstS_at HP.out hno.out)
        clear hno
        go_wp2_with fail
        have hb2 : Below w.heap.size w (wr.alloc (.cells #[.int .u8 (kq : Int), .slice qA qn qc] 74)) := hbw.alloc hbw.size _
        have K3 := Lib.hid (K2.out.alloc (.cells #[.int .u8 (kq : Int), .slice qA qn qc] 74))
        have HB2 := Lib.hid hb2
        clear hb2 K2
        generalize wr.alloc (.cells #[.int .u8 (kq : Int), .slice qA qn qc] 74) = w2 at *
        refine (clone_any qA qn qc ql w2 (hq.out.into HB2.out) (by omega)).mono ?_
        rintro e w3 ⟨v3, rfl, hN, hb3⟩
        have K4 := Lib.hid (K3.out.below hb3 K3.out.lt)
        have HB3 := Lib.hid (HB2.out.trans (hb3.mono HB2.out.size))
        obtain ⟨A3, c3, rfl, _, _, hr3⟩ := own_form (show w3.ownsRow w2.heap.size 5 1 v3 _ _ from hN)
        have HB3' := Lib.hid hb3
        have HR3 := Lib.hid hr3
        have HN3 := Lib.hid hN
        have HFAR : Hid (∀ b o, A3 = some ⟨b, o, none⟩ → T + 1 < b) := Lib.hid (fun b o e => by
          have h1 := K3.out.lt
          rcases hN.2 with ⟨hv, _⟩ | ⟨g3, cap, cur, hv, hg3, _⟩
          · rw [e] at hv; injection hv with hv; cases hv
          · rw [e] at hv; injection hv with hv; injection hv with hv; injection hv with hv; subst hv; omega)
        clear hb3 hN hr3
        obtain ⟨n3, hn3⟩ : ∃ n3, n3 = ql.length := ⟨_, rfl⟩
        rw [← hn3] at HR3 ⊢
        have HN3' := Lib.hid hn3
        clear hn3
        obtain ⟨t0, t1⟩ := blk2 _ _ K4.out
        have f0 := K4.out.frozen 0
        have f1 := K4.out.frozen 1
        go_wp2_with fail
        have hkz := seg2 (.int .u8 (kq : Int)) (.slice A3 n3 c3) K4.out
        have hbz := bel2 (.int .u8 (kq : Int)) (.slice A3 n3 c3) HB3.out (show w.heap.size ≤ T + 1 by rw [HT.out]; omega)
        have hsz : Solo (T + 1) w3 (put2 w3 (T + 1) (.int .u8 (kq : Int)) (.slice A3 n3 c3)) := (Solo.refl.setCell 0 _).setCell 1 _
        have HRZ := Lib.hid (HR3.out.solo hsz (HFAR.out))
        unfold put2 at hkz hbz HRZ
        generalize (w3.setCell ⟨T + 1, 0, none⟩ (.int .u8 (kq : Int))).setCell ⟨T + 1, 1, none⟩ (.slice A3 n3 c3) = wz at *
        clear t0 t1 f0 f1
        obtain ⟨z0, z1⟩ := blk2 _ _ hkz
        exact bodyPost_ret (v := .tuple #[.agg #[.int .u8 (kq : Int), .slice A3 n3 c3], .bool true]) (by simp [results, Try.results41, go_sem, z0, z1]) rfl ⟨⟨kq, A3, n3, c3, ql, true, rfl, HRZ.out, HF.out⟩, hbz⟩
      · have he' : ((kq : Int) == (kd : Int)) = false := beq_eq_false_iff_ne.2 (by omega)
        have he2 : (kq == kd) = false := beq_eq_false_iff_ne.2 he
        have HNO : Hid (∀ p ∈ (osay l).take (k + 1), p.1 ≠ kd) := Lib.hid (by
          rw [nth_take (Lib.hid HP.out)]
          intro p hp
          rcases List.mem_append.1 hp with hp | hp
          · exact hno.out p hp
          · simp at hp; subst hp; exact he)
        clear hq hql hno
        go_wp2_with fail
        go_roundw
        case rel => exact ⟨k + 1, by omega, by go_num, Lib.hid (K2.out.alloc _), hbw.alloc hbw.size _, HNO⟩
        case measure => simp [intOf]; omega
    · have hge : ¬ (k : Int) < (n : Int) := by omega
      have hall : (osay l).take k = osay l := List.take_of_length_le (by unfold osay; rw [List.length_map, HL.out]; omega)
      have h2 := hno.out
      rw [hall] at h2
      have HF := Lib.hid (firstS_none h2)
      clear hall h2 hno
      obtain ⟨t0, t1⟩ := blk2 _ _ K2.out
      have f0 := K2.out.frozen 0
      have f1 := K2.out.frozen 1
      go_wp2_with fail
      have hkz := seg2 (.int .u8 0) (.slice none 0 0) K2.out
      have hbz := bel2 (.int .u8 0) (.slice none 0 0) hbw (show w.heap.size ≤ T + 1 by rw [HT.out]; omega)
      unfold put2 at hkz hbz
      generalize (wr.setCell ⟨T + 1, 0, none⟩ (.int .u8 0)).setCell ⟨T + 1, 1, none⟩ (.slice none 0 0) = wz at *
      clear t0 t1 f0 f1
      obtain ⟨z0, z1⟩ := blk2 _ _ hkz
      exact bodyPost_ret (v := .tuple #[.agg #[.int .u8 0, .slice none 0 0], .bool false]) (by simp [results, Try.results41, go_sem, z0, z1]) rfl ⟨⟨0, none, 0, 0, [], false, rfl, Rd.nil _ _ _ _, HF.out⟩, hbz⟩
end Go.Proofs.Ytiabafnfiedlcaa
