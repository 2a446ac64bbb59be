/- Layer 6: the law SpansFill answers true, and nothing that was there has turned. -/
import Derived.Test.YtiabafnfiedlcaaSpa
import Derived.Test.YtiabafnfiedlcaaSpm4
namespace Go.Proofs.Ytiabafnfiedlcaa
open Go.RowKit
set_option linter.unusedVariables false
/-- Calls as cells. -/
def ocel (l : List (Int × Nat × Nat)) : List Value := l.flatMap fun p => [.int .i64 p.1, .int .u64 (p.2.1 : Int), .int .u64 (p.2.2 : Int)]
theorem ocel_cons (p : Int × Nat × Nat) (l : List (Int × Nat × Nat)) : ocel (p :: l) = .int .i64 p.1 :: .int .u64 (p.2.1 : Int) :: .int .u64 (p.2.2 : Int) :: ocel l := rfl
theorem ocel_len (l : List (Int × Nat × Nat)) : (ocel l).length = l.length * 3 := by
  induction l with
  | nil => rfl
  | cons p l ih => rw [ocel_cons]; simp only [List.length_cons, ih]; omega
theorem ocel_get {l : List (Int × Nat × Nat)} {i : Nat} {p : Int × Nat × Nat} (h : l[i]? = some p) : (ocel l)[i * 3]? = some (.int .i64 p.1) ∧ (ocel l)[i * 3 + 1]? = some (.int .u64 (p.2.1 : Int)) ∧ (ocel l)[i * 3 + 2]? = some (.int .u64 (p.2.2 : Int)) := by
  induction l generalizing i with
  | nil => simp at h
  | cons q l ih =>
    cases i with
    | zero => simp at h; subst h; exact ⟨rfl, rfl, rfl⟩
    | succ i =>
      have := ih (i := i) (by simpa using h)
      rw [show (i + 1) * 3 = i * 3 + 1 + 1 + 1 by omega, ocel_cons, show i * 3 + 1 + 1 + 1 + 2 = i * 3 + 2 + 1 + 1 + 1 by omega]
      simp only [List.getElem?_cons_succ]
      exact this
theorem Rd.oc {w : World} {B n : Nat} {A : Option Addr} {l : List (Int × Nat × Nat)} (h : Rd w B 3 A n (ocel l)) {i : Nat} (hi : i < n) :
    ∃ (b off : Nat) (k : Int) (x y : Nat), A = some ⟨b, off, none⟩ ∧ b < B ∧ w.cell? ⟨b, off + i * 3, none⟩ = some (.int .i64 k) ∧ w.cell? ⟨b, off + i * 3 + 1, none⟩ = some (.int .u64 (x : Int)) ∧ w.cell? ⟨b, off + i * 3 + 2, none⟩ = some (.int .u64 (y : Int)) ∧ Hid (l[i]? = some (k, x, y)) := by
  obtain ⟨b, off, e, hb, hc⟩ := h.2 (by omega)
  have hl : l.length = n := by have := h.1; rw [ocel_len] at this; omega
  have hg : l[i]? = some l[i] := by rw [List.getElem?_eq_getElem (by omega)]
  obtain ⟨g1, g2, g3⟩ := ocel_get hg
  exact ⟨b, off, _, _, _, e, hb, (hc (i * 3) (by omega)).trans g1, (Nat.add_assoc off (i * 3) 1 ▸ hc (i * 3 + 1) (by omega)).trans g2, (Nat.add_assoc off (i * 3) 2 ▸ hc (i * 3 + 2) (by omega)).trans g3, Lib.hid hg⟩
theorem Rd.ocLen {w : World} {B n : Nat} {A : Option Addr} {l : List (Int × Nat × Nat)} (h : Rd w B 3 A n (ocel l)) : l.length = n := by have := h.1; rw [ocel_len] at this; omega
/-- The pieces of the calls. -/
def osp (l : List (Int × Nat × Nat)) : List Sp := l.map fun p => (p.2.1, p.2.2)
theorem osp_take {l : List (Int × Nat × Nat)} {i x y : Nat} {k : Int} (h : Hid (l[i]? = some (k, x, y))) : osp (l.take (i + 1)) = osp (l.take i) ++ [(x, y)] := by
  unfold osp
  rw [nth_take h]
  simp
/-- Where there is room an addition is made. -/
theorem addS_room {most f t : Nat} {l : List Sp} (h : l.length < most) : addS most l f t = (if t ≤ f then l else addL l f t, true) := by
  unfold addS
  by_cases h1 : t ≤ f
  · rw [if_pos h1, if_pos h1]
  · rw [if_neg h1, if_neg h1, if_neg (by omega)]
/-- A slice's row is none of the set's. -/
def Far (A : Option Addr) (g B : Nat) (v : Value) : Prop := ∀ b off, A = some ⟨b, off, none⟩ → b ≠ g ∧ v.ownBlock ≠ some b ∧ b < B
theorem Far.next {A : Option Addr} {g B : Nat} {v v' : Value} {w : World} (h : Far A g B v) (hn : NewOr v v' w) (hB : B ≤ w.heap.size) : Far A g B v' := by
  intro b off e
  obtain ⟨h1, h2, h3⟩ := h b off e
  refine ⟨h1, fun h4 => ?_, h3⟩
  rcases hn b h4 with h5 | h5
  · exact h2 h5
  · omega
theorem cell_heap {w w' : World} {b : Nat} (h : w'.heap[b]? = w.heap[b]?) (o : Nat) : w'.cell? ⟨b, o, none⟩ = w.cell? ⟨b, o, none⟩ := by
  unfold World.cell?
  simp only [h]
theorem Rd.kept {w w' : World} {A : Option Addr} {g B n sz : Nat} {v v' : Value} {xs : List Value} (h : Rd w B sz A n xs) (hk : KeptS g v v' w w') (hf : Far A g B v) (hB : B ≤ w.heap.size) : Rd w' B sz A n xs := by
  refine ⟨h.1, fun hn => ?_⟩
  obtain ⟨b, off, e, hb, hc⟩ := h.2 hn
  obtain ⟨h1, h2, h3⟩ := hf b off e
  exact ⟨b, off, e, hb, fun j hj => (cell_heap (hk.1 b (by omega) h1 h2) _).trans (hc j hj)⟩
/-- A row that was made later. -/
theorem Far.of {w w0 : World} {A : Option Addr} {g n c m sz : Nat} {e : TypeId} {v : Value} {xs : List Value} (h : w.ownsRow w0.heap.size e sz (.slice A n c) m xs) (hg : g < w0.heap.size) (hv : ∀ k, v.ownBlock = some k → k < w0.heap.size) : Far A g w.heap.size v := by
  intro b off e
  subst e
  obtain ⟨h1, h2⟩ := h.lt b rfl
  exact ⟨by omega, fun h3 => by have := hv b h3; omega, h2⟩
set_option maxRecDepth 20000 in
set_option maxHeartbeats 8000000 in
theorem spansFill_walk (A : Option Addr) (n c : Nat) (lo : List (Int × Nat × Nat)) (f t : Nat) (w : World) (h : Rd w w.heap.size 3 A n (ocel lo)) (hnc : n ≤ c) (hmax : c ≤ maxLen) (hb : ∀ p ∈ lo, p.2.1 < pmax ∧ p.2.2 < pmax) (hf : f < pmax) (ht : t < pmax) :
    Calls Try.prog 4 #[.slice A n c, .int .u64 (f : Int), .int .u64 (t : Int)] w fun e w' => e = .returned (.bool true) ∧ Below w.heap.size w w' := by
  have HR := Lib.hid h
  have HLN := Lib.hid h.ocLen
  have HBD := Lib.hid hb
  have HF := Lib.hid hf
  have HT := Lib.hid ht
  unfold maxLen at hmax
  clear h hb hf ht
  by_cases hn : 30 < n
  · have hn' : (30 : Int) < (n : Int) := by omega
    go_enter Try.func4, Try.ntmps4
    go_wp2_with fail
    go_ret
    exact ⟨rfl, Below.refl _ _⟩
  have hn3 : n ≤ 30 := by omega
  have hn4 : (n : Int) ≤ 30 := by omega
  clear hn
  go_enter Try.func4, Try.ntmps4
  go_wp2_with fail
  refine (new_any 64 w (by omega)).mono ?_
  rintro e w1 ⟨rfl, hS1, hb1⟩
  obtain ⟨g, hg⟩ : ∃ g, g = w.heap.size := ⟨_, rfl⟩
  rw [← hg] at hS1 ⊢
  have HG := Lib.hid hg
  have HS1 := Lib.hid (show SetI w1 g g 64 (.slice none 0 0) [] from hS1)
  clear hS1 hg
  go_wp2_with fail
  go_loopw [8] (fun iv wr => ∃ (k : Nat) (v : Value), k ≤ n ∧ iv = .int .i64 k ∧ Hid (SetI wr g g 64 v (addsF [] (osp (lo.take k)))) ∧ Below w.heap.size w wr) (fun iv _ => n - (intOf iv).toNat)
  case atStart => exact ⟨0, _, Nat.zero_le _, rfl, Lib.hid (by simpa [osp, addsF] using HS1.out), hb1⟩
  case round =>
    obtain ⟨k, v, hk, rfl, hS, hbw⟩ := hrel
    clear HS1 hb1 w1
    by_cases hlt : k < n
    · have hlt' : (k : Int) < (n : Int) := by omega
      obtain ⟨b, off, kk, x, y, rfl, hbb, p0, p1, p2, hp⟩ := (HR.out.below hbw).oc hlt
      have hxy := HBD.out _ (List.mem_of_getElem? hp.out)
      have hlen := (addsF_ok (l := []) (ops := osp (lo.take k)) (b := pmax) trivial (by simp) (by
        intro q hq
        simp only [osp, List.mem_map] at hq
        obtain ⟨z, hz, rfl⟩ := hq
        exact (HBD.out z (List.mem_of_mem_take hz)).2)).2.2
      have hlen2 : (osp (lo.take k)).length ≤ 30 := by unfold osp; rw [List.length_map, List.length_take]; omega
      have hsn : addsF [] (osp (lo.take (k + 1))) = if y ≤ x then addsF [] (osp (lo.take k)) else addL (addsF [] (osp (lo.take k))) x y := by rw [osp_take hp, addsF_snoc]
      have hroom := addS_room (most := 64) (f := x) (t := y) (l := addsF [] (osp (lo.take k))) (by simp at hlen; omega)
      have HROOM := Lib.hid hroom
      have HSN := Lib.hid hsn
      have HXY := Lib.hid hxy
      clear hxy hlen hlen2 hsn hroom hp
      go_wp2_with fail
      refine wp_ord [(0, .pure), (1, .pure), (2, .pure), (3, .pure), (4, .pure), (5, .read), (6, .pure), (7, .pure), (8, .pure), (9, .pure), (10, .read), (11, .sole), (12, .pure)] [11] (by kernel_rfl) (by kernel_rfl) (fun QQ hQ wd hwd => ?_); simp only [List.map_cons, List.map_nil, List.getD_cons_zero, List.getD_cons_succ]
      have pp1 : wd.cell? ⟨b, off + k * 3 + 1, none⟩ = some (.int .u64 (x : Int)) := by rw [hwd.out]; exact p1
      have pp2 : wd.cell? ⟨b, off + k * 3 + 2, none⟩ = some (.int .u64 (y : Int)) := by rw [hwd.out]; exact p2
      have hSd : SetI wd g g 64 v (addsF [] (osp (lo.take k))) := hS.out.below (by rw [hwd.out]; exact (Below.refl _ _).drew) (Nat.le_refl _)
      have hbd : Below w.heap.size w wd := by rw [hwd.out]; exact hbw.drew
      have HSD := Lib.hid hSd
      clear hSd hS hbw p0 p1 p2 hwd
      (refine o_pure (v := ?_) (by rfl) (fun w' => ?_) ?_; rotate_left; (focus (go_simp; (try with_reducible rfl))); (try simp only [Act.put, List.setIfInBounds_toArray, List.set_cons_zero, List.set_cons_succ]))
      (refine o_pure (v := ?_) (by rfl) (fun w' => ?_) ?_; rotate_left; (focus (go_simp; (try with_reducible rfl))); (try simp only [Act.put, List.setIfInBounds_toArray, List.set_cons_zero, List.set_cons_succ]))
      (refine o_pure (v := ?_) (by rfl) (fun w' => ?_) ?_; rotate_left; (focus (go_simp; (try with_reducible rfl))); (try simp only [Act.put, List.setIfInBounds_toArray, List.set_cons_zero, List.set_cons_succ]))
      (refine o_pure (v := ?_) (by rfl) (fun w' => ?_) ?_; rotate_left; (focus (go_simp; (try with_reducible rfl))); (try simp only [Act.put, List.setIfInBounds_toArray, List.set_cons_zero, List.set_cons_succ]))
      (refine o_pure (v := ?_) (by rfl) (fun w' => ?_) ?_; rotate_left; (focus (go_simp; (try with_reducible rfl))); (try simp only [Act.put, List.setIfInBounds_toArray, List.set_cons_zero, List.set_cons_succ]))
      (refine o_load _ (by rfl) rfl rfl (by assumption) (by kernel_rfl) ?_; simp only [Act.put, List.setIfInBounds_toArray, List.set_cons_zero, List.set_cons_succ])
      (refine o_pure (v := ?_) (by rfl) (fun w' => ?_) ?_; rotate_left; (focus (go_simp; (try with_reducible rfl))); (try simp only [Act.put, List.setIfInBounds_toArray, List.set_cons_zero, List.set_cons_succ]))
      (refine o_pure (v := ?_) (by rfl) (fun w' => ?_) ?_; rotate_left; (focus (go_simp; (try with_reducible rfl))); (try simp only [Act.put, List.setIfInBounds_toArray, List.set_cons_zero, List.set_cons_succ]))
      (refine o_pure (v := ?_) (by rfl) (fun w' => ?_) ?_; rotate_left; (focus (go_simp; (try with_reducible rfl))); (try simp only [Act.put, List.setIfInBounds_toArray, List.set_cons_zero, List.set_cons_succ]))
      (refine o_pure (v := ?_) (by rfl) (fun w' => ?_) ?_; rotate_left; (focus (go_simp; (try with_reducible rfl))); (try simp only [Act.put, List.setIfInBounds_toArray, List.set_cons_zero, List.set_cons_succ]))
      (refine o_load _ (by rfl) rfl rfl (by assumption) (by kernel_rfl) ?_; simp only [Act.put, List.setIfInBounds_toArray, List.set_cons_zero, List.set_cons_succ])
      refine o_sole (fun K hK => ?_)
      go_wp2_with fail
      refine (add_any g g 64 v _ x y wd HSD.out HXY.out.1 HXY.out.2).mono ?_
      rintro e w2 ⟨rfl, ⟨v2, hS2, _⟩, hb2⟩
      have hr2 : (addS 64 (addsF [] (osp (lo.take k))) x y).2 = true := by rw [HROOM.out]
      have hr1 : (addS 64 (addsF [] (osp (lo.take k))) x y).1 = addsF [] (osp (lo.take (k + 1))) := by rw [HROOM.out, HSN.out]
      rw [hr2]
      rw [hr1] at hS2
      have HS2 := Lib.hid hS2
      have HB2 := Lib.hid (hbd.trans (by rw [← HG.out]; exact hb2))
      clear hr1 hr2 hS2 hb2 pp1 pp2
      go_wp2_with fail
      refine hK _ _ (fun h => by cases h) ?_; clear hK K
      (refine o_pure (v := ?_) (by rfl) (fun w' => ?_) ?_; rotate_left; (focus (go_simp; (try with_reducible rfl))); (try simp only [Act.put, List.setIfInBounds_toArray, List.set_cons_zero, List.set_cons_succ]))
      refine o_nil (hQ.out _ _ ?_); clear hQ QQ
      go_wp2_with fail
      go_roundw
      case rel => exact ⟨k + 1, v2, by omega, by go_num, HS2, HB2.out⟩
      case measure => simp [intOf]; omega
    · have hge : ¬ (k : Int) < (n : Int) := by omega
      have hall : lo.take k = lo := List.take_of_length_le (by rw [HLN.out]; omega)
      rw [hall] at hS
      clear hall
      obtain ⟨L, hL⟩ : ∃ L, L = addsF [] (osp lo) := ⟨_, rfl⟩
      have hlen := (addsF_ok (l := []) (ops := osp lo) (b := pmax) trivial (by simp) (by
        intro q hq
        simp only [osp, List.mem_map] at hq
        obtain ⟨z, hz, rfl⟩ := hq
        exact (HBD.out z hz).2)).2.2
      rw [← hL] at hS hlen
      have hlen2 : (osp lo).length = n := by unfold osp; rw [List.length_map, HLN.out]
      have hL30 : L.length ≤ 30 := by simp at hlen; omega
      have HS := hS
      clear hS hL hlen hlen2
      go_wp2_with fail
      refine (many_any g g 64 v L wr HS.out).mono ?_
      rintro e w2 ⟨rfl, hb2⟩
      have HS2 := Lib.hid (HS.out.below hb2 (Nat.le_refl _))
      have HB2 := Lib.hid (hbw.trans (hb2.mono hbw.size))
      clear hb2 hbw
      go_wp2_with fail
      refine (gaps_any g g 64 v L f t w2 HS2.out).mono ?_
      rintro e w3 ⟨v3, rfl, hP3, hb3⟩
      have HS3 := Lib.hid (HS2.out.below hb3 (Nat.le_refl _))
      have HB3 := Lib.hid (HB2.out.trans (hb3.mono HB2.out.size))
      have HRI := Lib.hid HS2.out.rise
      have HLB := Lib.hid HS2.out.bd
      obtain ⟨G, hGG⟩ : ∃ G, G = gapL L f t := ⟨_, rfl⟩
      rw [← hGG] at hP3
      obtain ⟨gf1, gf2, gf3, gf4⟩ := gapL_facts f t HRI.out
      rw [← hGG] at gf1 gf2 gf3 gf4
      obtain ⟨A3, n3, c3, rfl, hnc3, hcm3, hl3, hr3⟩ := hP3.out
      have hfar : Far A3 g w3.heap.size v := Far.of hP3 HS2.out.lt fun k hk => (HS2.out.own.lt k hk).2
      have HFAR := Lib.hid hfar
      clear hfar
      unfold maxLen at hcm3
      have hn31 : n3 ≤ 31 := by have := hl3.out; omega
      have HGR := Lib.hid gf1
      have HGB := Lib.hid gf2
      have HGG := Lib.hid hGG
      have HGM := Lib.hid (many_lt (N := pmax) gf1 (fun p hp => by have := (gf2 p hp).2; have := HT.out; omega) (by decide))
      clear hP3 hb3 gf1 gf2 gf3 gf4 hGG
      go_wp2_with fail
      go_loopw [11, 12] (fun sv iv wr => ∃ (k s : Nat), k ≤ n3 ∧ iv = .int .i64 k ∧ sv = .int .u64 (s : Int) ∧ Hid (manyL (G.take k) = s) ∧ Below w3.heap.size w3 wr) (fun _ iv _ => n3 - (intOf iv).toNat)
      case atStart => exact ⟨0, 0, Nat.zero_le _, rfl, rfl, Lib.hid (by simp [manyL]), Below.refl _ _⟩
      case round =>
        obtain ⟨k, s, hk, rfl, rfl, hs, hbw⟩ := hrel
        by_cases hlt : k < n3
        · have hlt' : (k : Int) < (n3 : Int) := by omega
          obtain ⟨b, off, x, y, rfl, hbb, p0, p1, hp⟩ := (hr3.out.below hbw).mono hbw.size |>.pc hlt
          obtain ⟨q1, q2, q3, q4, q5⟩ := gap_in HRI.out (f := f) (t := t) (i := k) (p := (x, y)) (by rw [← HGG.out]; exact hp.out)
          dsimp only at q1 q2 q3 q4 q5
          have hS4 := HS3.out.below hbw (Nat.le_refl _)
          have hx1 : ∀ w', Below wr.heap.size wr w' → Calls Try.prog 23 #[.pointer (some ⟨g, 0, none⟩), .int .u64 (x : Int)] w' fun e w'' => e = .returned (.bool false) ∧ Below w'.heap.size w' w'' := fun w' hb => by
            have := has_any g g 64 v L x w' (hS4.below hb (Nat.le_refl _))
            rw [has_mem, q2] at this
            exact this
          obtain ⟨ym, hym⟩ : ∃ ym, ym = y - 1 := ⟨_, rfl⟩
          rw [← hym] at q3
          have hx2 : ∀ w', Below wr.heap.size wr w' → Calls Try.prog 23 #[.pointer (some ⟨g, 0, none⟩), .int .u64 (ym : Int)] w' fun e w'' => e = .returned (.bool false) ∧ Below w'.heap.size w' w'' := fun w' hb => by
            have := has_any g g 64 v L ym w' (hS4.below hb (Nat.le_refl _))
            rw [has_mem, q3] at this
            exact this
          have hy := HT.out
          have ht3 := many_take hp.out
          have hle := many_take_le G (k + 1)
          have hm := HGM.out
          dsimp only at ht3
          rw [hs.out] at ht3
          obtain ⟨d, hd⟩ : ∃ d, d = y - x := ⟨_, rfl⟩
          rw [← hd] at ht3
          have eym : (y : Int) - 1 = (ym : Int) := by omega
          have wy1 := wrap_u64_lt (x := ym) (by omega)
          have wy2 : IntKind.u64.wrap ((y : Int) - 1) = (ym : Int) := by rw [eym, wy1]
          have ed : (y : Int) - (x : Int) = (d : Int) := by omega
          have wd2 := wrap_u64_lt (x := d) (by omega)
          have wd1 : IntKind.u64.wrap ((y : Int) - (x : Int)) = (d : Int) := by rw [ed, wd2]
          have ws2 := wrap_u64_lt (x := s + d) (by omega)
          have e3 : (s : Int) + (d : Int) = ((s + d : Nat) : Int) := by omega
          obtain ⟨s2, hs2⟩ : ∃ s2, s2 = s + d := ⟨_, rfl⟩
          rw [← hs2] at ht3 ws2 e3
          have ws1 : IntKind.u64.wrap ((s : Int) + (d : Int)) = (s2 : Int) := by rw [e3, ws2]
          have c1 : decide (y ≤ x) = false := decide_eq_false (by omega)
          have c2 : decide (x < f) = false := decide_eq_false (by omega)
          have c3 : decide (t < y) = false := decide_eq_false (by omega)
          have HT3 := Lib.hid ht3
          have HX1 := Lib.hid hx1
          have HX2 := Lib.hid hx2
          clear ht3 hle hm hy hd hs2 hx1 hx2 hS4 hp q1 q2 q3 q4 q5 hym
          go_wp2_with fail
          refine wp_ext (by kernel_rfl) (by kernel_rfl) (fun QQ hQ => ?_)
          (first | (refine x_load _ (by rfl) rfl rfl (by assumption) (by kernel_rfl) ?_; simp only [Act.put, List.setIfInBounds_toArray, List.set_cons_zero, List.set_cons_succ]) | (refine x_val (v := ?_) (by rfl) (fun w' hx => ?_) ?_; rotate_left; (focus (go_simp; (try with_reducible rfl))); (try simp only [Act.put, List.setIfInBounds_toArray, List.set_cons_zero, List.set_cons_succ])))
          (first | (refine x_load _ (by rfl) rfl rfl (by assumption) (by kernel_rfl) ?_; simp only [Act.put, List.setIfInBounds_toArray, List.set_cons_zero, List.set_cons_succ]) | (refine x_val (v := ?_) (by rfl) (fun w' hx => ?_) ?_; rotate_left; (focus (go_simp; (try with_reducible rfl))); (try simp only [Act.put, List.setIfInBounds_toArray, List.set_cons_zero, List.set_cons_succ])))
          (first | (refine x_load _ (by rfl) rfl rfl (by assumption) (by kernel_rfl) ?_; simp only [Act.put, List.setIfInBounds_toArray, List.set_cons_zero, List.set_cons_succ]) | (refine x_val (v := ?_) (by rfl) (fun w' hx => ?_) ?_; rotate_left; (focus (go_simp; (try with_reducible rfl))); (try simp only [Act.put, List.setIfInBounds_toArray, List.set_cons_zero, List.set_cons_succ])))
          (first | (refine x_load _ (by rfl) rfl rfl (by assumption) (by kernel_rfl) ?_; simp only [Act.put, List.setIfInBounds_toArray, List.set_cons_zero, List.set_cons_succ]) | (refine x_val (v := ?_) (by rfl) (fun w' hx => ?_) ?_; rotate_left; (focus (go_simp; (try with_reducible rfl))); (try simp only [Act.put, List.setIfInBounds_toArray, List.set_cons_zero, List.set_cons_succ])))
          (first | (refine x_load _ (by rfl) rfl rfl (by assumption) (by kernel_rfl) ?_; simp only [Act.put, List.setIfInBounds_toArray, List.set_cons_zero, List.set_cons_succ]) | (refine x_val (v := ?_) (by rfl) (fun w' hx => ?_) ?_; rotate_left; (focus (go_simp; (try with_reducible rfl))); (try simp only [Act.put, List.setIfInBounds_toArray, List.set_cons_zero, List.set_cons_succ])))
          (first | (refine x_load _ (by rfl) rfl rfl (by assumption) (by kernel_rfl) ?_; simp only [Act.put, List.setIfInBounds_toArray, List.set_cons_zero, List.set_cons_succ]) | (refine x_val (v := ?_) (by rfl) (fun w' hx => ?_) ?_; rotate_left; (focus (go_simp; (try with_reducible rfl))); (try simp only [Act.put, List.setIfInBounds_toArray, List.set_cons_zero, List.set_cons_succ])))
          (first | (refine x_load _ (by rfl) rfl rfl (by assumption) (by kernel_rfl) ?_; simp only [Act.put, List.setIfInBounds_toArray, List.set_cons_zero, List.set_cons_succ]) | (refine x_val (v := ?_) (by rfl) (fun w' hx => ?_) ?_; rotate_left; (focus (go_simp; (try with_reducible rfl))); (try simp only [Act.put, List.setIfInBounds_toArray, List.set_cons_zero, List.set_cons_succ])))
          (first | (refine x_load _ (by rfl) rfl rfl (by assumption) (by kernel_rfl) ?_; simp only [Act.put, List.setIfInBounds_toArray, List.set_cons_zero, List.set_cons_succ]) | (refine x_val (v := ?_) (by rfl) (fun w' hx => ?_) ?_; rotate_left; (focus (go_simp; (try with_reducible rfl))); (try simp only [Act.put, List.setIfInBounds_toArray, List.set_cons_zero, List.set_cons_succ])))
          (first | (refine x_load _ (by rfl) rfl rfl (by assumption) (by kernel_rfl) ?_; simp only [Act.put, List.setIfInBounds_toArray, List.set_cons_zero, List.set_cons_succ]) | (refine x_val (v := ?_) (by rfl) (fun w' hx => ?_) ?_; rotate_left; (focus (go_simp; (try with_reducible rfl))); (try simp only [Act.put, List.setIfInBounds_toArray, List.set_cons_zero, List.set_cons_succ])))
          (first | (refine x_load _ (by rfl) rfl rfl (by assumption) (by kernel_rfl) ?_; simp only [Act.put, List.setIfInBounds_toArray, List.set_cons_zero, List.set_cons_succ]) | (refine x_val (v := ?_) (by rfl) (fun w' hx => ?_) ?_; rotate_left; (focus (go_simp; (try with_reducible rfl))); (try simp only [Act.put, List.setIfInBounds_toArray, List.set_cons_zero, List.set_cons_succ])))
          (first | (refine x_load _ (by rfl) rfl rfl (by assumption) (by kernel_rfl) ?_; simp only [Act.put, List.setIfInBounds_toArray, List.set_cons_zero, List.set_cons_succ]) | (refine x_val (v := ?_) (by rfl) (fun w' hx => ?_) ?_; rotate_left; (focus (go_simp; (try with_reducible rfl))); (try simp only [Act.put, List.setIfInBounds_toArray, List.set_cons_zero, List.set_cons_succ])))
          (first | (refine x_load _ (by rfl) rfl rfl (by assumption) (by kernel_rfl) ?_; simp only [Act.put, List.setIfInBounds_toArray, List.set_cons_zero, List.set_cons_succ]) | (refine x_val (v := ?_) (by rfl) (fun w' hx => ?_) ?_; rotate_left; (focus (go_simp; (try with_reducible rfl))); (try simp only [Act.put, List.setIfInBounds_toArray, List.set_cons_zero, List.set_cons_succ])))
          (first | (refine x_load _ (by rfl) rfl rfl (by assumption) (by kernel_rfl) ?_; simp only [Act.put, List.setIfInBounds_toArray, List.set_cons_zero, List.set_cons_succ]) | (refine x_val (v := ?_) (by rfl) (fun w' hx => ?_) ?_; rotate_left; (focus (go_simp; (try with_reducible rfl))); (try simp only [Act.put, List.setIfInBounds_toArray, List.set_cons_zero, List.set_cons_succ])))
          (first | (refine x_load _ (by rfl) rfl rfl (by assumption) (by kernel_rfl) ?_; simp only [Act.put, List.setIfInBounds_toArray, List.set_cons_zero, List.set_cons_succ]) | (refine x_val (v := ?_) (by rfl) (fun w' hx => ?_) ?_; rotate_left; (focus (go_simp; (try with_reducible rfl))); (try simp only [Act.put, List.setIfInBounds_toArray, List.set_cons_zero, List.set_cons_succ])))
          (first | (refine x_load _ (by rfl) rfl rfl (by assumption) (by kernel_rfl) ?_; simp only [Act.put, List.setIfInBounds_toArray, List.set_cons_zero, List.set_cons_succ]) | (refine x_val (v := ?_) (by rfl) (fun w' hx => ?_) ?_; rotate_left; (focus (go_simp; (try with_reducible rfl))); (try simp only [Act.put, List.setIfInBounds_toArray, List.set_cons_zero, List.set_cons_succ])))
          (first | (refine x_load _ (by rfl) rfl rfl (by assumption) (by kernel_rfl) ?_; simp only [Act.put, List.setIfInBounds_toArray, List.set_cons_zero, List.set_cons_succ]) | (refine x_val (v := ?_) (by rfl) (fun w' hx => ?_) ?_; rotate_left; (focus (go_simp; (try with_reducible rfl))); (try simp only [Act.put, List.setIfInBounds_toArray, List.set_cons_zero, List.set_cons_succ])))
          (first | (refine x_load _ (by rfl) rfl rfl (by assumption) (by kernel_rfl) ?_; simp only [Act.put, List.setIfInBounds_toArray, List.set_cons_zero, List.set_cons_succ]) | (refine x_val (v := ?_) (by rfl) (fun w' hx => ?_) ?_; rotate_left; (focus (go_simp; (try with_reducible rfl))); (try simp only [Act.put, List.setIfInBounds_toArray, List.set_cons_zero, List.set_cons_succ])))
          (first | (refine x_load _ (by rfl) rfl rfl (by assumption) (by kernel_rfl) ?_; simp only [Act.put, List.setIfInBounds_toArray, List.set_cons_zero, List.set_cons_succ]) | (refine x_val (v := ?_) (by rfl) (fun w' hx => ?_) ?_; rotate_left; (focus (go_simp; (try with_reducible rfl))); (try simp only [Act.put, List.setIfInBounds_toArray, List.set_cons_zero, List.set_cons_succ])))
          refine x_call (by rfl) (fun w' hx => by go_simp) (fun w' hx => HX1.out w' hx) ?_; simp only [Act.put, List.setIfInBounds_toArray, List.set_cons_zero, List.set_cons_succ]
          (first | (refine x_load _ (by rfl) rfl rfl (by assumption) (by kernel_rfl) ?_; simp only [Act.put, List.setIfInBounds_toArray, List.set_cons_zero, List.set_cons_succ]) | (refine x_val (v := ?_) (by rfl) (fun w' hx => ?_) ?_; rotate_left; (focus (go_simp; (try with_reducible rfl))); (try simp only [Act.put, List.setIfInBounds_toArray, List.set_cons_zero, List.set_cons_succ])))
          (first | (refine x_load _ (by rfl) rfl rfl (by assumption) (by kernel_rfl) ?_; simp only [Act.put, List.setIfInBounds_toArray, List.set_cons_zero, List.set_cons_succ]) | (refine x_val (v := ?_) (by rfl) (fun w' hx => ?_) ?_; rotate_left; (focus (go_simp; (try with_reducible rfl))); (try simp only [Act.put, List.setIfInBounds_toArray, List.set_cons_zero, List.set_cons_succ])))
          (first | (refine x_load _ (by rfl) rfl rfl (by assumption) (by kernel_rfl) ?_; simp only [Act.put, List.setIfInBounds_toArray, List.set_cons_zero, List.set_cons_succ]) | (refine x_val (v := ?_) (by rfl) (fun w' hx => ?_) ?_; rotate_left; (focus (go_simp; (try with_reducible rfl))); (try simp only [Act.put, List.setIfInBounds_toArray, List.set_cons_zero, List.set_cons_succ])))
          (first | (refine x_load _ (by rfl) rfl rfl (by assumption) (by kernel_rfl) ?_; simp only [Act.put, List.setIfInBounds_toArray, List.set_cons_zero, List.set_cons_succ]) | (refine x_val (v := ?_) (by rfl) (fun w' hx => ?_) ?_; rotate_left; (focus (go_simp; (try with_reducible rfl))); (try simp only [Act.put, List.setIfInBounds_toArray, List.set_cons_zero, List.set_cons_succ])))
          (first | (refine x_load _ (by rfl) rfl rfl (by assumption) (by kernel_rfl) ?_; simp only [Act.put, List.setIfInBounds_toArray, List.set_cons_zero, List.set_cons_succ]) | (refine x_val (v := ?_) (by rfl) (fun w' hx => ?_) ?_; rotate_left; (focus (go_simp; (try with_reducible rfl))); (try simp only [Act.put, List.setIfInBounds_toArray, List.set_cons_zero, List.set_cons_succ])))
          (first | (refine x_load _ (by rfl) rfl rfl (by assumption) (by kernel_rfl) ?_; simp only [Act.put, List.setIfInBounds_toArray, List.set_cons_zero, List.set_cons_succ]) | (refine x_val (v := ?_) (by rfl) (fun w' hx => ?_) ?_; rotate_left; (focus (go_simp; (try with_reducible rfl))); (try simp only [Act.put, List.setIfInBounds_toArray, List.set_cons_zero, List.set_cons_succ])))
          (first | (refine x_load _ (by rfl) rfl rfl (by assumption) (by kernel_rfl) ?_; simp only [Act.put, List.setIfInBounds_toArray, List.set_cons_zero, List.set_cons_succ]) | (refine x_val (v := ?_) (by rfl) (fun w' hx => ?_) ?_; rotate_left; (focus (go_simp; (try with_reducible rfl))); (try simp only [Act.put, List.setIfInBounds_toArray, List.set_cons_zero, List.set_cons_succ])))
          (first | (refine x_load _ (by rfl) rfl rfl (by assumption) (by kernel_rfl) ?_; simp only [Act.put, List.setIfInBounds_toArray, List.set_cons_zero, List.set_cons_succ]) | (refine x_val (v := ?_) (by rfl) (fun w' hx => ?_) ?_; rotate_left; (focus (go_simp; (try with_reducible rfl))); (try simp only [Act.put, List.setIfInBounds_toArray, List.set_cons_zero, List.set_cons_succ])))
          (first | (refine x_load _ (by rfl) rfl rfl (by assumption) (by kernel_rfl) ?_; simp only [Act.put, List.setIfInBounds_toArray, List.set_cons_zero, List.set_cons_succ]) | (refine x_val (v := ?_) (by rfl) (fun w' hx => ?_) ?_; rotate_left; (focus (go_simp; (try with_reducible rfl))); (try simp only [Act.put, List.setIfInBounds_toArray, List.set_cons_zero, List.set_cons_succ])))
          refine x_call (by rfl) (fun w' hx => by go_simp) (fun w' hx => HX2.out w' hx) ?_; simp only [Act.put, List.setIfInBounds_toArray, List.set_cons_zero, List.set_cons_succ]
          (first | (refine x_load _ (by rfl) rfl rfl (by assumption) (by kernel_rfl) ?_; simp only [Act.put, List.setIfInBounds_toArray, List.set_cons_zero, List.set_cons_succ]) | (refine x_val (v := ?_) (by rfl) (fun w' hx => ?_) ?_; rotate_left; (focus (go_simp; (try with_reducible rfl))); (try simp only [Act.put, List.setIfInBounds_toArray, List.set_cons_zero, List.set_cons_succ])))
          (first | (refine x_load _ (by rfl) rfl rfl (by assumption) (by kernel_rfl) ?_; simp only [Act.put, List.setIfInBounds_toArray, List.set_cons_zero, List.set_cons_succ]) | (refine x_val (v := ?_) (by rfl) (fun w' hx => ?_) ?_; rotate_left; (focus (go_simp; (try with_reducible rfl))); (try simp only [Act.put, List.setIfInBounds_toArray, List.set_cons_zero, List.set_cons_succ])))
          (first | (refine x_load _ (by rfl) rfl rfl (by assumption) (by kernel_rfl) ?_; simp only [Act.put, List.setIfInBounds_toArray, List.set_cons_zero, List.set_cons_succ]) | (refine x_val (v := ?_) (by rfl) (fun w' hx => ?_) ?_; rotate_left; (focus (go_simp; (try with_reducible rfl))); (try simp only [Act.put, List.setIfInBounds_toArray, List.set_cons_zero, List.set_cons_succ])))
          (first | (refine x_load _ (by rfl) rfl rfl (by assumption) (by kernel_rfl) ?_; simp only [Act.put, List.setIfInBounds_toArray, List.set_cons_zero, List.set_cons_succ]) | (refine x_val (v := ?_) (by rfl) (fun w' hx => ?_) ?_; rotate_left; (focus (go_simp; (try with_reducible rfl))); (try simp only [Act.put, List.setIfInBounds_toArray, List.set_cons_zero, List.set_cons_succ])))
          (first | (refine x_load _ (by rfl) rfl rfl (by assumption) (by kernel_rfl) ?_; simp only [Act.put, List.setIfInBounds_toArray, List.set_cons_zero, List.set_cons_succ]) | (refine x_val (v := ?_) (by rfl) (fun w' hx => ?_) ?_; rotate_left; (focus (go_simp; (try with_reducible rfl))); (try simp only [Act.put, List.setIfInBounds_toArray, List.set_cons_zero, List.set_cons_succ])))
          (first | (refine x_load _ (by rfl) rfl rfl (by assumption) (by kernel_rfl) ?_; simp only [Act.put, List.setIfInBounds_toArray, List.set_cons_zero, List.set_cons_succ]) | (refine x_val (v := ?_) (by rfl) (fun w' hx => ?_) ?_; rotate_left; (focus (go_simp; (try with_reducible rfl))); (try simp only [Act.put, List.setIfInBounds_toArray, List.set_cons_zero, List.set_cons_succ])))
          (first | (refine x_load _ (by rfl) rfl rfl (by assumption) (by kernel_rfl) ?_; simp only [Act.put, List.setIfInBounds_toArray, List.set_cons_zero, List.set_cons_succ]) | (refine x_val (v := ?_) (by rfl) (fun w' hx => ?_) ?_; rotate_left; (focus (go_simp; (try with_reducible rfl))); (try simp only [Act.put, List.setIfInBounds_toArray, List.set_cons_zero, List.set_cons_succ])))
          (first | (refine x_load _ (by rfl) rfl rfl (by assumption) (by kernel_rfl) ?_; simp only [Act.put, List.setIfInBounds_toArray, List.set_cons_zero, List.set_cons_succ]) | (refine x_val (v := ?_) (by rfl) (fun w' hx => ?_) ?_; rotate_left; (focus (go_simp; (try with_reducible rfl))); (try simp only [Act.put, List.setIfInBounds_toArray, List.set_cons_zero, List.set_cons_succ])))
          (first | (refine x_load _ (by rfl) rfl rfl (by assumption) (by kernel_rfl) ?_; simp only [Act.put, List.setIfInBounds_toArray, List.set_cons_zero, List.set_cons_succ]) | (refine x_val (v := ?_) (by rfl) (fun w' hx => ?_) ?_; rotate_left; (focus (go_simp; (try with_reducible rfl))); (try simp only [Act.put, List.setIfInBounds_toArray, List.set_cons_zero, List.set_cons_succ])))
          (first | (refine x_load _ (by rfl) rfl rfl (by assumption) (by kernel_rfl) ?_; simp only [Act.put, List.setIfInBounds_toArray, List.set_cons_zero, List.set_cons_succ]) | (refine x_val (v := ?_) (by rfl) (fun w' hx => ?_) ?_; rotate_left; (focus (go_simp; (try with_reducible rfl))); (try simp only [Act.put, List.setIfInBounds_toArray, List.set_cons_zero, List.set_cons_succ])))
          (first | (refine x_load _ (by rfl) rfl rfl (by assumption) (by kernel_rfl) ?_; simp only [Act.put, List.setIfInBounds_toArray, List.set_cons_zero, List.set_cons_succ]) | (refine x_val (v := ?_) (by rfl) (fun w' hx => ?_) ?_; rotate_left; (focus (go_simp; (try with_reducible rfl))); (try simp only [Act.put, List.setIfInBounds_toArray, List.set_cons_zero, List.set_cons_succ])))
          (first | (refine x_load _ (by rfl) rfl rfl (by assumption) (by kernel_rfl) ?_; simp only [Act.put, List.setIfInBounds_toArray, List.set_cons_zero, List.set_cons_succ]) | (refine x_val (v := ?_) (by rfl) (fun w' hx => ?_) ?_; rotate_left; (focus (go_simp; (try with_reducible rfl))); (try simp only [Act.put, List.setIfInBounds_toArray, List.set_cons_zero, List.set_cons_succ])))
          (first | (refine x_load _ (by rfl) rfl rfl (by assumption) (by kernel_rfl) ?_; simp only [Act.put, List.setIfInBounds_toArray, List.set_cons_zero, List.set_cons_succ]) | (refine x_val (v := ?_) (by rfl) (fun w' hx => ?_) ?_; rotate_left; (focus (go_simp; (try with_reducible rfl))); (try simp only [Act.put, List.setIfInBounds_toArray, List.set_cons_zero, List.set_cons_succ])))
          (first | (refine x_load _ (by rfl) rfl rfl (by assumption) (by kernel_rfl) ?_; simp only [Act.put, List.setIfInBounds_toArray, List.set_cons_zero, List.set_cons_succ]) | (refine x_val (v := ?_) (by rfl) (fun w' hx => ?_) ?_; rotate_left; (focus (go_simp; (try with_reducible rfl))); (try simp only [Act.put, List.setIfInBounds_toArray, List.set_cons_zero, List.set_cons_succ])))
          (first | (refine x_load _ (by rfl) rfl rfl (by assumption) (by kernel_rfl) ?_; simp only [Act.put, List.setIfInBounds_toArray, List.set_cons_zero, List.set_cons_succ]) | (refine x_val (v := ?_) (by rfl) (fun w' hx => ?_) ?_; rotate_left; (focus (go_simp; (try with_reducible rfl))); (try simp only [Act.put, List.setIfInBounds_toArray, List.set_cons_zero, List.set_cons_succ])))
          (first | (refine x_load _ (by rfl) rfl rfl (by assumption) (by kernel_rfl) ?_; simp only [Act.put, List.setIfInBounds_toArray, List.set_cons_zero, List.set_cons_succ]) | (refine x_val (v := ?_) (by rfl) (fun w' hx => ?_) ?_; rotate_left; (focus (go_simp; (try with_reducible rfl))); (try simp only [Act.put, List.setIfInBounds_toArray, List.set_cons_zero, List.set_cons_succ])))
          (first | (refine x_load _ (by rfl) rfl rfl (by assumption) (by kernel_rfl) ?_; simp only [Act.put, List.setIfInBounds_toArray, List.set_cons_zero, List.set_cons_succ]) | (refine x_val (v := ?_) (by rfl) (fun w' hx => ?_) ?_; rotate_left; (focus (go_simp; (try with_reducible rfl))); (try simp only [Act.put, List.setIfInBounds_toArray, List.set_cons_zero, List.set_cons_succ])))
          (first | (refine x_load _ (by rfl) rfl rfl (by assumption) (by kernel_rfl) ?_; simp only [Act.put, List.setIfInBounds_toArray, List.set_cons_zero, List.set_cons_succ]) | (refine x_val (v := ?_) (by rfl) (fun w' hx => ?_) ?_; rotate_left; (focus (go_simp; (try with_reducible rfl))); (try simp only [Act.put, List.setIfInBounds_toArray, List.set_cons_zero, List.set_cons_succ])))
          (first | (refine x_load _ (by rfl) rfl rfl (by assumption) (by kernel_rfl) ?_; simp only [Act.put, List.setIfInBounds_toArray, List.set_cons_zero, List.set_cons_succ]) | (refine x_val (v := ?_) (by rfl) (fun w' hx => ?_) ?_; rotate_left; (focus (go_simp; (try with_reducible rfl))); (try simp only [Act.put, List.setIfInBounds_toArray, List.set_cons_zero, List.set_cons_succ])))
          refine x_nil (hQ.out _ ?_); clear hQ QQ
          intro w4 hb4
          have hbw4 := hbw.trans (hb4.mono hbw.size)
          have p04 := (hb4.cell (p := ⟨b, off + k * 2, none⟩) hbb).trans p0
          have p14 := (hb4.cell (p := ⟨b, off + k * 2 + 1, none⟩) hbb).trans p1
          clear hb4 p0 p1 HX1 HX2
          go_wp2_with fail
          refine wp_ext (by kernel_rfl) (by kernel_rfl) (fun QQ hQ => ?_)
          (first | (refine x_load _ (by rfl) rfl rfl (by assumption) (by kernel_rfl) ?_; simp only [Act.put, List.setIfInBounds_toArray, List.set_cons_zero, List.set_cons_succ]) | (refine x_val (v := ?_) (by rfl) (fun w' hx => ?_) ?_; rotate_left; (focus (go_simp; (try with_reducible rfl))); (try simp only [Act.put, List.setIfInBounds_toArray, List.set_cons_zero, List.set_cons_succ])))
          (first | (refine x_load _ (by rfl) rfl rfl (by assumption) (by kernel_rfl) ?_; simp only [Act.put, List.setIfInBounds_toArray, List.set_cons_zero, List.set_cons_succ]) | (refine x_val (v := ?_) (by rfl) (fun w' hx => ?_) ?_; rotate_left; (focus (go_simp; (try with_reducible rfl))); (try simp only [Act.put, List.setIfInBounds_toArray, List.set_cons_zero, List.set_cons_succ])))
          (first | (refine x_load _ (by rfl) rfl rfl (by assumption) (by kernel_rfl) ?_; simp only [Act.put, List.setIfInBounds_toArray, List.set_cons_zero, List.set_cons_succ]) | (refine x_val (v := ?_) (by rfl) (fun w' hx => ?_) ?_; rotate_left; (focus (go_simp; (try with_reducible rfl))); (try simp only [Act.put, List.setIfInBounds_toArray, List.set_cons_zero, List.set_cons_succ])))
          (first | (refine x_load _ (by rfl) rfl rfl (by assumption) (by kernel_rfl) ?_; simp only [Act.put, List.setIfInBounds_toArray, List.set_cons_zero, List.set_cons_succ]) | (refine x_val (v := ?_) (by rfl) (fun w' hx => ?_) ?_; rotate_left; (focus (go_simp; (try with_reducible rfl))); (try simp only [Act.put, List.setIfInBounds_toArray, List.set_cons_zero, List.set_cons_succ])))
          (first | (refine x_load _ (by rfl) rfl rfl (by assumption) (by kernel_rfl) ?_; simp only [Act.put, List.setIfInBounds_toArray, List.set_cons_zero, List.set_cons_succ]) | (refine x_val (v := ?_) (by rfl) (fun w' hx => ?_) ?_; rotate_left; (focus (go_simp; (try with_reducible rfl))); (try simp only [Act.put, List.setIfInBounds_toArray, List.set_cons_zero, List.set_cons_succ])))
          (first | (refine x_load _ (by rfl) rfl rfl (by assumption) (by kernel_rfl) ?_; simp only [Act.put, List.setIfInBounds_toArray, List.set_cons_zero, List.set_cons_succ]) | (refine x_val (v := ?_) (by rfl) (fun w' hx => ?_) ?_; rotate_left; (focus (go_simp; (try with_reducible rfl))); (try simp only [Act.put, List.setIfInBounds_toArray, List.set_cons_zero, List.set_cons_succ])))
          (first | (refine x_load _ (by rfl) rfl rfl (by assumption) (by kernel_rfl) ?_; simp only [Act.put, List.setIfInBounds_toArray, List.set_cons_zero, List.set_cons_succ]) | (refine x_val (v := ?_) (by rfl) (fun w' hx => ?_) ?_; rotate_left; (focus (go_simp; (try with_reducible rfl))); (try simp only [Act.put, List.setIfInBounds_toArray, List.set_cons_zero, List.set_cons_succ])))
          (first | (refine x_load _ (by rfl) rfl rfl (by assumption) (by kernel_rfl) ?_; simp only [Act.put, List.setIfInBounds_toArray, List.set_cons_zero, List.set_cons_succ]) | (refine x_val (v := ?_) (by rfl) (fun w' hx => ?_) ?_; rotate_left; (focus (go_simp; (try with_reducible rfl))); (try simp only [Act.put, List.setIfInBounds_toArray, List.set_cons_zero, List.set_cons_succ])))
          (first | (refine x_load _ (by rfl) rfl rfl (by assumption) (by kernel_rfl) ?_; simp only [Act.put, List.setIfInBounds_toArray, List.set_cons_zero, List.set_cons_succ]) | (refine x_val (v := ?_) (by rfl) (fun w' hx => ?_) ?_; rotate_left; (focus (go_simp; (try with_reducible rfl))); (try simp only [Act.put, List.setIfInBounds_toArray, List.set_cons_zero, List.set_cons_succ])))
          (first | (refine x_load _ (by rfl) rfl rfl (by assumption) (by kernel_rfl) ?_; simp only [Act.put, List.setIfInBounds_toArray, List.set_cons_zero, List.set_cons_succ]) | (refine x_val (v := ?_) (by rfl) (fun w' hx => ?_) ?_; rotate_left; (focus (go_simp; (try with_reducible rfl))); (try simp only [Act.put, List.setIfInBounds_toArray, List.set_cons_zero, List.set_cons_succ])))
          (first | (refine x_load _ (by rfl) rfl rfl (by assumption) (by kernel_rfl) ?_; simp only [Act.put, List.setIfInBounds_toArray, List.set_cons_zero, List.set_cons_succ]) | (refine x_val (v := ?_) (by rfl) (fun w' hx => ?_) ?_; rotate_left; (focus (go_simp; (try with_reducible rfl))); (try simp only [Act.put, List.setIfInBounds_toArray, List.set_cons_zero, List.set_cons_succ])))
          (first | (refine x_load _ (by rfl) rfl rfl (by assumption) (by kernel_rfl) ?_; simp only [Act.put, List.setIfInBounds_toArray, List.set_cons_zero, List.set_cons_succ]) | (refine x_val (v := ?_) (by rfl) (fun w' hx => ?_) ?_; rotate_left; (focus (go_simp; (try with_reducible rfl))); (try simp only [Act.put, List.setIfInBounds_toArray, List.set_cons_zero, List.set_cons_succ])))
          (first | (refine x_load _ (by rfl) rfl rfl (by assumption) (by kernel_rfl) ?_; simp only [Act.put, List.setIfInBounds_toArray, List.set_cons_zero, List.set_cons_succ]) | (refine x_val (v := ?_) (by rfl) (fun w' hx => ?_) ?_; rotate_left; (focus (go_simp; (try with_reducible rfl))); (try simp only [Act.put, List.setIfInBounds_toArray, List.set_cons_zero, List.set_cons_succ])))
          (first | (refine x_load _ (by rfl) rfl rfl (by assumption) (by kernel_rfl) ?_; simp only [Act.put, List.setIfInBounds_toArray, List.set_cons_zero, List.set_cons_succ]) | (refine x_val (v := ?_) (by rfl) (fun w' hx => ?_) ?_; rotate_left; (focus (go_simp; (try with_reducible rfl))); (try simp only [Act.put, List.setIfInBounds_toArray, List.set_cons_zero, List.set_cons_succ])))
          refine x_nil (hQ.out _ ?_); clear hQ QQ
          intro w5 hb5
          have hbw5 := hbw4.trans (hb5.mono hbw4.size)
          clear hb5 p04 p14
          go_wp2_with fail
          go_roundw
          case rel => exact ⟨k + 1, s2, by omega, by go_num, rfl, HT3, hbw5⟩
          case measure => simp [intOf]; omega
        · have hge : ¬ (k : Int) < (n3 : Int) := by omega
          have hall : G.take k = G := List.take_of_length_le (by rw [hl3.out]; omega)
          have hs2 := hs.out
          rw [hall] at hs2
          have HSS := Lib.hid hs2
          have HBW4 := Lib.hid (HB3.out.trans (hbw.mono HB3.out.size))
          have HS5 := Lib.hid (HS3.out.below hbw (Nat.le_refl _))
          have HR5 := Lib.hid (hr3.out.below hbw)
          have hsz5 := hbw.size
          clear hall hs2 hs hbw
          obtain ⟨m1, hm1⟩ : ∃ m1, m1 = manyL L := ⟨_, rfl⟩
          rw [← hm1]
          have HM1 := Lib.hid hm1
          clear hm1
          go_wp2_with fail
          go_loopw [13] (fun iv wq => ∃ (k : Nat) (v4 : Value), k ≤ n3 ∧ iv = .int .i64 k ∧ Hid (SetI wq g g 64 v4 (addsF L (G.take k))) ∧ Hid (Rd wq w3.heap.size 2 A3 n3 (cels G)) ∧ Hid (Far A3 g w3.heap.size v4) ∧ Below w.heap.size w wq ∧ w3.heap.size ≤ wq.heap.size) (fun iv _ => n3 - (intOf iv).toNat)
          case atStart => exact ⟨0, v, Nat.zero_le _, rfl, Lib.hid (by simpa [addsF] using HS5.out), HR5, HFAR, HBW4.out, hsz5⟩
          case round =>
            obtain ⟨k, v4, hk, rfl, hS, hR, hfar, hbq, hsq⟩ := hrel
            clear HS5 HR5 HBW4 hsz5
            by_cases hlt : k < n3
            · have hlt' : (k : Int) < (n3 : Int) := by omega
              obtain ⟨b, off, x, y, rfl, hbb, p0, p1, hp⟩ := hR.out.pc hlt
              have hgb := HGB.out _ (List.mem_of_getElem? hp.out)
              have hxlt := HGR.out.pos _ (List.mem_of_getElem? hp.out)
              have htt := HT.out
              dsimp only at hgb hxlt
              have hlen := (addsF_ok (l := L) (ops := G.take k) (b := pmax) HRI.out HLB.out (by
                intro q hq
                have := (HGB.out q (List.mem_of_mem_take hq)).2
                have := HT.out
                omega)).2.2
              have hlen2 : (G.take k).length ≤ 30 := by rw [List.length_take]; omega
              have hsn : addsF L (G.take (k + 1)) = if y ≤ x then addsF L (G.take k) else addL (addsF L (G.take k)) x y := by rw [nth_take hp, addsF_snoc]
              have hroom := addS_room (most := 64) (f := x) (t := y) (l := addsF L (G.take k)) (by omega)
              have hx9 : x < pmax := by omega
              have hy9 : y < pmax := by omega
              have HROOM := Lib.hid hroom
              have HSN := Lib.hid hsn
              have HXY := Lib.hid (And.intro hx9 hy9)
              clear hgb hxlt htt hlen hlen2 hsn hroom hp hx9 hy9
              go_wp2_with fail
              refine wp_ord [(0, .pure), (1, .pure), (2, .pure), (3, .pure), (4, .pure), (5, .read), (6, .pure), (7, .pure), (8, .pure), (9, .pure), (10, .read), (11, .sole), (12, .pure)] [11] (by kernel_rfl) (by kernel_rfl) (fun QQ hQ wd hwd => ?_); simp only [List.map_cons, List.map_nil, List.getD_cons_zero, List.getD_cons_succ]
              have pp0 : wd.cell? ⟨b, off + k * 2, none⟩ = some (.int .u64 (x : Int)) := by rw [hwd.out]; exact p0
              have pp1 : wd.cell? ⟨b, off + k * 2 + 1, none⟩ = some (.int .u64 (y : Int)) := by rw [hwd.out]; exact p1
              have hSd : SetI wd g g 64 v4 (addsF L (G.take k)) := hS.out.below (by rw [hwd.out]; exact (Below.refl _ _).drew) (Nat.le_refl _)
              have hbd : Below w.heap.size w wd := by rw [hwd.out]; exact hbq.drew
              have hRd : Rd wd w3.heap.size 2 (some ⟨b, off, none⟩) n3 (cels G) := by rw [hwd.out]; exact hR.out.drew
              have hsd : w3.heap.size ≤ wd.heap.size := by rw [hwd.out]; exact hsq
              have HSD := Lib.hid hSd
              have HRD := Lib.hid hRd
              clear hSd hS hbq p0 p1 hwd hR hRd hsq
              (refine o_pure (v := ?_) (by rfl) (fun w' => ?_) ?_; rotate_left; (focus (go_simp; (try with_reducible rfl))); (try simp only [Act.put, List.setIfInBounds_toArray, List.set_cons_zero, List.set_cons_succ]))
              (refine o_pure (v := ?_) (by rfl) (fun w' => ?_) ?_; rotate_left; (focus (go_simp; (try with_reducible rfl))); (try simp only [Act.put, List.setIfInBounds_toArray, List.set_cons_zero, List.set_cons_succ]))
              (refine o_pure (v := ?_) (by rfl) (fun w' => ?_) ?_; rotate_left; (focus (go_simp; (try with_reducible rfl))); (try simp only [Act.put, List.setIfInBounds_toArray, List.set_cons_zero, List.set_cons_succ]))
              (refine o_pure (v := ?_) (by rfl) (fun w' => ?_) ?_; rotate_left; (focus (go_simp; (try with_reducible rfl))); (try simp only [Act.put, List.setIfInBounds_toArray, List.set_cons_zero, List.set_cons_succ]))
              (refine o_pure (v := ?_) (by rfl) (fun w' => ?_) ?_; rotate_left; (focus (go_simp; (try with_reducible rfl))); (try simp only [Act.put, List.setIfInBounds_toArray, List.set_cons_zero, List.set_cons_succ]))
              (refine o_load _ (by rfl) rfl rfl (by assumption) (by kernel_rfl) ?_; simp only [Act.put, List.setIfInBounds_toArray, List.set_cons_zero, List.set_cons_succ])
              (refine o_pure (v := ?_) (by rfl) (fun w' => ?_) ?_; rotate_left; (focus (go_simp; (try with_reducible rfl))); (try simp only [Act.put, List.setIfInBounds_toArray, List.set_cons_zero, List.set_cons_succ]))
              (refine o_pure (v := ?_) (by rfl) (fun w' => ?_) ?_; rotate_left; (focus (go_simp; (try with_reducible rfl))); (try simp only [Act.put, List.setIfInBounds_toArray, List.set_cons_zero, List.set_cons_succ]))
              (refine o_pure (v := ?_) (by rfl) (fun w' => ?_) ?_; rotate_left; (focus (go_simp; (try with_reducible rfl))); (try simp only [Act.put, List.setIfInBounds_toArray, List.set_cons_zero, List.set_cons_succ]))
              (refine o_pure (v := ?_) (by rfl) (fun w' => ?_) ?_; rotate_left; (focus (go_simp; (try with_reducible rfl))); (try simp only [Act.put, List.setIfInBounds_toArray, List.set_cons_zero, List.set_cons_succ]))
              (refine o_load _ (by rfl) rfl rfl (by assumption) (by kernel_rfl) ?_; simp only [Act.put, List.setIfInBounds_toArray, List.set_cons_zero, List.set_cons_succ])
              refine o_sole (fun K hK => ?_)
              go_wp2_with fail
              refine (add_any g g 64 v4 _ x y wd HSD.out HXY.out.1 HXY.out.2).mono ?_
              rintro e w4 ⟨rfl, ⟨v5, hS4, hk4⟩, hb4⟩
              have hr2 : (addS 64 (addsF L (G.take k)) x y).2 = true := by rw [HROOM.out]
              have hr1 : (addS 64 (addsF L (G.take k)) x y).1 = addsF L (G.take (k + 1)) := by rw [HROOM.out, HSN.out]
              rw [hr2]
              rw [hr1] at hS4
              have HS4 := Lib.hid hS4
              have HB4 := Lib.hid (hbd.trans (by rw [← HG.out]; exact hb4))
              have HR4 := Lib.hid (HRD.out.kept hk4 hfar.out hsd)
              have HF4 := Lib.hid (hfar.out.next hk4.2.1 hsd)
              have hsz4 := Nat.le_trans hsd hk4.2.2
              clear hr1 hr2 hS4 hb4 hk4 pp0 pp1 hsd hbd HSD HRD hfar
              go_wp2_with fail
              refine hK _ _ (fun h => by cases h) ?_; clear hK K
              (refine o_pure (v := ?_) (by rfl) (fun w' => ?_) ?_; rotate_left; (focus (go_simp; (try with_reducible rfl))); (try simp only [Act.put, List.setIfInBounds_toArray, List.set_cons_zero, List.set_cons_succ]))
              refine o_nil (hQ.out _ _ ?_); clear hQ QQ
              go_wp2_with fail
              go_roundw
              case rel => exact ⟨k + 1, v5, by omega, by go_num, HS4, HR4, HF4, HB4.out, hsz4⟩
              case measure => simp [intOf]; omega
            · have hge : ¬ (k : Int) < (n3 : Int) := by omega
              have hall : G.take k = G := List.take_of_length_le (by rw [hl3.out]; omega)
              have hS5 := hS.out
              rw [hall] at hS5
              have hfa := fill_all (f := f) (t := t) HRI.out HLB.out HT.out
              rw [← HGG.out] at hfa
              have hge2 := run_ge (addsF L G) f
              obtain ⟨F, hF⟩ : ∃ F, F = addsF L G := ⟨_, rfl⟩
              rw [← hF] at hfa hge2 hS5
              obtain ⟨fa1, fa2, fa3, fa4, fa5⟩ := hfa
              have hmF := many_lt fa1 fa2 (by decide)
              have hcov : decide (t ≤ runL F f) = true := decide_eq_true (fa4 hge2)
              rw [← HM1.out, HSS.out] at fa3
              obtain ⟨mF, hmF2⟩ : ∃ mF, mF = manyL F := ⟨_, rfl⟩
              rw [← hmF2] at hmF fa3
              have ws2 := wrap_u64_lt (x := mF) hmF
              have e3 : (m1 : Int) + (s : Int) = (mF : Int) := by omega
              have ws1 : IntKind.u64.wrap ((m1 : Int) + (s : Int)) = (mF : Int) := by rw [e3, ws2]
              have HSF := Lib.hid hS5
              have HCOV := Lib.hid hcov
              have HMF := Lib.hid hmF2
              have HG0 := Lib.hid fa5
              clear hall hS5 hS hR hfar hge2 fa1 fa2 fa3 fa4 fa5 hmF hcov hmF2 hF hlt
              go_wp2_with fail
              have HSD := HSF
              have HBD := Lib.hid hbq
              clear HSF hbq hsq
              refine (covers_any g g 64 v4 F f t _ HSD.out).mono ?_
              rintro e w4 ⟨rfl, hb4⟩
              rw [HCOV.out]
              have HS4 := Lib.hid (HSD.out.below hb4 (Nat.le_refl _))
              have HB4 := Lib.hid (HBD.out.trans (hb4.mono HBD.out.size))
              clear hb4 HSD HBD
              go_wp2_with fail
              refine (many_any g g 64 v4 F w4 HS4.out).mono ?_
              rintro e w5 ⟨rfl, hb5⟩
              rw [← HMF.out]
              have HS5 := Lib.hid (HS4.out.below hb5 (Nat.le_refl _))
              have HB5 := Lib.hid (HB4.out.trans (hb5.mono HB4.out.size))
              clear hb5 HS4 HB4
              go_wp2_with fail
              refine (gaps_any g g 64 v4 F f t w5 HS5.out).mono ?_
              rintro e w6 ⟨v6, rfl, hP6, hb6⟩
              rw [HG0.out] at hP6
              obtain ⟨A6, n6, c6, rfl, _, _, hl6, _⟩ := hP6.out
              have hn6 : n6 = 0 := hl6.out.symm
              subst hn6
              have HB6 := Lib.hid (HB5.out.trans (hb6.mono HB5.out.size))
              clear hP6 hl6 hb6 HS5 HB5
              go_wp2_with fail
              refine (alive_any w6).mono ?_
              rintro e w7 ⟨rfl, hb7⟩
              have HB7 := Lib.hid (HB6.out.trans (hb7.mono HB6.out.size))
              clear hb7 HB6
              go_wp2_with fail
              go_ret
              exact ⟨rfl, HB7.out⟩
end Go.Proofs.Ytiabafnfiedlcaa
