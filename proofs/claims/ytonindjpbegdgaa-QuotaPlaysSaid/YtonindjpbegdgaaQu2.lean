/- Package quota: Take, Give, Drop, Fair, Move. -/
import Derived.Test.YtonindjpbegdgaaQu1
namespace Go.Proofs.Ytonindjpbegdgaa
open Go.RowKit
set_option linter.unusedVariables false
set_option linter.unusedSimpArgs false
def tkOK (all each : Nat) (L : Ql) (id n : Int) : Bool := decide (0 ≤ n ∧ n ≤ (each : Int) - (ofQ L id : Nat) ∧ n ≤ (all : Int) - (usedQ L : Nat))
def tkL (all each : Nat) (L : Ql) (id n : Int) : Ql := if tkOK all each L id n then setQ L id (ofQ L id + n.toNat) else L
def gvN (L : Ql) (id n : Int) : Nat := clN 0 (ofQ L id) n
def gvL (L : Ql) (id n : Int) : Ql := setQ L id (ofQ L id - gvN L id n)
def mvOK (each : Nat) (L : Ql) (a b n : Int) : Bool := decide (0 ≤ n ∧ n ≤ (ofQ L a : Nat) ∧ (a = b ∨ n ≤ (each : Int) - (ofQ L b : Nat)))
def mvL (each : Nat) (L : Ql) (a b n : Int) : Ql := if mvOK each L a b n then (if a = b then L else setQ (setQ L a (ofQ L a - n.toNat)) b (ofQ L b + n.toNat)) else L
def frN (all each : Nat) (n : Int) : Nat := if n < 1 then 0 else min (all / n.toNat) each
theorem QB.set_ {all each : Nat} {L : Ql} (h : QB all each L) (hd : QD L) (id : Int) (n : Nat) (hn : n ≤ each) (hu : usedQ L + n ≤ all + ofQ L id) (hl : L.length < 8000) : QB all each (setQ L id n) where
  ma := h.ma
  me := h.me
  used := by have := usedQ_setQ hd id n; omega
  own k := by rw [ofQ_setQ]; split; exact hn; exact h.own k
  len := by have := len_setQ hd id n; split at this <;> split at this <;> omega
theorem len_set_le {L : Ql} (hd : QD L) (id : Int) (n : Nat) : (setQ L id n).length ≤ L.length + 1 := by have := len_setQ hd id n; split at this <;> split at this <;> omega
theorem len_set_ge {L : Ql} (hd : QD L) (id : Int) (n : Nat) : L.length ≤ (setQ L id n).length + 1 := by have := len_setQ hd id n; split at this <;> split at this <;> omega
theorem QB.take {all each : Nat} {L : Ql} (h : QB all each L) (hd : QD L) (id n : Int) (hl : L.length < 8000) : QB all each (tkL all each L id n) := by
  unfold tkL
  split
  · rename_i hok
    have hok := of_decide_eq_true hok
    exact h.set_ hd id _ (by have := h.own id; omega) (by have := h.used; omega) hl
  · exact h
theorem QD.take {all each : Nat} {L : Ql} (hd : QD L) (id n : Int) : QD (tkL all each L id n) := by unfold tkL; split; exact hd.set _ _; exact hd
theorem len_take {all each : Nat} {L : Ql} (hd : QD L) (id n : Int) : (tkL all each L id n).length ≤ L.length + 1 := by unfold tkL; split; exact len_set_le hd _ _; omega
theorem gvN_le (L : Ql) (id n : Int) : gvN L id n ≤ ofQ L id := clN_le (Nat.zero_le _) n
theorem QB.give {all each : Nat} {L : Ql} (h : QB all each L) (hd : QD L) (id n : Int) (hl : L.length < 8000) : QB all each (gvL L id n) :=
  h.set_ hd id _ (by have := h.own id; omega) (by have := h.used; have := gvN_le L id n; omega) hl
theorem QD.give {L : Ql} (hd : QD L) (id n : Int) : QD (gvL L id n) := hd.set _ _
theorem len_give {L : Ql} (hd : QD L) (id n : Int) : (gvL L id n).length ≤ L.length + 1 := len_set_le hd _ _
theorem QD.move {each : Nat} {L : Ql} (hd : QD L) (a b n : Int) : QD (mvL each L a b n) := by
  unfold mvL
  split
  · split
    · exact hd
    · exact (hd.set _ _).set _ _
  · exact hd
theorem move1 {L : Ql} (hd : QD L) {a b : Int} (hab : a ≠ b) {n : Nat} (hn : n ≤ ofQ L a) : ofQ (setQ L a (ofQ L a - n)) b = ofQ L b ∧ usedQ (setQ L a (ofQ L a - n)) + n = usedQ L := by
  refine ⟨by rw [ofQ_setQ, if_neg (fun e => hab e.symm)], ?_⟩
  have := usedQ_setQ hd a (ofQ L a - n)
  omega
theorem QB.move {all each : Nat} {L : Ql} (h : QB all each L) (hd : QD L) (a b n : Int) (hl : L.length + 1 < 8000) : QB all each (mvL each L a b n) := by
  unfold mvL
  split
  · rename_i hok
    have hok := of_decide_eq_true hok
    split
    · exact h
    · rename_i hab
      obtain ⟨h1, h2⟩ := move1 hd (n := n.toNat) hab (by omega)
      have q1 := h.set_ hd a (ofQ L a - n.toNat) (by have := h.own a; omega) (by have := h.used; omega) (by omega)
      refine q1.set_ (hd.set _ _) b _ (by have := hok.2.2; omega) (by rw [h1]; have := h.used; omega) (by have := len_set_le hd a (ofQ L a - n.toNat); omega)
  · exact h
theorem len_move {each : Nat} {L : Ql} (hd : QD L) (a b n : Int) : (mvL each L a b n).length ≤ L.length + 2 := by
  unfold mvL
  split
  · split
    · omega
    · have := len_set_le hd a (ofQ L a - n.toNat)
      have := len_set_le (hd.set a (ofQ L a - n.toNat)) b (ofQ L b + n.toNat)
      omega
  · omega
/-- Other lists that say the same. -/
theorem MapQ.as {w : World} {b : Nat} {L M : Ql} (h : MapQ w b L) (hf : ∀ id, ofQ M id = ofQ L id) (hl : M.length = L.length) (hd : QD M) : MapQ w b M := by
  obtain ⟨D, h1, h2, h3, h4, _, h6⟩ := h
  exact ⟨D, h1, h2, h3.trans hl.symm, by omega, hd, fun id hi => by rw [hf]; exact h6 id hi⟩
theorem back_set {L : Ql} (hd : QD L) (a : Int) (n : Nat) : (∀ id, ofQ L id = ofQ (setQ (setQ L a n) a (ofQ L a)) id) ∧ L.length = (setQ (setQ L a n) a (ofQ L a)).length ∧ usedQ L = usedQ (setQ (setQ L a n) a (ofQ L a)) := by
  refine ⟨fun id => ?_, ?_, ?_⟩
  · rw [ofQ_setQ, ofQ_setQ]
    by_cases e : id = a
    · rw [if_pos e, e]
    · rw [if_neg e, if_neg e]
  · have h1 := len_setQ hd a n
    have h2 := len_setQ (hd.set a n) a (ofQ L a)
    rw [ofQ_setQ, if_pos rfl] at h2
    split at h1 <;> split at h2 <;> split at h1 <;> omega
  · have h1 := usedQ_setQ hd a n
    have h2 := usedQ_setQ (hd.set a n) a (ofQ L a)
    rw [ofQ_setQ, if_pos rfl] at h2
    omega
theorem Tw.blkG {g mb : Nat} {w w' : World} : True := trivial
theorem PoolW.qd {w : World} {g mb all each : Nat} {L : Ql} (h : PoolW w g mb all each L) : QD L := h.map.qd
theorem PoolW.c0 {w : World} {g mb all each : Nat} {L : Ql} (h : PoolW w g mb all each L) : w.cell? ⟨g, 0, none⟩ = some (.int .i64 (all : Nat)) := by rw [h.blk.cell]; rfl
theorem PoolW.c1 {w : World} {g mb all each : Nat} {L : Ql} (h : PoolW w g mb all each L) : w.cell? ⟨g, 1, none⟩ = some (.int .i64 (each : Nat)) := by rw [h.blk.cell]; rfl
theorem PoolW.c2 {w : World} {g mb all each : Nat} {L : Ql} (h : PoolW w g mb all each L) : w.cell? ⟨g, 2, none⟩ = some (.int .i64 (usedQ L : Nat)) := by rw [h.blk.cell]; rfl
set_option maxRecDepth 20000 in
set_option maxHeartbeats 4000000 in
theorem qu_take (g mb all each : Nat) (L : Ql) (id n : Int) (w : World) (h : PoolW w g mb all each L) (hq : QB all each L) (hi : I64 id) (hn : I64 n) :
    Calls Try.prog 14 #[.pointer (some ⟨g, 0, none⟩), .int .i64 id, .int .i64 n] w fun e w' => e = .returned (.bool (tkOK all each L id n)) ∧ PoolW w' g mb all each (tkL all each L id n) ∧ Tw g mb w w' := by
  have CL := Lib.hid (fun w' (hb : Below w.heap.size w w') => qu_left g mb all each L id w' (h.into hb) hq hi)
  have CO := Lib.hid (fun w' (hb : Below w.heap.size w w') => qu_of g mb all each L id w' (h.into hb) hi)
  have CS := Lib.hid (fun t w' (hb : Below w.heap.size w w') (ht : t ≤ 4294967296) => qu_set g mb all each L id t w' (h.into hb) hq hi ht)
  have H := Lib.hid h
  have c0 := h.c0
  have c2 := h.c2
  have hv1 := hq.own id
  have hme := hq.me
  have hma := hq.ma
  have hus := hq.used
  obtain ⟨v, hv⟩ : ∃ v, v = ofQ L id := ⟨_, rfl⟩
  obtain ⟨u, hu⟩ : ∃ u, u = usedQ L := ⟨_, rfl⟩
  have HV := Lib.hid hv
  have HU := Lib.hid hu
  rw [← hv] at CL CO hv1
  rw [← hu] at c2 hus
  obtain ⟨d, hd⟩ : ∃ d, d = each - v := ⟨_, rfl⟩
  rw [← hd] at CL
  obtain ⟨r, hr⟩ : ∃ r, r = all - u := ⟨_, rfl⟩
  have hri : (all : Int) - (u : Int) = (r : Nat) := by omega
  have hwr : IntKind.i64.wrap (r : Int) = (r : Nat) := by rw [IntKind.wrap_i64]; omega
  have HD := Lib.hid hd
  have HR := Lib.hid hr
  have hv1' := Lib.hid hv1
  have hus' := Lib.hid hus
  have hdb : d ≤ 1073741824 := by omega
  have hrb : r ≤ 1073741824 := by omega
  have hvb : v ≤ 1073741824 := by omega
  clear h hq hi hv hu hd hr hv1 hus hme hma hn
  by_cases h0 : n < 0
  · have HOK := Lib.hid (show tkOK all each L id n = false from decide_eq_false (by rw [← HV.out, ← HU.out]; have := HD.out; have := HR.out; omega))
    have HTL := Lib.hid (show tkL all each L id n = L by unfold tkL; rw [HOK.out]; rfl)
    go_enter Try.func14, Try.ntmps14
    go_upto_region 1 with fail
    refine wp_ext (by kernel_rfl) (by kernel_rfl) (fun QQ hQ => ?_)
    iterate 22 (first | (refine x_skip (by rfl) ?_; simp only [Act.put, List.setIfInBounds_toArray, List.set_cons_zero, List.set_cons_succ]) | (first | (refine x_load _ (by rfl) rfl rfl (by assumption) (by kernel_rfl) ?_; simp only [Act.put, List.setIfInBounds_toArray, List.set_cons_zero, List.set_cons_succ]) | (refine x_val (v := ?_) (by rfl) (fun w' hx => ?_) ?_; rotate_left; (focus (go_simp; (try with_reducible rfl))); (try simp only [Act.put, List.setIfInBounds_toArray, List.set_cons_zero, List.set_cons_succ]))))
    refine x_nil (hQ.out _ ?_); clear hQ QQ
    intro w9 hb9
    have B9 := Lib.hid hb9
    clear hb9
    go_wp2_with fail
    go_ret
    rw [HOK.out, HTL.out]
    exact ⟨rfl, H.out.into B9.out, Tw.of_below B9.out⟩
  obtain ⟨m, rfl⟩ : ∃ m : Nat, n = (m : Int) := ⟨n.toNat, by omega⟩
  by_cases h1 : d < m
  · have h1' : (d : Int) < (m : Int) := by omega
    have HOK := Lib.hid (show tkOK all each L id (m : Int) = false from decide_eq_false (by rw [← HV.out, ← HU.out]; have := HD.out; have := HR.out; omega))
    have HTL := Lib.hid (show tkL all each L id (m : Int) = L by unfold tkL; rw [HOK.out]; rfl)
    go_enter Try.func14, Try.ntmps14
    go_upto_region 1 with fail
    refine wp_ext (by kernel_rfl) (by kernel_rfl) (fun QQ hQ => ?_)
    iterate 6 (first | (refine x_skip (by rfl) ?_; simp only [Act.put, List.setIfInBounds_toArray, List.set_cons_zero, List.set_cons_succ]) | (first | (refine x_load _ (by rfl) rfl rfl (by assumption) (by kernel_rfl) ?_; simp only [Act.put, List.setIfInBounds_toArray, List.set_cons_zero, List.set_cons_succ]) | (refine x_val (v := ?_) (by rfl) (fun w' hx => ?_) ?_; rotate_left; (focus (go_simp; (try with_reducible rfl))); (try simp only [Act.put, List.setIfInBounds_toArray, List.set_cons_zero, List.set_cons_succ]))))
    refine x_call (by rfl) (fun w' hx => by go_simp) (fun w' hx => CL.out w' hx) ?_; simp only [Act.put, List.setIfInBounds_toArray, List.set_cons_zero, List.set_cons_succ]
    iterate 15 (first | (refine x_skip (by rfl) ?_; simp only [Act.put, List.setIfInBounds_toArray, List.set_cons_zero, List.set_cons_succ]) | (first | (refine x_load _ (by rfl) rfl rfl (by assumption) (by kernel_rfl) ?_; simp only [Act.put, List.setIfInBounds_toArray, List.set_cons_zero, List.set_cons_succ]) | (refine x_val (v := ?_) (by rfl) (fun w' hx => ?_) ?_; rotate_left; (focus (go_simp; (try with_reducible rfl))); (try simp only [Act.put, List.setIfInBounds_toArray, List.set_cons_zero, List.set_cons_succ]))))
    refine x_nil (hQ.out _ ?_); clear hQ QQ
    intro w9 hb9
    have B9 := Lib.hid hb9
    clear hb9
    go_wp2_with fail
    go_ret
    rw [HOK.out, HTL.out]
    exact ⟨rfl, H.out.into B9.out, Tw.of_below B9.out⟩
  have h1' : ¬ (d : Int) < (m : Int) := by omega
  by_cases h2 : r < m
  · have h2' : (r : Int) < (m : Int) := by omega
    have HOK := Lib.hid (show tkOK all each L id (m : Int) = false from decide_eq_false (by rw [← HV.out, ← HU.out]; have := HD.out; have := HR.out; omega))
    have HTL := Lib.hid (show tkL all each L id (m : Int) = L by unfold tkL; rw [HOK.out]; rfl)
    go_enter Try.func14, Try.ntmps14
    go_upto_region 1 with fail
    refine wp_ext (by kernel_rfl) (by kernel_rfl) (fun QQ hQ => ?_)
    iterate 6 (first | (refine x_skip (by rfl) ?_; simp only [Act.put, List.setIfInBounds_toArray, List.set_cons_zero, List.set_cons_succ]) | (first | (refine x_load _ (by rfl) rfl rfl (by assumption) (by kernel_rfl) ?_; simp only [Act.put, List.setIfInBounds_toArray, List.set_cons_zero, List.set_cons_succ]) | (refine x_val (v := ?_) (by rfl) (fun w' hx => ?_) ?_; rotate_left; (focus (go_simp; (try with_reducible rfl))); (try simp only [Act.put, List.setIfInBounds_toArray, List.set_cons_zero, List.set_cons_succ]))))
    refine x_call (by rfl) (fun w' hx => by go_simp) (fun w' hx => CL.out w' hx) ?_; simp only [Act.put, List.setIfInBounds_toArray, List.set_cons_zero, List.set_cons_succ]
    iterate 12 (first | (refine x_skip (by rfl) ?_; simp only [Act.put, List.setIfInBounds_toArray, List.set_cons_zero, List.set_cons_succ]) | (first | (refine x_load _ (by rfl) rfl rfl (by assumption) (by kernel_rfl) ?_; simp only [Act.put, List.setIfInBounds_toArray, List.set_cons_zero, List.set_cons_succ]) | (refine x_val (v := ?_) (by rfl) (fun w' hx => ?_) ?_; rotate_left; (focus (go_simp; (try with_reducible rfl))); (try simp only [Act.put, List.setIfInBounds_toArray, List.set_cons_zero, List.set_cons_succ]))))
    refine x_val (v := .int .i64 (r : Nat)) (by rfl) (fun w' hx => by go_simp; (try simp only [hri, hwr]); (try with_reducible rfl)) ?_
    (try simp only [Act.put, List.setIfInBounds_toArray, List.set_cons_zero, List.set_cons_succ])
    iterate 2 (first | (refine x_skip (by rfl) ?_; simp only [Act.put, List.setIfInBounds_toArray, List.set_cons_zero, List.set_cons_succ]) | (first | (refine x_load _ (by rfl) rfl rfl (by assumption) (by kernel_rfl) ?_; simp only [Act.put, List.setIfInBounds_toArray, List.set_cons_zero, List.set_cons_succ]) | (refine x_val (v := ?_) (by rfl) (fun w' hx => ?_) ?_; rotate_left; (focus (go_simp; (try with_reducible rfl))); (try simp only [Act.put, List.setIfInBounds_toArray, List.set_cons_zero, List.set_cons_succ]))))
    refine x_nil (hQ.out _ ?_); clear hQ QQ
    intro w9 hb9
    have B9 := Lib.hid hb9
    clear hb9
    go_wp2_with fail
    go_ret
    rw [HOK.out, HTL.out]
    exact ⟨rfl, H.out.into B9.out, Tw.of_below B9.out⟩
  · have h2' : ¬ (r : Int) < (m : Int) := by omega
    have HOK := Lib.hid (show tkOK all each L id (m : Int) = true from decide_eq_true (by rw [← HV.out, ← HU.out]; have := HD.out; have := HR.out; have := hv1'.out; have := hus'.out; omega))
    obtain ⟨t, ht⟩ : ∃ t, t = v + m := ⟨_, rfl⟩
    have hti : (v : Int) + (m : Int) = (t : Nat) := by omega
    have htb : t ≤ 4294967296 := by omega
    have HTL := Lib.hid (show tkL all each L id (m : Int) = setQ L id t by unfold tkL; rw [HOK.out, if_pos rfl, ht, HV.out]; rfl)
    clear ht
    go_enter Try.func14, Try.ntmps14
    go_upto_region 1 with fail
    refine wp_ext (by kernel_rfl) (by kernel_rfl) (fun QQ hQ => ?_)
    iterate 6 (first | (refine x_skip (by rfl) ?_; simp only [Act.put, List.setIfInBounds_toArray, List.set_cons_zero, List.set_cons_succ]) | (first | (refine x_load _ (by rfl) rfl rfl (by assumption) (by kernel_rfl) ?_; simp only [Act.put, List.setIfInBounds_toArray, List.set_cons_zero, List.set_cons_succ]) | (refine x_val (v := ?_) (by rfl) (fun w' hx => ?_) ?_; rotate_left; (focus (go_simp; (try with_reducible rfl))); (try simp only [Act.put, List.setIfInBounds_toArray, List.set_cons_zero, List.set_cons_succ]))))
    refine x_call (by rfl) (fun w' hx => by go_simp) (fun w' hx => CL.out w' hx) ?_; simp only [Act.put, List.setIfInBounds_toArray, List.set_cons_zero, List.set_cons_succ]
    iterate 12 (first | (refine x_skip (by rfl) ?_; simp only [Act.put, List.setIfInBounds_toArray, List.set_cons_zero, List.set_cons_succ]) | (first | (refine x_load _ (by rfl) rfl rfl (by assumption) (by kernel_rfl) ?_; simp only [Act.put, List.setIfInBounds_toArray, List.set_cons_zero, List.set_cons_succ]) | (refine x_val (v := ?_) (by rfl) (fun w' hx => ?_) ?_; rotate_left; (focus (go_simp; (try with_reducible rfl))); (try simp only [Act.put, List.setIfInBounds_toArray, List.set_cons_zero, List.set_cons_succ]))))
    refine x_val (v := .int .i64 (r : Nat)) (by rfl) (fun w' hx => by go_simp; (try simp only [hri, hwr]); (try with_reducible rfl)) ?_
    (try simp only [Act.put, List.setIfInBounds_toArray, List.set_cons_zero, List.set_cons_succ])
    iterate 2 (first | (refine x_skip (by rfl) ?_; simp only [Act.put, List.setIfInBounds_toArray, List.set_cons_zero, List.set_cons_succ]) | (first | (refine x_load _ (by rfl) rfl rfl (by assumption) (by kernel_rfl) ?_; simp only [Act.put, List.setIfInBounds_toArray, List.set_cons_zero, List.set_cons_succ]) | (refine x_val (v := ?_) (by rfl) (fun w' hx => ?_) ?_; rotate_left; (focus (go_simp; (try with_reducible rfl))); (try simp only [Act.put, List.setIfInBounds_toArray, List.set_cons_zero, List.set_cons_succ]))))
    refine x_nil (hQ.out _ ?_); clear hQ QQ
    intro w9 hb9
    have B9 := Lib.hid hb9
    clear hb9 c0 c2
    go_wp2_with fail
    refine (CO.out _ B9.out).mono ?_
    rintro e w2 ⟨rfl, rfl⟩
    go_wp2_with fail
    refine (CS.out t _ B9.out htb).mono ?_
    rintro e w3 ⟨rfl, h3, t3⟩
    have H3 := Lib.hid h3
    have T3 := Lib.hid t3
    clear h3 t3
    go_wp2_with fail
    go_ret
    rw [HOK.out, HTL.out]
    exact ⟨rfl, H3.out, (Tw.of_below B9.out).trans T3.out⟩
end Go.Proofs.Ytonindjpbegdgaa
