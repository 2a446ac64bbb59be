/- Package spans: a set in memory; find, Run, Has, Covers. -/
import Derived.Test.YtnngjbieoakanaaG9InletTwice

namespace Go.Proofs.Ytnngjbieoakanaa
open Go.RowKit
set_option linter.unusedVariables false
def pmax : Nat := 18446744073709551616
/-- A set in memory. -/
structure SetI (w : World) (g B most : Nat) (v : Value) (l : List Sp) : Prop where
  blk : Blk w g 62 #[.int .i64 (most : Int), v]
  own : w.ownsRow B 71 2 v l.length (cels l)
  rise : Rise l
  bd : ∀ p ∈ l, p.2 < pmax
  len : l.length ≤ most
  ms : most ≤ 64
  bg : B ≤ g
section
variable {w w' : World} {g B most : Nat} {v : Value} {l : List Sp}
theorem SetI.c0 (h : SetI w g B most v l) : w.cell? ⟨g, 0, none⟩ = some (.int .i64 (most : Int)) := by rw [h.blk.cell]; rfl
theorem SetI.c1 (h : SetI w g B most v l) : w.cell? ⟨g, 1, none⟩ = some v := by rw [h.blk.cell]; rfl
theorem SetI.lt (h : SetI w g B most v l) : g < w.heap.size := h.blk.lt
theorem SetI.below {B' : Nat} (h : SetI w g B most v l) (hb : Below B' w w') (hB : w.heap.size ≤ B') : SetI w' g B most v l :=
  ⟨h.blk.below hb (Nat.lt_of_lt_of_le h.lt hB), own_below h.own hb fun g hg => Nat.lt_of_lt_of_le (h.own.lt g hg).2 hB, h.rise, h.bd, h.len, h.ms, h.bg⟩
theorem SetI.alloc (h : SetI w g B most v l) (o : Obj) : SetI (w.alloc o) g B most v l := h.below ((Below.refl _ _).alloc (Nat.le_refl _) _) (Nat.le_refl _)
end
set_option maxRecDepth 20000 in
set_option maxHeartbeats 1000000 in
theorem find_any (g B most : Nat) (v : Value) (l : List Sp) (f t : Nat) (w : World) (h : SetI w g B most v l) :
    Calls Try.prog 43 #[.pointer (some ⟨g, 0, none⟩), .agg #[.int .u64 (f : Int), .int .u64 (t : Int)]] w fun e w' =>
      e = .returned (.tuple #[.int .i64 (spAt l f : Int), .bool (spTouch l f t)]) ∧ Below w.heap.size w w' := by
  obtain ⟨A, c, rfl, hc, hm, hr⟩ := own_form h.own
  have h' := h.alloc (.cells #[.int .u64 (f : Int), .int .u64 (t : Int)] 71)
  have c1 := h'.c1
  have hbk := Blk.new w 71 #[.int .u64 (f : Int), .int .u64 (t : Int)]
  have tc0 : (w.alloc (.cells #[.int .u64 (f : Int), .int .u64 (t : Int)] 71)).cell? ⟨w.heap.size, 0, none⟩ = some (.int .u64 (f : Int)) := by rw [hbk.cell]; rfl
  have tc1 : (w.alloc (.cells #[.int .u64 (f : Int), .int .u64 (t : Int)] 71)).cell? ⟨w.heap.size, 1, none⟩ = some (.int .u64 (t : Int)) := by rw [hbk.cell]; rfl
  have hr' := (hr.alloc (Nat.le_refl _) (.cells #[.int .u64 (f : Int), .int .u64 (t : Int)] 71))
  have hb0 : Below w.heap.size w (w.alloc (.cells #[.int .u64 (f : Int), .int .u64 (t : Int)] 71)) := (Below.refl _ _).alloc (Nat.le_refl _) _
  have hl := h.len
  have hms := h.ms
  have HI := Lib.hid h.rise
  clear hbk h h'
  generalize hn : l.length = n at *
  go_enter Try.func43, Try.ntmps43
  clear hn
  go_wp2_with fail
  have HR := Lib.hid hr'
  have HB0 := Lib.hid hb0
  obtain ⟨T, hT⟩ : ∃ T, T = w.heap.size := ⟨_, rfl⟩
  have hB : T ≤ (w.alloc (.cells #[.int .u64 (f : Int), .int .u64 (t : Int)] 71)).heap.size := by rw [hT]; simp
  have HT := Lib.hid hT
  rw [← hT] at tc0 tc1 HR HB0 ⊢
  clear hT hr hr' hb0
  generalize w.alloc (.cells #[.int .u64 (f : Int), .int .u64 (t : Int)] 71) = W at *
  refine wp_ext (by kernel_rfl) (by kernel_rfl) (fun QQ hQ => ?_)
  (first | (refine x_load _ (by rfl) rfl rfl (by assumption) (by kernel_rfl) ?_; simp only [Act.put, List.setIfInBounds_toArray, List.set_cons_zero, List.set_cons_succ]) | (refine x_val (v := ?_) (by rfl) (fun w' hx => ?_) ?_; rotate_left; (focus (go_simp; (try with_reducible rfl))); (try simp only [Act.put, List.setIfInBounds_toArray, List.set_cons_zero, List.set_cons_succ])))
  (first | (refine x_load _ (by rfl) rfl rfl (by assumption) (by kernel_rfl) ?_; simp only [Act.put, List.setIfInBounds_toArray, List.set_cons_zero, List.set_cons_succ]) | (refine x_val (v := ?_) (by rfl) (fun w' hx => ?_) ?_; rotate_left; (focus (go_simp; (try with_reducible rfl))); (try simp only [Act.put, List.setIfInBounds_toArray, List.set_cons_zero, List.set_cons_succ])))
  (first | (refine x_load _ (by rfl) rfl rfl (by assumption) (by kernel_rfl) ?_; simp only [Act.put, List.setIfInBounds_toArray, List.set_cons_zero, List.set_cons_succ]) | (refine x_val (v := ?_) (by rfl) (fun w' hx => ?_) ?_; rotate_left; (focus (go_simp; (try with_reducible rfl))); (try simp only [Act.put, List.setIfInBounds_toArray, List.set_cons_zero, List.set_cons_succ])))
  (first | (refine x_load _ (by rfl) rfl rfl (by assumption) (by kernel_rfl) ?_; simp only [Act.put, List.setIfInBounds_toArray, List.set_cons_zero, List.set_cons_succ]) | (refine x_val (v := ?_) (by rfl) (fun w' hx => ?_) ?_; rotate_left; (focus (go_simp; (try with_reducible rfl))); (try simp only [Act.put, List.setIfInBounds_toArray, List.set_cons_zero, List.set_cons_succ])))
  refine x_loads _ [.int .u64 (f : Int), .int .u64 (t : Int)] (by rfl) rfl rfl (cells2 tc0 tc1) (Nat.succ_pos _) (by kernel_rfl) (by kernel_rfl) ?_; simp only [Act.put, List.setIfInBounds_toArray, List.set_cons_zero, List.set_cons_succ]
  refine x_call (by rfl) (fun w' hx => by go_simp) (fun w' hx => bsf_any A n c T l f t w' (HR.out.below (hx.mono hB)) (Nat.le_trans hB hx.size) HI.out (by omega)) ?_; simp only [Act.put, List.setIfInBounds_toArray, List.set_cons_zero, List.set_cons_succ]
  (first | (refine x_load _ (by rfl) rfl rfl (by assumption) (by kernel_rfl) ?_; simp only [Act.put, List.setIfInBounds_toArray, List.set_cons_zero, List.set_cons_succ]) | (refine x_val (v := ?_) (by rfl) (fun w' hx => ?_) ?_; rotate_left; (focus (go_simp; (try with_reducible rfl))); (try simp only [Act.put, List.setIfInBounds_toArray, List.set_cons_zero, List.set_cons_succ])))
  (first | (refine x_load _ (by rfl) rfl rfl (by assumption) (by kernel_rfl) ?_; simp only [Act.put, List.setIfInBounds_toArray, List.set_cons_zero, List.set_cons_succ]) | (refine x_val (v := ?_) (by rfl) (fun w' hx => ?_) ?_; rotate_left; (focus (go_simp; (try with_reducible rfl))); (try simp only [Act.put, List.setIfInBounds_toArray, List.set_cons_zero, List.set_cons_succ])))
  (first | (refine x_load _ (by rfl) rfl rfl (by assumption) (by kernel_rfl) ?_; simp only [Act.put, List.setIfInBounds_toArray, List.set_cons_zero, List.set_cons_succ]) | (refine x_val (v := ?_) (by rfl) (fun w' hx => ?_) ?_; rotate_left; (focus (go_simp; (try with_reducible rfl))); (try simp only [Act.put, List.setIfInBounds_toArray, List.set_cons_zero, List.set_cons_succ])))
  (first | (refine x_load _ (by rfl) rfl rfl (by assumption) (by kernel_rfl) ?_; simp only [Act.put, List.setIfInBounds_toArray, List.set_cons_zero, List.set_cons_succ]) | (refine x_val (v := ?_) (by rfl) (fun w' hx => ?_) ?_; rotate_left; (focus (go_simp; (try with_reducible rfl))); (try simp only [Act.put, List.setIfInBounds_toArray, List.set_cons_zero, List.set_cons_succ])))
  refine x_nil (hQ.out _ ?_); clear hQ QQ
  intro w1 hb1
  go_wp2
  go_ret2
  refine ⟨rfl, ?_⟩
  rw [← HT.out]
  exact HB0.out.trans (hb1.mono hB)
/-- Run over the pieces. -/
theorem runL_of {l : List Sp} (h : Rise l) (x : Nat) : (∀ p, l[spAt l x]? = some p → spTouch l x x = true → runL l x = p.2 ∧ x ≤ p.2) ∧ (spTouch l x x = false → runL l x = x) ∧ (spTouch l x x = true → spAt l x < l.length) := by
  have hd := spRest_drop l x
  have hR := spRest_rise (f := x) h
  have hge := spRest_ge (f := x) h
  have e : runL l x = match (spRest l x).find? fun p => decide (p.1 ≤ x) && decide (x < p.2) with | some p => p.2 | none => x := by
    unfold runL
    conv => lhs; rw [← pre_rest l x]
    rw [List.find?_append]
    have : (spPre l x).find? (fun p => decide (p.1 ≤ x) && decide (x < p.2)) = none := by
      rw [List.find?_eq_none]
      intro p hp
      have := spPre_lt p hp
      simp
      omega
    rw [this]
    rfl
  unfold spTouch
  have e2 : l[spAt l x]? = (spRest l x).head? := by rw [hd, List.head?_drop]
  rw [e, e2]
  have e3 : (spRest l x).length = l.length - spAt l x := by rw [hd, List.length_drop]
  have hnone : ∀ m : List Sp, (∀ q ∈ m, x < q.1) → m.find? (fun p => decide (p.1 ≤ x) && decide (x < p.2)) = none := by
    intro m hm
    rw [List.find?_eq_none]
    intro p hp
    have := hm p hp
    simp
    omega
  cases hs : spRest l x with
  | nil => simp
  | cons p m =>
    rw [hs] at hR hge e3
    have h1 := hge p (by simp)
    rw [List.length_cons] at e3
    simp only [List.head?_cons]
    by_cases hp : p.1 ≤ x
    · refine ⟨?_, fun hf => by simp at hf; omega, fun _ => by omega⟩
      rintro q hq -
      injection hq with hq
      subst hq
      refine ⟨?_, h1⟩
      rw [List.find?_cons]
      by_cases hx : x < p.2
      · rw [decide_eq_true hp, decide_eq_true hx]; rfl
      · rw [decide_eq_true hp, decide_eq_false hx]
        simp only [Bool.and_false]
        rw [hnone m fun q hq => by have := hR.2.1 q hq; omega]
        show x = p.2
        omega
    · refine ⟨fun q _ hf => by simp at hf; omega, ?_, fun hf => by simp at hf; omega⟩
      intro _
      rw [hnone (p :: m) fun q hq => by
        rcases List.mem_cons.1 hq with rfl | hq
        · omega
        · have := hR.2.1 q hq; have := hR.1; omega]
theorem runL_ge {l : List Sp} (h : Rise l) (x : Nat) : x ≤ runL l x := by
  unfold runL
  split
  · rename_i p hp
    have := List.find?_some hp
    simp at this
    omega
  · exact Nat.le_refl _
theorem runL_lt {l : List Sp} (hb : ∀ p ∈ l, p.2 < pmax) (x : Nat) (hx : x < pmax) : runL l x < pmax := by
  unfold runL
  split
  · rename_i p hp
    exact hb p (List.mem_of_find?_eq_some hp)
  · exact hx
set_option maxRecDepth 20000 in
set_option maxHeartbeats 1000000 in
theorem run_any (g B most : Nat) (v : Value) (l : List Sp) (x : Nat) (w : World) (h : SetI w g B most v l) :
    Calls Try.prog 38 #[.pointer (some ⟨g, 0, none⟩), .int .u64 (x : Int)] w fun e w' =>
      e = .returned (.int .u64 (runL l x : Int)) ∧ Below w.heap.size w w' := by
  obtain ⟨r1, r2, r3⟩ := runL_of h.rise x
  have hf := find_any g B most v l x x w h
  by_cases ht : spTouch l x x = true
  · have hlt := r3 ht
    have hg : l[spAt l x]? = some l[spAt l x] := List.getElem?_eq_getElem hlt
    obtain ⟨hrun, hge⟩ := r1 _ hg ht
    obtain ⟨A, c, rfl, hc, hm, hr⟩ := own_form h.own
    obtain ⟨b, off, p, q, rfl, hb, p0, p1, hp⟩ := hr.pc hlt
    have hq : runL l x = q := by
      have := hp.out
      rw [hg] at this
      injection this with this
      rw [hrun, this]
    rw [hq]
    rw [ht] at hf
    have HF := Lib.hid hf
    have c1 := h.c1
    have hgl := h.lt
    clear hf h r1 r2 r3 ht hp hr hg hrun hge hq
    generalize l.length = n at *
    generalize spAt l x = k at *
    have hkn : (k : Int) < (n : Int) := by omega
    go_enter Try.func38, Try.ntmps38
    go_wp2_with fail
    refine HF.out.mono ?_
    rintro e w1 ⟨rfl, hb1⟩
    have d1 := (hb1.cell (p := ⟨g, 1, none⟩) hgl).trans c1
    have d2 := (hb1.cell (p := ⟨b, off + k * 2 + 1, none⟩) hb).trans p1
    clear c1 p0 p1 HF
    go_wp2_with fail
    go_ret
    exact ⟨rfl, hb1⟩
  · have ht : spTouch l x x = false := by simpa using ht
    rw [r2 ht]
    rw [ht] at hf
    have HF := Lib.hid hf
    clear hf h r1 r2 r3 ht
    go_enter Try.func38, Try.ntmps38
    go_wp2_with fail
    refine HF.out.mono ?_
    rintro e w1 ⟨rfl, hb1⟩
    clear HF
    go_wp2_with fail
    go_ret
    exact ⟨rfl, hb1⟩
end Go.Proofs.Ytnngjbieoakanaa
