/- Package spans: the binary search, find. -/
import Derived.Test.YtnngjbieoakanaaG8InletTwice

namespace Go.Proofs.Ytnngjbieoakanaa
open Go.RowKit
set_option linter.unusedVariables false
def spTouch (l : List Sp) (f t : Nat) : Bool := match (spRest l f).head? with | some p => decide (p.1 ≤ t) | none => false
theorem spPre_take (l : List Sp) (f : Nat) : spPre l f = l.take (spAt l f) := by
  have h : (spPre l f ++ spRest l f).take (spPre l f).length = spPre l f := List.take_left
  rw [pre_rest] at h
  exact h.symm
theorem spRest_drop (l : List Sp) (f : Nat) : spRest l f = l.drop (spAt l f) := by
  have h : (spPre l f ++ spRest l f).drop (spPre l f).length = spRest l f := List.drop_left
  rw [pre_rest] at h
  exact h.symm
theorem spAt_le (l : List Sp) (f : Nat) : spAt l f ≤ l.length := by
  have h := congrArg List.length (pre_rest l f)
  rw [List.length_append] at h
  unfold spAt
  omega
theorem spAt_of {l : List Sp} {f i : Nat} (hi : i ≤ l.length) (h1 : ∀ k p, k < i → l[k]? = some p → p.2 < f) (h2 : ∀ p, l[i]? = some p → f ≤ p.2) : spAt l f = i := by
  induction l generalizing i with
  | nil => simp at hi; subst hi; rfl
  | cons q l ih =>
    unfold spAt spPre
    rw [List.takeWhile_cons]
    cases i with
    | zero =>
      have := h2 q rfl
      rw [if_neg (by simp; omega)]
      rfl
    | succ i =>
      have h0 := h1 0 q (by omega) rfl
      rw [if_pos (by simpa using h0), List.length_cons]
      congr 1
      exact ih (by simpa using hi) (fun k p hk hp => h1 (k + 1) p (by omega) (by simpa using hp)) (fun p hp => h2 p (by simpa using hp))
theorem rise_get {l : List Sp} (h : Rise l) {i j : Nat} {p q : Sp} (hij : i < j) (hp : l[i]? = some p) (hq : l[j]? = some q) : p.2 < q.1 := by
  induction l generalizing i j with
  | nil => simp at hp
  | cons a l ih =>
    obtain ⟨j', rfl⟩ : ∃ j', j = j' + 1 := ⟨j - 1, by omega⟩
    rw [List.getElem?_cons_succ] at hq
    cases i with
    | zero =>
      simp at hp
      subst hp
      exact h.2.1 q (List.mem_of_getElem? hq)
    | succ i => exact ih h.2.2 (i := i) (j := j') (by omega) (by simpa using hp) hq
theorem rise_pos {l : List Sp} (h : Rise l) {i : Nat} {p : Sp} (hp : l[i]? = some p) : p.1 < p.2 := h.pos p (List.mem_of_getElem? hp)
theorem spTouch_of {l : List Sp} {f t i : Nat} (e : spAt l f = i) : (∀ p, l[i]? = some p → spTouch l f t = decide (p.1 ≤ t)) ∧ (l.length ≤ i → spTouch l f t = false) := by
  subst e
  unfold spTouch
  rw [spRest_drop, List.head?_drop]
  exact ⟨fun p hp => by rw [hp], fun h => by rw [List.getElem?_eq_none h]⟩
/-- What the search holds of its bounds. -/
def Srch (l : List Sp) (f i j : Nat) : Prop := (∀ k p, k < i → l[k]? = some p → p.2 < f) ∧ ∀ k p, j ≤ k → l[k]? = some p → f ≤ p.2
theorem Srch.up {l : List Sp} {f i j h x y : Nat} (hr : Rise l) (s : Srch l f i j) (hx : l[h]? = some (x, y)) (hy : y < f) : Srch l f (h + 1) j := by
  refine ⟨fun k p hk hp => ?_, s.2⟩
  by_cases e : k = h
  · subst e
    rw [hx] at hp
    injection hp with hp
    subst hp
    exact hy
  · have h1 := rise_get hr (show k < h by omega) hp hx
    have h2 := rise_pos hr hx
    dsimp only at h1 h2
    omega
theorem Srch.down {l : List Sp} {f i j h x y : Nat} (hr : Rise l) (s : Srch l f i j) (hx : l[h]? = some (x, y)) (hy : ¬ y < f) : Srch l f i h := by
  refine ⟨s.1, fun k p hk hp => ?_⟩
  by_cases e : k = h
  · subst e
    rw [hx] at hp
    injection hp with hp
    subst hp
    dsimp only
    omega
  · have h1 := rise_get hr (show h < k by omega) hx hp
    have h2 := rise_pos hr hp
    dsimp only at h1
    omega
theorem Srch.at_ {l : List Sp} {f i : Nat} (s : Srch l f i i) (hi : i ≤ l.length) : spAt l f = i := spAt_of hi s.1 fun p hp => s.2 i p (Nat.le_refl _) hp
theorem cells2 {w : World} {b off u v : Nat} (h1 : w.cell? ⟨b, off, none⟩ = some (.int .u64 (u : Int))) (h2 : w.cell? ⟨b, off + 1, none⟩ = some (.int .u64 (v : Int))) :
    ∀ j x, [Value.int .u64 (u : Int), .int .u64 (v : Int)][j]? = some x → w.cell? ⟨b, off + j, none⟩ = some x := by
  intro j x hj
  match j with
  | 0 => simp at hj; subst hj; exact h1
  | 1 => simp at hj; subst hj; exact h2
  | j + 2 => simp at hj
set_option maxHeartbeats 4000000 in
set_option maxRecDepth 20000 in
theorem bsf_any (A : Option Addr) (n c B : Nat) (l : List Sp) (f t : Nat) (w : World) (h : Rd w B 2 A n (cels l)) (hB : B ≤ w.heap.size) (hr : Rise l) (hn : n ≤ 1000000) :
    Calls Try.prog 50 #[.slice A n c, .agg #[.int .u64 (f : Int), .int .u64 (t : Int)], .func (.func 51) #[] #[]] w fun e w' =>
      e = .returned (.tuple #[.int .i64 (spAt l f : Int), .bool (spTouch l f t)]) ∧ Below w.heap.size w w' := by
  have HR := Lib.hid h
  have HI := Lib.hid hr
  have HL := Lib.hid h.pcLen
  clear h hr
  go_enter Try.func50, Try.ntmps50
  go_wp2_with fail
  have hT : w.heap.size < (w.alloc (.cells #[.int .u64 (f : Int), .int .u64 (t : Int)] 71)).heap.size := by simp
  have hb0 : Below w.heap.size w (w.alloc (.cells #[.int .u64 (f : Int), .int .u64 (t : Int)] 71)) := (Below.refl _ _).alloc (Nat.le_refl _) _
  have hbk := Blk.new w 71 #[.int .u64 (f : Int), .int .u64 (t : Int)]
  have tc0 : (w.alloc (.cells #[.int .u64 (f : Int), .int .u64 (t : Int)] 71)).cell? ⟨w.heap.size, 0, none⟩ = some (.int .u64 (f : Int)) := by rw [hbk.cell]; rfl
  have tc1 : (w.alloc (.cells #[.int .u64 (f : Int), .int .u64 (t : Int)] 71)).cell? ⟨w.heap.size, 1, none⟩ = some (.int .u64 (t : Int)) := by rw [hbk.cell]; rfl
  have hR := (HR.out.below (hb0.mono hB)).mono (Nat.le_trans hB (Nat.le_of_lt hT))
  have HR' := Lib.hid hR
  clear hR HR hbk hB
  generalize w.alloc (.cells #[.int .u64 (f : Int), .int .u64 (t : Int)] 71) = W at hT hb0 tc0 tc1 HR' ⊢
  have HB0 := Lib.hid hb0
  have HT1 := Lib.hid tc0
  have HT2 := Lib.hid tc1
  clear hb0 tc0 tc1
  obtain ⟨T, hTe⟩ : ∃ T, T = w.heap.size := ⟨_, rfl⟩
  rw [← hTe] at hT HT1 HT2 HB0 ⊢
  have HTE := Lib.hid hTe
  clear hTe
  go_loopw [9, 10] (fun iv jv wr => ∃ i j : Nat, i ≤ j ∧ j ≤ n ∧ iv = .int .i64 i ∧ jv = .int .i64 j ∧ Hid (Srch l f i j) ∧ Below W.heap.size W wr) (fun iv jv _ => (intOf jv - intOf iv).toNat)
  case atStart => exact ⟨0, n, Nat.zero_le _, Nat.le_refl _, rfl, rfl, Lib.hid ⟨fun k p hk => absurd hk (Nat.not_lt_zero _), fun k p hk hp => by rw [List.getElem?_eq_none (by rw [HL.out]; exact hk)] at hp; cases hp⟩, Below.refl _ _⟩
  case round =>
    obtain ⟨i, j, hij, hjn, rfl, rfl, hs, hbw⟩ := hrel
    have c0 := (hbw.cell (p := ⟨T, 0, none⟩) hT).trans HT1.out
    have c1 := (hbw.cell (p := ⟨T, 1, none⟩) hT).trans HT2.out
    by_cases hlt : i < j
    · have hrd := (HR'.out.below hbw).mono hbw.size
      obtain ⟨h, hh⟩ : ∃ h, h = (i + j) / 2 := ⟨_, rfl⟩
      have e1 : ((i : Int) + (j : Int)) / 2 = (h : Int) := by omega
      have hh1 : i ≤ h := by omega
      have hh2 : h < j := by omega
      clear hh
      have hhn : h < n := by omega
      have hhn' : (h : Int) < (n : Int) := by omega
      obtain ⟨b, off, x, y, e, hb, p0, p1, hx⟩ := hrd.pc hhn
      subst e
      have HX := hx
      have hcm := cmp_any x y f t
      by_cases hc : y < f
      · have hcs : cmpS (x, y) (f, t) = -1 := if_pos hc
        rw [hcs] at hcm
        have HC := Lib.hid hcm
        have hsu := Lib.hid (hs.out.up HI.out hx.out hc)
        clear hcs hcm
        go_wp2_with fail
        refine wp_ext (by kernel_rfl) (by kernel_rfl) (fun QQ hQ => ?_)
        (first | (refine x_load _ (by rfl) rfl rfl (by assumption) (by kernel_rfl) ?_; simp only [Act.put, List.setIfInBounds_toArray, List.set_cons_zero, List.set_cons_succ]) | (refine x_val (v := ?_) (by rfl) (fun w' hx => ?_) ?_; rotate_left; (focus (go_simp; (try with_reducible rfl))); (try simp only [Act.put, List.setIfInBounds_toArray, List.set_cons_zero, List.set_cons_succ])))
        (first | (refine x_load _ (by rfl) rfl rfl (by assumption) (by kernel_rfl) ?_; simp only [Act.put, List.setIfInBounds_toArray, List.set_cons_zero, List.set_cons_succ]) | (refine x_val (v := ?_) (by rfl) (fun w' hx => ?_) ?_; rotate_left; (focus (go_simp; (try with_reducible rfl))); (try simp only [Act.put, List.setIfInBounds_toArray, List.set_cons_zero, List.set_cons_succ])))
        (first | (refine x_load _ (by rfl) rfl rfl (by assumption) (by kernel_rfl) ?_; simp only [Act.put, List.setIfInBounds_toArray, List.set_cons_zero, List.set_cons_succ]) | (refine x_val (v := ?_) (by rfl) (fun w' hx => ?_) ?_; rotate_left; (focus (go_simp; (try with_reducible rfl))); (try simp only [Act.put, List.setIfInBounds_toArray, List.set_cons_zero, List.set_cons_succ])))
        (first | (refine x_load _ (by rfl) rfl rfl (by assumption) (by kernel_rfl) ?_; simp only [Act.put, List.setIfInBounds_toArray, List.set_cons_zero, List.set_cons_succ]) | (refine x_val (v := ?_) (by rfl) (fun w' hx => ?_) ?_; rotate_left; (focus (go_simp; (try with_reducible rfl))); (try simp only [Act.put, List.setIfInBounds_toArray, List.set_cons_zero, List.set_cons_succ])))
        refine x_loads _ [.int .u64 (x : Int), .int .u64 (y : Int)] (by rfl) rfl rfl (cells2 p0 p1) (Nat.succ_pos _) (by kernel_rfl) (by kernel_rfl) ?_; simp only [Act.put, List.setIfInBounds_toArray, List.set_cons_zero, List.set_cons_succ]
        refine x_loads _ [.int .u64 (f : Int), .int .u64 (t : Int)] (by rfl) rfl rfl (cells2 c0 c1) (Nat.succ_pos _) (by kernel_rfl) (by kernel_rfl) ?_; simp only [Act.put, List.setIfInBounds_toArray, List.set_cons_zero, List.set_cons_succ]
        refine x_call (by rfl) (fun w' hx => by go_simp) (fun w' hx => HC.out w') ?_; simp only [Act.put, List.setIfInBounds_toArray, List.set_cons_zero, List.set_cons_succ]
        (first | (refine x_load _ (by rfl) rfl rfl (by assumption) (by kernel_rfl) ?_; simp only [Act.put, List.setIfInBounds_toArray, List.set_cons_zero, List.set_cons_succ]) | (refine x_val (v := ?_) (by rfl) (fun w' hx => ?_) ?_; rotate_left; (focus (go_simp; (try with_reducible rfl))); (try simp only [Act.put, List.setIfInBounds_toArray, List.set_cons_zero, List.set_cons_succ])))
        refine x_nil (hQ.out _ ?_); clear hQ QQ
        intro w1 hb1
        have hbw1 := hbw.trans (hb1.mono hbw.size)
        clear hb1 hbw HC c0 c1 p0 p1
        go_wp2_with fail
        go_roundw
        case rel => exact ⟨h + 1, j, by omega, hjn, by go_num, rfl, hsu, hbw1⟩
        case measure => simp [intOf]; omega
      · have hcs : (decide (cmpS (x, y) (f, t) < 0)) = false := by
          unfold cmpS
          rw [if_neg hc]
          split <;> rfl
        have hsd := Lib.hid (hs.out.down HI.out hx.out hc)
        generalize cmpS (x, y) (f, t) = v at hcm hcs
        have hcs' : (0 : Int) ≤ v := by simpa using hcs
        have HC := Lib.hid hcm
        clear hcm
        go_wp2_with fail
        refine wp_ext (by kernel_rfl) (by kernel_rfl) (fun QQ hQ => ?_)
        (first | (refine x_load _ (by rfl) rfl rfl (by assumption) (by kernel_rfl) ?_; simp only [Act.put, List.setIfInBounds_toArray, List.set_cons_zero, List.set_cons_succ]) | (refine x_val (v := ?_) (by rfl) (fun w' hx => ?_) ?_; rotate_left; (focus (go_simp; (try with_reducible rfl))); (try simp only [Act.put, List.setIfInBounds_toArray, List.set_cons_zero, List.set_cons_succ])))
        (first | (refine x_load _ (by rfl) rfl rfl (by assumption) (by kernel_rfl) ?_; simp only [Act.put, List.setIfInBounds_toArray, List.set_cons_zero, List.set_cons_succ]) | (refine x_val (v := ?_) (by rfl) (fun w' hx => ?_) ?_; rotate_left; (focus (go_simp; (try with_reducible rfl))); (try simp only [Act.put, List.setIfInBounds_toArray, List.set_cons_zero, List.set_cons_succ])))
        (first | (refine x_load _ (by rfl) rfl rfl (by assumption) (by kernel_rfl) ?_; simp only [Act.put, List.setIfInBounds_toArray, List.set_cons_zero, List.set_cons_succ]) | (refine x_val (v := ?_) (by rfl) (fun w' hx => ?_) ?_; rotate_left; (focus (go_simp; (try with_reducible rfl))); (try simp only [Act.put, List.setIfInBounds_toArray, List.set_cons_zero, List.set_cons_succ])))
        (first | (refine x_load _ (by rfl) rfl rfl (by assumption) (by kernel_rfl) ?_; simp only [Act.put, List.setIfInBounds_toArray, List.set_cons_zero, List.set_cons_succ]) | (refine x_val (v := ?_) (by rfl) (fun w' hx => ?_) ?_; rotate_left; (focus (go_simp; (try with_reducible rfl))); (try simp only [Act.put, List.setIfInBounds_toArray, List.set_cons_zero, List.set_cons_succ])))
        refine x_loads _ [.int .u64 (x : Int), .int .u64 (y : Int)] (by rfl) rfl rfl (cells2 p0 p1) (Nat.succ_pos _) (by kernel_rfl) (by kernel_rfl) ?_; simp only [Act.put, List.setIfInBounds_toArray, List.set_cons_zero, List.set_cons_succ]
        refine x_loads _ [.int .u64 (f : Int), .int .u64 (t : Int)] (by rfl) rfl rfl (cells2 c0 c1) (Nat.succ_pos _) (by kernel_rfl) (by kernel_rfl) ?_; simp only [Act.put, List.setIfInBounds_toArray, List.set_cons_zero, List.set_cons_succ]
        refine x_call (by rfl) (fun w' hx => by go_simp) (fun w' hx => HC.out w') ?_; simp only [Act.put, List.setIfInBounds_toArray, List.set_cons_zero, List.set_cons_succ]
        (first | (refine x_load _ (by rfl) rfl rfl (by assumption) (by kernel_rfl) ?_; simp only [Act.put, List.setIfInBounds_toArray, List.set_cons_zero, List.set_cons_succ]) | (refine x_val (v := ?_) (by rfl) (fun w' hx => ?_) ?_; rotate_left; (focus (go_simp; (try with_reducible rfl))); (try simp only [Act.put, List.setIfInBounds_toArray, List.set_cons_zero, List.set_cons_succ])))
        refine x_nil (hQ.out _ ?_); clear hQ QQ
        intro w1 hb1
        have hbw1 := hbw.trans (hb1.mono hbw.size)
        clear hb1 hbw HC c0 c1 p0 p1
        go_wp2_with fail
        go_roundw
        case rel => exact ⟨i, h, hh1, by omega, rfl, rfl, hsd, hbw1⟩
        case measure => simp [intOf]; omega
    · obtain rfl : i = j := by omega
      have hat := hs.out.at_ (by rw [HL.out]; exact hjn)
      obtain ⟨st1, st2⟩ := spTouch_of (t := t) hat
      have HAT := Lib.hid hat
      clear hat hlt
      have hlt : ¬ (i : Int) < (i : Int) := by omega
      by_cases hin : i < n
      · have hin' : (i : Int) < (n : Int) := by omega
        have hrd := (HR'.out.below hbw).mono hbw.size
        obtain ⟨b, off, x, y, e, hb, p0, p1, hx⟩ := hrd.pc hin
        subst e
        have hcm := cmp_any x y f t
        have hge := hs.out.2 i (x, y) (Nat.le_refl _) hx.out
        have hst := st1 (x, y) hx.out
        have hv : (cmpS (x, y) (f, t) == 0) = decide (x ≤ t) := by
          unfold cmpS
          dsimp only at hge ⊢
          rw [if_neg (by omega)]
          split
          · rw [decide_eq_false (by omega)]; rfl
          · rw [decide_eq_true (by omega)]; rfl
        dsimp only at hst
        generalize cmpS (x, y) (f, t) = v at hcm hv
        generalize decide (x ≤ t) = d at hv hst
        have HST := Lib.hid hst
        clear hst
        have HC := Lib.hid hcm
        have HV := Lib.hid hv
        clear hcm hv st1 st2 hge
        go_wp2_with fail
        refine wp_ext (by kernel_rfl) (by kernel_rfl) (fun QQ hQ => ?_)
        (first | (refine x_load _ (by rfl) rfl rfl (by assumption) (by kernel_rfl) ?_; simp only [Act.put, List.setIfInBounds_toArray, List.set_cons_zero, List.set_cons_succ]) | (refine x_val (v := ?_) (by rfl) (fun w' hx => ?_) ?_; rotate_left; (focus (go_simp; (try with_reducible rfl))); (try simp only [Act.put, List.setIfInBounds_toArray, List.set_cons_zero, List.set_cons_succ])))
        (first | (refine x_load _ (by rfl) rfl rfl (by assumption) (by kernel_rfl) ?_; simp only [Act.put, List.setIfInBounds_toArray, List.set_cons_zero, List.set_cons_succ]) | (refine x_val (v := ?_) (by rfl) (fun w' hx => ?_) ?_; rotate_left; (focus (go_simp; (try with_reducible rfl))); (try simp only [Act.put, List.setIfInBounds_toArray, List.set_cons_zero, List.set_cons_succ])))
        (first | (refine x_load _ (by rfl) rfl rfl (by assumption) (by kernel_rfl) ?_; simp only [Act.put, List.setIfInBounds_toArray, List.set_cons_zero, List.set_cons_succ]) | (refine x_val (v := ?_) (by rfl) (fun w' hx => ?_) ?_; rotate_left; (focus (go_simp; (try with_reducible rfl))); (try simp only [Act.put, List.setIfInBounds_toArray, List.set_cons_zero, List.set_cons_succ])))
        (first | (refine x_load _ (by rfl) rfl rfl (by assumption) (by kernel_rfl) ?_; simp only [Act.put, List.setIfInBounds_toArray, List.set_cons_zero, List.set_cons_succ]) | (refine x_val (v := ?_) (by rfl) (fun w' hx => ?_) ?_; rotate_left; (focus (go_simp; (try with_reducible rfl))); (try simp only [Act.put, List.setIfInBounds_toArray, List.set_cons_zero, List.set_cons_succ])))
        (first | (refine x_load _ (by rfl) rfl rfl (by assumption) (by kernel_rfl) ?_; simp only [Act.put, List.setIfInBounds_toArray, List.set_cons_zero, List.set_cons_succ]) | (refine x_val (v := ?_) (by rfl) (fun w' hx => ?_) ?_; rotate_left; (focus (go_simp; (try with_reducible rfl))); (try simp only [Act.put, List.setIfInBounds_toArray, List.set_cons_zero, List.set_cons_succ])))
        (first | (refine x_load _ (by rfl) rfl rfl (by assumption) (by kernel_rfl) ?_; simp only [Act.put, List.setIfInBounds_toArray, List.set_cons_zero, List.set_cons_succ]) | (refine x_val (v := ?_) (by rfl) (fun w' hx => ?_) ?_; rotate_left; (focus (go_simp; (try with_reducible rfl))); (try simp only [Act.put, List.setIfInBounds_toArray, List.set_cons_zero, List.set_cons_succ])))
        (first | (refine x_load _ (by rfl) rfl rfl (by assumption) (by kernel_rfl) ?_; simp only [Act.put, List.setIfInBounds_toArray, List.set_cons_zero, List.set_cons_succ]) | (refine x_val (v := ?_) (by rfl) (fun w' hx => ?_) ?_; rotate_left; (focus (go_simp; (try with_reducible rfl))); (try simp only [Act.put, List.setIfInBounds_toArray, List.set_cons_zero, List.set_cons_succ])))
        (first | (refine x_load _ (by rfl) rfl rfl (by assumption) (by kernel_rfl) ?_; simp only [Act.put, List.setIfInBounds_toArray, List.set_cons_zero, List.set_cons_succ]) | (refine x_val (v := ?_) (by rfl) (fun w' hx => ?_) ?_; rotate_left; (focus (go_simp; (try with_reducible rfl))); (try simp only [Act.put, List.setIfInBounds_toArray, List.set_cons_zero, List.set_cons_succ])))
        (first | (refine x_load _ (by rfl) rfl rfl (by assumption) (by kernel_rfl) ?_; simp only [Act.put, List.setIfInBounds_toArray, List.set_cons_zero, List.set_cons_succ]) | (refine x_val (v := ?_) (by rfl) (fun w' hx => ?_) ?_; rotate_left; (focus (go_simp; (try with_reducible rfl))); (try simp only [Act.put, List.setIfInBounds_toArray, List.set_cons_zero, List.set_cons_succ])))
        refine x_loads _ [.int .u64 (x : Int), .int .u64 (y : Int)] (by rfl) rfl rfl (cells2 p0 p1) (Nat.succ_pos _) (by kernel_rfl) (by kernel_rfl) ?_; simp only [Act.put, List.setIfInBounds_toArray, List.set_cons_zero, List.set_cons_succ]
        refine x_loads _ [.int .u64 (f : Int), .int .u64 (t : Int)] (by rfl) rfl rfl (cells2 c0 c1) (Nat.succ_pos _) (by kernel_rfl) (by kernel_rfl) ?_; simp only [Act.put, List.setIfInBounds_toArray, List.set_cons_zero, List.set_cons_succ]
        refine x_call (by rfl) (fun w' hx => by go_simp) (fun w' hx => HC.out w') ?_; simp only [Act.put, List.setIfInBounds_toArray, List.set_cons_zero, List.set_cons_succ]
        (first | (refine x_load _ (by rfl) rfl rfl (by assumption) (by kernel_rfl) ?_; simp only [Act.put, List.setIfInBounds_toArray, List.set_cons_zero, List.set_cons_succ]) | (refine x_val (v := ?_) (by rfl) (fun w' hx => ?_) ?_; rotate_left; (focus (go_simp; (try with_reducible rfl))); (try simp only [Act.put, List.setIfInBounds_toArray, List.set_cons_zero, List.set_cons_succ])))
        (first | (refine x_load _ (by rfl) rfl rfl (by assumption) (by kernel_rfl) ?_; simp only [Act.put, List.setIfInBounds_toArray, List.set_cons_zero, List.set_cons_succ]) | (refine x_val (v := ?_) (by rfl) (fun w' hx => ?_) ?_; rotate_left; (focus (go_simp; (try with_reducible rfl))); (try simp only [Act.put, List.setIfInBounds_toArray, List.set_cons_zero, List.set_cons_succ])))
        (first | (refine x_load _ (by rfl) rfl rfl (by assumption) (by kernel_rfl) ?_; simp only [Act.put, List.setIfInBounds_toArray, List.set_cons_zero, List.set_cons_succ]) | (refine x_val (v := ?_) (by rfl) (fun w' hx => ?_) ?_; rotate_left; (focus (go_simp; (try with_reducible rfl))); (try simp only [Act.put, List.setIfInBounds_toArray, List.set_cons_zero, List.set_cons_succ])))
        (first | (refine x_load _ (by rfl) rfl rfl (by assumption) (by kernel_rfl) ?_; simp only [Act.put, List.setIfInBounds_toArray, List.set_cons_zero, List.set_cons_succ]) | (refine x_val (v := ?_) (by rfl) (fun w' hx => ?_) ?_; rotate_left; (focus (go_simp; (try with_reducible rfl))); (try simp only [Act.put, List.setIfInBounds_toArray, List.set_cons_zero, List.set_cons_succ])))
        refine x_nil (hQ.out _ ?_); clear hQ QQ
        intro w1 hb1
        have hbw1 := hbw.trans (hb1.mono hbw.size)
        clear hb1 hbw HC c0 c1 p0 p1
        go_wp2
        go_ret2
        refine ⟨by rw [HAT.out, HST.out, ← HV.out]; rfl, ?_⟩
        rw [← HTE.out]
        exact HB0.out.trans (hbw1.mono (Nat.le_of_lt hT))
      · have hin' : decide (i < n) = false := by simpa using hin
        have HST := Lib.hid (st2 (by rw [HL.out]; omega))
        clear st1 st2
        go_wp2_with fail
        refine wp_ext (by kernel_rfl) (by kernel_rfl) (fun QQ hQ => ?_)
        (first | (refine x_load _ (by rfl) rfl rfl (by assumption) (by kernel_rfl) ?_; simp only [Act.put, List.setIfInBounds_toArray, List.set_cons_zero, List.set_cons_succ]) | (refine x_val (v := ?_) (by rfl) (fun w' hx => ?_) ?_; rotate_left; (focus (go_simp; (try with_reducible rfl))); (try simp only [Act.put, List.setIfInBounds_toArray, List.set_cons_zero, List.set_cons_succ])))
        (first | (refine x_load _ (by rfl) rfl rfl (by assumption) (by kernel_rfl) ?_; simp only [Act.put, List.setIfInBounds_toArray, List.set_cons_zero, List.set_cons_succ]) | (refine x_val (v := ?_) (by rfl) (fun w' hx => ?_) ?_; rotate_left; (focus (go_simp; (try with_reducible rfl))); (try simp only [Act.put, List.setIfInBounds_toArray, List.set_cons_zero, List.set_cons_succ])))
        (first | (refine x_load _ (by rfl) rfl rfl (by assumption) (by kernel_rfl) ?_; simp only [Act.put, List.setIfInBounds_toArray, List.set_cons_zero, List.set_cons_succ]) | (refine x_val (v := ?_) (by rfl) (fun w' hx => ?_) ?_; rotate_left; (focus (go_simp; (try with_reducible rfl))); (try simp only [Act.put, List.setIfInBounds_toArray, List.set_cons_zero, List.set_cons_succ])))
        (first | (refine x_load _ (by rfl) rfl rfl (by assumption) (by kernel_rfl) ?_; simp only [Act.put, List.setIfInBounds_toArray, List.set_cons_zero, List.set_cons_succ]) | (refine x_val (v := ?_) (by rfl) (fun w' hx => ?_) ?_; rotate_left; (focus (go_simp; (try with_reducible rfl))); (try simp only [Act.put, List.setIfInBounds_toArray, List.set_cons_zero, List.set_cons_succ])))
        (first | (refine x_load _ (by rfl) rfl rfl (by assumption) (by kernel_rfl) ?_; simp only [Act.put, List.setIfInBounds_toArray, List.set_cons_zero, List.set_cons_succ]) | (refine x_val (v := ?_) (by rfl) (fun w' hx => ?_) ?_; rotate_left; (focus (go_simp; (try with_reducible rfl))); (try simp only [Act.put, List.setIfInBounds_toArray, List.set_cons_zero, List.set_cons_succ])))
        (refine x_skip (by rfl) ?_; simp only [Act.put, List.setIfInBounds_toArray, List.set_cons_zero, List.set_cons_succ])
        (refine x_skip (by rfl) ?_; simp only [Act.put, List.setIfInBounds_toArray, List.set_cons_zero, List.set_cons_succ])
        (refine x_skip (by rfl) ?_; simp only [Act.put, List.setIfInBounds_toArray, List.set_cons_zero, List.set_cons_succ])
        (refine x_skip (by rfl) ?_; simp only [Act.put, List.setIfInBounds_toArray, List.set_cons_zero, List.set_cons_succ])
        (refine x_skip (by rfl) ?_; simp only [Act.put, List.setIfInBounds_toArray, List.set_cons_zero, List.set_cons_succ])
        (refine x_skip (by rfl) ?_; simp only [Act.put, List.setIfInBounds_toArray, List.set_cons_zero, List.set_cons_succ])
        (refine x_skip (by rfl) ?_; simp only [Act.put, List.setIfInBounds_toArray, List.set_cons_zero, List.set_cons_succ])
        (refine x_skip (by rfl) ?_; simp only [Act.put, List.setIfInBounds_toArray, List.set_cons_zero, List.set_cons_succ])
        (first | (refine x_load _ (by rfl) rfl rfl (by assumption) (by kernel_rfl) ?_; simp only [Act.put, List.setIfInBounds_toArray, List.set_cons_zero, List.set_cons_succ]) | (refine x_val (v := ?_) (by rfl) (fun w' hx => ?_) ?_; rotate_left; (focus (go_simp; (try with_reducible rfl))); (try simp only [Act.put, List.setIfInBounds_toArray, List.set_cons_zero, List.set_cons_succ])))
        (first | (refine x_load _ (by rfl) rfl rfl (by assumption) (by kernel_rfl) ?_; simp only [Act.put, List.setIfInBounds_toArray, List.set_cons_zero, List.set_cons_succ]) | (refine x_val (v := ?_) (by rfl) (fun w' hx => ?_) ?_; rotate_left; (focus (go_simp; (try with_reducible rfl))); (try simp only [Act.put, List.setIfInBounds_toArray, List.set_cons_zero, List.set_cons_succ])))
        (first | (refine x_load _ (by rfl) rfl rfl (by assumption) (by kernel_rfl) ?_; simp only [Act.put, List.setIfInBounds_toArray, List.set_cons_zero, List.set_cons_succ]) | (refine x_val (v := ?_) (by rfl) (fun w' hx => ?_) ?_; rotate_left; (focus (go_simp; (try with_reducible rfl))); (try simp only [Act.put, List.setIfInBounds_toArray, List.set_cons_zero, List.set_cons_succ])))
        refine x_nil (hQ.out _ ?_); clear hQ QQ
        intro w1 hb1
        have hbw1 := hbw.trans (hb1.mono hbw.size)
        clear hb1 hbw c0 c1
        go_wp2
        go_ret2
        refine ⟨by rw [HAT.out, HST.out]; rfl, ?_⟩
        rw [← HTE.out]
        exact HB0.out.trans (hbw1.mono (Nat.le_of_lt hT))
end Go.Proofs.Ytnngjbieoakanaa
