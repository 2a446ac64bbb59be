/- Package spans: New, Add. -/
import Derived.Test.YtnngjbieoakanaaG10InletTwice
import Derived.Test.YtnngjbieoakanaaG13InletTwice
import Derived.Test.YtnngjbieoakanaaOrd
import Derived.StillTailTactics

namespace Go.Proofs.Ytnngjbieoakanaa
open Go.RowKit
set_option linter.unusedVariables false
def mostN (m : Int) : Nat := if m < 1 then 1 else if 64 < m then 64 else m.toNat
theorem mostN_le (m : Int) : 1 ≤ mostN m ∧ mostN m ≤ 64 := by unfold mostN; split <;> (try split) <;> omega
theorem snew_any (m : Int) (w : World) (hm : -9223372036854775808 ≤ m ∧ m < 9223372036854775808) :
    Calls Try.prog 16 #[.int .i64 m] w fun e w' => e = .returned (.pointer (some ⟨w.heap.size, 0, none⟩)) ∧ SetI w' w.heap.size w.heap.size (mostN m) (.slice none 0 0) [] ∧ Below w.heap.size w w' := by
  have fin : ∀ k : Nat, k ≤ 64 → SetI (w.alloc (.cells #[.int .i64 (k : Int), .slice none 0 0] 62)) w.heap.size w.heap.size k (.slice none 0 0) [] := fun k hk =>
    ⟨Blk.new _ _ _, World.ownsRow_nil _ _ _ _, trivial, by simp, Nat.zero_le _, hk, Nat.le_refl _⟩
  have hb : ∀ o, Below w.heap.size w (w.alloc o) := fun o => (Below.refl _ _).alloc (Nat.le_refl _) _
  have FIN := Lib.hid fin
  have HB := Lib.hid hb
  unfold mostN
  clear fin hb
  by_cases h1 : m < 1
  · rw [if_pos h1]
    have h2 : max m 1 = 1 := by omega
    go_enter Try.func16, Try.ntmps16
    go_wp2_with fail
    go_ret
    exact ⟨rfl, FIN.out 1 (by omega), HB.out _⟩
  · rw [if_neg h1]
    by_cases h2 : 64 < m
    · rw [if_pos h2]
      go_enter Try.func16, Try.ntmps16
      go_wp2_with fail
      go_ret
      exact ⟨rfl, FIN.out 64 (by omega), HB.out _⟩
    · rw [if_neg h2]
      obtain ⟨k, rfl⟩ : ∃ k : Nat, m = (k : Int) := ⟨m.toNat, by omega⟩
      have hk : k ≤ 64 := by omega
      have hk1 : (1 : Int) ≤ k := by omega
      have hk2 : (k : Int) ≤ 64 := by omega
      clear h1 h2
      go_enter Try.func16, Try.ntmps16
      go_wp2_with fail
      go_ret
      exact ⟨rfl, FIN.out k hk, HB.out _⟩
/-- What Add makes of the pieces. -/
def addS (most : Nat) (l : List Sp) (f t : Nat) : List Sp × Bool := if t ≤ f then (l, true) else if spTouch l f t = false ∧ most ≤ l.length then (l, false) else (addL l f t, true)
theorem mid_nil {l : List Sp} {f t : Nat} : spTouch l f t = false ↔ spMid (spRest l f) t = [] := by
  unfold spTouch spMid
  cases spRest l f with
  | nil => simp
  | cons p m =>
    rw [List.takeWhile_cons]
    simp only [List.head?_cons]
    by_cases h : p.1 ≤ t
    · simp [h]
    · simp [h]
/-- Which pieces an added one touches, one after the other. -/
theorem mid_get {l : List Sp} {f t k : Nat} (hk : k ≤ (spMid (spRest l f) t).length) :
    (k < (spMid (spRest l f) t).length → ∃ p, l[spAt l f + k]? = some p ∧ (spMid (spRest l f) t)[k]? = some p ∧ p.1 ≤ t) ∧ (k = (spMid (spRest l f) t).length → ∀ p, l[spAt l f + k]? = some p → t < p.1) := by
  have e := spRest_drop l f
  have hg : ∀ k, l[spAt l f + k]? = (spRest l f)[k]? := fun k => by rw [e, List.getElem?_drop]
  rw [hg]
  generalize spRest l f = r at *
  have hr := mid_post r t
  constructor
  · intro hlt
    refine ⟨(spMid r t)[k], ?_, List.getElem?_eq_getElem hlt, spMid_le _ (List.getElem_mem _)⟩
    conv => lhs; rw [← hr]
    rw [List.getElem?_append_left hlt]
    exact List.getElem?_eq_getElem hlt
  · intro hke p hp
    rw [← hr, List.getElem?_append_right (by omega), hke, Nat.sub_self] at hp
    unfold spPost at hp
    have h2 := List.head?_dropWhile_not (fun p : Sp => decide (p.1 ≤ t)) r
    rw [List.head?_eq_getElem?, hp] at h2
    simpa using h2
theorem spWh_take {m : List Sp} {k : Nat} {p : Sp} (x : Sp) (h : m[k]? = some p) : spWh (m.take (k + 1)) x = (min (spWh (m.take k) x).1 p.1, max (spWh (m.take k) x).2 p.2) := by
  rw [List.take_add_one, h]
  unfold spWh
  rw [List.foldl_append]
  rfl
theorem SetI.solo {w w' : World} {g B most T : Nat} {v : Value} {l : List Sp} (h : SetI w g B most v l) (hs : Solo T w w') (hg : g ≠ T) (hv : ∀ k, v.ownBlock = some k → k ≠ T) : SetI w' g B most v l :=
  ⟨hs.blk h.blk hg, own_kept h.own fun k hk => hs.2.2 k (hv k hk), h.rise, h.bd, h.len, h.ms, h.bg⟩
/-- A row stays where a cell of a block of another type is written. -/
theorem own_set {w : World} {g B sz n i : Nat} {t e : TypeId} {cs : Array Value} {v u : Value} {xs : List Value} (ho : w.ownsRow B e sz v n xs) (h : Blk w g t cs) (hne : e ≠ t) : (w.setCell ⟨g, i, none⟩ u).ownsRow B e sz v n xs := by
  refine own_kept ho fun k hk => Below.heap_setCell _ _ _ _ ?_
  intro he
  subst he
  rcases ho.2 with ⟨rfl, _⟩ | ⟨g', cap, cur, rfl, _, hh, _⟩
  · simp [Value.ownBlock] at hk
  · simp [Value.ownBlock] at hk
    subst hk
    unfold Blk at h
    rw [h] at hh
    injection hh with hh
    injection hh with _ ht
    exact hne ht.symm
theorem addL_cels (l : List Sp) (f t : Nat) : cels (addL l f t) = (cels l).take (spAt l f * 2) ++ [.int .u64 ((spWh (spMid (spRest l f) t) (f, t)).1 : Int), .int .u64 ((spWh (spMid (spRest l f) t) (f, t)).2 : Int)] ++ (cels l).drop ((spAt l f + (spMid (spRest l f) t).length) * 2) := by
  have e : spPost (spRest l f) t = l.drop (spAt l f + (spMid (spRest l f) t).length) := by
    have h : (spMid (spRest l f) t ++ spPost (spRest l f) t).drop (spMid (spRest l f) t).length = spPost (spRest l f) t := List.drop_left
    rw [mid_post] at h
    rw [← List.drop_drop, ← spRest_drop]
    exact h.symm
  rw [cels_take, cels_drop, ← e, ← spPre_take]
  unfold addL
  rw [cels_append, cels_cons, List.append_assoc]
  rfl
theorem addL_bd {l : List Sp} {f t b : Nat} (h : ∀ p ∈ l, p.2 < b) (ht : t < b) : ∀ p ∈ addL l f t, p.2 < b := by
  have e := parts_eq l f t
  have hp : ∀ p, p ∈ spPre l f ∨ p ∈ spMid (spRest l f) t ∨ p ∈ spPost (spRest l f) t → p.2 < b := by
    intro p hp
    apply h
    rw [e]
    simp only [List.mem_append]
    exact hp
  intro p hp'
  unfold addL at hp'
  simp only [List.mem_append, List.mem_cons] at hp'
  rcases hp' with h1 | rfl | h1
  · exact hp p (.inl h1)
  · exact spWh_snd _ _ _ ht fun q hq => hp q (.inr (.inl hq))
  · exact hp p (.inr (.inr h1))
theorem mid_le (l : List Sp) (f t : Nat) : spAt l f + (spMid (spRest l f) t).length ≤ l.length := by
  have e := congrArg List.length (parts_eq l f t)
  simp only [List.length_append] at e
  unfold spAt
  omega
/-- A set behind an addition. -/
theorem SetI.added {w : World} {g B most f t : Nat} {v v' : Value} {l : List Sp} (hI : SetI w g B most v l) (ht : t < pmax) (hft : f < t) (hm : spTouch l f t = true ∨ l.length < most) {w1 w2 : World} (hg : w1.grownBy w2 v.ownBlock) (h1 : SetI w1 g B most v l)
    (ho : w2.ownsRow B 71 2 v' (spAt l f + 1 + (l.length - (spAt l f + (spMid (spRest l f) t).length))) (cels (addL l f t))) : SetI (w2.setCell ⟨g, 1, none⟩ v') g B most v' (addL l f t) := by
  have hb := h1.blk.far2 h1.own (by decide) hg
  have hl := addL_len l f t
  have hm2 := mid_le l f t
  have hlen : (addL l f t).length = spAt l f + 1 + (l.length - (spAt l f + (spMid (spRest l f) t).length)) := by omega
  refine ⟨hb.set 1 v', ?_, addL_rise hI.rise hft, addL_bd hI.bd ht, ?_, hI.ms, hI.bg⟩
  · rw [hlen]
    exact own_set ho hb (by decide)
  · rcases hm with hm | hm
    · have : spMid (spRest l f) t ≠ [] := fun e => by rw [mid_nil.2 e] at hm; cases hm
      have := List.length_pos_iff.2 this
      have := hI.len
      omega
    · omega
/-- What a call on a set leaves as it was: all but the set, and its row; the new row is the old one or a new one. -/
def KeptS (g : Nat) (v v' : Value) (w w' : World) : Prop := (∀ k, k < w.heap.size → k ≠ g → v.ownBlock ≠ some k → w'.heap[k]? = w.heap[k]?) ∧ NewOr v v' w ∧ w.heap.size ≤ w'.heap.size
theorem KeptS.of_below {g : Nat} {v : Value} {w w' : World} (h : Below w.heap.size w w') : KeptS g v v w w' := ⟨fun k hk _ _ => h.block k hk, NewOr.same rfl, h.size⟩
theorem own_irr (A : Option Addr) (n m c : Nat) : (Value.slice A n c).ownBlock = (Value.slice A m c).ownBlock := by cases A <;> rfl
theorem KeptS.len {g n m c : Nat} {A : Option Addr} {v' : Value} {w w' : World} (h : KeptS g (.slice A n c) v' w w') : KeptS g (.slice A m c) v' w w' := by
  unfold KeptS NewOr at *
  rw [own_irr A m n c]
  exact h
theorem ifmin (x p : Nat) : (if p < x then (p : Int) else (x : Int)) = ((min x p : Nat) : Int) := by split <;> omega
theorem ifmax (y p : Nat) : (if y < p then (p : Int) else (y : Int)) = ((max y p : Nat) : Int) := by split <;> omega
set_option maxRecDepth 20000 in
set_option maxHeartbeats 8000000 in
theorem add_any (g B most : Nat) (v : Value) (l : List Sp) (f t : Nat) (w : World) (h : SetI w g B most v l) (hf : f < pmax) (ht : t < pmax) :
    Calls Try.prog 35 #[.pointer (some ⟨g, 0, none⟩), .int .u64 (f : Int), .int .u64 (t : Int)] w fun e w' =>
      e = .returned (.bool (addS most l f t).2) ∧ (∃ v', SetI w' g B most v' (addS most l f t).1 ∧ KeptS g v v' w w') ∧ Below B w w' := by
  by_cases h0 : t ≤ f
  · have h0' : (t : Int) ≤ (f : Int) := by omega
    unfold addS
    rw [if_pos h0]
    have HI := Lib.hid h
    clear h hf ht
    go_enter Try.func35, Try.ntmps35
    go_wp2_with fail
    go_ret
    exact ⟨rfl, ⟨v, HI.out, KeptS.of_below (Below.refl _ _)⟩, Below.refl _ _⟩
  have h0' : ¬ (t : Int) ≤ (f : Int) := by omega
  have hbB : B ≤ w.heap.size := Nat.le_trans h.bg (Nat.le_of_lt h.lt)
  have hW := h.alloc (.cells #[.int .u64 (f : Int), .int .u64 (t : Int)] 71)
  have hbk := Blk.new w 71 #[.int .u64 (f : Int), .int .u64 (t : Int)]
  have hb0 : Below w.heap.size w (w.alloc (.cells #[.int .u64 (f : Int), .int .u64 (t : Int)] 71)) := (Below.refl _ _).alloc (Nat.le_refl _) _
  have HRES : Hid (∀ (b : Bool) (l' : List Sp), (l', b) = addS most l f t → (addS most l f t).2 = b ∧ (addS most l f t).1 = l') := Lib.hid fun b l' e => by rw [← e]; exact ⟨rfl, rfl⟩
  have HADD : Hid (addS most l f t = if spTouch l f t = false ∧ most ≤ l.length then (l, false) else (addL l f t, true)) := Lib.hid (by unfold addS; rw [if_neg h0])
  have hlt := h.lt
  have hvT : ∀ k, v.ownBlock = some k → k < w.heap.size := fun k hk => (h.own.lt k hk).2
  clear h
  go_enter Try.func35, Try.ntmps35
  go_wp2_with fail
  generalize w.alloc (.cells #[.int .u64 (f : Int), .int .u64 (t : Int)] 71) = W at *
  obtain ⟨T, hT⟩ : ∃ T, T = w.heap.size := ⟨_, rfl⟩
  rw [← hT] at hbk hlt hbB hvT hb0 ⊢
  have HTT := Lib.hid hT
  clear hT
  have HVT := Lib.hid hvT
  have HF := Lib.hid hf
  have HT2 := Lib.hid ht
  have HB0 := Lib.hid hb0
  have HWS := Lib.hid hW.lt
  refine (find_any g B most v l f t W hW).mono ?_
  rintro e w1 ⟨rfl, hb1⟩
  have S1 := hW.below hb1 (Nat.le_refl _)
  have hbk1 := hbk.below hb1 hbk.lt
  have hbl1 := hb0.trans (hb1.mono (Nat.le_of_lt hbk.lt))
  clear hb0 hb1 hW hbk hvT hf ht
  obtain ⟨A, c, rfl, hnc, hcm, hr⟩ := own_form S1.own
  have hms := S1.ms
  have hlm := S1.len
  have c0 := S1.c0
  have c1 := S1.c1
  have HS1 := Lib.hid S1
  have HBK1 := Lib.hid hbk1
  have HBL1 := Lib.hid hbl1
  have hnil : spTouch l f t = true ∨ spTouch l f t = false := by cases spTouch l f t <;> simp
  have hat := spAt_le l f
  have hBw1 : T ≤ w1.heap.size := Nat.le_of_lt hbk1.lt
  clear S1 hbk1 hbl1 hr
  by_cases hfull : spTouch l f t = false ∧ most ≤ l.length
  · have hge : (most : Int) ≤ (l.length : Int) := by omega
    rw [hfull.1]
    have HA := Lib.hid (HADD.out.trans (if_pos hfull))
    clear HADD hfull hnil
    generalize l.length = n at *
    go_wp2_with fail
    refine wp_ext (by kernel_rfl) (by kernel_rfl) (fun QQ hQ => ?_)
    (first | (refine x_load _ (by rfl) rfl rfl (by assumption) (by kernel_rfl) ?_; simp only [Act.put, List.setIfInBounds_toArray, List.set_cons_zero, List.set_cons_succ]) | (refine x_val (v := ?_) (by rfl) (fun w' hx => ?_) ?_; rotate_left; (focus (go_simp; (try with_reducible rfl))); (try simp only [Act.put, List.setIfInBounds_toArray, List.set_cons_zero, List.set_cons_succ])))
    (first | (refine x_load _ (by rfl) rfl rfl (by assumption) (by kernel_rfl) ?_; simp only [Act.put, List.setIfInBounds_toArray, List.set_cons_zero, List.set_cons_succ]) | (refine x_val (v := ?_) (by rfl) (fun w' hx => ?_) ?_; rotate_left; (focus (go_simp; (try with_reducible rfl))); (try simp only [Act.put, List.setIfInBounds_toArray, List.set_cons_zero, List.set_cons_succ])))
    (first | (refine x_load _ (by rfl) rfl rfl (by assumption) (by kernel_rfl) ?_; simp only [Act.put, List.setIfInBounds_toArray, List.set_cons_zero, List.set_cons_succ]) | (refine x_val (v := ?_) (by rfl) (fun w' hx => ?_) ?_; rotate_left; (focus (go_simp; (try with_reducible rfl))); (try simp only [Act.put, List.setIfInBounds_toArray, List.set_cons_zero, List.set_cons_succ])))
    (first | (refine x_load _ (by rfl) rfl rfl (by assumption) (by kernel_rfl) ?_; simp only [Act.put, List.setIfInBounds_toArray, List.set_cons_zero, List.set_cons_succ]) | (refine x_val (v := ?_) (by rfl) (fun w' hx => ?_) ?_; rotate_left; (focus (go_simp; (try with_reducible rfl))); (try simp only [Act.put, List.setIfInBounds_toArray, List.set_cons_zero, List.set_cons_succ])))
    (first | (refine x_load _ (by rfl) rfl rfl (by assumption) (by kernel_rfl) ?_; simp only [Act.put, List.setIfInBounds_toArray, List.set_cons_zero, List.set_cons_succ]) | (refine x_val (v := ?_) (by rfl) (fun w' hx => ?_) ?_; rotate_left; (focus (go_simp; (try with_reducible rfl))); (try simp only [Act.put, List.setIfInBounds_toArray, List.set_cons_zero, List.set_cons_succ])))
    (first | (refine x_load _ (by rfl) rfl rfl (by assumption) (by kernel_rfl) ?_; simp only [Act.put, List.setIfInBounds_toArray, List.set_cons_zero, List.set_cons_succ]) | (refine x_val (v := ?_) (by rfl) (fun w' hx => ?_) ?_; rotate_left; (focus (go_simp; (try with_reducible rfl))); (try simp only [Act.put, List.setIfInBounds_toArray, List.set_cons_zero, List.set_cons_succ])))
    (first | (refine x_load _ (by rfl) rfl rfl (by assumption) (by kernel_rfl) ?_; simp only [Act.put, List.setIfInBounds_toArray, List.set_cons_zero, List.set_cons_succ]) | (refine x_val (v := ?_) (by rfl) (fun w' hx => ?_) ?_; rotate_left; (focus (go_simp; (try with_reducible rfl))); (try simp only [Act.put, List.setIfInBounds_toArray, List.set_cons_zero, List.set_cons_succ])))
    (first | (refine x_load _ (by rfl) rfl rfl (by assumption) (by kernel_rfl) ?_; simp only [Act.put, List.setIfInBounds_toArray, List.set_cons_zero, List.set_cons_succ]) | (refine x_val (v := ?_) (by rfl) (fun w' hx => ?_) ?_; rotate_left; (focus (go_simp; (try with_reducible rfl))); (try simp only [Act.put, List.setIfInBounds_toArray, List.set_cons_zero, List.set_cons_succ])))
    (first | (refine x_load _ (by rfl) rfl rfl (by assumption) (by kernel_rfl) ?_; simp only [Act.put, List.setIfInBounds_toArray, List.set_cons_zero, List.set_cons_succ]) | (refine x_val (v := ?_) (by rfl) (fun w' hx => ?_) ?_; rotate_left; (focus (go_simp; (try with_reducible rfl))); (try simp only [Act.put, List.setIfInBounds_toArray, List.set_cons_zero, List.set_cons_succ])))
    (first | (refine x_load _ (by rfl) rfl rfl (by assumption) (by kernel_rfl) ?_; simp only [Act.put, List.setIfInBounds_toArray, List.set_cons_zero, List.set_cons_succ]) | (refine x_val (v := ?_) (by rfl) (fun w' hx => ?_) ?_; rotate_left; (focus (go_simp; (try with_reducible rfl))); (try simp only [Act.put, List.setIfInBounds_toArray, List.set_cons_zero, List.set_cons_succ])))
    (first | (refine x_load _ (by rfl) rfl rfl (by assumption) (by kernel_rfl) ?_; simp only [Act.put, List.setIfInBounds_toArray, List.set_cons_zero, List.set_cons_succ]) | (refine x_val (v := ?_) (by rfl) (fun w' hx => ?_) ?_; rotate_left; (focus (go_simp; (try with_reducible rfl))); (try simp only [Act.put, List.setIfInBounds_toArray, List.set_cons_zero, List.set_cons_succ])))
    (first | (refine x_load _ (by rfl) rfl rfl (by assumption) (by kernel_rfl) ?_; simp only [Act.put, List.setIfInBounds_toArray, List.set_cons_zero, List.set_cons_succ]) | (refine x_val (v := ?_) (by rfl) (fun w' hx => ?_) ?_; rotate_left; (focus (go_simp; (try with_reducible rfl))); (try simp only [Act.put, List.setIfInBounds_toArray, List.set_cons_zero, List.set_cons_succ])))
    (first | (refine x_load _ (by rfl) rfl rfl (by assumption) (by kernel_rfl) ?_; simp only [Act.put, List.setIfInBounds_toArray, List.set_cons_zero, List.set_cons_succ]) | (refine x_val (v := ?_) (by rfl) (fun w' hx => ?_) ?_; rotate_left; (focus (go_simp; (try with_reducible rfl))); (try simp only [Act.put, List.setIfInBounds_toArray, List.set_cons_zero, List.set_cons_succ])))
    (first | (refine x_load _ (by rfl) rfl rfl (by assumption) (by kernel_rfl) ?_; simp only [Act.put, List.setIfInBounds_toArray, List.set_cons_zero, List.set_cons_succ]) | (refine x_val (v := ?_) (by rfl) (fun w' hx => ?_) ?_; rotate_left; (focus (go_simp; (try with_reducible rfl))); (try simp only [Act.put, List.setIfInBounds_toArray, List.set_cons_zero, List.set_cons_succ])))
    refine x_nil (hQ.out _ ?_); clear hQ QQ
    intro w2 hb2
    go_wp2
    go_ret
    refine ⟨?_, ⟨.slice A n c, ?_⟩, ?_⟩
    · rw [HA.out]; rfl
    · rw [HA.out]; exact ⟨HS1.out.below hb2 (Nat.le_refl _), KeptS.len (n := n) (KeptS.of_below (by rw [← HTT.out]; exact HBL1.out.trans (hb2.mono hBw1)))⟩
    · exact (HBL1.out.trans (hb2.mono hBw1)).mono hbB
  · have HA := Lib.hid (HADD.out.trans (if_neg hfull))
    have hor : spTouch l f t = true ∨ l.length < most := by
      rcases hnil with h | h
      · exact .inl h
      · exact .inr (Nat.lt_of_not_le fun h2 => hfull ⟨h, h2⟩)
    have HOR := Lib.hid hor
    have HML := Lib.hid (mid_le l f t)
    have HMG := Lib.hid (fun k => mid_get (l := l) (f := f) (t := t) (k := k))
    have HNL := Lib.hid (rfl : l.length = l.length)
    clear HADD hnil hfull
    obtain ⟨n, hn⟩ : ∃ n, n = l.length := ⟨_, rfl⟩
    obtain ⟨a, ha⟩ : ∃ a, a = spAt l f := ⟨_, rfl⟩
    obtain ⟨m, hm⟩ : ∃ m, m = (spMid (spRest l f) t).length := ⟨_, rfl⟩
    rw [← hn] at hnc hlm c1 HVT hor HS1 hat
    rw [← ha] at hat HML HMG ⊢
    rw [← hm] at HML HMG
    rw [← hn] at HML
    have HN := Lib.hid hn
    have HAT := Lib.hid ha
    have HM := Lib.hid hm
    clear hn ha hm HNL
    rcases Bool.eq_false_or_eq_true (spTouch l f t) with htc | htc
    all_goals rw [htc]
    · clear hor htc
      go_wp2_with fail
      refine wp_ext (by kernel_rfl) (by kernel_rfl) (fun QQ hQ => ?_)
      (first | (refine x_load _ (by rfl) rfl rfl (by assumption) (by kernel_rfl) ?_; simp only [Act.put, List.setIfInBounds_toArray, List.set_cons_zero, List.set_cons_succ]) | (refine x_val (v := ?_) (by rfl) (fun w' hx => ?_) ?_; rotate_left; (focus (go_simp; (try with_reducible rfl))); (try simp only [Act.put, List.setIfInBounds_toArray, List.set_cons_zero, List.set_cons_succ])))
      (first | (refine x_load _ (by rfl) rfl rfl (by assumption) (by kernel_rfl) ?_; simp only [Act.put, List.setIfInBounds_toArray, List.set_cons_zero, List.set_cons_succ]) | (refine x_val (v := ?_) (by rfl) (fun w' hx => ?_) ?_; rotate_left; (focus (go_simp; (try with_reducible rfl))); (try simp only [Act.put, List.setIfInBounds_toArray, List.set_cons_zero, List.set_cons_succ])))
      (first | (refine x_load _ (by rfl) rfl rfl (by assumption) (by kernel_rfl) ?_; simp only [Act.put, List.setIfInBounds_toArray, List.set_cons_zero, List.set_cons_succ]) | (refine x_val (v := ?_) (by rfl) (fun w' hx => ?_) ?_; rotate_left; (focus (go_simp; (try with_reducible rfl))); (try simp only [Act.put, List.setIfInBounds_toArray, List.set_cons_zero, List.set_cons_succ])))
      (refine x_skip (by rfl) ?_; simp only [Act.put, List.setIfInBounds_toArray, List.set_cons_zero, List.set_cons_succ])
      (refine x_skip (by rfl) ?_; simp only [Act.put, List.setIfInBounds_toArray, List.set_cons_zero, List.set_cons_succ])
      (refine x_skip (by rfl) ?_; simp only [Act.put, List.setIfInBounds_toArray, List.set_cons_zero, List.set_cons_succ])
      (refine x_skip (by rfl) ?_; simp only [Act.put, List.setIfInBounds_toArray, List.set_cons_zero, List.set_cons_succ])
      (refine x_skip (by rfl) ?_; simp only [Act.put, List.setIfInBounds_toArray, List.set_cons_zero, List.set_cons_succ])
      (refine x_skip (by rfl) ?_; simp only [Act.put, List.setIfInBounds_toArray, List.set_cons_zero, List.set_cons_succ])
      (refine x_skip (by rfl) ?_; simp only [Act.put, List.setIfInBounds_toArray, List.set_cons_zero, List.set_cons_succ])
      (refine x_skip (by rfl) ?_; simp only [Act.put, List.setIfInBounds_toArray, List.set_cons_zero, List.set_cons_succ])
      (refine x_skip (by rfl) ?_; simp only [Act.put, List.setIfInBounds_toArray, List.set_cons_zero, List.set_cons_succ])
      (refine x_skip (by rfl) ?_; simp only [Act.put, List.setIfInBounds_toArray, List.set_cons_zero, List.set_cons_succ])
      (first | (refine x_load _ (by rfl) rfl rfl (by assumption) (by kernel_rfl) ?_; simp only [Act.put, List.setIfInBounds_toArray, List.set_cons_zero, List.set_cons_succ]) | (refine x_val (v := ?_) (by rfl) (fun w' hx => ?_) ?_; rotate_left; (focus (go_simp; (try with_reducible rfl))); (try simp only [Act.put, List.setIfInBounds_toArray, List.set_cons_zero, List.set_cons_succ])))
      refine x_nil (hQ.out _ ?_); clear hQ QQ
      intro w2 hb2
      have S2 := HS1.out.below hb2 (Nat.le_refl _)
      have hbk2 := HBK1.out.below hb2 HBK1.out.lt
      have hbl2 := HBL1.out.trans (hb2.mono hBw1)
      clear hb2 HS1 HBK1 HBL1 c0 c1 hBw1
      go_wp2_with fail
      have HS2 := Lib.hid S2
      have HBK2 := Lib.hid hbk2
      have HBL2 := Lib.hid hbl2
      have hgT : g ≠ T := by omega
      clear S2 hbk2 hbl2
      go_loopw [10] (fun jv wr => ∃ (k x y : Nat), k ≤ m ∧ jv = .int .i64 ((a + k : Nat) : Int) ∧ Hid (spWh ((spMid (spRest l f) t).take k) (f, t) = (x, y)) ∧ Hid (Blk wr T 71 #[.int .u64 (x : Int), .int .u64 (y : Int)]) ∧ Hid (Solo T w2 wr)) (fun jv _ => n - (intOf jv).toNat)
      case atStart => exact ⟨0, f, t, Nat.zero_le _, rfl, Lib.hid rfl, HBK2, Lib.hid Solo.refl⟩
      case round =>
        obtain ⟨k, x, y, hkm, rfl, hxy, hblk, hsolo⟩ := hrel
        have hml := HML.out
        have S3 := HS2.out.solo hsolo.out hgT fun q hq => by have := HVT.out q hq; omega
        have d1 := S3.c1
        obtain ⟨_, c', e, _, _, hr3⟩ := own_form S3.own
        injection e with e1 e2 e3
        subst e1 e3
        have HR3 := Lib.hid (hr3.re HN.out.symm)
        have HS3 := Lib.hid S3
        clear S3 hr3 e2
        obtain ⟨mg1, mg2⟩ := HMG.out k hkm
        by_cases hkm2 : k < m
        · obtain ⟨⟨px, py⟩, hp1, hp2, hp3⟩ := mg1 hkm2
          have hakn : a + k < n := by omega
          obtain ⟨b, off, px', py', eA, hb, q0, q1, hp4⟩ := HR3.out.pc hakn
          rw [hp4.out] at hp1
          injection hp1 with hp1
          injection hp1 with hp1 hp1'
          subst hp1 hp1' eA
          have hwh := spWh_take (f, t) hp2
          rw [hxy.out] at hwh
          dsimp only at hwh hp3
          have hp3' : (px' : Int) ≤ (t : Int) := by omega
          have hakn' : ((a + k : Nat) : Int) < (n : Int) := by omega
          have HWH := Lib.hid hwh
          have t0 := hblk.out.cell 0
          have t1 := hblk.out.cell 1
          have tf0 := hblk.out.frozen 0
          have tf1 := hblk.out.frozen 1
          simp only [List.getElem?_toArray, List.getElem?_cons_zero, List.getElem?_cons_succ] at t0 t1
          clear mg1 mg2 hp2 hp4 hwh hp3
          obtain ⟨r, hrr⟩ : ∃ r, r = a + k := ⟨_, rfl⟩
          rw [← hrr] at hakn hakn' q0 q1 ⊢
          have HRR := Lib.hid hrr
          clear hrr
          go_wp2_with fail
          refine wp_region_still_tail 23 (by kernel_rfl) (by kernel_rfl) ?_
          simp only [List.take_succ_cons, List.take_zero, List.drop_succ_cons, List.drop_zero]
          repeat still_step
          refine wpStill_nil ?_
          change wpList _ _ _ _ _ wr.drew
          go_wp2_with fail
          refine ⟨⟨k + 1, min x px', max y py', by omega, by have := HRR.out; congr 1; omega, HWH, ?_, ?_⟩, ?_⟩
          · rw [ifmin, ifmax]
            have hn := (hblk.out.set 0 (.int .u64 ((min x px' : Nat) : Int))).set 1 (.int .u64 ((max y py' : Nat) : Int))
            exact Lib.hid hn.drew
          · exact Lib.hid ((hsolo.out.setCell 0 _).setCell 1 _).drew
          · simp [intOf]; omega
        · have hke : k = m := by omega
          subst hke
          have hxyf : Hid (spWh (spMid (spRest l f) t) (f, t) = (x, y)) := by
            have h2 := hxy.out
            rw [List.take_of_length_le (by rw [← HM.out]; exact Nat.le_refl _)] at h2
            exact Lib.hid h2
          have t0 := hblk.out.cell 0
          have t1 := hblk.out.cell 1
          simp only [List.getElem?_toArray, List.getElem?_cons_zero, List.getElem?_cons_succ] at t0 t1
          obtain ⟨r, hrr⟩ : ∃ r, r = a + k := ⟨_, rfl⟩
          have hare : a ≤ r := by omega
          have hrn : r ≤ n := by omega
          have HAR := Lib.hid hrr.symm
          have hn9 : n ≤ 900000 := by omega
          have hbBd : B ≤ wr.heap.size := Nat.le_trans hbB (Nat.le_of_lt hblk.out.lt)
          have hTd : T ≤ wr.heap.size := Nat.le_of_lt hblk.out.lt
          clear hxy mg1 hkm2 hkm
          by_cases hakn : a + k < n
          · obtain ⟨b, off, px', py', eA, hb, q0, q1, hp4⟩ := HR3.out.pc hakn
            have hgt := mg2 rfl _ hp4.out
            dsimp only at hgt
            have hgt' : (t : Int) < (px' : Int) := by omega
            rw [← hrr] at hakn q0 q1 ⊢
            have hakn' : (r : Int) < (n : Int) := by omega
            subst eA
            clear mg2 hp4 hrr
            go_wp2_with fail
            clear q0 q1
            refine wp_ord [(0, .pure), (1, .pure), (2, .pure), (3, .pure), (4, .read), (5, .pure), (6, .pure), (7, .read), (8, .sole), (9, .sole), (10, .pure), (11, .pure), (12, .sole)] [9, 12] (by kernel_rfl) (by kernel_rfl) (fun QQ hQ wd hwd => ?_); simp only [List.map_cons, List.map_nil, List.getD_cons_zero, List.getD_cons_succ]
            have dd1 : wd.cell? ⟨g, 1, none⟩ = some (.slice (some ⟨b, off, none⟩) n c) := by rw [hwd.out]; exact d1
            have tt0 : wd.cell? ⟨T, 0, none⟩ = some (.int .u64 (x : Int)) := by rw [hwd.out]; exact t0
            have tt1 : wd.cell? ⟨T, 1, none⟩ = some (.int .u64 (y : Int)) := by rw [hwd.out]; exact t1
            have hSd : SetI wd g B most (.slice (some ⟨b, off, none⟩) n c) l := HS3.out.below (by rw [hwd.out]; exact (Below.refl _ _).drew) (Nat.le_refl _)
            have hBd : Below T w wd := HBL2.out.trans (hsolo.out.1.trans (by rw [hwd.out]; exact (Below.refl _ _).drew))
            have hbBd' : B ≤ wd.heap.size := by rw [hwd.out]; exact hbBd
            have hTd' : T ≤ wd.heap.size := by rw [hwd.out]; exact hTd
            have HSD := Lib.hid hSd
            have HBD := Lib.hid hBd
            clear hSd hBd hwd d1 t0 t1 HS3 HR3 hsolo hblk
            (refine o_pure (v := ?_) (by rfl) (fun w' => ?_) ?_; rotate_left; (focus (go_simp; (try with_reducible rfl); (try (rw [if_pos (by omega)]; (try with_reducible rfl))))); (try simp only [Act.put, List.setIfInBounds_toArray, List.set_cons_zero, List.set_cons_succ]))
            (refine o_pure (v := ?_) (by rfl) (fun w' => ?_) ?_; rotate_left; (focus (go_simp; (try with_reducible rfl); (try (rw [if_pos (by omega)]; (try with_reducible rfl))))); (try simp only [Act.put, List.setIfInBounds_toArray, List.set_cons_zero, List.set_cons_succ]))
            (refine o_pure (v := ?_) (by rfl) (fun w' => ?_) ?_; rotate_left; (focus (go_simp; (try with_reducible rfl); (try (rw [if_pos (by omega)]; (try with_reducible rfl))))); (try simp only [Act.put, List.setIfInBounds_toArray, List.set_cons_zero, List.set_cons_succ]))
            (refine o_pure (v := ?_) (by rfl) (fun w' => ?_) ?_; rotate_left; (focus (go_simp; (try with_reducible rfl); (try (rw [if_pos (by omega)]; (try with_reducible rfl))))); (try simp only [Act.put, List.setIfInBounds_toArray, List.set_cons_zero, List.set_cons_succ]))
            (refine o_load _ (by rfl) rfl rfl (by assumption) (by kernel_rfl) ?_; simp only [Act.put, List.setIfInBounds_toArray, List.set_cons_zero, List.set_cons_succ])
            (refine o_pure (v := ?_) (by rfl) (fun w' => ?_) ?_; rotate_left; (focus (go_simp; (try with_reducible rfl); (try (rw [if_pos (by omega)]; (try with_reducible rfl))))); (try simp only [Act.put, List.setIfInBounds_toArray, List.set_cons_zero, List.set_cons_succ]))
            (refine o_pure (v := ?_) (by rfl) (fun w' => ?_) ?_; rotate_left; (focus (go_simp; (try with_reducible rfl); (try (rw [if_pos (by omega)]; (try with_reducible rfl))))); (try simp only [Act.put, List.setIfInBounds_toArray, List.set_cons_zero, List.set_cons_succ]))
            (refine o_loads _ [.int .u64 (x : Int), .int .u64 (y : Int)] (by rfl) rfl rfl (cells2 tt0 tt1) (Nat.succ_pos _) (by kernel_rfl) (by kernel_rfl) ?_; simp only [Act.put, List.setIfInBounds_toArray, List.set_cons_zero, List.set_cons_succ])
            refine o_sole (fun K hK => ?_)
            go_wp2_with fail
            refine hK _ _ (fun _ => Ext.of ((Below.refl _ _).alloc (Nat.le_refl _) _)) ?_; clear hK K
            have hS4 := HSD.out.alloc (.cells #[.int .u64 (x : Int), .int .u64 (y : Int)] 71)
            have hv4 := Blk.new wd 71 #[.int .u64 (x : Int), .int .u64 (y : Int)]
            have hb4 : Below T w (wd.alloc (.cells #[.int .u64 (x : Int), .int .u64 (y : Int)] 71)) := HBD.out.alloc hTd' _
            have hne4 : ∀ q, (Value.slice (some ⟨b, off, none⟩) n c).ownBlock = some q → wd.heap.size ≠ q := fun q hq => by have := (HSD.out.own.lt q hq).2; omega
            have hbB4 : B ≤ (wd.alloc (.cells #[.int .u64 (x : Int), .int .u64 (y : Int)] 71)).heap.size := by simp; omega
            have HS4 := Lib.hid hS4
            have HV4 := Lib.hid hv4
            have HB4 := Lib.hid hb4
            have HNE := Lib.hid hne4
            clear hS4 hv4 hb4 hne4 HSD HBD dd1 tt0 tt1
            generalize wd.alloc (.cells #[.int .u64 (x : Int), .int .u64 (y : Int)] 71) = w4 at *
            generalize wd.heap.size = V at *
            refine o_sole (fun K hK => ?_)
            go_wp2_with fail
            refine (spnReplace (.slice (some ⟨b, off, none⟩) n c) n a r B V 1 (cels l) [.int .u64 (x : Int), .int .u64 (y : Int)] w4 (by have := HS4.out.own; rw [← HN.out] at this; exact this) (cels_one l) (by omega) hare hrn HV4.out rfl (by intro u hu; simp at hu; rcases hu with rfl | rfl <;> rfl) HNE.out hbB4).mono ?_
            rintro e w5 ⟨v', rfl, ho, hg, hno⟩
            have HNO := Lib.hid hno
            clear hno
            obtain ⟨A5, c5, rfl, _, _, _⟩ := own_form ho
            have hbg5 := HS4.out.blk.far2 HS4.out.own (by decide) hg
            have g51 : w5.cell? ⟨g, 1, none⟩ = some (.slice (some ⟨b, off, none⟩) n c) := by rw [hbg5.cell]; rfl
            have gf51 := hbg5.frozen 1
            have HO5 := Lib.hid ho
            have HG5 := Lib.hid hg
            clear ho hg hbg5
            go_wp2_with fail
            refine hK _ _ (fun h => by cases h) ?_; clear hK K
            (refine o_pure (v := ?_) (by rfl) (fun w' => ?_) ?_; rotate_left; (focus (go_simp; (try with_reducible rfl); (try (rw [if_pos (by omega)]; (try with_reducible rfl))))); (try simp only [Act.put, List.setIfInBounds_toArray, List.set_cons_zero, List.set_cons_succ]))
            (refine o_pure (v := ?_) (by rfl) (fun w' => ?_) ?_; rotate_left; (focus (go_simp; (try with_reducible rfl); (try (rw [if_pos (by omega)]; (try with_reducible rfl))))); (try simp only [Act.put, List.setIfInBounds_toArray, List.set_cons_zero, List.set_cons_succ]))
            refine o_sole (fun K hK => ?_)
            go_wp2_with fail
            refine hK _ _ (fun h => by cases h) ?_; clear hK K
            refine o_nil (hQ.out _ _ ?_); clear hQ QQ
            go_wp2
            go_ret
            have hmem := hxyf.out
            refine ⟨by rw [HA.out]; rfl, ⟨.slice A5 (a + 1 + (n - r)) c5, ?_⟩, ?_⟩
            · refine ⟨?_, KeptS.len (n := n) ⟨?_, ?_, ?_⟩⟩
              rotate_left
              · intro q hq hqg hqo
                have hq4 : q < w4.heap.size := Nat.lt_of_lt_of_le hq HB4.out.size
                have h5 := HG5.out.block q hq4 (fun e => hqo e.symm)
                exact (Below.heap_setCell _ _ _ _ hqg).trans (h5.trans (HB4.out.block q (by rw [HTT.out]; exact hq)))
              · intro q hq
                rcases HNO.out q hq with h | h
                · exact .inl h
                · exact .inr (Nat.le_trans HB4.out.size h)
              · exact Nat.le_trans (Nat.le_trans HB4.out.size HG5.out.size) (by simp [World.setCell])
              rw [HA.out]
              refine HS4.out.added HT2.out (by omega) HOR.out HG5.out HS4.out ?_
              rw [addL_cels, hmem, ← HAT.out, ← HM.out, ← HN.out, HAR.out]
              exact HO5.out
            · refine ((HB4.out.mono hbB).trans ?_).setCell HS4.out.bg _
              exact (Below.refl _ _).grown HG5.out hbB4 fun q hq => (HS4.out.own.lt q hq).1
          · have hakn' : ¬ (r : Int) < (n : Int) := by omega
            rw [← hrr] at hakn ⊢
            clear mg2 hrr
            go_wp2_with fail
            refine wp_ord [(0, .pure), (1, .pure), (2, .pure), (3, .pure), (4, .read), (5, .pure), (6, .pure), (7, .read), (8, .sole), (9, .sole), (10, .pure), (11, .pure), (12, .sole)] [9, 12] (by kernel_rfl) (by kernel_rfl) (fun QQ hQ wd hwd => ?_); simp only [List.map_cons, List.map_nil, List.getD_cons_zero, List.getD_cons_succ]
            have dd1 : wd.cell? ⟨g, 1, none⟩ = some (.slice A n c) := by rw [hwd.out]; exact d1
            have tt0 : wd.cell? ⟨T, 0, none⟩ = some (.int .u64 (x : Int)) := by rw [hwd.out]; exact t0
            have tt1 : wd.cell? ⟨T, 1, none⟩ = some (.int .u64 (y : Int)) := by rw [hwd.out]; exact t1
            have hSd : SetI wd g B most (.slice A n c) l := HS3.out.below (by rw [hwd.out]; exact (Below.refl _ _).drew) (Nat.le_refl _)
            have hBd : Below T w wd := HBL2.out.trans (hsolo.out.1.trans (by rw [hwd.out]; exact (Below.refl _ _).drew))
            have hbBd' : B ≤ wd.heap.size := by rw [hwd.out]; exact hbBd
            have hTd' : T ≤ wd.heap.size := by rw [hwd.out]; exact hTd
            have HSD := Lib.hid hSd
            have HBD := Lib.hid hBd
            clear hSd hBd hwd d1 t0 t1 HS3 HR3 hsolo hblk
            (refine o_pure (v := ?_) (by rfl) (fun w' => ?_) ?_; rotate_left; (focus (go_simp; (try with_reducible rfl); (try (rw [if_pos (by omega)]; (try with_reducible rfl))))); (try simp only [Act.put, List.setIfInBounds_toArray, List.set_cons_zero, List.set_cons_succ]))
            (refine o_pure (v := ?_) (by rfl) (fun w' => ?_) ?_; rotate_left; (focus (go_simp; (try with_reducible rfl); (try (rw [if_pos (by omega)]; (try with_reducible rfl))))); (try simp only [Act.put, List.setIfInBounds_toArray, List.set_cons_zero, List.set_cons_succ]))
            (refine o_pure (v := ?_) (by rfl) (fun w' => ?_) ?_; rotate_left; (focus (go_simp; (try with_reducible rfl); (try (rw [if_pos (by omega)]; (try with_reducible rfl))))); (try simp only [Act.put, List.setIfInBounds_toArray, List.set_cons_zero, List.set_cons_succ]))
            (refine o_pure (v := ?_) (by rfl) (fun w' => ?_) ?_; rotate_left; (focus (go_simp; (try with_reducible rfl); (try (rw [if_pos (by omega)]; (try with_reducible rfl))))); (try simp only [Act.put, List.setIfInBounds_toArray, List.set_cons_zero, List.set_cons_succ]))
            (refine o_load _ (by rfl) rfl rfl (by assumption) (by kernel_rfl) ?_; simp only [Act.put, List.setIfInBounds_toArray, List.set_cons_zero, List.set_cons_succ])
            (refine o_pure (v := ?_) (by rfl) (fun w' => ?_) ?_; rotate_left; (focus (go_simp; (try with_reducible rfl); (try (rw [if_pos (by omega)]; (try with_reducible rfl))))); (try simp only [Act.put, List.setIfInBounds_toArray, List.set_cons_zero, List.set_cons_succ]))
            (refine o_pure (v := ?_) (by rfl) (fun w' => ?_) ?_; rotate_left; (focus (go_simp; (try with_reducible rfl); (try (rw [if_pos (by omega)]; (try with_reducible rfl))))); (try simp only [Act.put, List.setIfInBounds_toArray, List.set_cons_zero, List.set_cons_succ]))
            (refine o_loads _ [.int .u64 (x : Int), .int .u64 (y : Int)] (by rfl) rfl rfl (cells2 tt0 tt1) (Nat.succ_pos _) (by kernel_rfl) (by kernel_rfl) ?_; simp only [Act.put, List.setIfInBounds_toArray, List.set_cons_zero, List.set_cons_succ])
            refine o_sole (fun K hK => ?_)
            go_wp2_with fail
            refine hK _ _ (fun _ => Ext.of ((Below.refl _ _).alloc (Nat.le_refl _) _)) ?_; clear hK K
            have hS4 := HSD.out.alloc (.cells #[.int .u64 (x : Int), .int .u64 (y : Int)] 71)
            have hv4 := Blk.new wd 71 #[.int .u64 (x : Int), .int .u64 (y : Int)]
            have hb4 : Below T w (wd.alloc (.cells #[.int .u64 (x : Int), .int .u64 (y : Int)] 71)) := HBD.out.alloc hTd' _
            have hne4 : ∀ q, (Value.slice A n c).ownBlock = some q → wd.heap.size ≠ q := fun q hq => by have := (HSD.out.own.lt q hq).2; omega
            have hbB4 : B ≤ (wd.alloc (.cells #[.int .u64 (x : Int), .int .u64 (y : Int)] 71)).heap.size := by simp; omega
            have HS4 := Lib.hid hS4
            have HV4 := Lib.hid hv4
            have HB4 := Lib.hid hb4
            have HNE := Lib.hid hne4
            clear hS4 hv4 hb4 hne4 HSD HBD dd1 tt0 tt1
            generalize wd.alloc (.cells #[.int .u64 (x : Int), .int .u64 (y : Int)] 71) = w4 at *
            generalize wd.heap.size = V at *
            refine o_sole (fun K hK => ?_)
            go_wp2_with fail
            refine (spnReplace (.slice A n c) n a r B V 1 (cels l) [.int .u64 (x : Int), .int .u64 (y : Int)] w4 (by have := HS4.out.own; rw [← HN.out] at this; exact this) (cels_one l) (by omega) hare hrn HV4.out rfl (by intro u hu; simp at hu; rcases hu with rfl | rfl <;> rfl) HNE.out hbB4).mono ?_
            rintro e w5 ⟨v', rfl, ho, hg, hno⟩
            have HNO := Lib.hid hno
            clear hno
            obtain ⟨A5, c5, rfl, _, _, _⟩ := own_form ho
            have hbg5 := HS4.out.blk.far2 HS4.out.own (by decide) hg
            have g51 : w5.cell? ⟨g, 1, none⟩ = some (.slice A n c) := by rw [hbg5.cell]; rfl
            have gf51 := hbg5.frozen 1
            have HO5 := Lib.hid ho
            have HG5 := Lib.hid hg
            clear ho hg hbg5
            go_wp2_with fail
            refine hK _ _ (fun h => by cases h) ?_; clear hK K
            (refine o_pure (v := ?_) (by rfl) (fun w' => ?_) ?_; rotate_left; (focus (go_simp; (try with_reducible rfl); (try (rw [if_pos (by omega)]; (try with_reducible rfl))))); (try simp only [Act.put, List.setIfInBounds_toArray, List.set_cons_zero, List.set_cons_succ]))
            (refine o_pure (v := ?_) (by rfl) (fun w' => ?_) ?_; rotate_left; (focus (go_simp; (try with_reducible rfl); (try (rw [if_pos (by omega)]; (try with_reducible rfl))))); (try simp only [Act.put, List.setIfInBounds_toArray, List.set_cons_zero, List.set_cons_succ]))
            refine o_sole (fun K hK => ?_)
            go_wp2_with fail
            refine hK _ _ (fun h => by cases h) ?_; clear hK K
            refine o_nil (hQ.out _ _ ?_); clear hQ QQ
            go_wp2
            go_ret
            have hmem := hxyf.out
            refine ⟨by rw [HA.out]; rfl, ⟨.slice A5 (a + 1 + (n - r)) c5, ?_⟩, ?_⟩
            · refine ⟨?_, KeptS.len (n := n) ⟨?_, ?_, ?_⟩⟩
              rotate_left
              · intro q hq hqg hqo
                have hq4 : q < w4.heap.size := Nat.lt_of_lt_of_le hq HB4.out.size
                have h5 := HG5.out.block q hq4 (fun e => hqo e.symm)
                exact (Below.heap_setCell _ _ _ _ hqg).trans (h5.trans (HB4.out.block q (by rw [HTT.out]; exact hq)))
              · intro q hq
                rcases HNO.out q hq with h | h
                · exact .inl h
                · exact .inr (Nat.le_trans HB4.out.size h)
              · exact Nat.le_trans (Nat.le_trans HB4.out.size HG5.out.size) (by simp [World.setCell])
              rw [HA.out]
              refine HS4.out.added HT2.out (by omega) HOR.out HG5.out HS4.out ?_
              rw [addL_cels, hmem, ← HAT.out, ← HM.out, ← HN.out, HAR.out]
              exact HO5.out
            · refine ((HB4.out.mono hbB).trans ?_).setCell HS4.out.bg _
              exact (Below.refl _ _).grown HG5.out hbB4 fun q hq => (HS4.out.own.lt q hq).1
    · have hlt2 : n < most := by
        rcases hor with h | h
        · rw [htc] at h; cases h
        · exact h
      have hlt3 : (n : Int) < (most : Int) := by omega
      have hlt4 : decide (most ≤ n) = false := by simpa using hlt2
      clear hor htc
      go_wp2_with fail
      refine wp_ext (by kernel_rfl) (by kernel_rfl) (fun QQ hQ => ?_)
      (first | (refine x_load _ (by rfl) rfl rfl (by assumption) (by kernel_rfl) ?_; simp only [Act.put, List.setIfInBounds_toArray, List.set_cons_zero, List.set_cons_succ]) | (refine x_val (v := ?_) (by rfl) (fun w' hx => ?_) ?_; rotate_left; (focus (go_simp; (try with_reducible rfl))); (try simp only [Act.put, List.setIfInBounds_toArray, List.set_cons_zero, List.set_cons_succ])))
      (first | (refine x_load _ (by rfl) rfl rfl (by assumption) (by kernel_rfl) ?_; simp only [Act.put, List.setIfInBounds_toArray, List.set_cons_zero, List.set_cons_succ]) | (refine x_val (v := ?_) (by rfl) (fun w' hx => ?_) ?_; rotate_left; (focus (go_simp; (try with_reducible rfl))); (try simp only [Act.put, List.setIfInBounds_toArray, List.set_cons_zero, List.set_cons_succ])))
      (first | (refine x_load _ (by rfl) rfl rfl (by assumption) (by kernel_rfl) ?_; simp only [Act.put, List.setIfInBounds_toArray, List.set_cons_zero, List.set_cons_succ]) | (refine x_val (v := ?_) (by rfl) (fun w' hx => ?_) ?_; rotate_left; (focus (go_simp; (try with_reducible rfl))); (try simp only [Act.put, List.setIfInBounds_toArray, List.set_cons_zero, List.set_cons_succ])))
      (first | (refine x_load _ (by rfl) rfl rfl (by assumption) (by kernel_rfl) ?_; simp only [Act.put, List.setIfInBounds_toArray, List.set_cons_zero, List.set_cons_succ]) | (refine x_val (v := ?_) (by rfl) (fun w' hx => ?_) ?_; rotate_left; (focus (go_simp; (try with_reducible rfl))); (try simp only [Act.put, List.setIfInBounds_toArray, List.set_cons_zero, List.set_cons_succ])))
      (first | (refine x_load _ (by rfl) rfl rfl (by assumption) (by kernel_rfl) ?_; simp only [Act.put, List.setIfInBounds_toArray, List.set_cons_zero, List.set_cons_succ]) | (refine x_val (v := ?_) (by rfl) (fun w' hx => ?_) ?_; rotate_left; (focus (go_simp; (try with_reducible rfl))); (try simp only [Act.put, List.setIfInBounds_toArray, List.set_cons_zero, List.set_cons_succ])))
      (first | (refine x_load _ (by rfl) rfl rfl (by assumption) (by kernel_rfl) ?_; simp only [Act.put, List.setIfInBounds_toArray, List.set_cons_zero, List.set_cons_succ]) | (refine x_val (v := ?_) (by rfl) (fun w' hx => ?_) ?_; rotate_left; (focus (go_simp; (try with_reducible rfl))); (try simp only [Act.put, List.setIfInBounds_toArray, List.set_cons_zero, List.set_cons_succ])))
      (first | (refine x_load _ (by rfl) rfl rfl (by assumption) (by kernel_rfl) ?_; simp only [Act.put, List.setIfInBounds_toArray, List.set_cons_zero, List.set_cons_succ]) | (refine x_val (v := ?_) (by rfl) (fun w' hx => ?_) ?_; rotate_left; (focus (go_simp; (try with_reducible rfl))); (try simp only [Act.put, List.setIfInBounds_toArray, List.set_cons_zero, List.set_cons_succ])))
      (first | (refine x_load _ (by rfl) rfl rfl (by assumption) (by kernel_rfl) ?_; simp only [Act.put, List.setIfInBounds_toArray, List.set_cons_zero, List.set_cons_succ]) | (refine x_val (v := ?_) (by rfl) (fun w' hx => ?_) ?_; rotate_left; (focus (go_simp; (try with_reducible rfl))); (try simp only [Act.put, List.setIfInBounds_toArray, List.set_cons_zero, List.set_cons_succ])))
      (first | (refine x_load _ (by rfl) rfl rfl (by assumption) (by kernel_rfl) ?_; simp only [Act.put, List.setIfInBounds_toArray, List.set_cons_zero, List.set_cons_succ]) | (refine x_val (v := ?_) (by rfl) (fun w' hx => ?_) ?_; rotate_left; (focus (go_simp; (try with_reducible rfl))); (try simp only [Act.put, List.setIfInBounds_toArray, List.set_cons_zero, List.set_cons_succ])))
      (first | (refine x_load _ (by rfl) rfl rfl (by assumption) (by kernel_rfl) ?_; simp only [Act.put, List.setIfInBounds_toArray, List.set_cons_zero, List.set_cons_succ]) | (refine x_val (v := ?_) (by rfl) (fun w' hx => ?_) ?_; rotate_left; (focus (go_simp; (try with_reducible rfl))); (try simp only [Act.put, List.setIfInBounds_toArray, List.set_cons_zero, List.set_cons_succ])))
      (first | (refine x_load _ (by rfl) rfl rfl (by assumption) (by kernel_rfl) ?_; simp only [Act.put, List.setIfInBounds_toArray, List.set_cons_zero, List.set_cons_succ]) | (refine x_val (v := ?_) (by rfl) (fun w' hx => ?_) ?_; rotate_left; (focus (go_simp; (try with_reducible rfl))); (try simp only [Act.put, List.setIfInBounds_toArray, List.set_cons_zero, List.set_cons_succ])))
      (first | (refine x_load _ (by rfl) rfl rfl (by assumption) (by kernel_rfl) ?_; simp only [Act.put, List.setIfInBounds_toArray, List.set_cons_zero, List.set_cons_succ]) | (refine x_val (v := ?_) (by rfl) (fun w' hx => ?_) ?_; rotate_left; (focus (go_simp; (try with_reducible rfl))); (try simp only [Act.put, List.setIfInBounds_toArray, List.set_cons_zero, List.set_cons_succ])))
      (first | (refine x_load _ (by rfl) rfl rfl (by assumption) (by kernel_rfl) ?_; simp only [Act.put, List.setIfInBounds_toArray, List.set_cons_zero, List.set_cons_succ]) | (refine x_val (v := ?_) (by rfl) (fun w' hx => ?_) ?_; rotate_left; (focus (go_simp; (try with_reducible rfl))); (try simp only [Act.put, List.setIfInBounds_toArray, List.set_cons_zero, List.set_cons_succ])))
      (first | (refine x_load _ (by rfl) rfl rfl (by assumption) (by kernel_rfl) ?_; simp only [Act.put, List.setIfInBounds_toArray, List.set_cons_zero, List.set_cons_succ]) | (refine x_val (v := ?_) (by rfl) (fun w' hx => ?_) ?_; rotate_left; (focus (go_simp; (try with_reducible rfl))); (try simp only [Act.put, List.setIfInBounds_toArray, List.set_cons_zero, List.set_cons_succ])))
      refine x_nil (hQ.out _ ?_); clear hQ QQ
      intro w2 hb2
      have S2 := HS1.out.below hb2 (Nat.le_refl _)
      have hbk2 := HBK1.out.below hb2 HBK1.out.lt
      have hbl2 := HBL1.out.trans (hb2.mono hBw1)
      clear hb2 HS1 HBK1 HBL1 c0 c1 hBw1
      go_wp2_with fail
      clear hlt2 hlt3 hlt4
      have HS2 := Lib.hid S2
      have HBK2 := Lib.hid hbk2
      have HBL2 := Lib.hid hbl2
      have hgT : g ≠ T := by omega
      clear S2 hbk2 hbl2
      go_loopw [10] (fun jv wr => ∃ (k x y : Nat), k ≤ m ∧ jv = .int .i64 ((a + k : Nat) : Int) ∧ Hid (spWh ((spMid (spRest l f) t).take k) (f, t) = (x, y)) ∧ Hid (Blk wr T 71 #[.int .u64 (x : Int), .int .u64 (y : Int)]) ∧ Hid (Solo T w2 wr)) (fun jv _ => n - (intOf jv).toNat)
      case atStart => exact ⟨0, f, t, Nat.zero_le _, rfl, Lib.hid rfl, HBK2, Lib.hid Solo.refl⟩
      case round =>
        obtain ⟨k, x, y, hkm, rfl, hxy, hblk, hsolo⟩ := hrel
        have hml := HML.out
        have S3 := HS2.out.solo hsolo.out hgT fun q hq => by have := HVT.out q hq; omega
        have d1 := S3.c1
        obtain ⟨_, c', e, _, _, hr3⟩ := own_form S3.own
        injection e with e1 e2 e3
        subst e1 e3
        have HR3 := Lib.hid (hr3.re HN.out.symm)
        have HS3 := Lib.hid S3
        clear S3 hr3 e2
        obtain ⟨mg1, mg2⟩ := HMG.out k hkm
        by_cases hkm2 : k < m
        · obtain ⟨⟨px, py⟩, hp1, hp2, hp3⟩ := mg1 hkm2
          have hakn : a + k < n := by omega
          obtain ⟨b, off, px', py', eA, hb, q0, q1, hp4⟩ := HR3.out.pc hakn
          rw [hp4.out] at hp1
          injection hp1 with hp1
          injection hp1 with hp1 hp1'
          subst hp1 hp1' eA
          have hwh := spWh_take (f, t) hp2
          rw [hxy.out] at hwh
          dsimp only at hwh hp3
          have hp3' : (px' : Int) ≤ (t : Int) := by omega
          have hakn' : ((a + k : Nat) : Int) < (n : Int) := by omega
          have HWH := Lib.hid hwh
          have t0 := hblk.out.cell 0
          have t1 := hblk.out.cell 1
          have tf0 := hblk.out.frozen 0
          have tf1 := hblk.out.frozen 1
          simp only [List.getElem?_toArray, List.getElem?_cons_zero, List.getElem?_cons_succ] at t0 t1
          clear mg1 mg2 hp2 hp4 hwh hp3
          obtain ⟨r, hrr⟩ : ∃ r, r = a + k := ⟨_, rfl⟩
          rw [← hrr] at hakn hakn' q0 q1 ⊢
          have HRR := Lib.hid hrr
          clear hrr
          go_wp2_with fail
          refine wp_region_still_tail 23 (by kernel_rfl) (by kernel_rfl) ?_
          simp only [List.take_succ_cons, List.take_zero, List.drop_succ_cons, List.drop_zero]
          repeat still_step
          refine wpStill_nil ?_
          change wpList _ _ _ _ _ wr.drew
          go_wp2_with fail
          refine ⟨⟨k + 1, min x px', max y py', by omega, by have := HRR.out; congr 1; omega, HWH, ?_, ?_⟩, ?_⟩
          · rw [ifmin, ifmax]
            have hn := (hblk.out.set 0 (.int .u64 ((min x px' : Nat) : Int))).set 1 (.int .u64 ((max y py' : Nat) : Int))
            exact Lib.hid hn.drew
          · exact Lib.hid ((hsolo.out.setCell 0 _).setCell 1 _).drew
          · simp [intOf]; omega
        · have hke : k = m := by omega
          subst hke
          have hxyf : Hid (spWh (spMid (spRest l f) t) (f, t) = (x, y)) := by
            have h2 := hxy.out
            rw [List.take_of_length_le (by rw [← HM.out]; exact Nat.le_refl _)] at h2
            exact Lib.hid h2
          have t0 := hblk.out.cell 0
          have t1 := hblk.out.cell 1
          simp only [List.getElem?_toArray, List.getElem?_cons_zero, List.getElem?_cons_succ] at t0 t1
          obtain ⟨r, hrr⟩ : ∃ r, r = a + k := ⟨_, rfl⟩
          have hare : a ≤ r := by omega
          have hrn : r ≤ n := by omega
          have HAR := Lib.hid hrr.symm
          have hn9 : n ≤ 900000 := by omega
          have hbBd : B ≤ wr.heap.size := Nat.le_trans hbB (Nat.le_of_lt hblk.out.lt)
          have hTd : T ≤ wr.heap.size := Nat.le_of_lt hblk.out.lt
          clear hxy mg1 hkm2 hkm
          by_cases hakn : a + k < n
          · obtain ⟨b, off, px', py', eA, hb, q0, q1, hp4⟩ := HR3.out.pc hakn
            have hgt := mg2 rfl _ hp4.out
            dsimp only at hgt
            have hgt' : (t : Int) < (px' : Int) := by omega
            rw [← hrr] at hakn q0 q1 ⊢
            have hakn' : (r : Int) < (n : Int) := by omega
            subst eA
            clear mg2 hp4 hrr
            go_wp2_with fail
            clear q0 q1
            refine wp_ord [(0, .pure), (1, .pure), (2, .pure), (3, .pure), (4, .read), (5, .pure), (6, .pure), (7, .read), (8, .sole), (9, .sole), (10, .pure), (11, .pure), (12, .sole)] [9, 12] (by kernel_rfl) (by kernel_rfl) (fun QQ hQ wd hwd => ?_); simp only [List.map_cons, List.map_nil, List.getD_cons_zero, List.getD_cons_succ]
            have dd1 : wd.cell? ⟨g, 1, none⟩ = some (.slice (some ⟨b, off, none⟩) n c) := by rw [hwd.out]; exact d1
            have tt0 : wd.cell? ⟨T, 0, none⟩ = some (.int .u64 (x : Int)) := by rw [hwd.out]; exact t0
            have tt1 : wd.cell? ⟨T, 1, none⟩ = some (.int .u64 (y : Int)) := by rw [hwd.out]; exact t1
            have hSd : SetI wd g B most (.slice (some ⟨b, off, none⟩) n c) l := HS3.out.below (by rw [hwd.out]; exact (Below.refl _ _).drew) (Nat.le_refl _)
            have hBd : Below T w wd := HBL2.out.trans (hsolo.out.1.trans (by rw [hwd.out]; exact (Below.refl _ _).drew))
            have hbBd' : B ≤ wd.heap.size := by rw [hwd.out]; exact hbBd
            have hTd' : T ≤ wd.heap.size := by rw [hwd.out]; exact hTd
            have HSD := Lib.hid hSd
            have HBD := Lib.hid hBd
            clear hSd hBd hwd d1 t0 t1 HS3 HR3 hsolo hblk
            (refine o_pure (v := ?_) (by rfl) (fun w' => ?_) ?_; rotate_left; (focus (go_simp; (try with_reducible rfl); (try (rw [if_pos (by omega)]; (try with_reducible rfl))))); (try simp only [Act.put, List.setIfInBounds_toArray, List.set_cons_zero, List.set_cons_succ]))
            (refine o_pure (v := ?_) (by rfl) (fun w' => ?_) ?_; rotate_left; (focus (go_simp; (try with_reducible rfl); (try (rw [if_pos (by omega)]; (try with_reducible rfl))))); (try simp only [Act.put, List.setIfInBounds_toArray, List.set_cons_zero, List.set_cons_succ]))
            (refine o_pure (v := ?_) (by rfl) (fun w' => ?_) ?_; rotate_left; (focus (go_simp; (try with_reducible rfl); (try (rw [if_pos (by omega)]; (try with_reducible rfl))))); (try simp only [Act.put, List.setIfInBounds_toArray, List.set_cons_zero, List.set_cons_succ]))
            (refine o_pure (v := ?_) (by rfl) (fun w' => ?_) ?_; rotate_left; (focus (go_simp; (try with_reducible rfl); (try (rw [if_pos (by omega)]; (try with_reducible rfl))))); (try simp only [Act.put, List.setIfInBounds_toArray, List.set_cons_zero, List.set_cons_succ]))
            (refine o_load _ (by rfl) rfl rfl (by assumption) (by kernel_rfl) ?_; simp only [Act.put, List.setIfInBounds_toArray, List.set_cons_zero, List.set_cons_succ])
            (refine o_pure (v := ?_) (by rfl) (fun w' => ?_) ?_; rotate_left; (focus (go_simp; (try with_reducible rfl); (try (rw [if_pos (by omega)]; (try with_reducible rfl))))); (try simp only [Act.put, List.setIfInBounds_toArray, List.set_cons_zero, List.set_cons_succ]))
            (refine o_pure (v := ?_) (by rfl) (fun w' => ?_) ?_; rotate_left; (focus (go_simp; (try with_reducible rfl); (try (rw [if_pos (by omega)]; (try with_reducible rfl))))); (try simp only [Act.put, List.setIfInBounds_toArray, List.set_cons_zero, List.set_cons_succ]))
            (refine o_loads _ [.int .u64 (x : Int), .int .u64 (y : Int)] (by rfl) rfl rfl (cells2 tt0 tt1) (Nat.succ_pos _) (by kernel_rfl) (by kernel_rfl) ?_; simp only [Act.put, List.setIfInBounds_toArray, List.set_cons_zero, List.set_cons_succ])
            refine o_sole (fun K hK => ?_)
            go_wp2_with fail
            refine hK _ _ (fun _ => Ext.of ((Below.refl _ _).alloc (Nat.le_refl _) _)) ?_; clear hK K
            have hS4 := HSD.out.alloc (.cells #[.int .u64 (x : Int), .int .u64 (y : Int)] 71)
            have hv4 := Blk.new wd 71 #[.int .u64 (x : Int), .int .u64 (y : Int)]
            have hb4 : Below T w (wd.alloc (.cells #[.int .u64 (x : Int), .int .u64 (y : Int)] 71)) := HBD.out.alloc hTd' _
            have hne4 : ∀ q, (Value.slice (some ⟨b, off, none⟩) n c).ownBlock = some q → wd.heap.size ≠ q := fun q hq => by have := (HSD.out.own.lt q hq).2; omega
            have hbB4 : B ≤ (wd.alloc (.cells #[.int .u64 (x : Int), .int .u64 (y : Int)] 71)).heap.size := by simp; omega
            have HS4 := Lib.hid hS4
            have HV4 := Lib.hid hv4
            have HB4 := Lib.hid hb4
            have HNE := Lib.hid hne4
            clear hS4 hv4 hb4 hne4 HSD HBD dd1 tt0 tt1
            generalize wd.alloc (.cells #[.int .u64 (x : Int), .int .u64 (y : Int)] 71) = w4 at *
            generalize wd.heap.size = V at *
            refine o_sole (fun K hK => ?_)
            go_wp2_with fail
            refine (spnReplace (.slice (some ⟨b, off, none⟩) n c) n a r B V 1 (cels l) [.int .u64 (x : Int), .int .u64 (y : Int)] w4 (by have := HS4.out.own; rw [← HN.out] at this; exact this) (cels_one l) (by omega) hare hrn HV4.out rfl (by intro u hu; simp at hu; rcases hu with rfl | rfl <;> rfl) HNE.out hbB4).mono ?_
            rintro e w5 ⟨v', rfl, ho, hg, hno⟩
            have HNO := Lib.hid hno
            clear hno
            obtain ⟨A5, c5, rfl, _, _, _⟩ := own_form ho
            have hbg5 := HS4.out.blk.far2 HS4.out.own (by decide) hg
            have g51 : w5.cell? ⟨g, 1, none⟩ = some (.slice (some ⟨b, off, none⟩) n c) := by rw [hbg5.cell]; rfl
            have gf51 := hbg5.frozen 1
            have HO5 := Lib.hid ho
            have HG5 := Lib.hid hg
            clear ho hg hbg5
            go_wp2_with fail
            refine hK _ _ (fun h => by cases h) ?_; clear hK K
            (refine o_pure (v := ?_) (by rfl) (fun w' => ?_) ?_; rotate_left; (focus (go_simp; (try with_reducible rfl); (try (rw [if_pos (by omega)]; (try with_reducible rfl))))); (try simp only [Act.put, List.setIfInBounds_toArray, List.set_cons_zero, List.set_cons_succ]))
            (refine o_pure (v := ?_) (by rfl) (fun w' => ?_) ?_; rotate_left; (focus (go_simp; (try with_reducible rfl); (try (rw [if_pos (by omega)]; (try with_reducible rfl))))); (try simp only [Act.put, List.setIfInBounds_toArray, List.set_cons_zero, List.set_cons_succ]))
            refine o_sole (fun K hK => ?_)
            go_wp2_with fail
            refine hK _ _ (fun h => by cases h) ?_; clear hK K
            refine o_nil (hQ.out _ _ ?_); clear hQ QQ
            go_wp2
            go_ret
            have hmem := hxyf.out
            refine ⟨by rw [HA.out]; rfl, ⟨.slice A5 (a + 1 + (n - r)) c5, ?_⟩, ?_⟩
            · refine ⟨?_, KeptS.len (n := n) ⟨?_, ?_, ?_⟩⟩
              rotate_left
              · intro q hq hqg hqo
                have hq4 : q < w4.heap.size := Nat.lt_of_lt_of_le hq HB4.out.size
                have h5 := HG5.out.block q hq4 (fun e => hqo e.symm)
                exact (Below.heap_setCell _ _ _ _ hqg).trans (h5.trans (HB4.out.block q (by rw [HTT.out]; exact hq)))
              · intro q hq
                rcases HNO.out q hq with h | h
                · exact .inl h
                · exact .inr (Nat.le_trans HB4.out.size h)
              · exact Nat.le_trans (Nat.le_trans HB4.out.size HG5.out.size) (by simp [World.setCell])
              rw [HA.out]
              refine HS4.out.added HT2.out (by omega) HOR.out HG5.out HS4.out ?_
              rw [addL_cels, hmem, ← HAT.out, ← HM.out, ← HN.out, HAR.out]
              exact HO5.out
            · refine ((HB4.out.mono hbB).trans ?_).setCell HS4.out.bg _
              exact (Below.refl _ _).grown HG5.out hbB4 fun q hq => (HS4.out.own.lt q hq).1
          · have hakn' : ¬ (r : Int) < (n : Int) := by omega
            rw [← hrr] at hakn ⊢
            clear mg2 hrr
            go_wp2_with fail
            refine wp_ord [(0, .pure), (1, .pure), (2, .pure), (3, .pure), (4, .read), (5, .pure), (6, .pure), (7, .read), (8, .sole), (9, .sole), (10, .pure), (11, .pure), (12, .sole)] [9, 12] (by kernel_rfl) (by kernel_rfl) (fun QQ hQ wd hwd => ?_); simp only [List.map_cons, List.map_nil, List.getD_cons_zero, List.getD_cons_succ]
            have dd1 : wd.cell? ⟨g, 1, none⟩ = some (.slice A n c) := by rw [hwd.out]; exact d1
            have tt0 : wd.cell? ⟨T, 0, none⟩ = some (.int .u64 (x : Int)) := by rw [hwd.out]; exact t0
            have tt1 : wd.cell? ⟨T, 1, none⟩ = some (.int .u64 (y : Int)) := by rw [hwd.out]; exact t1
            have hSd : SetI wd g B most (.slice A n c) l := HS3.out.below (by rw [hwd.out]; exact (Below.refl _ _).drew) (Nat.le_refl _)
            have hBd : Below T w wd := HBL2.out.trans (hsolo.out.1.trans (by rw [hwd.out]; exact (Below.refl _ _).drew))
            have hbBd' : B ≤ wd.heap.size := by rw [hwd.out]; exact hbBd
            have hTd' : T ≤ wd.heap.size := by rw [hwd.out]; exact hTd
            have HSD := Lib.hid hSd
            have HBD := Lib.hid hBd
            clear hSd hBd hwd d1 t0 t1 HS3 HR3 hsolo hblk
            (refine o_pure (v := ?_) (by rfl) (fun w' => ?_) ?_; rotate_left; (focus (go_simp; (try with_reducible rfl); (try (rw [if_pos (by omega)]; (try with_reducible rfl))))); (try simp only [Act.put, List.setIfInBounds_toArray, List.set_cons_zero, List.set_cons_succ]))
            (refine o_pure (v := ?_) (by rfl) (fun w' => ?_) ?_; rotate_left; (focus (go_simp; (try with_reducible rfl); (try (rw [if_pos (by omega)]; (try with_reducible rfl))))); (try simp only [Act.put, List.setIfInBounds_toArray, List.set_cons_zero, List.set_cons_succ]))
            (refine o_pure (v := ?_) (by rfl) (fun w' => ?_) ?_; rotate_left; (focus (go_simp; (try with_reducible rfl); (try (rw [if_pos (by omega)]; (try with_reducible rfl))))); (try simp only [Act.put, List.setIfInBounds_toArray, List.set_cons_zero, List.set_cons_succ]))
            (refine o_pure (v := ?_) (by rfl) (fun w' => ?_) ?_; rotate_left; (focus (go_simp; (try with_reducible rfl); (try (rw [if_pos (by omega)]; (try with_reducible rfl))))); (try simp only [Act.put, List.setIfInBounds_toArray, List.set_cons_zero, List.set_cons_succ]))
            (refine o_load _ (by rfl) rfl rfl (by assumption) (by kernel_rfl) ?_; simp only [Act.put, List.setIfInBounds_toArray, List.set_cons_zero, List.set_cons_succ])
            (refine o_pure (v := ?_) (by rfl) (fun w' => ?_) ?_; rotate_left; (focus (go_simp; (try with_reducible rfl); (try (rw [if_pos (by omega)]; (try with_reducible rfl))))); (try simp only [Act.put, List.setIfInBounds_toArray, List.set_cons_zero, List.set_cons_succ]))
            (refine o_pure (v := ?_) (by rfl) (fun w' => ?_) ?_; rotate_left; (focus (go_simp; (try with_reducible rfl); (try (rw [if_pos (by omega)]; (try with_reducible rfl))))); (try simp only [Act.put, List.setIfInBounds_toArray, List.set_cons_zero, List.set_cons_succ]))
            (refine o_loads _ [.int .u64 (x : Int), .int .u64 (y : Int)] (by rfl) rfl rfl (cells2 tt0 tt1) (Nat.succ_pos _) (by kernel_rfl) (by kernel_rfl) ?_; simp only [Act.put, List.setIfInBounds_toArray, List.set_cons_zero, List.set_cons_succ])
            refine o_sole (fun K hK => ?_)
            go_wp2_with fail
            refine hK _ _ (fun _ => Ext.of ((Below.refl _ _).alloc (Nat.le_refl _) _)) ?_; clear hK K
            have hS4 := HSD.out.alloc (.cells #[.int .u64 (x : Int), .int .u64 (y : Int)] 71)
            have hv4 := Blk.new wd 71 #[.int .u64 (x : Int), .int .u64 (y : Int)]
            have hb4 : Below T w (wd.alloc (.cells #[.int .u64 (x : Int), .int .u64 (y : Int)] 71)) := HBD.out.alloc hTd' _
            have hne4 : ∀ q, (Value.slice A n c).ownBlock = some q → wd.heap.size ≠ q := fun q hq => by have := (HSD.out.own.lt q hq).2; omega
            have hbB4 : B ≤ (wd.alloc (.cells #[.int .u64 (x : Int), .int .u64 (y : Int)] 71)).heap.size := by simp; omega
            have HS4 := Lib.hid hS4
            have HV4 := Lib.hid hv4
            have HB4 := Lib.hid hb4
            have HNE := Lib.hid hne4
            clear hS4 hv4 hb4 hne4 HSD HBD dd1 tt0 tt1
            generalize wd.alloc (.cells #[.int .u64 (x : Int), .int .u64 (y : Int)] 71) = w4 at *
            generalize wd.heap.size = V at *
            refine o_sole (fun K hK => ?_)
            go_wp2_with fail
            refine (spnReplace (.slice A n c) n a r B V 1 (cels l) [.int .u64 (x : Int), .int .u64 (y : Int)] w4 (by have := HS4.out.own; rw [← HN.out] at this; exact this) (cels_one l) (by omega) hare hrn HV4.out rfl (by intro u hu; simp at hu; rcases hu with rfl | rfl <;> rfl) HNE.out hbB4).mono ?_
            rintro e w5 ⟨v', rfl, ho, hg, hno⟩
            have HNO := Lib.hid hno
            clear hno
            obtain ⟨A5, c5, rfl, _, _, _⟩ := own_form ho
            have hbg5 := HS4.out.blk.far2 HS4.out.own (by decide) hg
            have g51 : w5.cell? ⟨g, 1, none⟩ = some (.slice A n c) := by rw [hbg5.cell]; rfl
            have gf51 := hbg5.frozen 1
            have HO5 := Lib.hid ho
            have HG5 := Lib.hid hg
            clear ho hg hbg5
            go_wp2_with fail
            refine hK _ _ (fun h => by cases h) ?_; clear hK K
            (refine o_pure (v := ?_) (by rfl) (fun w' => ?_) ?_; rotate_left; (focus (go_simp; (try with_reducible rfl); (try (rw [if_pos (by omega)]; (try with_reducible rfl))))); (try simp only [Act.put, List.setIfInBounds_toArray, List.set_cons_zero, List.set_cons_succ]))
            (refine o_pure (v := ?_) (by rfl) (fun w' => ?_) ?_; rotate_left; (focus (go_simp; (try with_reducible rfl); (try (rw [if_pos (by omega)]; (try with_reducible rfl))))); (try simp only [Act.put, List.setIfInBounds_toArray, List.set_cons_zero, List.set_cons_succ]))
            refine o_sole (fun K hK => ?_)
            go_wp2_with fail
            refine hK _ _ (fun h => by cases h) ?_; clear hK K
            refine o_nil (hQ.out _ _ ?_); clear hQ QQ
            go_wp2
            go_ret
            have hmem := hxyf.out
            refine ⟨by rw [HA.out]; rfl, ⟨.slice A5 (a + 1 + (n - r)) c5, ?_⟩, ?_⟩
            · refine ⟨?_, KeptS.len (n := n) ⟨?_, ?_, ?_⟩⟩
              rotate_left
              · intro q hq hqg hqo
                have hq4 : q < w4.heap.size := Nat.lt_of_lt_of_le hq HB4.out.size
                have h5 := HG5.out.block q hq4 (fun e => hqo e.symm)
                exact (Below.heap_setCell _ _ _ _ hqg).trans (h5.trans (HB4.out.block q (by rw [HTT.out]; exact hq)))
              · intro q hq
                rcases HNO.out q hq with h | h
                · exact .inl h
                · exact .inr (Nat.le_trans HB4.out.size h)
              · exact Nat.le_trans (Nat.le_trans HB4.out.size HG5.out.size) (by simp [World.setCell])
              rw [HA.out]
              refine HS4.out.added HT2.out (by omega) HOR.out HG5.out HS4.out ?_
              rw [addL_cels, hmem, ← HAT.out, ← HM.out, ← HN.out, HAR.out]
              exact HO5.out
            · refine ((HB4.out.mono hbB).trans ?_).setCell HS4.out.bg _
              exact (Below.refl _ _).grown HG5.out hbB4 fun q hq => (HS4.out.own.lt q hq).1
end Go.Proofs.Ytnngjbieoakanaa
