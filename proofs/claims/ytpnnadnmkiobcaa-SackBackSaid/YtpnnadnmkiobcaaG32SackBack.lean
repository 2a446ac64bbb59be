/- Layer 31: what came of a path's numbers: mathematics. No program. -/
import Derived.Test.YtpnnadnmkiobcaaG4SackBack
import Derived.Test.YtpnnadnmkiobcaaSpm4

namespace Go.Proofs.Ytpnnadnmkiobcaa
set_option linter.unusedVariables false
/-- The number that is so far ahead of what is waited for. -/
def pl (W : Int) (d : Nat) : Int := (W + (d : Int)) % 4294967296
theorem pl_u32 (W : Int) (d : Nat) : U32 (pl W d) := by unfold pl U32; omega
theorem pl_zero {W : Int} (h : U32 W) : pl W 0 = W := by unfold pl U32 at *; omega
theorem sd_pl (W : Int) {a b : Nat} (ha : a ≤ 2000000000) (hb : b ≤ 2000000000) : sd (pl W a) (pl W b) = (a : Int) - (b : Int) := by unfold sd pl; omega
theorem sd_plw {W : Int} (h : U32 W) {a : Nat} (ha : a ≤ 2000000000) : sd (pl W a) W = (a : Int) := by unfold sd pl U32 at *; omega
theorem pl_of {W x : Int} (hx : U32 x) (h : 0 ≤ sd x W) : pl W (sd x W).toNat = x := by unfold sd pl U32 at *; omega
theorem pl_pl (W : Int) (a b : Nat) : pl (pl W a) b = pl W (a + b) := by unfold pl; omega
theorem pl_inj {W : Int} {a b : Nat} (ha : a ≤ 2000000000) (hb : b ≤ 2000000000) (h : pl W a = pl W b) : a = b := by unfold pl at h; omega
theorem pl_iszero {W : Int} (h : U32 W) {a : Nat} (ha : a ≤ 2000000000) : (pl W a = W) ↔ a = 0 := by unfold pl U32 at *; omega
def bdL (W : Int) (l : List Sp) : List Bk := l.map fun p => (pl W p.1, pl W p.2)
theorem bdL_len (W : Int) (l : List Sp) : (bdL W l).length = l.length := by simp [bdL]
theorem bdL_append (W : Int) (l m : List Sp) : bdL W (l ++ m) = bdL W l ++ bdL W m := by simp [bdL]
theorem bdL_take (W : Int) (l : List Sp) (k : Nat) : bdL W (l.take k) = (bdL W l).take k := by simp [bdL, List.map_take]
theorem bdL_drop (W : Int) (l : List Sp) (k : Nat) : bdL W (l.drop k) = (bdL W l).drop k := by simp [bdL, List.map_drop]
theorem bdL_u32 (W : Int) (l : List Sp) : ∀ p ∈ bdL W l, U32 p.1 ∧ U32 p.2 := by
  intro p hp
  obtain ⟨q, _, rfl⟩ := List.mem_map.1 hp
  exact ⟨pl_u32 _ _, pl_u32 _ _⟩
theorem bdL_get {W : Int} {l : List Sp} {i : Nat} {x y : Int} (h : (bdL W l)[i]? = some (x, y)) : ∃ p, l[i]? = some p ∧ x = pl W p.1 ∧ y = pl W p.2 := by
  unfold bdL at h
  rw [List.getElem?_map] at h
  cases hp : l[i]? with
  | none => rw [hp] at h; cases h
  | some p =>
    rw [hp] at h
    simp at h
    exact ⟨p, rfl, h.1.symm, h.2.symm⟩
/-- Pieces ahead of what is waited for. -/
structure BOk (l : List Sp) : Prop where
  rise : Rise l
  pos : ∀ p ∈ l, 0 < p.1
  top : ∀ p ∈ l, p.2 ≤ 1048576
theorem BOk.nil : BOk [] := ⟨trivial, by simp, by simp⟩
theorem BOk.at_ {l : List Sp} (h : BOk l) {i : Nat} {p : Sp} (hp : l[i]? = some p) : 0 < p.1 ∧ p.1 < p.2 ∧ p.2 ≤ 1048576 :=
  ⟨h.pos p (List.mem_of_getElem? hp), h.rise.pos p (List.mem_of_getElem? hp), h.top p (List.mem_of_getElem? hp)⟩
theorem takeWhile_len {α : Type} {f : α → Bool} {l : List α} {i : Nat} {x : α} (h : l[i]? = some x) (hi : i ≤ (l.takeWhile f).length) : i < (l.takeWhile f).length ↔ f x = true := by
  induction l generalizing i with
  | nil => simp at h
  | cons a l ih =>
    by_cases ha : f a = true
    · rw [List.takeWhile_cons_of_pos ha] at hi ⊢
      cases i with
      | zero => simp at h; subst h; simp [ha]
      | succ i =>
        simp only [List.length_cons] at hi ⊢
        have := ih (i := i) (by simpa using h) (by omega)
        rw [← this]
        omega
    · rw [List.takeWhile_cons_of_neg ha] at hi ⊢
      simp only [List.length_nil] at hi ⊢
      obtain rfl : i = 0 := by omega
      simp at h
      subst h
      simp [ha]
theorem spAt_iff {l : List Sp} {f i : Nat} {p : Sp} (h : l[i]? = some p) (hi : i ≤ spAt l f) : i < spAt l f ↔ p.2 < f := by
  unfold spAt spPre at *
  rw [takeWhile_len h hi]
  simp
theorem spAt_le (l : List Sp) (f : Nat) : spAt l f ≤ l.length := by
  have := congrArg List.length (pre_rest l f)
  rw [List.length_append] at this
  unfold spAt
  omega
def midN (l : List Sp) (f t : Nat) : Nat := (spMid (spRest l f) t).length
theorem spRest_drop (l : List Sp) (f : Nat) : spRest l f = l.drop (spAt l f) := by
  have h : (spPre l f ++ spRest l f).drop (spAt l f) = spRest l f := by unfold spAt; rw [List.drop_left]
  rw [pre_rest] at h
  exact h.symm
theorem spPre_take (l : List Sp) (f : Nat) : spPre l f = l.take (spAt l f) := by
  have h : (spPre l f ++ spRest l f).take (spAt l f) = spPre l f := by unfold spAt; rw [List.take_left]
  rw [pre_rest] at h
  exact h.symm
theorem midN_le (l : List Sp) (f t : Nat) : spAt l f + midN l f t ≤ l.length := by
  have := congrArg List.length (parts_eq l f t)
  simp only [List.length_append] at this
  unfold spAt midN
  omega
theorem spPost_drop (l : List Sp) (f t : Nat) : spPost (spRest l f) t = l.drop (spAt l f + midN l f t) := by
  rw [← List.drop_drop, ← spRest_drop]
  have h : (spMid (spRest l f) t ++ spPost (spRest l f) t).drop (midN l f t) = spPost (spRest l f) t := by unfold midN; rw [List.drop_left]
  rw [mid_post] at h
  exact h.symm
/-- The piece behind so many joined ones. -/
def whK (l : List Sp) (f t k : Nat) : Sp := spWh ((spRest l f).take k) (f, t)
theorem whK_zero (l : List Sp) (f t : Nat) : whK l f t 0 = (f, t) := rfl
theorem whK_step {l : List Sp} {f t k : Nat} {p : Sp} (h : l[spAt l f + k]? = some p) : whK l f t (k + 1) = (min (whK l f t k).1 p.1, max (whK l f t k).2 p.2) := by
  have h2 : (spRest l f)[k]? = some p := by rw [spRest_drop, List.getElem?_drop]; exact h
  unfold whK spWh
  rw [List.take_add_one, h2, List.foldl_append]
  rfl
theorem whK_all (l : List Sp) (f t : Nat) : whK l f t (midN l f t) = joinX l f t := by
  unfold whK joinX
  congr 1
  have h : (spMid (spRest l f) t ++ spPost (spRest l f) t).take (midN l f t) = spMid (spRest l f) t := by unfold midN; rw [List.take_left]
  rw [mid_post] at h
  exact h
theorem midN_iff {l : List Sp} {f t k : Nat} {p : Sp} (hr : Rise l) (hft : f < t) (h : l[spAt l f + k]? = some p) (hk : k ≤ midN l f t) : k < midN l f t ↔ p.1 ≤ (whK l f t k).2 := by
  have h2 : (spRest l f)[k]? = some p := by rw [spRest_drop, List.getElem?_drop]; exact h
  have hw := spWh_le ((spRest l f).take k) (f, t)
  have h1 : k < midN l f t ↔ p.1 ≤ t := by
    unfold midN spMid at *
    rw [takeWhile_len h2 hk]
    simp
  rw [h1]
  constructor
  · intro h3
    have : t ≤ (whK l f t k).2 := hw.2
    omega
  · intro h3
    by_cases ht : p.1 ≤ t
    · exact ht
    · exfalso
      have hrr : Rise (spRest l f) := spRest_rise hr
      have hlt : (whK l f t k).2 < p.1 := by
        unfold whK
        apply spWh_snd
        · dsimp only; omega
        · intro q hq
          have he : spRest l f = (spRest l f).take k ++ (spRest l f).drop k := (List.take_append_drop k _).symm
          rw [he, rise_append] at hrr
          refine hrr.2.2 q hq p ?_
          refine List.mem_of_getElem? (i := 0) ?_
          rw [List.getElem?_drop]
          simpa using h2
      omega
theorem addL_eq (l : List Sp) (f t : Nat) : addL l f t = l.take (spAt l f) ++ joinX l f t :: l.drop (spAt l f + midN l f t) := by
  unfold addL joinX
  rw [spPre_take, spPost_drop]
theorem joinX_le {l : List Sp} {f t : Nat} (hr : BOk l) (hft : f < t) (ht : t ≤ 1048576) : (joinX l f t).1 ≤ f ∧ (joinX l f t).1 < (joinX l f t).2 ∧ (joinX l f t).2 ≤ 1048576 := by
  have h := spWh_le (spMid (spRest l f) t) (f, t)
  have hm : ∀ p ∈ spMid (spRest l f) t, p ∈ l := fun p hp => by rw [parts_eq l f t]; simp [hp]
  have h2 := spWh_snd (spMid (spRest l f) t) (f, t) 1048577 (by dsimp only; omega) (fun p hp => by have := hr.top p (hm p hp); omega)
  unfold joinX
  dsimp only at h
  refine ⟨h.1, by omega, by omega⟩
theorem whK_le {l : List Sp} {f t k : Nat} (hr : BOk l) (hft : f < t) (ht : t ≤ 1048576) : (whK l f t k).1 ≤ f ∧ (whK l f t k).1 < (whK l f t k).2 ∧ (whK l f t k).2 ≤ 1048576 := by
  have h := spWh_le ((spRest l f).take k) (f, t)
  have hm : ∀ p ∈ (spRest l f).take k, p ∈ l := fun p hp => by
    have := List.mem_of_mem_take hp
    rw [← pre_rest l f]
    simp [this]
  have h2 := spWh_snd ((spRest l f).take k) (f, t) 1048577 (by dsimp only; omega) (fun p hp => by have := hr.top p (hm p hp); omega)
  unfold whK
  dsimp only at h
  refine ⟨h.1, by omega, by omega⟩
theorem joinX_zero {l : List Sp} {f t : Nat} (hr : BOk l) (hft : f < t) (h0 : (joinX l f t).1 = 0) : spAt l f = 0 := by
  have hm : ∀ p ∈ spMid (spRest l f) t, p ∈ l := fun p hp => by rw [parts_eq l f t]; simp [hp]
  by_cases hf : f = 0
  · subst hf
    unfold spAt spPre
    cases l with
    | nil => rfl
    | cons p l => rw [List.takeWhile_cons_of_neg (by simp)]; rfl
  · exfalso
    have := spWh_fst (spMid (spRest l f) t) (f, t) 0 (by dsimp only; omega) (fun p hp => hr.pos p (hm p hp))
    unfold joinX at h0
    omega
def shL (d : Nat) (l : List Sp) : List Sp := l.map fun p => (p.1 - d, p.2 - d)
theorem shL_len (d : Nat) (l : List Sp) : (shL d l).length = l.length := by simp [shL]
theorem bdL_sh {W : Int} {d : Nat} {l : List Sp} (h : ∀ p ∈ l, d ≤ p.1 ∧ p.1 < p.2) : bdL (pl W d) (shL d l) = bdL W l := by
  unfold bdL shL
  rw [List.map_map]
  apply List.map_congr_left
  intro p hp
  have := h p hp
  show (pl (pl W d) (p.1 - d), pl (pl W d) (p.2 - d)) = _
  rw [pl_pl, pl_pl, show d + (p.1 - d) = p.1 by omega, show d + (p.2 - d) = p.2 by omega]
theorem shL_ok {d : Nat} {l : List Sp} (h : BOk l) (hd : ∀ p ∈ l, d < p.1) : BOk (shL d l) := by
  induction l with
  | nil => exact BOk.nil
  | cons p l ih =>
    have hl : BOk l := ⟨h.rise.tail, fun q hq => h.pos q (by simp [hq]), fun q hq => h.top q (by simp [hq])⟩
    have hi := ih hl (fun q hq => hd q (by simp [hq]))
    have hp := hd p (by simp)
    have ht := h.top p (by simp)
    obtain ⟨r1, r2, r3⟩ := h.rise
    refine ⟨⟨?_, ?_, hi.rise⟩, ?_, ?_⟩
    · show p.1 - d < p.2 - d
      omega
    · intro x hx
      obtain ⟨q, hq, rfl⟩ := List.mem_map.1 hx
      have h1 := r2 q hq
      have h2 := hd q (List.mem_cons_of_mem _ hq)
      show p.2 - d < q.1 - d
      omega
    · intro q hq
      rcases List.mem_cons.1 hq with rfl | hq
      · show 0 < p.1 - d
        omega
      · exact hi.pos q hq
    · intro q hq
      rcases List.mem_cons.1 hq with rfl | hq
      · show p.2 - d ≤ 1048576
        omega
      · exact hi.top q hq
/-- What is there when a piece came: how far what is waited for moved, the pieces, whether they are taken. -/
def putB (l : List Sp) (most f t : Nat) : Nat × List Sp × Bool :=
  if (joinX l f t).1 = 0 then ((joinX l f t).2, shL (joinX l f t).2 (l.drop (midN l f t)), true)
  else if most < (addL l f t).length then (0, l, false) else (0, addL l f t, true)
theorem addL_ok {l : List Sp} {f t : Nat} (h : BOk l) (hft : f < t) (ht : t ≤ 1048576) (h0 : (joinX l f t).1 ≠ 0) : BOk (addL l f t) := by
  have hj := joinX_le h hft ht
  refine ⟨addL_rise h.rise hft, fun p hp => ?_, fun p hp => ?_⟩
  · rw [addL_eq] at hp
    rcases List.mem_append.1 hp with hp | hp
    · exact h.pos p (List.mem_of_mem_take hp)
    · rcases List.mem_cons.1 hp with rfl | hp
      · omega
      · exact h.pos p (List.mem_of_mem_drop hp)
  · rw [addL_eq] at hp
    rcases List.mem_append.1 hp with hp | hp
    · exact h.top p (List.mem_of_mem_take hp)
    · rcases List.mem_cons.1 hp with rfl | hp
      · omega
      · exact h.top p (List.mem_of_mem_drop hp)
theorem post_gt {l : List Sp} {f t : Nat} (h : BOk l) : ∀ q ∈ l.drop (spAt l f + midN l f t), (joinX l f t).2 < q.1 := by
  intro q hq
  rw [← spPost_drop] at hq
  exact wh_post h.rise q hq
theorem putB_ok {l : List Sp} {most f t : Nat} (h : BOk l) (hl : l.length ≤ most) (hft : f < t) (ht : t ≤ 1048576) : BOk (putB l most f t).2.1 ∧ (putB l most f t).2.1.length ≤ most := by
  unfold putB
  by_cases h0 : (joinX l f t).1 = 0
  · rw [if_pos h0]
    have h1 := joinX_zero h hft h0
    have hg := post_gt (f := f) (t := t) h
    rw [h1, Nat.zero_add] at hg
    refine ⟨shL_ok ⟨?_, fun p hp => h.pos p (List.mem_of_mem_drop hp), fun p hp => h.top p (List.mem_of_mem_drop hp)⟩ hg, ?_⟩
    · have := h.rise
      rw [← List.take_append_drop (midN l f t) l, rise_append] at this
      exact this.2.1
    · show (shL _ _).length ≤ most
      rw [shL_len, List.length_drop]
      omega
  · rw [if_neg h0]
    by_cases hm : most < (addL l f t).length
    · rw [if_pos hm]
      exact ⟨h, hl⟩
    · rw [if_neg hm]
      exact ⟨addL_ok h hft ht h0, by show (addL l f t).length ≤ most; omega⟩
theorem addL_len2 (l : List Sp) (f t : Nat) : (addL l f t).length + midN l f t = l.length + 1 := addL_len l f t
/-- What is there when numbers came. -/
def cameB (W : Int) (l : List Sp) (most : Nat) (x many : Int) : Nat × List Sp × Bool :=
  if many = 0 then (0, l, true) else if many < 0 ∨ 1024 < many then (0, l, false)
  else if sd x W ≤ -many then (0, l, wi x W 1048576 || wi W x 1048576)
  else if 1048576 - many < sd x W then (0, l, false)
  else putB l most (max (sd x W) 0).toNat (sd x W + many).toNat
theorem cameB_ok {W : Int} {l : List Sp} {most : Nat} {x many : Int} (h : BOk l) (hl : l.length ≤ most) : BOk (cameB W l most x many).2.1 ∧ (cameB W l most x many).2.1.length ≤ most := by
  unfold cameB
  split
  · exact ⟨h, hl⟩
  · split
    · exact ⟨h, hl⟩
    · split
      · exact ⟨h, hl⟩
      · split
        · exact ⟨h, hl⟩
        · exact putB_ok h hl (by omega) (by omega)
end Go.Proofs.Ytpnnadnmkiobcaa
