/- A region whose order is open, walked in pieces; where two operations may come next, both ways. No program. -/
import Derived.Test.YtnngjbieoakanaaOrdB
namespace Go.Proofs.Ytnngjbieoakanaa.OB
open Go.RowKit
set_option linter.unusedVariables false
section
variable {P : Program} {ops : Array Oper} {md : Region.Mode} {wild : Bar}
theorem walkO_mono {Q Q' : Act → World → Prop} (h : ∀ a w, Q a w → Q' a w) : ∀ (l : List (Nat × Kd)) (a : Act) (w : World), walkO P ops wild Q l a w → walkO P ops wild Q' l a w
  | [], a, w, hh => h a w hh
  | (i, .pure) :: rest, a, w, ⟨v, h1, h2⟩ => ⟨v, h1, walkO_mono h rest _ _ h2⟩
  | (i, .read) :: rest, a, w, ⟨v, h1, h2⟩ => ⟨v, h1, walkO_mono h rest _ _ h2⟩
  | (i, .sole) :: rest, a, w, hh => stepO_mono (fun a w h3 => walkO_mono h rest a w h3) hh
def lst (l : List (Nat × Kd)) (listed : Array Bool) : Array Bool := l.foldl (fun s x => s.setIfInBounds x.1 true) listed
def orderP (md : Region.Mode) (ops : Array Oper) (wild : Bar) : List (Nat × Kd) → Array Bool → Bool
  | [], _ => true
  | (i, .pure) :: rest, listed => (decide (i < ops.size) && (Region.ready md ops listed).contains i && Region.free md ops listed i) && orderP md ops wild rest (listed.setIfInBounds i true)
  | (i, .read) :: rest, listed => (decide (i < ops.size) && (Region.ready md ops listed).contains i && Region.free md ops listed i &&
      (closB md ops i (clos md ops i) && ((clos md ops i).all fun j => !(listed.getD j true)) && !((clos md ops i).contains i) &&
        ((List.range ops.size).all fun j => j == i || listed.getD j true || (clos md ops i).contains j || !(wild.contains j)))) && orderP md ops wild rest (listed.setIfInBounds i true)
  | (i, .sole) :: rest, listed => (decide (i < ops.size) && Region.ready md ops listed == [i]) && orderP md ops wild rest (listed.setIfInBounds i true)
theorem anyO_pre {Q : Act → World → Prop} {f : Nat} (hs : Region.noSelect ops = true) : ∀ (l : List (Nat × Kd)) (listed : Array Bool) (a : Act) (w : World),
    orderP md ops wild l listed = true → walkO P ops wild (anyO P md ops wild Q f (lst l listed)) l a w → anyO P md ops wild Q (f + l.length) listed a w
  | [], _, _, _, hB, h => h
  | (i, .pure) :: rest, listed, a, w, hB, h => by
    simp only [orderP, Bool.and_eq_true, decide_eq_true_eq] at hB
    obtain ⟨⟨⟨hi, hr⟩, hf⟩, hB'⟩ := hB
    obtain ⟨v, hy, hk⟩ := h
    have h0 : ops[i]? = some (ops.getD i default) := by simp [hi]
    exact anyO_first h0 (Region.noSelect_spec hs) (closB_nil i) (f + rest.length) listed a w (Region.free_spec h0 hf) (fun h => by cases h) (fun j hj => by cases hj) (by simp) (by simpa using hr) hy (anyO_pre hs rest _ _ _ hB' hk)
  | (i, .read) :: rest, listed, a, w, hB, h => by
    simp only [orderP, Bool.and_eq_true, decide_eq_true_eq] at hB
    obtain ⟨⟨⟨⟨hi, hr⟩, hf⟩, ⟨⟨hN1, hN2⟩, hN3⟩, hN4⟩, hB'⟩ := hB
    obtain ⟨v, hy, hk⟩ := h
    have h0 : ops[i]? = some (ops.getD i default) := by simp [hi]
    refine anyO_first h0 (Region.noSelect_spec hs) hN1 (f + rest.length) listed a w (Region.free_spec h0 hf) (fun _ j hj hne hun hjN => ?_) (fun j hj => ?_) (by simpa using hN3) (by simpa using hr) hy (anyO_pre hs rest _ _ _ hB' hk)
    · have h1 := List.all_eq_true.1 hN4 j (List.mem_range.2 hj)
      simp only [Bool.or_eq_true, beq_iff_eq, hne, false_or, hun, Bool.false_eq_true] at h1
      rcases h1 with h1 | h1
      · exact absurd (by simpa using h1) hjN
      · simpa using h1
    · have h1 := List.all_eq_true.1 hN2 j hj
      simpa using h1
  | (i, .sole) :: rest, listed, a, w, hB, h => by
    simp only [orderP, Bool.and_eq_true, decide_eq_true_eq, beq_iff_eq] at hB
    obtain ⟨⟨hi, hr⟩, hB'⟩ := hB
    exact anyO_sole hr (stepO_mono (fun a' w' hk => anyO_pre hs rest _ _ _ hB' hk) h)
theorem orderP_lt : ∀ (l : List (Nat × Kd)) (listed : Array Bool), orderP md ops wild l listed = true → ∀ x ∈ l, x.1 < ops.size
  | [], _, _, x, hx => by cases hx
  | (i, .pure) :: rest, listed, hB, x, hx => by
    simp only [orderP, Bool.and_eq_true, decide_eq_true_eq] at hB
    rcases List.mem_cons.1 hx with rfl | hx
    · exact hB.1.1.1
    · exact orderP_lt rest _ hB.2 x hx
  | (i, .read) :: rest, listed, hB, x, hx => by
    simp only [orderP, Bool.and_eq_true, decide_eq_true_eq] at hB
    rcases List.mem_cons.1 hx with rfl | hx
    · exact hB.1.1.1.1
    · exact orderP_lt rest _ hB.2 x hx
  | (i, .sole) :: rest, listed, hB, x, hx => by
    simp only [orderP, Bool.and_eq_true, decide_eq_true_eq] at hB
    rcases List.mem_cons.1 hx with rfl | hx
    · exact hB.1.1
    · exact orderP_lt rest _ hB.2 x hx
end
section
variable {P : Program} {L : List Oper} {wild : Bar} {Q : Act → World → Prop}
/-- What is left of a region, whose operations listed are done. -/
structure WpF (P : Program) (L : List Oper) (wild : Bar) (Q : Act → World → Prop) (f : Nat) (listed : Array Bool) (a : Act) (w : World) : Prop where
  out : anyO P .any L.toArray wild Q f listed a w
theorem f_end {listed : Array Bool} {a : Act} {w : World} (hr : (Region.ready .any L.toArray listed).isEmpty = true) (h : Q a w) : WpF P L wild Q 0 listed a w := ⟨⟨by simpa using hr, h⟩⟩
/-- Some operations of it, in this order. -/
theorem f_walk {f : Nat} {listed : Array Bool} {a : Act} {w : World} (l : List (Nat × Kd)) (f' : Nat) (hf : f = f' + l.length) (hB : (Region.noSelect L.toArray && orderP .any L.toArray wild l listed) = true)
    (h : WpO P L.toArray wild (fun a w => WpF P L wild Q f' (lst l listed) a w) (l.map fun x => (L.getD x.1 default, x)) a w) : WpF P L wild Q f listed a w := by
  subst hf
  simp only [Bool.and_eq_true] at hB
  obtain ⟨hs, hB⟩ := hB
  have h1 := h.out (by
    intro x hx
    obtain ⟨y, hy, rfl⟩ := List.mem_map.1 hx
    have := orderP_lt l _ hB y hy
    dsimp only
    have h2 : y.1 < L.length := by simpa using this
    simp [h2])
  have hmap : (l.map fun x : Nat × Kd => (L.getD x.1 default, x)).map (fun x : Oper × Nat × Kd => x.2) = l := by
    rw [List.map_map]
    exact List.map_id' l
  rw [hmap] at h1
  exact ⟨anyO_pre hs l _ a _ hB (walkO_mono (fun a w h => h.out) l a w h1)⟩
/-- One of two operations comes next. -/
theorem f_fork {f : Nat} {listed : Array Bool} {a : Act} {w : World} (i j : Nat) (hB : (decide (i < L.length) && decide (j < L.length) && (Region.ready .any L.toArray listed).all fun k => k == i || k == j) = true)
    (hne : (Region.ready .any L.toArray listed).isEmpty = false)
    (hi : WpO P L.toArray wild (fun a w => WpF P L wild Q f (listed.setIfInBounds i true) a w) [(L.getD i default, i, .sole)] a w)
    (hj : WpO P L.toArray wild (fun a w => WpF P L wild Q f (listed.setIfInBounds j true) a w) [(L.getD j default, j, .sole)] a w) : WpF P L wild Q (f + 1) listed a w := by
  simp only [Bool.and_eq_true, decide_eq_true_eq] at hB
  obtain ⟨⟨hil, hjl⟩, hr⟩ := hB
  have h1 : stepO P L.toArray wild i (fun a w => WpF P L wild Q f (listed.setIfInBounds i true) a w) a w := hi.out (by
    intro x hx
    obtain rfl := List.mem_singleton.1 hx
    dsimp only
    simp [hil])
  have h2 : stepO P L.toArray wild j (fun a w => WpF P L wild Q f (listed.setIfInBounds j true) a w) a w := hj.out (by
    intro x hx
    obtain rfl := List.mem_singleton.1 hx
    dsimp only
    simp [hjl])
  refine ⟨⟨fun h => (by rw [h] at hne; cases hne), fun k hk => ?_⟩⟩
  have h3 := List.all_eq_true.1 hr k hk
  simp only [Bool.or_eq_true, beq_iff_eq] at h3
  rcases h3 with rfl | rfl
  · exact stepO_mono (fun a w h => h.out) h1
  · exact stepO_mono (fun a w h => h.out) h2
theorem wp_f {id : Nat} {Q : Exit → Act → World → Prop} {a : Act} {w : World} (wild : Bar) (hm : P.follows .mixedOrders = true)
    (h : ∀ Q' : Act → World → Prop, Hid (∀ a w, Q .normal a w → Q' a w) → ∀ wd, Hid (wd = w.drew) → WpF P L wild Q' L.length (Array.replicate L.length false) a wd) : (Code.region id L.toArray true).wp P Q a w := by
  refine wp_region_any hm (wpAny_of_anyO (wild := wild) (Q := fun a' w' => Q .normal a' w') (fun _ _ h => h) _ _ _ _ ?_)
  have h1 := (h (fun a w => Q .normal a w) (fun _ _ h => h) w.drew rfl).out
  simpa using h1
end
end Go.Proofs.Ytnngjbieoakanaa.OB
