/- A region whose order is open, walked in one order, where what is read lies in none of some blocks, the only ones that are written. No program. -/
import Derived.Test.YtnngjbieoakanaaOrd
import Derived.Test.YtnngjbieoakanaaG5InletTwice

namespace Go.Proofs.Ytnngjbieoakanaa.OX
open Go.RowKit
set_option linter.unusedVariables false
/-- What is read, and what writes it, where it can't come ahead of the reading. -/
structure Bar where
  S : Nat → Prop
  l : List Nat
def Bar.contains (B : Bar) (i : Nat) : Bool := B.l.contains i
def ExtB (B : Bar) (w w' : World) : Prop := w.heap.size ≤ w'.heap.size ∧ ∀ k, k < w.heap.size → ¬ B.S k → w'.heap[k]? = w.heap[k]?
theorem ExtB.refl (B : Bar) (w : World) : ExtB B w w := ⟨Nat.le_refl _, fun _ _ _ => rfl⟩
theorem ExtB.trans {B : Bar} {a b c : World} (h : ExtB B a b) (k : ExtB B b c) : ExtB B a c := ⟨Nat.le_trans h.1 k.1, fun i hi hn => (k.2 i (Nat.lt_of_lt_of_le hi h.1) hn).trans (h.2 i hi hn)⟩
theorem ExtB.of {B : Bar} {w w' : World} (h : Below w.heap.size w w') : ExtB B w w' := ⟨h.size, fun k hk _ => h.block k hk⟩
theorem ExtB.solo {B : Bar} {g : Nat} {w w' : World} (h : Solo g w w') (hg : B.S g) : ExtB B w w' := ⟨by rw [h.2.1]; exact Nat.le_refl _, fun k _ hn => h.2.2 k fun e => hn (e ▸ hg)⟩
theorem ExtB.cell {B : Bar} {w w' : World} (h : ExtB B w w') {b o : Nat} {v : Value} (hb : ¬ B.S b) (hc : w.cell? ⟨b, o, none⟩ = some v) : w'.cell? ⟨b, o, none⟩ = some v := by
  have hlt : b < w.heap.size := by
    rcases Nat.lt_or_ge b w.heap.size with h | h
    · exact h
    · have h2 : w.heap[b]? = none := Array.getElem?_eq_none h
      have h3 : w.cell? ⟨b, o, none⟩ = none := by unfold World.cell?; simp [h2]
      rw [h3] at hc; cases hc
  rw [World.cell?_of_block (a := ⟨b, o, none⟩) (h.2 b hlt hb)]; exact hc
section
variable {P : Program} {ops : Array Oper} {md : Region.Mode} {wild : Bar}

def stepO (P : Program) (ops : Array Oper) (wild : Bar) (i : Nat) (K : Act → World → Prop) (a : Act) (w : World) : Prop :=
  match ops[i]? with
  | none => K a w
  | some o => if Region.wanted o (yielded ops a.tmps) then o.wp P a w (fun a' w' => (wild.contains i = false → ExtB wild w w') ∧ K a' w') (fun _ _ _ => False) else K (a.put o.dst undef) w

def anyO (P : Program) (md : Region.Mode) (ops : Array Oper) (wild : Bar) (Q : Act → World → Prop) : Nat → Array Bool → Act → World → Prop
  | 0, listed, a, w => Region.ready md ops listed = [] ∧ Q a w
  | fuel + 1, listed, a, w => (Region.ready md ops listed = [] → Q a w) ∧ ∀ i ∈ Region.ready md ops listed, stepO P ops wild i (anyO P md ops wild Q fuel (listed.setIfInBounds i true)) a w

theorem stepO_mono {i : Nat} {a : Act} {w : World} {K K' : Act → World → Prop} (h : ∀ a w, K a w → K' a w) (hh : stepO P ops wild i K a w) : stepO P ops wild i K' a w := by
  unfold stepO at *
  cases ho : ops[i]? with
  | none => simp only [ho] at hh ⊢; exact h _ _ hh
  | some o =>
    simp only [ho] at hh ⊢
    by_cases hw : Region.wanted o (yielded ops a.tmps) = true
    · simp only [hw, if_true] at hh ⊢; exact upon_mono (fun a w ⟨h1, h2⟩ => ⟨h1, h a w h2⟩) hh
    · simp only [hw] at hh ⊢; exact h _ _ hh

theorem wpAny_of_anyO {Q : Act → World → Prop} {Q' : Exit → Act → World → Prop} (hQ : ∀ a w, Q a w → Q' .normal a w) : ∀ (fuel : Nat) (listed : Array Bool) (a : Act) (w : World),
    anyO P md ops wild Q fuel listed a w → wpAny P md ops Q' fuel listed a w
  | 0, _, _, _, h => ⟨h.1, hQ _ _ h.2⟩
  | fuel + 1, _, a, _, h => ⟨fun h0 => hQ _ _ (h.1 h0), fun i hi => by
      have hh := h.2 i hi
      unfold stepO at hh
      unfold wpOp
      cases ho : ops[i]? with
      | none => simp only [ho] at hh ⊢; exact wpAny_of_anyO hQ _ _ _ _ hh
      | some o =>
        simp only [ho] at hh ⊢
        by_cases hw : Region.wanted o (yielded ops a.tmps) = true
        · simp only [hw, if_true] at hh ⊢; exact .inl (upon_mono (fun a w hk => wpAny_of_anyO hQ _ _ _ _ hk.2) hh)
        · simp only [hw] at hh ⊢; exact wpAny_of_anyO hQ _ _ _ _ hh⟩

/-- This value, and the world as it was: in whatever world, or in each that has all that is there. -/
def SureO (P : Program) (ops : Array Oper) (wild : Bar) (hard : Bool) (o : Oper) (v : Value) (a : Act) (w : World) : Prop :=
  (Region.wanted o (yielded ops a.tmps) = true ∧ ∀ w', (hard = true → ExtB wild w w') → (execOp a.eval o).run P w' = .ok (.value v) w') ∨
  (Region.wanted o (yielded ops a.tmps) = false ∧ v = undef)

theorem SureO.step {hard : Bool} {i : Nat} {o : Oper} {v : Value} {a : Act} {w : World} {K : Act → World → Prop} (hi : ops[i]? = some o) (hy : SureO P ops wild hard o v a w) (h : K (a.put o.dst v) w) : stepO P ops wild i K a w := by
  unfold stepO
  simp only [hi]
  rcases hy with ⟨hw, hv⟩ | ⟨hw, rfl⟩
  · simp only [hw, if_true]
    have hr := hv w (fun _ => ExtB.refl wild w)
    unfold Oper.wp; rw [hr]; exact ⟨fun _ => ExtB.refl wild w, h⟩
  · simp only [hw, Bool.false_eq_true, if_false]; exact h

theorem SureO.far {hard : Bool} {o : Oper} {v : Value} {a a' : Act} {w w' : World} (hy : SureO P ops wild hard o v a w) (hx : hard = true → ExtB wild w w') (he : execOp a'.eval o = execOp a.eval o)
    (hw : Region.wanted o (yielded ops a'.tmps) = Region.wanted o (yielded ops a.tmps)) : SureO P ops wild hard o v a' w' := by
  unfold SureO at *
  rw [he, hw]
  rcases hy with ⟨h1, h2⟩ | h
  · exact .inl ⟨h1, fun w'' h3 => h2 w'' fun hh => (hx hh).trans (h3 hh)⟩
  · exact .inr h

theorem stepO_put {hard : Bool} {j : Nat} {oi oj : Oper} {v : Value} (hj : ops[j]? = some oj) (hap : oi.apart ops oj = true) (hg : hard = true → wild.contains j = false) (hsi : ∀ cs b, oi.op ≠ .select cs b) (hsj : ∀ cs b, oj.op ≠ .select cs b)
    {K : Act → World → Prop} {a : Act} {w : World} (hy : SureO P ops wild hard oi v a w) (h : stepO P ops wild j K (a.put oi.dst v) w) :
    stepO P ops wild j (fun a' w' => SureO P ops wild hard oi v a' w' ∧ K (a'.put oi.dst v) w') a w := by
  obtain ⟨h1, h2, h3⟩ := Oper.apart_spec hap
  have keep : ∀ u w', (wild.contains j = false → ExtB wild w w') → SureO P ops wild hard oi v (a.put oj.dst u) w' := fun u w' hx =>
    hy.far (fun hh => hx (hg hh)) (execOp_put oi hsi a oj.dst u h3) (wanted_put oi a oj.dst u h3)
  unfold stepO at *
  simp only [hj] at *
  rw [wanted_put oj a oi.dst v h1] at h
  by_cases hw : Region.wanted oj (yielded ops a.tmps) = true
  · simp only [hw, if_true] at h ⊢
    unfold Oper.wp at *
    rw [execOp_put oj hsj a oi.dst v h1] at h
    generalize (execOp a.eval oj).run P w = r at *
    have hc : ∀ u, (a.put oi.dst v).put oj.dst u = (a.put oj.dst u).put oi.dst v := fun u => Act.put_comm a v u h2
    cases r with
    | ok n w' =>
      cases n <;> simp only [Oper.upon] at h ⊢
      case value u => exact ⟨h.1, keep u w' h.1, by rw [← hc]; exact h.2⟩
      case skip => exact ⟨h.1, keep _ w' h.1, by rw [← hc]; exact h.2⟩
      case defer d =>
        have e : ({ (a.put oi.dst v) with defers := d :: (a.put oi.dst v).defers } : Act) = ({ a with defers := d :: a.defers } : Act).put oi.dst v := by cases oi.dst <;> rfl
        have e2 : (({ a with defers := d :: a.defers } : Act).put oi.dst v).put oj.dst undef = (({ a with defers := d :: a.defers } : Act).put oj.dst undef).put oi.dst v := Act.put_comm _ v undef h2
        refine ⟨h.1, ?_, by rw [← e2, ← e]; exact h.2⟩
        have := keep undef w' h.1
        refine this.far (fun _ => ExtB.refl wild w') ?_ ?_
        · congr 1; cases oj.dst <;> rfl
        · congr 2; cases oj.dst <;> rfl
      case enter f args =>
        exact h.mono fun e w'' he => by
          cases e
          · exact ⟨he.1, keep _ w'' he.1, by rw [← hc]; exact he.2⟩
          · exact he
          · exact he
      case row row args =>
        exact h.mono fun u w'' he => ⟨he.1, keep _ w'' he.1, by rw [← hc]; exact he.2⟩
    | halt x w' => cases x <;> simp only [Oper.upon] at h
  · simp only [hw] at h ⊢
    exact ⟨keep _ w (fun _ => ExtB.refl wild w), by rw [← Act.put_comm a v undef h2]; exact h⟩

/-- What can't come ahead of an operation: each of these waits for it, or for another one of them. -/
def closB (md : Region.Mode) (ops : Array Oper) (i : Nat) (N : List Nat) : Bool := N.all fun j => match ops[j]? with
  | none => false
  | some o => o.after.any fun e => Region.binds md e && (e.on == i || N.contains e.on)
theorem clos_out {i : Nat} {N : List Nat} (hN : closB md ops i N = true) {listed : Array Bool} (hi : listed.getD i true = false) (hl : ∀ j ∈ N, listed.getD j true = false) : ∀ j ∈ Region.ready md ops listed, j ∉ N := by
  intro j hj hjN
  obtain ⟨_, o, ho, hall⟩ := mem_ready.1 hj
  have h1 := List.all_eq_true.1 hN j hjN
  simp only [ho] at h1
  obtain ⟨e, he, hb⟩ := Array.any_eq_true'.1 h1
  simp only [Bool.and_eq_true, Bool.or_eq_true, beq_iff_eq, List.contains_iff_mem] at hb
  have h2 := hall e he hb.1
  have h3 : listed.getD e.on true = false := by
    rcases hb.2 with h | h
    · rw [h]; exact hi
    · exact hl _ h
  rcases Nat.lt_or_ge e.on listed.size with h' | h'
  · simp [h'] at h2 h3; rw [h3] at h2; cases h2
  · simp [Array.getElem?_eq_none h'] at h2

theorem anyO_first {Q : Act → World → Prop} {hard : Bool} {i : Nat} {oi : Oper} {v : Value} (hi : ops[i]? = some oi) (hsel : ∀ (j : Nat) (o : Oper) cs b, ops[j]? = some o → o.op ≠ .select cs b) {N : List Nat} (hN : closB md ops i N = true) :
    ∀ (fuel : Nat) (listed : Array Bool) (a : Act) (w : World),
      (∀ j oj, ops[j]? = some oj → j ≠ i → listed.getD j true = false → (∀ e ∈ oj.after, Region.binds md e = true → e.on ≠ i) → oi.apart ops oj = true) →
      (hard = true → ∀ j, j < ops.size → j ≠ i → listed.getD j true = false → j ∉ N → wild.contains j = false) → (∀ j ∈ N, listed.getD j true = false) → i ∉ N →
      i ∈ Region.ready md ops listed → SureO P ops wild hard oi v a w →
      anyO P md ops wild Q fuel (listed.setIfInBounds i true) (a.put oi.dst v) w → anyO P md ops wild Q (fuel + 1) listed a w := by
  intro fuel
  induction fuel with
  | zero =>
    intro listed a w _ _ _ _ hr hy H
    refine ⟨fun h => (by rw [h] at hr; cases hr), fun j hj => ?_⟩
    by_cases hji : j = i
    · subst hji; exact hy.step hi H
    · have := ready_mono hj hji
      rw [H.1] at this
      cases this
  | succ fuel ih =>
    intro listed a w hfree hgen hNl hiN hr hy H
    refine ⟨fun h => (by rw [h] at hr; cases hr), fun j hj => ?_⟩
    by_cases hji : j = i
    · subst hji; exact hy.step hi H
    · have h1 := H.2 j (ready_mono hj hji)
      have hjN := clos_out hN (mem_ready.1 hr).1 hNl j hj
      obtain ⟨hjun, oj, hoj, hall⟩ := mem_ready.1 hj
      have hjs : j < ops.size := (Array.getElem?_eq_some_iff.1 hoj).1
      have hnot : ∀ e ∈ oj.after, Region.binds md e = true → e.on ≠ i := fun e he hb heq => by
        have h1 := hall e he hb
        have h0 := (mem_ready.1 hr).1
        rw [heq] at h1
        rcases Nat.lt_or_ge i listed.size with h' | h'
        · simp [h'] at h0 h1; rw [h0] at h1; cases h1
        · simp [Array.getElem?_eq_none h'] at h1
      have h2 := stepO_put hoj (hfree j oj hoj hji hjun hnot) (fun hh => hgen hh j hjs hji hjun hjN) (fun cs b => hsel i oi cs b hi) (fun cs b => hsel j oj cs b hoj) hy h1
      have back : ∀ k, (listed.setIfInBounds j true).getD k true = false → listed.getD k true = false := fun k hun => by
        by_cases hjk : j = k
        · subst hjk; exact hjun
        · rw [getD_set_ne true hjk] at hun; exact hun
      have hfree' : ∀ k ok, ops[k]? = some ok → k ≠ i → (listed.setIfInBounds j true).getD k true = false →
          (∀ e ∈ ok.after, Region.binds md e = true → e.on ≠ i) → oi.apart ops ok = true := fun k ok hk hki hun hno => hfree k ok hk hki (back k hun) hno
      refine stepO_mono (fun a' w' h3 => ih (listed.setIfInBounds j true) a' w' hfree' (fun hh k hks hki hun hkN => hgen hh k hks hki (back k hun) hkN) (fun k hk => ?_) hiN (ready_mono hr (Ne.symm hji)) h3.1 ?_) h2
      · rw [getD_set_ne true (fun e => hjN (by rw [e]; exact hk))]
        exact hNl k hk
      · rw [Array.setIfInBounds_comm _ _ hji]
        exact h3.2

theorem anyO_sole {Q : Act → World → Prop} {i : Nat} {fuel : Nat} {listed : Array Bool} {a : Act} {w : World} (hr : Region.ready md ops listed = [i])
    (h : stepO P ops wild i (anyO P md ops wild Q fuel (listed.setIfInBounds i true)) a w) : anyO P md ops wild Q (fuel + 1) listed a w :=
  ⟨fun h0 => (by rw [h0] at hr; cases hr), fun j hj => by
    rw [hr] at hj
    obtain rfl : j = i := by simpa using hj
    exact h⟩

/-- How an operation is taken: pure (whatever the world), read (in each world that has all that is there), alone. -/
inductive Kd | pure | read | sole
def walkO (P : Program) (ops : Array Oper) (wild : Bar) (Q : Act → World → Prop) : List (Nat × Kd) → Act → World → Prop
  | [], a, w => Q a w
  | (i, .pure) :: rest, a, w => ∃ v, SureO P ops wild false (ops.getD i default) v a w ∧ walkO P ops wild Q rest (a.put (ops.getD i default).dst v) w
  | (i, .read) :: rest, a, w => ∃ v, SureO P ops wild true (ops.getD i default) v a w ∧ walkO P ops wild Q rest (a.put (ops.getD i default).dst v) w
  | (i, .sole) :: rest, a, w => stepO P ops wild i (walkO P ops wild Q rest) a w

def clos (md : Region.Mode) (ops : Array Oper) (i : Nat) : List Nat :=
  (List.range ops.size).foldl (fun N j => match ops[j]? with
    | none => N
    | some o => if o.after.any fun e => Region.binds md e && (e.on == i || N.contains e.on) then N ++ [j] else N) []

def orderO (md : Region.Mode) (ops : Array Oper) (wild : Bar) : List (Nat × Kd) → Array Bool → Bool
  | [], listed => (Region.ready md ops listed).isEmpty
  | (i, .pure) :: rest, listed => (decide (i < ops.size) && (Region.ready md ops listed).contains i && Region.free md ops listed i) && orderO md ops wild rest (listed.setIfInBounds i true)
  | (i, .read) :: rest, listed => (decide (i < ops.size) && (Region.ready md ops listed).contains i && Region.free md ops listed i &&
      (closB md ops i (clos md ops i) && ((clos md ops i).all fun j => !(listed.getD j true)) && !((clos md ops i).contains i) &&
        ((List.range ops.size).all fun j => j == i || listed.getD j true || (clos md ops i).contains j || !(wild.contains j)))) && orderO md ops wild rest (listed.setIfInBounds i true)
  | (i, .sole) :: rest, listed => (decide (i < ops.size) && Region.ready md ops listed == [i]) && orderO md ops wild rest (listed.setIfInBounds i true)

theorem closB_nil (i : Nat) : closB md ops i [] = true := rfl
theorem anyO_of_walk {Q : Act → World → Prop} (hs : Region.noSelect ops = true) : ∀ (l : List (Nat × Kd)) (listed : Array Bool) (a : Act) (w : World),
    orderO md ops wild l listed = true → walkO P ops wild Q l a w → anyO P md ops wild Q l.length listed a w
  | [], _, _, _, hB, h => ⟨by simpa [orderO] using hB, h⟩
  | (i, .pure) :: rest, listed, a, w, hB, h => by
    simp only [orderO, Bool.and_eq_true, decide_eq_true_eq] at hB
    obtain ⟨⟨⟨hi, hr⟩, hf⟩, hB'⟩ := hB
    obtain ⟨v, hy, hk⟩ := h
    have h0 : ops[i]? = some (ops.getD i default) := by simp [hi]
    exact anyO_first h0 (Region.noSelect_spec hs) (closB_nil i) rest.length listed a w (Region.free_spec h0 hf) (fun h => by cases h) (fun j hj => by cases hj) (by simp) (by simpa using hr) hy (anyO_of_walk hs rest _ _ _ hB' hk)
  | (i, .read) :: rest, listed, a, w, hB, h => by
    simp only [orderO, Bool.and_eq_true, decide_eq_true_eq] at hB
    obtain ⟨⟨⟨⟨hi, hr⟩, hf⟩, ⟨⟨hN1, hN2⟩, hN3⟩, hN4⟩, hB'⟩ := hB
    obtain ⟨v, hy, hk⟩ := h
    have h0 : ops[i]? = some (ops.getD i default) := by simp [hi]
    refine anyO_first h0 (Region.noSelect_spec hs) hN1 rest.length listed a w (Region.free_spec h0 hf) (fun _ j hj hne hun hjN => ?_) (fun j hj => ?_) (by simpa using hN3) (by simpa using hr) hy (anyO_of_walk hs rest _ _ _ hB' hk)
    · have h1 := List.all_eq_true.1 hN4 j (List.mem_range.2 hj)
      simp only [Bool.or_eq_true, beq_iff_eq, hne, false_or, hun, Bool.false_eq_true] at h1
      rcases h1 with h1 | h1
      · exact absurd (by simpa using h1) hjN
      · simpa using h1
    · have h1 := List.all_eq_true.1 hN2 j hj
      simpa using h1
  | (i, .sole) :: rest, listed, a, w, hB, h => by
    simp only [orderO, Bool.and_eq_true, decide_eq_true_eq, beq_iff_eq] at hB
    obtain ⟨⟨hi, hr⟩, hB'⟩ := hB
    exact anyO_sole hr (stepO_mono (fun a' w' hk => anyO_of_walk hs rest _ _ _ hB' hk) h)
end
section
variable {P : Program}
/-- The walk, each operation beside its number (a structure: it is not to be seen through). -/
structure WpO (P : Program) (ops : Array Oper) (wild : Bar) (Q : Act → World → Prop) (l : List (Oper × Nat × Kd)) (a : Act) (w : World) : Prop where
  out : (∀ x ∈ l, ops[x.2.1]? = some x.1) → walkO P ops wild Q (l.map (·.2)) a w
theorem orderO_lt {ops : Array Oper} {wild : Bar} : ∀ (l : List (Nat × Kd)) (listed : Array Bool), orderO .any ops wild l listed = true → ∀ x ∈ l, x.1 < ops.size
  | [], _, _, x, hx => by cases hx
  | (i, .pure) :: rest, listed, hB, x, hx => by
    simp only [orderO, Bool.and_eq_true, decide_eq_true_eq] at hB
    rcases List.mem_cons.1 hx with rfl | hx
    · exact hB.1.1.1
    · exact orderO_lt rest _ hB.2 x hx
  | (i, .read) :: rest, listed, hB, x, hx => by
    simp only [orderO, Bool.and_eq_true, decide_eq_true_eq] at hB
    rcases List.mem_cons.1 hx with rfl | hx
    · exact hB.1.1.1.1
    · exact orderO_lt rest _ hB.2 x hx
  | (i, .sole) :: rest, listed, hB, x, hx => by
    simp only [orderO, Bool.and_eq_true, decide_eq_true_eq] at hB
    rcases List.mem_cons.1 hx with rfl | hx
    · exact hB.1.1
    · exact orderO_lt rest _ hB.2 x hx
/-- A REGION THAT DRAWS ITS ORDER, WALKED IN ONE; the world behind the draw under a name of its own. -/
theorem wp_ord {L : List Oper} {id : Nat} {Q : Exit → Act → World → Prop} {a : Act} {w : World} (l : List (Nat × Kd)) (wild : Bar) (hm : P.follows .mixedOrders = true)
    (hB : (Region.noSelect L.toArray && (l.length == L.toArray.size && orderO .any L.toArray wild l (Array.replicate L.toArray.size false))) = true)
    (h : ∀ Q' : Act → World → Prop, Hid (∀ a w, Q .normal a w → Q' a w) → ∀ wd, Hid (wd = w.drew) → WpO P L.toArray wild Q' (l.map fun x => (L.getD x.1 default, x)) a wd) : (Code.region id L.toArray true).wp P Q a w := by
  simp only [Bool.and_eq_true, beq_iff_eq] at hB
  obtain ⟨hs, hl, hB⟩ := hB
  refine wp_region_any hm (wpAny_of_anyO (wild := wild) (Q := fun a' w' => Q .normal a' w') (fun _ _ h => h) _ _ _ _ ?_)
  have h1 := (h (fun a w => Q .normal a w) (fun _ _ h => h) w.drew rfl).out (by
    intro x hx
    obtain ⟨y, hy, rfl⟩ := List.mem_map.1 hx
    have := orderO_lt l _ hB y hy
    dsimp only
    have h2 : y.1 < L.length := by simpa using this
    simp [h2])
  have hmap : (l.map fun x : Nat × Kd => (L.getD x.1 default, x)).map (fun x : Oper × Nat × Kd => x.2) = l := by
    rw [List.map_map]
    exact List.map_id' l
  rw [hmap] at h1
  have hh := anyO_of_walk hs l _ a _ hB h1
  rw [hl] at hh
  exact hh
variable {ops : Array Oper} {wild : Bar} {Q : Act → World → Prop} {i : Nat} {rest : List (Oper × Nat × Kd)} {a : Act} {w : World} {o : Oper}
theorem getD_of {x : Oper} {i : Nat} (h : ops[i]? = some x) : ops.getD i default = x := by
  obtain ⟨hi, h2⟩ := Array.getElem?_eq_some_iff.1 h
  simp [Array.getD, hi, h2]
theorem o_nil (h : Q a w) : WpO P ops wild Q [] a w := ⟨fun _ => h⟩
theorem o_skip {k : Kd} (hk : k ≠ .sole) (hw : Region.wanted o (yielded ops a.tmps) = false) (h : WpO P ops wild Q rest (a.put o.dst undef) w) : WpO P ops wild Q ((o, i, k) :: rest) a w := by
  refine ⟨fun hall => ?_⟩
  have h0 := getD_of (hall _ (List.mem_cons_self ..))
  have h1 := h.out fun x hx => hall x (by simp [hx])
  dsimp only at h0
  subst h0
  cases k with
  | pure => exact ⟨undef, .inr ⟨hw, rfl⟩, h1⟩
  | read => exact ⟨undef, .inr ⟨hw, rfl⟩, h1⟩
  | sole => exact absurd rfl hk
theorem o_pass (hw : Region.wanted o (yielded ops a.tmps) = false) (h : WpO P ops wild Q rest (a.put o.dst undef) w) : WpO P ops wild Q ((o, i, .sole) :: rest) a w := by
  refine ⟨fun hall => ?_⟩
  have h0 := hall _ (List.mem_cons_self ..)
  have h1 := h.out fun x hx => hall x (by simp [hx])
  show stepO _ _ _ _ _ _ _
  unfold stepO
  dsimp only at h0
  rw [h0]
  simp only [hw, Bool.false_eq_true, if_false]
  exact h1
theorem o_pure {v : Value} (hw : Region.wanted o (yielded ops a.tmps) = true) (hv : ∀ w', (execOp a.eval o).run P w' = .ok (.value v) w') (h : WpO P ops wild Q rest (a.put o.dst v) w) : WpO P ops wild Q ((o, i, .pure) :: rest) a w := by
  refine ⟨fun hall => ?_⟩
  have h0 := getD_of (hall _ (List.mem_cons_self ..))
  have h1 := h.out fun x hx => hall x (by simp [hx])
  dsimp only at h0
  subst h0
  exact ⟨v, .inl ⟨hw, fun w' _ => hv w'⟩, h1⟩
theorem o_read {v : Value} (hw : Region.wanted o (yielded ops a.tmps) = true) (hv : ∀ w', ExtB wild w w' → (execOp a.eval o).run P w' = .ok (.value v) w') (h : WpO P ops wild Q rest (a.put o.dst v) w) : WpO P ops wild Q ((o, i, .read) :: rest) a w := by
  refine ⟨fun hall => ?_⟩
  have h0 := getD_of (hall _ (List.mem_cons_self ..))
  have h1 := h.out fun x hx => hall x (by simp [hx])
  dsimp only at h0
  subst h0
  exact ⟨v, .inl ⟨hw, fun w' hx => hv w' (hx rfl)⟩, h1⟩
theorem o_load {t : TypeId} (x : Operand) (hw : Region.wanted o (yielded ops a.tmps) = true) (ho : o.op = .load t x) {b off : Nat} {v : Value} (hx : a.eval x = .pointer (some ⟨b, off, none⟩)) (hb : ¬ wild.S b) (hc : w.cell? ⟨b, off, none⟩ = some v)
    (hu : (match P.underlying t with | some (.struct _) | some (.array _ _) | none => false | _ => true) = true) (h : WpO P ops wild Q rest (a.put o.dst v) w) : WpO P ops wild Q ((o, i, .read) :: rest) a w := by
  refine o_read hw (fun w' hx' => ?_) h
  have hc' : w'.cell? ⟨b, off, none⟩ = some v := hx'.cell hb hc
  have hag : (isAgg t).run P w' = .ok false w' := by
    unfold isAgg
    cases hd : P.underlying t with
    | none => rw [hd] at hu; cases hu
    | some d => rw [hd] at hu; simp only [Sem.run_bind, run_underlying hd, Result.andThen_ok]; cases d <;> first | rfl | cases hu
  simp [execOp, ho, hx, Instr.loadAt, Instr.sureAddr, loadVar, hag, hc', Result.andThen]
theorem o_loads {t : TypeId} (x : Operand) (cs : List Value) (hw : Region.wanted o (yielded ops a.tmps) = true) (ho : o.op = .load t x) {b off : Nat} (hx : a.eval x = .pointer (some ⟨b, off, none⟩)) (hb : ¬ wild.S b) (hc : ∀ j v, cs[j]? = some v → w.cell? ⟨b, off + j, none⟩ = some v) (h0 : 0 < cs.length)
    (hu : (match P.underlying t with | some (.struct _) | some (.array _ _) => true | _ => false) = true) (hsz : (P.info? t).map (·.size) = some cs.length) (h : WpO P ops wild Q rest (a.put o.dst (.agg cs.toArray)) w) : WpO P ops wild Q ((o, i, .read) :: rest) a w := by
  refine o_read hw (fun w' hx' => ?_) h
  have hc' : ∀ j v, cs[j]? = some v → w'.cell? ((⟨b, off, none⟩ : Addr).add j) = some v := by
    intro j v hj
    rw [addr_add]
    exact hx'.cell hb (hc j v hj)
  have hag : (isAgg t).run P w' = .ok true w' := by
    unfold isAgg
    cases hd : P.underlying t with
    | none => rw [hd] at hu; cases hu
    | some d => rw [hd] at hu; simp only [Sem.run_bind, run_underlying hd, Result.andThen_ok]; cases d <;> first | rfl | cases hu
  have hl := run_loadCells_list (P := P) w' ⟨b, off, none⟩ cs hc'
  cases hq : P.info? t with
  | none => simp [hq] at hsz
  | some i =>
    have hi : i.size = cs.length := by simpa [hq] using hsz
    simp [execOp, ho, hx, Instr.loadAt, Instr.sureAddr, loadVar, hag, sizeOf, typeInfo, hq, hi, hl, Result.andThen]
/-- An operation that comes up alone: by the walk's own steps. -/
theorem o_sole (h : ∀ K : Exit → Act → World → Prop, (∀ a' w', (wild.contains i = false → ExtB wild w w') → WpO P ops wild Q rest a' w' → K .normal a' w') → wpList P ops K [o] a w) : WpO P ops wild Q ((o, i, .sole) :: rest) a w := by
  refine ⟨fun hall => ?_⟩
  have h0 := hall _ (List.mem_cons_self ..)
  dsimp only at h0
  have h1 := h (fun e a'' w'' => e = .normal ∧ (wild.contains i = false → ExtB wild w w'') ∧ walkO P ops wild Q (rest.map (·.2)) a'' w'') fun a'' w'' hx hw => ⟨rfl, hx, hw.out fun x hx => hall x (by simp [hx])⟩
  show stepO P ops wild i (walkO P ops wild Q (rest.map (·.2))) a w
  unfold stepO
  rw [h0]
  dsimp only
  simp only [wpList] at h1
  split
  · rename_i hw
    rw [if_pos hw] at h1
    rcases h1 with h1 | ⟨_, _, _, h2, _⟩
    · exact upon_bare (fun a w hk => hk.2) (fun e a w he => he.1) h1
    · cases h2
  · rename_i hw; rw [if_neg hw] at h1; exact h1.2.2
/-- Bytes read as a string. -/
theorem o_conv {src dst e : TypeId} (hs : P.underlying src = some (.slice e)) (he : P.underlying e = some (.int .u8)) (hd : P.underlying dst = some .string) (x : Operand) (hw : Region.wanted o (yielded ops a.tmps) = true) (ho : o.op = .convert src dst x)
    {B n c : Nat} {A : Option Addr} {l : List Nat} (hx : a.eval x = .slice A n c) (hr : Rd w B 1 A n (ns .u8 l)) (hS : ∀ b off, A = some ⟨b, off, none⟩ → 0 < n → ¬ wild.S b) (h : WpO P ops wild Q rest (a.put o.dst (.string (strN l))) w) : WpO P ops wild Q ((o, i, .read) :: rest) a w := by
  refine o_read hw (fun w' hx' => ?_) h
  have hr' : Rd w' B 1 A n (ns .u8 l) := ⟨hr.1, fun hn => by
    obtain ⟨b, off, e, hb, hc⟩ := hr.2 hn
    refine ⟨b, off, e, hb, fun j hj => ?_⟩
    have hl : j < (ns IntKind.u8 l).length := by rw [hr.1]; exact hj
    rw [List.getElem?_eq_getElem hl]
    exact hx'.cell (hS b off e hn) ((hc j hj).trans (List.getElem?_eq_getElem hl))⟩
  have := run_conv (c := c) hs he hd hr'
  simp [execOp, ho, hx, this, Result.andThen]
end
end Go.Proofs.Ytnngjbieoakanaa.OX
