/- A region whose order is open, walked in one order: what only reads is taken as soon as it may be; what makes memory comes up alone. -/
import Derived.Test.YtnngjbieoakanaaLib
import Derived.Deep.QuietTactic
import Derived.BigQuiet
namespace Go.Proofs.Ytnngjbieoakanaa
open Go.RowKit

/-- Every block that is there stays as it is. -/
def Ext (w w' : World) : Prop := ∀ k, k < w.heap.size → w'.heap[k]? = w.heap[k]?
theorem Ext.refl (w : World) : Ext w w := fun _ _ => rfl
theorem Ext.size {w w' : World} (h : Ext w w') : w.heap.size ≤ w'.heap.size := by
  rcases Nat.lt_or_ge w'.heap.size w.heap.size with hl | hl
  · have := h w'.heap.size hl
    rw [Array.getElem?_eq_none (Nat.le_refl _), Array.getElem?_eq_getElem hl] at this
    cases this
  · exact hl
theorem Ext.trans {a b c : World} (h : Ext a b) (k : Ext b c) : Ext a c := fun i hi => (k i (Nat.lt_of_lt_of_le hi h.size)).trans (h i hi)
theorem Ext.of {w w' : World} (h : Below w.heap.size w w') : Ext w w' := h.block
theorem Ext.cell {w w' : World} (h : Ext w w') {b o : Nat} (hb : b < w.heap.size) : w'.cell? ⟨b, o, none⟩ = w.cell? ⟨b, o, none⟩ := World.cell?_of_block (a := ⟨b, o, none⟩) (h b hb)
theorem Rd.ext {w w' : World} {B size n : Nat} {A : Option Addr} {xs : List Value} (h : Rd w B size A n xs) (hx : Ext w w') (hB : B ≤ w.heap.size) : Rd w' B size A n xs :=
  h.keep (Nat.le_refl _) fun _ _ hb => hx.cell (by omega)

section
variable {P : Program} {ops : Array Oper} {md : Region.Mode}

def stepR (P : Program) (ops : Array Oper) (i : Nat) (K : Act → World → Prop) (a : Act) (w : World) : Prop :=
  match ops[i]? with
  | none => K a w
  | some o => if Region.wanted o (yielded ops a.tmps) then o.wp P a w (fun a' w' => Ext w w' ∧ K a' w') (fun _ _ _ => False) else K (a.put o.dst undef) w

def anyR (P : Program) (md : Region.Mode) (ops : Array Oper) (Q : Act → World → Prop) : Nat → Array Bool → Act → World → Prop
  | 0, listed, a, w => Region.ready md ops listed = [] ∧ Q a w
  | fuel + 1, listed, a, w => (Region.ready md ops listed = [] → Q a w) ∧ ∀ i ∈ Region.ready md ops listed, stepR P ops i (anyR P md ops Q fuel (listed.setIfInBounds i true)) a w

theorem upon_mono {o : Oper} {a : Act} {w : World} {K K' : Act → World → Prop} {Q : Exit → Act → World → Prop} (h : ∀ a w, K a w → K' a w) (hh : o.wp P a w K fun _ _ _ => False) : o.wp P a w K' Q := by
  unfold Oper.wp at *
  generalize (execOp a.eval o).run P w = r at *
  cases r with
  | ok n w' =>
    cases n <;> simp only [Oper.upon] at hh ⊢ <;>
      first
        | exact h _ _ hh
        | exact Calls.mono hh (fun e w'' he => by cases e <;> first | exact h _ _ he | exact he.elim | (obtain ⟨_, _, hq⟩ := he; exact hq.elim))
        | exact Rows.mono hh (fun _ _ he => h _ _ he)
  | halt x w' => cases x <;> simp only [Oper.upon] at hh

theorem upon_bare {o : Oper} {a : Act} {w : World} {K K' : Act → World → Prop} {Q : Exit → Act → World → Prop} (h : ∀ a w, K a w → K' a w) (hq : ∀ e a w, Q e a w → e = .normal) (hh : o.wp P a w K Q) : o.wp P a w K' (fun _ _ _ => False) := by
  unfold Oper.wp at *
  generalize (execOp a.eval o).run P w = r at *
  cases r with
  | ok n w' =>
    cases n <;> simp only [Oper.upon] at hh ⊢ <;>
      first
        | exact h _ _ hh
        | exact Calls.mono hh (fun e w'' he => by cases e <;> first | exact h _ _ he | (have := hq _ _ _ he; cases this) | (obtain ⟨_, _, he⟩ := he; have := hq _ _ _ he; cases this))
        | exact Rows.mono hh (fun _ _ he => h _ _ he)
  | halt x w' => cases x <;> simp only [Oper.upon] at hh; have := hq _ _ _ hh; cases this

theorem stepR_mono {i : Nat} {a : Act} {w : World} {K K' : Act → World → Prop} (h : ∀ a w, K a w → K' a w) (hh : stepR P ops i K a w) : stepR P ops i K' a w := by
  unfold stepR at *
  cases ho : ops[i]? with
  | none => simp only [ho] at hh ⊢; exact h _ _ hh
  | some o =>
    simp only [ho] at hh ⊢
    by_cases hw : Region.wanted o (yielded ops a.tmps) = true
    · simp only [hw, if_true] at hh ⊢; exact upon_mono (fun a w ⟨h1, h2⟩ => ⟨h1, h a w h2⟩) hh
    · simp only [hw] at hh ⊢; exact h _ _ hh

theorem wpAny_of_anyR {Q : Act → World → Prop} {Q' : Exit → Act → World → Prop} (hQ : ∀ a w, Q a w → Q' .normal a w) : ∀ (fuel : Nat) (listed : Array Bool) (a : Act) (w : World),
    anyR P md ops Q fuel listed a w → wpAny P md ops Q' fuel listed a w
  | 0, _, _, _, h => ⟨h.1, hQ _ _ h.2⟩
  | fuel + 1, listed, a, w, h => ⟨fun h0 => hQ _ _ (h.1 h0), fun i hi => by
      have hh := h.2 i hi
      unfold stepR at hh
      unfold wpOp
      cases ho : ops[i]? with
      | none => simp only [ho] at hh ⊢; exact wpAny_of_anyR hQ _ _ _ _ hh
      | some o =>
        simp only [ho] at hh ⊢
        by_cases hw : Region.wanted o (yielded ops a.tmps) = true
        · simp only [hw, if_true] at hh ⊢; exact .inl (upon_mono (fun a w hk => wpAny_of_anyR hQ _ _ _ _ hk.2) hh)
        · simp only [hw] at hh ⊢; exact wpAny_of_anyR hQ _ _ _ _ hh⟩

/-- Whatever world there is: this value, and the world as it was. -/
def Sure (P : Program) (ops : Array Oper) (o : Oper) (v : Value) (a : Act) (w : World) : Prop :=
  (Region.wanted o (yielded ops a.tmps) = true ∧ ∀ w', Ext w w' → (execOp a.eval o).run P w' = .ok (.value v) w' ∨ ((execOp a.eval o).run P w' = .ok .skip w' ∧ v = undef)) ∨
  (Region.wanted o (yielded ops a.tmps) = false ∧ v = undef)

theorem Sure.step {i : Nat} {o : Oper} {v : Value} {a : Act} {w : World} {K : Act → World → Prop} (hi : ops[i]? = some o) (hy : Sure P ops o v a w) (h : K (a.put o.dst v) w) : stepR P ops i K a w := by
  unfold stepR
  simp only [hi]
  rcases hy with ⟨hw, hv⟩ | ⟨hw, rfl⟩
  · simp only [hw, if_true]
    rcases hv w (Ext.refl w) with hr | ⟨hr, rfl⟩
    · unfold Oper.wp; rw [hr]; exact ⟨Ext.refl w, h⟩
    · unfold Oper.wp; rw [hr]; exact ⟨Ext.refl w, h⟩
  · simp only [hw, Bool.false_eq_true, if_false]; exact h

theorem Sure.far {o : Oper} {v : Value} {a a' : Act} {w w' : World} (hy : Sure P ops o v a w) (hx : Ext w w') (he : execOp a'.eval o = execOp a.eval o)
    (hw : Region.wanted o (yielded ops a'.tmps) = Region.wanted o (yielded ops a.tmps)) : Sure P ops o v a' w' := by
  unfold Sure at *
  rw [he, hw]
  rcases hy with ⟨h1, h2⟩ | h
  · exact .inl ⟨h1, fun w'' h3 => h2 w'' (hx.trans h3)⟩
  · exact .inr h

theorem stepR_put {j : Nat} {oi oj : Oper} {v : Value} (hj : ops[j]? = some oj) (hap : oi.apart ops oj = true) (hsi : ∀ cs b, oi.op ≠ .select cs b) (hsj : ∀ cs b, oj.op ≠ .select cs b)
    {K : Act → World → Prop} {a : Act} {w : World} (hy : Sure P ops oi v a w) (h : stepR P ops j K (a.put oi.dst v) w) :
    stepR P ops j (fun a' w' => Sure P ops oi v a' w' ∧ K (a'.put oi.dst v) w') a w := by
  obtain ⟨h1, h2, h3⟩ := Oper.apart_spec hap
  have keep : ∀ u w', Ext w w' → Sure P ops oi v (a.put oj.dst u) w' := fun u w' hx =>
    hy.far hx (execOp_put oi hsi a oj.dst u h3) (wanted_put oi a oj.dst u h3)
  unfold stepR at *
  simp only [hj] at *
  rw [wanted_put oj a oi.dst v h1] at h
  by_cases hw : Region.wanted oj (yielded ops a.tmps) = true
  · simp only [hw, if_true] at h ⊢
    unfold Oper.wp at *
    rw [execOp_put oj hsj a oi.dst v h1] at h
    generalize (execOp a.eval oj).run P w = r at *
    have hc : ∀ u, (a.put oi.dst v).put oj.dst u = (a.put oj.dst u).put oi.dst v := fun u => Act.put_comm a v u h2
    cases r with
    | ok n w' =>
      cases n <;> simp only [Oper.upon] at h ⊢
      case value u => exact ⟨h.1, keep u w' h.1, by rw [← hc]; exact h.2⟩
      case skip => exact ⟨h.1, keep _ w' h.1, by rw [← hc]; exact h.2⟩
      case defer d =>
        have e : ({ (a.put oi.dst v) with defers := d :: (a.put oi.dst v).defers } : Act) = ({ a with defers := d :: a.defers } : Act).put oi.dst v := by cases oi.dst <;> rfl
        have e2 : (({ a with defers := d :: a.defers } : Act).put oi.dst v).put oj.dst undef = (({ a with defers := d :: a.defers } : Act).put oj.dst undef).put oi.dst v := Act.put_comm _ v undef h2
        refine ⟨h.1, ?_, by rw [← e2, ← e]; exact h.2⟩
        have := keep undef w' h.1
        refine this.far (Ext.refl w') ?_ ?_
        · congr 1; cases oj.dst <;> rfl
        · congr 2; cases oj.dst <;> rfl
      case enter f args =>
        exact h.mono fun e w'' he => by
          cases e
          · exact ⟨he.1, keep _ w'' he.1, by rw [← hc]; exact he.2⟩
          · exact he
          · exact he
      case row row args =>
        exact h.mono fun u w'' he => ⟨he.1, keep _ w'' he.1, by rw [← hc]; exact he.2⟩
    | halt x w' => cases x <;> simp only [Oper.upon] at h
  · simp only [hw] at h ⊢
    exact ⟨keep _ w (Ext.refl w), by rw [← Act.put_comm a v undef h2]; exact h⟩

theorem anyR_first {Q : Act → World → Prop} {i : Nat} {oi : Oper} {v : Value} (hi : ops[i]? = some oi) (hsel : ∀ (j : Nat) (o : Oper) cs b, ops[j]? = some o → o.op ≠ .select cs b) :
    ∀ (fuel : Nat) (listed : Array Bool) (a : Act) (w : World),
      (∀ j oj, ops[j]? = some oj → j ≠ i → listed.getD j true = false → (∀ e ∈ oj.after, Region.binds md e = true → e.on ≠ i) → oi.apart ops oj = true) →
      i ∈ Region.ready md ops listed → Sure P ops oi v a w →
      anyR P md ops Q fuel (listed.setIfInBounds i true) (a.put oi.dst v) w → anyR P md ops Q (fuel + 1) listed a w := by
  intro fuel
  induction fuel with
  | zero =>
    intro listed a w _ hr hy H
    refine ⟨fun h => (by rw [h] at hr; cases hr), fun j hj => ?_⟩
    by_cases hji : j = i
    · subst hji; exact hy.step hi H
    · have := ready_mono hj hji
      rw [H.1] at this
      cases this
  | succ fuel ih =>
    intro listed a w hfree hr hy H
    refine ⟨fun h => (by rw [h] at hr; cases hr), fun j hj => ?_⟩
    by_cases hji : j = i
    · subst hji; exact hy.step hi H
    · have h1 := H.2 j (ready_mono hj hji)
      obtain ⟨hjun, oj, hoj, hall⟩ := mem_ready.1 hj
      have hnot : ∀ e ∈ oj.after, Region.binds md e = true → e.on ≠ i := fun e he hb heq => by
        have h1 := hall e he hb
        have h0 := (mem_ready.1 hr).1
        rw [heq] at h1
        rcases Nat.lt_or_ge i listed.size with h' | h'
        · simp [h'] at h0 h1; rw [h0] at h1; cases h1
        · simp [Array.getElem?_eq_none h'] at h1
      have h2 := stepR_put hoj (hfree j oj hoj hji hjun hnot) (fun cs b => hsel i oi cs b hi) (fun cs b => hsel j oj cs b hoj) hy h1
      have hfree' : ∀ k ok, ops[k]? = some ok → k ≠ i → (listed.setIfInBounds j true).getD k true = false →
          (∀ e ∈ ok.after, Region.binds md e = true → e.on ≠ i) → oi.apart ops ok = true := fun k ok hk hki hun hno => by
        refine hfree k ok hk hki ?_ hno
        by_cases hjk : j = k
        · subst hjk; exact hjun
        · rw [getD_set_ne true hjk] at hun; exact hun
      refine stepR_mono (fun a' w' h3 => ih (listed.setIfInBounds j true) a' w' hfree' (ready_mono hr (Ne.symm hji)) h3.1 ?_) h2
      rw [Array.setIfInBounds_comm _ _ hji]
      exact h3.2

/-- An operation that comes up alone. -/
theorem anyR_sole {Q : Act → World → Prop} {i : Nat} {fuel : Nat} {listed : Array Bool} {a : Act} {w : World} (hr : Region.ready md ops listed = [i])
    (h : stepR P ops i (anyR P md ops Q fuel (listed.setIfInBounds i true)) a w) : anyR P md ops Q (fuel + 1) listed a w :=
  ⟨fun h0 => (by rw [h0] at hr; cases hr), fun j hj => by
    rw [hr] at hj
    obtain rfl : j = i := by simpa using hj
    exact h⟩

/-- The walk: which operations come next, whether they only read. -/
def walkR (P : Program) (ops : Array Oper) (Q : Act → World → Prop) : List (Nat × Bool) → Act → World → Prop
  | [], a, w => Q a w
  | (i, true) :: rest, a, w => ∃ v, Sure P ops (ops.getD i default) v a w ∧ walkR P ops Q rest (a.put (ops.getD i default).dst v) w
  | (i, false) :: rest, a, w => stepR P ops i (walkR P ops Q rest) a w

/-- May it be walked so? -/
def orderB (md : Region.Mode) (ops : Array Oper) : List (Nat × Bool) → Array Bool → Bool
  | [], listed => (Region.ready md ops listed).isEmpty
  | (i, true) :: rest, listed => (decide (i < ops.size) && (Region.ready md ops listed).contains i && Region.free md ops listed i) && orderB md ops rest (listed.setIfInBounds i true)
  | (i, false) :: rest, listed => (decide (i < ops.size) && Region.ready md ops listed == [i]) && orderB md ops rest (listed.setIfInBounds i true)

theorem anyR_of_walk {Q : Act → World → Prop} (hs : Region.noSelect ops = true) : ∀ (l : List (Nat × Bool)) (listed : Array Bool) (a : Act) (w : World),
    orderB md ops l listed = true → walkR P ops Q l a w → anyR P md ops Q l.length listed a w
  | [], _, _, _, hB, h => ⟨by simpa [orderB] using hB, h⟩
  | (i, true) :: rest, listed, a, w, hB, h => by
    simp only [orderB, Bool.and_eq_true, decide_eq_true_eq] at hB
    obtain ⟨⟨⟨hi, hr⟩, hf⟩, hB'⟩ := hB
    obtain ⟨v, hy, hk⟩ := h
    have h0 : ops[i]? = some (ops.getD i default) := by simp [hi]
    exact anyR_first h0 (Region.noSelect_spec hs) rest.length listed a w (Region.free_spec h0 hf) (by simpa using hr) hy (anyR_of_walk hs rest _ _ _ hB' hk)
  | (i, false) :: rest, listed, a, w, hB, h => by
    simp only [orderB, Bool.and_eq_true, decide_eq_true_eq, beq_iff_eq] at hB
    obtain ⟨⟨hi, hr⟩, hB'⟩ := hB
    exact anyR_sole hr (stepR_mono (fun a' w' hk => anyR_of_walk hs rest _ _ _ hB' hk) h)

/-- A REGION THAT DRAWS ITS ORDER, WALKED IN ONE. -/
theorem wp_walk {id : Nat} {Q : Exit → Act → World → Prop} {a : Act} {w : World} (l : List (Nat × Bool)) (hm : P.follows .mixedOrders = true)
    (hB : (Region.noSelect ops && (l.length == ops.size && orderB .any ops l (Array.replicate ops.size false))) = true)
    (h : walkR P ops (fun a' w' => Q .normal a' w') l a w.drew) : (Code.region id ops true).wp P Q a w := by
  simp only [Bool.and_eq_true, beq_iff_eq] at hB
  obtain ⟨hs, hl, hB⟩ := hB
  refine wp_region_any hm (wpAny_of_anyR (Q := fun a' w' => Q .normal a' w') (fun _ _ h => h) _ _ _ _ ?_)
  have hh := anyR_of_walk hs l _ a _ hB h
  rw [hl] at hh
  exact hh

/-- Operations that hand back a value and never enter a function. -/
def plainOp (o : Oper) : Bool :=
  match o.op with
  | .move _ | .assign _ | .pick .. | .load .. | .binOp .. | .unOp .. | .convert .. | .slice .. | .fieldAddr .. | .field .. | .indexAddr .. | .index .. | .extract .. | .lookup .. => true
  | .call c => (match c.callee with | .builtin .len | .builtin .cap | .builtin .min | .builtin .max => true | _ => false)
  | _ => false

theorem value_only {s : Sem Value} {w w' : World} {n : Next} (h : (do pure (.value (← s)) : Sem Next).run P w = .ok n w') : ∃ v, n = .value v := by
  rw [Sem.run_bind] at h
  cases hr : s.run P w with
  | ok a w1 => rw [hr] at h; simp at h; exact ⟨a, h.1.symm⟩
  | halt x w1 => rw [hr] at h; simp at h

theorem plain_value {o : Oper} {ρ : Operand → Value} {w w' : World} {n : Next} (hp : plainOp o = true) (h : (execOp ρ o).run P w = .ok n w') : ∃ v, n = .value v := by
  obtain ⟨dst, op, type, pos, after, guard⟩ := o
  cases op
  case call c =>
    obtain ⟨callee, args, argTypes⟩ := c
    cases callee with
    | value f => simp [plainOp] at hp
    | invoke r m => simp [plainOp] at hp
    | builtin b =>
      simp only [execOp, resolve, invoke, Sem.run_bind, Sem.run_pure, Result.andThen_ok] at h
      cases b <;> first | (simp [plainOp] at hp; done) | exact value_only (P := P) h
  case pick c x y =>
    simp only [execOp, Sem.run_bind] at h
    cases hr : (asBool (ρ c)).run P w with
    | ok b w1 => rw [hr] at h; simp at h; exact ⟨_, h.1.symm⟩
    | halt x w1 => rw [hr] at h; simp at h
  all_goals first | (simp [plainOp] at hp; done) | (exact value_only (P := P) h) | (simp only [execOp, Sem.run_pure] at h; injection h with h _; exact ⟨_, h.symm⟩)

/-- The walk in pieces: what only reads, by the words of a quiet walk; what makes memory, alone. -/
def walkS (P : Program) (ops : Array Oper) (Q : Act → World → Prop) : List (List Nat × Option Nat) → Act → World → Prop
  | [], a, w => Q a w
  | (q, s) :: rest, a, w => wpQuiet P ops (Ext w) (fun a' => match s with
      | none => walkS P ops Q rest a' w
      | some i => ∀ K : Exit → Act → World → Prop, (∀ a'' w'', Ext w w'' → walkS P ops Q rest a'' w'' → K .normal a'' w'') → wpList P ops K [ops.getD i default] a' w) (q.map fun i => ops.getD i default) a
def flat (l : List (List Nat × Option Nat)) : List (Nat × Bool) := l.flatMap fun (q, s) => q.map (·, true) ++ (s.toList.map (·, false))

theorem walk_of_quiet {Q : Act → World → Prop} {rest : List (Nat × Bool)} : ∀ (q : List Nat) (a : Act) (w : World), (q.all fun i => plainOp (ops.getD i default)) = true →
    wpQuiet P ops (Ext w) (fun a' => walkR P ops Q rest a' w) (q.map fun i => ops.getD i default) a → walkR P ops Q (q.map (·, true) ++ rest) a w
  | [], _, _, _, h => h
  | i :: q, a, w, hp, h => by
    simp only [List.all_cons, Bool.and_eq_true] at hp
    simp only [List.map_cons, wpQuiet] at h
    simp only [List.map_cons, List.cons_append, walkR]
    by_cases hw : Region.wanted (ops.getD i default) (yielded ops a.tmps) = true
    · simp only [hw, if_true] at h
      obtain ⟨v, hv, hk⟩ := h
      refine ⟨v, .inl ⟨hw, fun w' hx => .inl ?_⟩, walk_of_quiet q _ w hp.2 hk⟩
      have h1 := hv w' hx
      unfold Oper.quietAt at h1
      generalize hr : (execOp a.eval (ops.getD i default)).run P w' = r at h1 ⊢
      cases r with
      | halt x w1 => simp only [Oper.quietUpon] at h1
      | ok n w1 =>
        obtain ⟨u, rfl⟩ := plain_value hp.1 hr
        simp only [Oper.quietUpon] at h1
        rw [h1.1, h1.2]
    · have hw' : Region.wanted (ops.getD i default) (yielded ops a.tmps) = false := by simpa using hw
      simp only [hw', Bool.false_eq_true, if_false] at h
      exact ⟨undef, .inr ⟨hw', rfl⟩, walk_of_quiet q _ w hp.2 h⟩

theorem walkR_of_walkS {Q : Act → World → Prop} (hn : ∀ i, i < ops.size → ops[i]? = some (ops.getD i default)) : ∀ (l : List (List Nat × Option Nat)) (a : Act) (w : World),
    (l.all fun x => (x.1.all fun i => plainOp (ops.getD i default)) && (x.2.all fun i => decide (i < ops.size))) = true → walkS P ops Q l a w → walkR P ops Q (flat l) a w
  | [], _, _, _, h => h
  | (q, s) :: rest, a, w, hp, h => by
    simp only [List.all_cons, Bool.and_eq_true] at hp
    obtain ⟨⟨hq, hs⟩, hr⟩ := hp
    simp only [flat, List.flatMap_cons, List.append_assoc]
    refine walk_of_quiet q a w hq ?_
    simp only [walkS] at h
    have mono : ∀ (l : List Oper) (a : Act) {R R' : Act → Prop}, (∀ a, R a → R' a) → wpQuiet P ops (Ext w) R l a → wpQuiet P ops (Ext w) R' l a := by
      intro l
      induction l with
      | nil => intro a R R' h hh; exact h a hh
      | cons o l ih =>
        intro a R R' h hh
        simp only [wpQuiet] at hh ⊢
        split
        · rename_i hw; simp only [hw, if_true] at hh; exact Oper.quiet_mono (fun a => ih a h) hh
        · rename_i hw; simp only [hw] at hh; exact ih _ h hh
    refine mono _ a (fun a' ha => ?_) h
    cases s with
    | none => exact walkR_of_walkS hn rest a' w hr ha
    | some i =>
      have h1 := ha (fun e a'' w'' => e = .normal ∧ Ext w w'' ∧ walkR P ops Q (flat rest) a'' w'') fun a'' w'' hx hw => ⟨rfl, hx, walkR_of_walkS hn rest a'' w'' hr hw⟩
      show stepR P ops i (walkR P ops Q (flat rest)) a' w
      unfold stepR
      rw [hn i (by simpa using hs)]
      dsimp only
      simp only [wpList] at h1
      split
      · rename_i hw
        rw [if_pos hw] at h1
        rcases h1 with h1 | ⟨_, _, _, h2, _⟩
        · exact upon_bare (fun a w hk => hk.2) (fun e a w he => he.1) h1
        · cases h2
      · rename_i hw; rw [if_neg hw] at h1; exact h1.2.2

/-- A REGION THAT DRAWS ITS ORDER, WALKED IN PIECES. -/
theorem wp_pieces {id : Nat} {Q : Exit → Act → World → Prop} {a : Act} {w : World} (l : List (List Nat × Option Nat)) (hm : P.follows .mixedOrders = true)
    (hB : (Region.noSelect ops && ((flat l).length == ops.size && orderB .any ops (flat l) (Array.replicate ops.size false))) = true)
    (hP : (l.all fun x => (x.1.all fun i => plainOp (ops.getD i default)) && (x.2.all fun i => decide (i < ops.size))) = true)
    (h : walkS P ops (fun a' w' => Q .normal a' w') l a w.drew) : (Code.region id ops true).wp P Q a w :=
  wp_walk (flat l) hm hB (walkR_of_walkS (fun i hi => by simp [hi]) l a _ hP h)

/-- Piece by piece, over operations that are written out; what follows stands behind a name. -/
theorem walkS_sole {L : List Oper} {Q : Act → World → Prop} {q : List Nat} {i : Nat} {rest : List (List Nat × Option Nat)} {a : Act} {w : World}
    (h : ∀ R : Act → World → Prop, Hid (∀ a w, walkS P L.toArray Q rest a w → R a w) → wpQuiet P L.toArray (Ext w) (fun a' => ∀ K : Exit → Act → World → Prop, (∀ a'' w'', Ext w w'' → R a'' w'' → K .normal a'' w'') → wpList P L.toArray K [L.getD i default] a' w) (q.map fun i => L.getD i default) a) :
    walkS P L.toArray Q ((q, some i) :: rest) a w := by
  have := h (walkS P L.toArray Q rest) (fun _ _ h => h)
  simpa [walkS] using this
theorem walkS_last {L : List Oper} {Q : Act → World → Prop} {q : List Nat} {a : Act} {w : World}
    (h : wpQuiet P L.toArray (Ext w) (fun a' => Q a' w) (q.map fun i => L.getD i default) a) : walkS P L.toArray Q [(q, none)] a w := by
  simpa [walkS] using h
/-- The start: what stands behind the region stands behind a name, too. -/
theorem wp_open {L : List Oper} {id : Nat} {Q : Exit → Act → World → Prop} {a : Act} {w : World} (l : List (List Nat × Option Nat)) (hm : P.follows .mixedOrders = true)
    (hB : (Region.noSelect L.toArray && ((flat l).length == L.toArray.size && orderB .any L.toArray (flat l) (Array.replicate L.toArray.size false))) = true)
    (hP : (l.all fun x => (x.1.all fun i => plainOp (L.toArray.getD i default)) && (x.2.all fun i => decide (i < L.toArray.size))) = true)
    (h : ∀ Q' : Act → World → Prop, Hid (∀ a w, Q .normal a w → Q' a w) → walkS P L.toArray Q' l a w.drew) : (Code.region id L.toArray true).wp P Q a w :=
  wp_pieces l hm hB hP (h (fun a w => Q .normal a w) fun _ _ h => h)
/-- Bytes to a string, in a quiet walk. -/
theorem qconv {o : Oper} {a : Act} {w : World} {K : Act → Prop} {src dst e : TypeId} (hs : P.underlying src = some (.slice e)) (he : P.underlying e = some (.int .u8)) (hd : P.underlying dst = some .string)
    (x : Operand) (ho : o.op = .convert src dst x) {B n c : Nat} {A : Option Addr} {l : List Nat} (hx : a.eval x = .slice A n c) (hr : Rd w B 1 A n (ns .u8 l)) (hB : B ≤ w.heap.size)
    (hk : K (a.put o.dst (.string (strN l)))) : o.quiet P a (Ext w) K := by
  refine ⟨_, fun w' hx' => ?_, hk⟩
  have := run_conv (c := c) hs he hd (hr.ext hx' hB)
  unfold Oper.quietAt
  simp [execOp, ho, hx, this, Result.andThen, Oper.quietUpon]
/-- One operation of a quiet walk, by a law. -/
theorem qstep {C : World → Prop} {o : Oper} {rest : List Oper} {Q : Act → Prop} {a : Act} (hw : Region.wanted o (yielded ops a.tmps) = true) (h : ∀ K : Act → Prop, (∀ a, wpQuiet P ops C Q rest a → K a) → o.quiet P a C K) : wpQuiet P ops C Q (o :: rest) a :=
  wpQuiet_step fun K hK => by rw [if_pos hw]; exact h K hK
theorem qval {o : Oper} {a : Act} {w : World} {K : Act → Prop} {v : Value} (h : ∀ w', Ext w w' → (execOp a.eval o).run P w' = .ok (.value v) w') (hk : K (a.put o.dst v)) : o.quiet P a (Ext w) K :=
  ⟨v, fun w' hx => by unfold Oper.quietAt; rw [h w' hx]; exact ⟨rfl, rfl⟩, hk⟩
theorem qskip {C : World → Prop} {o : Oper} {rest : List Oper} {Q : Act → Prop} {a : Act} (hw : Region.wanted o (yielded ops a.tmps) = false) (h : wpQuiet P ops C Q rest (a.put o.dst undef)) : wpQuiet P ops C Q (o :: rest) a :=
  wpQuiet_step fun K hK => by rw [if_neg (by rw [hw]; exact Bool.false_ne_true)]; exact hK _ h
/-- A load of a cell that is there, in a quiet walk. -/
theorem qload {o : Oper} {a : Act} {w : World} {K : Act → Prop} {t : TypeId} (x : Operand) (ho : o.op = .load t x) {b off : Nat} {v : Value} (hx : a.eval x = .pointer (some ⟨b, off, none⟩)) (hc : w.cell? ⟨b, off, none⟩ = some v)
    (hu : (match P.underlying t with | some (.struct _) | some (.array _ _) | none => false | _ => true) = true) (hk : K (a.put o.dst v)) : o.quiet P a (Ext w) K := by
  refine qval (fun w' hx' => ?_) hk
  have hb : b < w.heap.size := World.block_lt_of_cell? w (a := ⟨b, off, none⟩) hc
  have hc' : w'.cell? ⟨b, off, none⟩ = some v := by rw [hx'.cell hb]; exact hc
  have hag : (isAgg t).run P w' = .ok false w' := by
    unfold isAgg
    cases hd : P.underlying t with
    | none => rw [hd] at hu; cases hu
    | some d => rw [hd] at hu; simp only [Sem.run_bind, run_underlying hd, Result.andThen_ok]; cases d <;> first | rfl | cases hu
  simp [execOp, ho, hx, Instr.loadAt, Instr.sureAddr, loadVar, hag, hc', Result.andThen]
/-- The start, the world behind the draw under a name of its own. -/
theorem wp_opend {L : List Oper} {id : Nat} {Q : Exit → Act → World → Prop} {a : Act} {w : World} (l : List (List Nat × Option Nat)) (hm : P.follows .mixedOrders = true)
    (hB : (Region.noSelect L.toArray && ((flat l).length == L.toArray.size && orderB .any L.toArray (flat l) (Array.replicate L.toArray.size false))) = true)
    (hP : (l.all fun x => (x.1.all fun i => plainOp (L.toArray.getD i default)) && (x.2.all fun i => decide (i < L.toArray.size))) = true)
    (h : ∀ Q' : Act → World → Prop, Hid (∀ a w, Q .normal a w → Q' a w) → ∀ wd, Hid (wd = w.drew) → walkS P L.toArray Q' l a wd) : (Code.region id L.toArray true).wp P Q a w :=
  wp_open l hm hB hP fun Q' hQ => h Q' hQ _ rfl
theorem drawn_below {w wd : World} (h : Hid (wd = w.drew)) (B : Nat) : Below B w wd := by rw [h.out]; exact (Below.refl _ _).drew
theorem Nats.drawn {w wd : World} {e : TypeId} {k : IntKind} {B : Nat} {v : Value} {l : List Nat} (h : Nats w e k B v l) (hd : Hid (wd = w.drew)) : Nats wd e k B v l := by rw [hd.out]; exact h
theorem Zats.drawn {w wd : World} {e : TypeId} {k : IntKind} {B : Nat} {v : Value} {l : List Int} (h : Zats w e k B v l) (hd : Hid (wd = w.drew)) : Zats wd e k B v l := by rw [hd.out]; exact h
theorem Rd.drawn {w wd : World} {B size n : Nat} {A : Option Addr} {xs : List Value} (h : Rd w B size A n xs) (hd : Hid (wd = w.drew)) : Rd wd B size A n xs := by rw [hd.out]; exact h
theorem drawn_size {w wd : World} (h : Hid (wd = w.drew)) : wd.heap.size = w.heap.size := by rw [h.out]; rfl
end
end Go.Proofs.Ytnngjbieoakanaa
