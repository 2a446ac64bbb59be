/- A struct of any number of cells is stored whole, and is handed back out of memory. No program. -/
import Derived.Test.YtnngjbieoakanaaG5InletTwice
import Derived.Deep.MidRow
import Derived.Test.YtnngjbieoakanaaUnd

namespace Go.Proofs.Ytnngjbieoakanaa
open Go.RowKit
set_option linter.unusedVariables false
set_option linter.unusedSimpArgs false
/-- Cells from a place on, written. -/
def setL (cs : Array Value) : Nat → List Value → Array Value
  | _, [] => cs
  | o, v :: r => setL (cs.setIfInBounds o v) (o + 1) r
theorem Blk.setCells : ∀ (l : List Value) (o : Nat) {w : World} {g : Nat} {t : TypeId} {cs : Array Value}, Blk w g t cs → Blk (w.setCells g o l) g t (setL cs o l)
  | [], _, _, _, _, _, h => h
  | v :: r, o, _, _, _, _, h => Blk.setCells r (o + 1) (h.set o v)
theorem Solo.setCells : ∀ (l : List Value) (o : Nat) {w w' : World} {g : Nat}, Solo g w w' → Solo g w (w'.setCells g o l)
  | [], _, _, _, _, h => h
  | v :: r, o, _, _, _, h => Solo.setCells r (o + 1) (h.setCell o v)
theorem Blk.there {w : World} {g : Nat} {t : TypeId} {cs : Array Value} (h : Blk w g t cs) {o n : Nat} (hn : o + n ≤ cs.size) : w.there g o n := fun j hj =>
  ⟨by rw [h.cell, Array.getElem?_eq_getElem (by omega)]; rfl, h.frozen _⟩
section
variable {P : Program} {ops : Array Oper} {rest : List Oper} {op : Oper} {a : Act} {w : World} {Q : Exit → Act → World → Prop}
theorem stm_store {g o : Nat} {t u : TypeId} {cs cells cs' : Array Value} (hB : Blk w g t cs) (hgd : op.guard = none) (x y : Operand) (ho : op.op = .store u x y) (hx : a.eval x = .pointer (some ⟨g, o, none⟩)) (hy : a.eval y = .agg cells)
    (hn : o + cells.size ≤ cs.size) (hi : (P.info? u).map (·.size) = some cells.size) (h1 : cells.all (·.oneCell') = true) (hc : setL cs o cells.toList = cs')
    (h : ∀ w', Blk w' g t cs' → Solo g w w' → wpList P ops Q rest (a.put op.dst undef) w') : wpList P ops Q (op :: rest) a w :=
  wpList_store_mid hgd u x y ho g o cells hx hy (hB.there hn) hi h1 (h _ (hc ▸ hB.setCells cells.toList o) (Solo.refl.setCells _ _))
theorem results_agg {fn : Func} {k : Tmp} {u t : TypeId} (h : fn.results = #[.cell k u]) {tmps : Array Value} {g : Nat} {cs : Array Value} (hB : Blk w g t cs) (ht : tmps.getD k undef = .pointer (some ⟨g, 0, none⟩))
    (hu : (match P.underlying u with | some (.struct _) | some (.array _ _) => true | _ => false) = true) (hsz : (P.info? u).map (·.size) = some cs.size) : (results fn tmps).run P w = .ok (.agg cs) w := by
  have hd : ∃ d, P.underlying u = some d ∧ d.isRow = true := by
    cases hq : P.underlying u with
    | none => rw [hq] at hu; cases hu
    | some d => rw [hq] at hu; exact ⟨d, rfl, by cases d <;> first | rfl | cases hu⟩
  obtain ⟨d, hd, hr⟩ := hd
  have hl := run_loadVar_mid (P := P) w g 0 u cs.toList d (fun j v hj => by rw [Nat.zero_add, hB.cell]; simpa using hj) hd hr (by simpa using hsz)
  simp only [Array.toArray_toList] at hl
  unfold results
  rw [h]
  have ht' : tmps[k]?.getD undef = .pointer (some ⟨g, 0, none⟩) := by simpa using ht
  simp [asAddr, Result.andThen, ht']
  rw [hl]
end
end Go.Proofs.Ytnngjbieoakanaa

/- A region that draws its order, by what holds all the way: whichever operation comes next. No program. -/
namespace Go.Proofs.Ytnngjbieoakanaa
open Go.RowKit
set_option linter.unusedVariables false
section
variable {P : Program}
theorem wpOp_of_list {ops : Array Oper} {Q : Exit → Act → World → Prop} {i : Nat} {o : Oper} {a : Act} {w : World} {J : Act → World → Prop} (ho : ops[i]? = some o)
    (h : ∀ K : Exit → Act → World → Prop, (∀ a' w', J a' w' → K .normal a' w') → wpList P ops K [o] a w) : wpOp P ops Q i J a w := by
  have h1 := h (fun e a'' w'' => e = .normal ∧ J a'' w'') fun a'' w'' hj => ⟨rfl, hj⟩
  unfold wpOp
  rw [ho]
  dsimp only
  simp only [wpList] at h1
  split
  · rename_i hw
    rw [if_pos hw] at h1
    rcases h1 with h1 | ⟨_, _, _, h2, _⟩
    · exact .inl (upon_mono (fun a w hk => hk) (upon_bare (fun a w hk => hk.2) (fun e a w he => he.1) h1))
    · cases h2
  · rename_i hw
    rw [if_neg hw] at h1
    exact h1.2
theorem all_of_ready {L : List Oper} (hord : ((List.range L.length).all fun i => (L.getD i default).after.all fun e => decide (e.on < i)) = true) {l : Array Bool} (hs : l.size = L.length)
    (hr : Region.ready .any L.toArray l = []) : ∀ i, i < L.length → l.getD i true = true := by
  intro i
  induction i using Nat.strongRecOn with
  | _ i ih =>
    intro hi
    cases hl : l.getD i true with
    | true => rfl
    | false =>
      have hm : i ∈ Region.ready .any L.toArray l := by
        rw [mem_ready]
        refine ⟨hl, L.getD i default, by simp [hi], fun e he _ => ?_⟩
        have h1 := List.all_eq_true.1 hord i (List.mem_range.2 hi)
        have h2 := Array.all_eq_true_iff_forall_mem.1 h1 e he
        have h3 := ih e.on (by simpa using h2) (by have := of_decide_eq_true h2; omega)
        have h4 : e.on < l.size := by have := of_decide_eq_true h2; omega
        simpa [Array.getD, h4] using h3
      rw [hr] at hm
      cases hm
theorem wp_inv {L : List Oper} {id : Nat} {Q : Exit → Act → World → Prop} {a : Act} {w : World} (Inv : Array Bool → Act → World → Prop) (hm : P.follows .mixedOrders = true)
    (hord : ((List.range L.length).all fun i => (L.getD i default).after.all fun e => decide (e.on < i)) = true)
    (h0 : Inv (Array.replicate L.length false) a w.drew)
    (hstep : ∀ (l : Array Bool) (a : Act) (w : World) (i : Nat), l.size = L.length → Inv l a w → i < L.length → l.getD i true = false →
      (∀ e ∈ (L.getD i default).after, Region.binds .any e = true → l.getD e.on false = true) →
      ∀ K : Exit → Act → World → Prop, (∀ a' w', Inv (l.setIfInBounds i true) a' w' → K .normal a' w') → wpList P L.toArray K [L.getD i default] a w)
    (hend : ∀ (l : Array Bool) (a : Act) (w : World), l.size = L.length → (∀ i, i < L.length → l.getD i true = true) → Inv l a w → Q .normal a w) :
    (Code.region id L.toArray true).wp P Q a w := by
  have main : ∀ (fuel : Nat) (l : Array Bool) (a : Act) (w : World), l.size = L.length → l.toList.count false ≤ fuel → Inv l a w → wpAny P .any L.toArray Q fuel l a w := by
    intro fuel
    induction fuel with
    | zero =>
      intro l a w hs hc hi
      have hall : ∀ i, i < L.length → l.getD i true = true := by
        intro i hlt
        have hlt' : i < l.size := by omega
        cases hv : l[i] with
        | true => simp [Array.getD, hlt', hv]
        | false =>
          have : false ∈ l.toList := by rw [← hv]; simp
          have := List.count_pos_iff.2 this
          omega
      have hr : Region.ready .any L.toArray l = [] := by
        refine List.eq_nil_iff_forall_not_mem.2 fun i hi => ?_
        obtain ⟨h1, o, h2, _⟩ := mem_ready.1 hi
        have hlt : i < L.length := by simpa using (Array.getElem?_eq_some_iff.1 h2).1
        rw [hall i hlt] at h1
        cases h1
      exact ⟨hr, hend l a w hs hall hi⟩
    | succ fuel ih =>
      intro l a w hs hc hi
      refine ⟨fun hr => hend l a w hs (all_of_ready hord hs hr) hi, fun i hri => ?_⟩
      obtain ⟨h1, o, h2, h3⟩ := mem_ready.1 hri
      have hlt : i < L.length := by simpa using (Array.getElem?_eq_some_iff.1 h2).1
      obtain rfl : o = L.getD i default := by
        have : L[i]? = some o := by simpa using h2
        simp [this]
      have hlt' : i < l.toList.length := by simp; omega
      have hlf : l.toList[i] = false := by simpa [Array.getD, show i < l.size by omega] using h1
      refine wpOp_mono (fun a' w' hk => ih _ a' w' (by simpa using hs) ?_ hk) (wpOp_of_list h2 (hstep l a w i hs hi hlt h1 h3))
      have : l.toList.count false > 0 := List.count_pos_iff.2 (by rw [← hlf]; exact List.getElem_mem _)
      rw [Array.toList_setIfInBounds, List.count_set hlt', hlf]
      rw [if_pos (by rfl), if_neg (by decide)]
      omega
  refine wp_region_any hm (main _ _ _ _ (by simp) ?_ h0)
  simp
end
end Go.Proofs.Ytnngjbieoakanaa
