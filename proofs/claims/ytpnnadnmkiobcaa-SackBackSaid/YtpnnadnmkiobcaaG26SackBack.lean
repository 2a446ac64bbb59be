/- Layer 31: what sack.Parse's loop makes: mathematics; its invariant. -/
import Derived.Test.YtpnnadnmkiobcaaG20SackBack
import Derived.Test.YtpnnadnmkiobcaaG23SackBack
import Derived.Test.YtpnnadnmkiobcaaG24SackBack
import Derived.Test.YtpnnadnmkiobcaaG25SackBack
import Derived.RangeFuncFrom
import Derived.Sort.QuietIn
import Derived.OwnWalkIn

namespace Go.Proofs.Ytpnnadnmkiobcaa
open Go.RowKit Go.Shelf
set_option linter.unusedVariables false
set_option linter.unusedSimpArgs false
/-- The word of four bytes at a place. -/
def wdB (lb : List Nat) (i : Nat) : Nat := ub ((lb.drop (4 * i)).take 4)
theorem cut_rep : ∀ (j : Nat) (lb : List Nat), 4 * j ≤ lb.length → cut lb (List.replicate j 4) = some ((List.range j).map (wdB lb), lb.drop (4 * j))
  | 0, lb, _ => by simp [cut]
  | j + 1, lb, h => by
    rw [List.replicate_succ, cut, if_pos (by simp [okS]; omega)]
    rw [show (4 : Int).toNat = 4 from rfl, cut_rep j (lb.drop 4) (by simp; omega)]
    simp only [Option.map_some, List.drop_drop]
    congr 2
    · rw [List.range_succ_eq_map]
      simp [wdB, Function.comp_def]
      intro a _
      rw [show 4 + 4 * a = 4 * (a + 1) by omega]
    · rw [show 4 + 4 * j = 4 * (j + 1) by omega]
def pcX (lb : List Nat) (a : Int) (x : Nat) : Bk := (nx a (wdB lb (2 * x)), nx (nx a (wdB lb (2 * x))) (wdB lb (2 * x + 1)))
def prX (wait : Int) (lb : List Nat) (pre : List Nat) : List Bk := pre.foldl (fun l x => l ++ [pcX lb (bkLast wait l) x]) []
theorem prX_snoc (wait : Int) (lb : List Nat) (pre : List Nat) (x : Nat) : prX wait lb (pre ++ [x]) = prX wait lb pre ++ [pcX lb (bkLast wait (prX wait lb pre)) x] := by unfold prX; rw [List.foldl_append]; rfl
theorem prX_len (wait : Int) (lb : List Nat) : ∀ pre : List Nat, (prX wait lb pre).length = pre.length := by
  intro pre
  have key : ∀ (pre : List Nat) (l0 : List Bk), (pre.foldl (fun l x => l ++ [pcX lb (bkLast wait l) x]) l0).length = l0.length + pre.length := by
    intro pre
    induction pre with
    | nil => intro l0; rfl
    | cons x pre ih => intro l0; rw [List.foldl_cons, ih]; simp; omega
  have := key pre []
  simpa [prX] using this
theorem pcX_eq (lb : List Nat) (a : Int) (x : Nat) : pcX lb a x = pcB a (lb.drop (8 * x)) := by
  unfold pcX pcB wdB
  rw [List.drop_drop, show 4 * (2 * x) = 8 * x by omega, show 8 * x + 4 = 4 * (2 * x + 1) by omega]
theorem prX_upto (wait : Int) (lb : List Nat) : ∀ k, prX wait lb (upto k) = parB k wait lb
  | 0 => rfl
  | k + 1 => by rw [upto_succ, prX_snoc, prX_upto wait lb k, pcX_eq, parB_snoc]
theorem wdB_lt {lb : List Nat} (hb : ∀ x ∈ lb, x < 256) (i : Nat) : wdB lb i < 4294967296 := by
  unfold wdB
  obtain ⟨k, hk⟩ : ∃ k, k = ((lb.drop (4 * i)).take 4).length := ⟨_, rfl⟩
  have h4 : k ≤ 4 := by rw [hk, List.length_take]; omega
  have h := ub_lt k _ hk.symm fun x hx => hb x (List.mem_of_mem_drop (List.mem_of_mem_take hx))
  have h2 : 256 ^ k ≤ 256 ^ 4 := Nat.pow_le_pow_right (by omega) h4
  have h3 : (256 : Nat) ^ 4 = 4294967296 := by decide
  omega
/-- Pieces, in a row of the call's own. -/
def BS (w : World) (B : Nat) (v : Value) (l : List Bk) : Prop := w.ownsRow B 44 2 v l.length (bks l)
def PPPost (wait kind : Int) (n : Nat) (lb : List Nat) (B : Nat) (w' : World) (e : Ending) : Prop :=
  (SPOk wait kind n lb ∧ ∃ v, e = .returned (.tuple #[v, .bool true]) ∧ BS w' B v (parB (n / 8) wait lb)) ∨ (¬ SPOk wait kind n lb ∧ e = .returned (.tuple #[.slice none 0 0, .bool false]))
theorem PPPost.no {wait kind : Int} {n B : Nat} {lb : List Nat} {w' : World} (h : ¬ SPOk wait kind n lb) : PPPost wait kind n lb B w' (.returned (.tuple #[.slice none 0 0, .bool false])) := .inr ⟨h, rfl⟩
/-- Between two rounds: the row so far, where one stands, the words that are read. -/
structure PI (w0 : World) (P9 P10 Bs Bn b off : Nat) (wait : Int) (lb : List Nat) (m : Nat) (pre : List (Fin m)) (W : World) : Prop where
  row : ∃ v, Blk W P9 23 #[v] ∧ BS W (P9 + 4) v (prX wait lb (pre.map (·.1)))
  at_ : Blk W P10 22 #[.int .u32 (bkLast wait (prX wait lb (pre.map (·.1))))]
  words : ∃ cs t, Blk W b t cs ∧ ∀ j, j < 2 * m → cs[off + j]? = some (.int .u64 (wdB lb j : Nat))
  bs : ∃ cs t, Blk W Bs t cs
  bn : ∃ cs t, Blk W Bn t cs
  bel : Below w0.heap.size w0 W
theorem Blk.turned {W W' : World} {k : Nat} {t : TypeId} {cs : Array Value} {row : Option Nat} (h : Blk W k t cs) (hg : W.grownBy W' row) (hr : ∀ r, row = some r → ∃ o : Obj, W.heap[r]? = some o ∧ o.isCells = false) : Blk W' k t cs := by
  refine (hg.block k h.lt fun e => ?_).trans h
  obtain ⟨o, ho, hc⟩ := hr k e.symm
  unfold Blk at h
  rw [h] at ho
  injection ho with ho
  subst ho
  cases hc
theorem PI.own {w0 : World} {P9 P10 Bs Bn b off : Nat} {wait : Int} {lb : List Nat} {m B : Nat} (hB : w0.heap.size ≤ B) : OwnFrom B (PI w0 P9 P10 Bs Bn b off wait lb m) := by
  intro s W W' row h hg hr
  have hr' : ∀ r, row = some r → ∃ o : Obj, W.heap[r]? = some o ∧ o.isCells = false := fun r e => (hr r e).2
  obtain ⟨v, h1, h2⟩ := h.row
  obtain ⟨c3, t3, h3, h3'⟩ := h.words
  obtain ⟨c4, t4, h4⟩ := h.bs
  obtain ⟨c5, t5, h5⟩ := h.bn
  refine ⟨⟨v, h1.turned hg hr', ?_⟩, h.at_.turned hg hr', ⟨c3, t3, h3.turned hg hr', h3'⟩, ⟨c4, t4, h4.turned hg hr'⟩, ⟨c5, t5, h5.turned hg hr'⟩, ?_⟩
  · refine own_kept h2 fun k hk => ?_
    rcases h2.2 with ⟨hv, _⟩ | ⟨g, cap, cur, hv, _, hh, _⟩
    · subst hv; cases hk
    · subst hv
      injection hk with hk
      subst hk
      have := Blk.turned (t := 44) (cs := cur) (k := g) hh hg hr'
      exact this.trans hh.symm
  · refine ⟨hg.os.trans h.bel.os, hg.tape.trans h.bel.tape, hg.output.trans h.bel.output, Nat.le_trans h.bel.size hg.size, fun k hk => ?_⟩
    refine (hg.block k (Nat.lt_of_lt_of_le hk h.bel.size) fun e => ?_).trans (h.bel.block k hk)
    have := (hr k e.symm).1
    omega
end Go.Proofs.Ytpnnadnmkiobcaa

/- A region that draws its order and only reads, INSIDE A ROUND of a range over a function (the kit's word asks round = none). -/
namespace Go.Proofs.Ytpnnadnmkiobcaa
set_option linter.unusedVariables false
def isDef (o : Oper) : Bool := match o.op with | .defer _ => true | _ => false
theorem semAt_noDef {F : Fence} {ρ : Operand → Value} {o : Oper} (h : isDef o = false) : o.semAt F.round ρ = execOp ρ o := Oper.semAt_plain F ρ o fun c e => by unfold isDef at h; rw [e] at h; cases h
theorem wpInR_of_quiet {F : Fence} {n : Nat} {P : Program} {C : World → Prop} {o : Oper} {a : Act} {K : Act → Prop} {K' : Act → World → Prop} {Q' : Exit → Act → World → Prop} {w : World} (hro : isDef o = false) (hw : C w) (h : ∀ a w', C w' → K a → K' a w')
    (ha : o.askedIn F P a C) (hh : o.quietIn F n P a C K) : o.wpIn F n P a w K' Q' := by
  obtain ⟨v, h1, h2⟩ := hh
  have h3 := h1 w hw
  unfold Oper.quietAtIn at h3
  unfold Oper.wpIn
  refine ⟨ha w hw, ?_⟩
  rw [semAt_noDef hro]
  generalize (execOp a.eval o).run P w = r at *
  cases r with
  | ok x w' =>
    cases x <;> simp only [Oper.quietUponIn] at h3 <;> simp only [Oper.uponIn]
    case value u =>
      obtain ⟨e1, e2⟩ := h3
      rw [e1, e2]
      exact h _ _ hw h2
    case skip =>
      obtain ⟨e1, e2⟩ := h3
      rw [e1, ← e2]
      exact h _ _ hw h2
    case enter f args =>
      obtain ⟨e1, hd, hc⟩ := h3
      rw [e1]
      exact ⟨hd, hc.mono fun e w'' ⟨he, hw''⟩ => by subst he; exact h _ _ hw'' h2⟩
  | halt x w' => simp only [Oper.quietUponIn] at h3
theorem wpOpInR_of_qOpIn {F : Fence} {n : Nat} {P : Program} {C : World → Prop} {ops : Array Oper} {i : Nat} {a : Act} {K : Act → Prop} {K' : Act → World → Prop} {Q' : Exit → Act → World → Prop} {w : World} (hro : ∀ o : Oper, ops[i]? = some o → isDef o = false) (hC : C w) (h : ∀ a w', C w' → K a → K' a w')
    (hh : qOpIn F n P ops C i K a) : wpOpIn F n P ops Q' i K' a w := by
  unfold qOpIn at hh
  unfold wpOpIn
  split
  · rename_i ho; simp only [ho] at hh; exact h _ _ hC hh
  · rename_i o ho
    simp only [ho] at hh
    obtain ⟨ha, hh⟩ := hh
    split
    · rename_i hw; simp only [hw, if_true] at hh; exact wpInR_of_quiet (hro o ho) hC h ha hh
    · rename_i hw; simp only [hw] at hh; exact ⟨ha w hC, h _ _ hC hh⟩
theorem wpAnyInR_of_quiet {F : Fence} {n : Nat} {P : Program} {C : World → Prop} {md : Region.Mode} {ops : Array Oper} {Q : Act → Prop} {Q' : Exit → Act → World → Prop} (hro : ∀ (i : Nat) (o : Oper), ops[i]? = some o → isDef o = false) (hQ : ∀ a w, C w → Q a → Q' .normal a w) : ∀ (fuel : Nat) (listed : Array Bool) (a : Act) (w : World), C w →
    wpAnyQIn F n P md ops C Q fuel listed a → wpAnyIn F n P md ops Q' fuel listed a w
  | 0, _, _, _, hw, h => ⟨h.1, hQ _ _ hw h.2⟩
  | fuel + 1, _, _, _, hw, h => ⟨fun h0 => hQ _ _ hw (h.1 h0), fun i hi => wpOpInR_of_qOpIn (hro i) hw (fun a' w' hw' => wpAnyInR_of_quiet hro hQ fuel _ a' w' hw') (h.2 i hi)⟩
/-- ONE WALK OF THE ORDER OF THE TEXT SERVES EVERY ORDER, IN A ROUND TOO. -/
theorem wpIn_region_quietR_lit {F : Fence} {n : Nat} {P : Program} {id : Nat} {Q : Exit → Act → World → Prop} {a : Act} {w : World} {l : List Oper} (hro : l.any isDef = false) (hm : P.follows .mixedOrders = true) (hB : Region.lexB .any l.toArray = true)
    (h : wpQuietIn F n P l.toArray (fun w' => ∃ n, w' = w.drewN n) (fun a' => ∀ w', (∃ n, w' = w.drewN n) → Q .normal a' w') l a) : (Code.region id l.toArray true).wpIn F n P Q a w := by
  simp only [Region.lexB, Bool.and_eq_true] at hB
  refine wpIn_region_any hm (wpAnyInR_of_quiet (C := fun w' => ∃ n, w' = w.drewN n) (Q := fun a' => ∀ w', (∃ n, w' = w.drewN n) → Q .normal a' w') (fun i o ho => ?_) (fun _ w' hw' h => h w' hw') _ _ _ _ ⟨1, rfl⟩ ?_)
  · have hmem : o ∈ l := by rw [List.getElem?_toArray] at ho; exact List.mem_of_getElem? ho
    have := List.any_eq_false.1 hro o hmem
    simpa using this
  · have := wpAnyQIn_lex (F := F) (n := n) (C := fun w' => ∃ n, w' = w.drewN n) (md := .any) hB.1 l 0 (Array.replicate l.toArray.size false) a (by simp) (by simpa using hB.2) h
    simpa using this
end Go.Proofs.Ytpnnadnmkiobcaa
