/- A list of pieces in memory; of what was there nothing has turned but it and rows of pieces. -/
import Derived.Test.YtbipcnboammpeaaFlM
import Derived.Test.YtbipcnboammpeaaTou
import Derived.Test.YtbipcnboammpeaaSz3
import Derived.Test.YtbipcnboammpeaaPut
import Derived.Test.YtbipcnboammpeaaProg
namespace Go.Proofs.Ytbipcnboammpeaa
open Go.RowKit
set_option linter.unusedVariables false

theorem fcEl : El Try.prog 25 38 (.agg nilC.cells) 9 64 := ⟨Try.underlying25, by kernel_rfl, rfl, by omega, by omega⟩
/-- Of what was there nothing has turned but the list's block and, from B on, rows of pieces. -/
structure Kp (B g : Nat) (w w' : World) : Prop where
  os : w'.os = w.os
  tape : w'.tape = w.tape
  output : w'.output = w.output
  size : w.heap.size ≤ w'.heap.size
  same : ∀ k, k < w.heap.size → k ≠ g → (k < B ∨ ∀ cs m, w.heap[k]? ≠ some (.cells cs 30 m)) → w'.heap[k]? = w.heap[k]?
section
variable {B g : Nat} {w w1 w2 w' : World}
theorem Kp.refl (B g : Nat) (w : World) : Kp B g w w := ⟨rfl, rfl, rfl, Nat.le_refl _, fun _ _ _ _ => rfl⟩
theorem Kp.trans (h : Kp B g w w1) (k : Kp B g w1 w2) : Kp B g w w2 :=
  ⟨k.os.trans h.os, k.tape.trans h.tape, k.output.trans h.output, Nat.le_trans h.size k.size, fun i hi hg hB => by
    have h1 := h.same i hi hg hB
    rw [k.same i (Nat.lt_of_lt_of_le hi h.size) hg (by rw [h1]; exact hB), h1]⟩
theorem Kp.of (h : Below w.heap.size w w') : Kp B g w w' := ⟨h.os, h.tape, h.output, h.size, fun k hk _ _ => h.block k hk⟩
theorem Kp.solo (h : Kp B g w w1) (k : Solo g w1 w2) : Kp B g w w2 :=
  ⟨k.1.os.trans h.os, k.1.tape.trans h.tape, k.1.output.trans h.output, Nat.le_trans h.size (Nat.le_of_eq k.2.1.symm), fun i hi hg hB => (k.2.2 i hg).trans (h.same i hi hg hB)⟩
theorem Kp.below {B0 : Nat} (h : Kp B g w w') (h0 : B0 ≤ B) (hg : B ≤ g) (hw : B0 ≤ w.heap.size) : Below B0 w w' :=
  ⟨h.os, h.tape, h.output, h.size, fun k hk => h.same k (by omega) (by omega) (.inl (by omega))⟩
theorem Kp.blk {k : Nat} {t : TypeId} {cs : Array Value} (h : Kp B g w w') (hb : Blk w k t cs) (hk : k ≠ g) (ht : t ≠ 30) : Blk w' k t cs := by
  refine (h.same k hb.lt hk (.inr fun cs2 m e => ?_)).trans hb
  unfold Blk at hb
  rw [hb] at e
  injection e with e
  injection e with _ e
  exact ht e
/-- A store into a row of pieces. -/
theorem Kp.row {rb : Nat} {cs : Array Value} (hr : Blk w rb 30 cs) (hB : B ≤ rb) (h : Solo rb w w') : Kp B g w w' :=
  ⟨h.1.os, h.1.tape, h.1.output, Nat.le_of_eq h.2.1.symm, fun k hk hg hx => h.2.2 k (by
    rintro rfl
    rcases hx with hx | hx
    · omega
    · exact hx _ _ hr)⟩
/-- An append to a row of pieces. -/
theorem Kp.grown {v : Value} {n : Nat} {xs : List Value} (ho : w.ownsRow B 30 9 v n xs) (h : w.grownBy w' v.ownBlock) : Kp B g w w' :=
  ⟨h.os, h.tape, h.output, h.size, fun k hk hg hx => h.block k hk fun e => by
    rcases own_open ho with ⟨rfl, _⟩ | ⟨g2, c, L, rfl, hB2, hb, _⟩
    · simp [Value.ownBlock] at e
    · simp [Value.ownBlock] at e
      subst e
      rcases hx with hx | hx
      · omega
      · exact hx _ _ hb⟩
end
/-- A list of at most so many pieces: its block, its row. -/
structure FL (w : World) (B g most : Nat) (l : List Chk) : Prop where
  hB : B ≤ g
  hw : B ≤ w.heap.size
  out : ∃ A c, Blk w g 57 #[.int .i64 (most : Nat), .slice A l.length c] ∧ w.ownsRow B 30 9 (.slice A l.length c) l.length (chs l)
section
variable {w w' : World} {B g most : Nat} {l : List Chk}
theorem FL.lt (h : FL w B g most l) : g < w.heap.size := by obtain ⟨A, c, hb, _⟩ := h.out; exact hb.lt
theorem FL.into (h : FL w B g most l) (hb : Below w.heap.size w w') : FL w' B g most l := by
  obtain ⟨A, c, hk, ho⟩ := h.out
  exact ⟨h.hB, Nat.le_trans h.hw hb.size, A, c, Blk.below hk hb hk.lt, own_below ho hb fun g hg => (ho.lt g hg).2⟩
/-- With the slice by names. -/
theorem FL.open_ (h : FL w B g most l) : ∃ (A : Option Addr) (n c : Nat), l.length = n ∧ n ≤ c ∧ c ≤ maxLen ∧ Hid (Blk w g 57 #[.int .i64 (most : Nat), .slice A n c]) ∧ Hid (w.ownsRow B 30 9 (.slice A n c) n (chs l)) ∧ Hid (Rd w w.heap.size 9 A n (chs l)) := by
  obtain ⟨A, c, hk, ho⟩ := h.out
  obtain ⟨A2, c2, e, h1, h2, h3⟩ := own_form ho
  injection e with e1 e2 e3
  subst e1
  subst e3
  exact ⟨A, l.length, c, rfl, h1, h2, Lib.hid hk, Lib.hid ho, Lib.hid h3⟩
theorem FL.shut {A : Option Addr} {n c : Nat} (hB : B ≤ g) (hw : B ≤ w.heap.size) (hn : l.length = n) (hk : Blk w g 57 #[.int .i64 (most : Nat), .slice A n c]) (ho : w.ownsRow B 30 9 (.slice A n c) n (chs l)) : FL w B g most l := by
  subst hn
  exact ⟨hB, hw, A, c, hk, ho⟩
end
theorem own_nt {w : World} {B sz n g : Nat} {e t : TypeId} {v : Value} {xs : List Value} {cs : Array Value} (h : w.ownsRow B e sz v n xs) (hb : Blk w g t cs) (hne : e ≠ t) : v.ownBlock ≠ some g := fun hk => by
  rcases own_open h with ⟨rfl, _, _⟩ | ⟨rb, c, L, rfl, _, hr, _⟩
  · simp [Value.ownBlock] at hk
  · simp [Value.ownBlock] at hk
    subst hk
    unfold Blk at hb hr
    rw [hb] at hr
    injection hr with hr
    injection hr with _ ht
    exact hne ht.symm
theorem own_fr {w w' : World} {B B' sz sz' n n' : Nat} {e e' : TypeId} {v v' : Value} {xs xs' : List Value} (h : w.ownsRow B e sz v n xs) (ho : w.ownsRow B' e' sz' v' n' xs') (hne : e ≠ e') (hg : w.grownBy w' v'.ownBlock) : w'.ownsRow B e sz v n xs :=
  own_kept h fun k hk => hg.block k (h.lt k hk).2 fun he => by
    rcases own_open ho with ⟨rfl, _, _⟩ | ⟨rb, c, L, rfl, _, hr, _⟩
    · simp [Value.ownBlock] at he
    · simp [Value.ownBlock] at he
      subst he
      exact own_nt h hr hne hk
section
variable {P : Program} {ops : Array Oper} {rest : List Oper} {o : Oper} {a : Act} {Q : Exit → Act → World → Prop} {t e : TypeId} {z : Value} {bytes size : Nat}
/-- append of one struct, and where the new row lies. -/
theorem appZ2 {w0 : World} (el : El P t e z size bytes) (cs : Array Value) (hcs : cs.size = size) (hone : ∀ u ∈ cs.toList, u.oneCell' = true) (hgd : o.guard = none) (s d : Operand) (ho : o.op = .call { callee := .builtin .append, args := #[s, d], argTypes := #[t, t] })
    {base : Nat} {v : Value} {n : Nat} {xs : List Value} (hs : a.eval s = v) (hown : w0.ownsRow base e size v n xs) {gz : Nat} (hx : a.eval d = .slice (some ⟨gz, 0, none⟩) 1 1) (hgz : gz = w0.heap.size) (hroom : (n + 1) * bytes ≤ room) (hbase : base ≤ w0.heap.size)
    (h : ∀ v' w', w'.ownsRow base e size v' (n + 1) (xs ++ cs.toList) → w0.grownBy w' v.ownBlock → (∀ g, v'.ownBlock = some g → v.ownBlock = some g ∨ w0.heap.size ≤ g) → wpList P ops Q rest (a.put o.dst v') w') : wpList P ops Q (o :: rest) a (w0.alloc (.cells cs e)) := by
  subst hgz
  have hr : Rd (w0.alloc (.cells cs e)) (w0.heap.size + 1) size (some ⟨w0.heap.size, 0, none⟩) 1 cs.toList := Rd.made w0 e cs (by omega)
  refine app2 el hgd s d ho hs (hown.alloc _) (by decide) hx hr hone hroom (by simp; omega) fun v' w' h1 h2 h3 => ?_
  have hA := World.grownBy_alloc w0 (.cells cs e) v.ownBlock
  refine h v' w' h1 (grownBy_trans hA h2) fun g hg => ?_
  rcases h3 g hg with h4 | h4
  · exact .inl h4
  · exact .inr (by simp at h4; omega)
end
/-- One cell of a thing in a row is written. -/
theorem RowG.set1 {α : Type} {f : α → List Value} {sz : Nat} (hf : ∀ x, (f x).length = sz) {w : World} {rb c i : Nat} {t : TypeId} {l : List α} (h : RowG w rb c sz t f l) {x y : α} (hx : l[i]? = some x) {r : Nat} (hr : r < sz) {v : Value} (hy : f y = (f x).set r v) : RowG (w.setCell ⟨rb, i * sz + r, none⟩ v) rb c sz t f (l.set i y) := by
  have hi := (List.getElem?_eq_some_iff.1 hx).1
  obtain ⟨L, hb, hl, hc, ht⟩ := h
  have h1 := Nat.mul_le_mul_right sz (show i + 1 ≤ l.length from hi)
  have h2 := Nat.mul_le_mul_right sz hc
  rw [Nat.succ_mul] at h1
  have hget : ∀ j, j < sz → L[i * sz + j]? = (f x)[j]? := fun j hj => by
    rw [← fm_get hf hx hj, ← ht, List.getElem?_take, if_pos (by omega)]
  have e : (L.set (i * sz + r) v) = splv L (i * sz) (f y) := by
    refine List.ext_getElem? fun k => ?_
    rw [splv_get (by rw [hf, hl]; omega), hf, List.getElem?_set, hy]
    by_cases hk : i * sz ≤ k ∧ k < i * sz + sz
    · rw [if_pos hk, List.getElem?_set]
      obtain ⟨j, rfl⟩ : ∃ j, k = i * sz + j := ⟨k - i * sz, by omega⟩
      have hj : j < sz := by omega
      rw [show i * sz + j - i * sz = j by omega, hf]
      by_cases hjr : r = j
      · subst hjr
        rw [if_pos rfl, if_pos rfl, if_pos (by omega), if_pos hr]
      · rw [if_neg (by omega), if_neg hjr]
        exact hget j hj
    · rw [if_neg hk, if_neg (by omega)]
  refine ⟨splv L (i * sz) (f y), ?_, by rw [splv_len (by rw [hf, hl]; omega)]; exact hl, by simpa using hc, by rw [List.length_set]; exact splv_fm hf hl.symm hc ht hi y⟩
  rw [← e]
  have := hb.set (i * sz + r) v
  simpa only [List.setIfInBounds_toArray] using this
theorem RowG.blk {α : Type} {f : α → List Value} {sz : Nat} {w : World} {rb c : Nat} {t : TypeId} {l : List α} (h : RowG w rb c sz t f l) : ∃ cs, Blk w rb t cs := by
  obtain ⟨L, hb, _⟩ := h
  exact ⟨_, hb⟩
end Go.Proofs.Ytbipcnboammpeaa
