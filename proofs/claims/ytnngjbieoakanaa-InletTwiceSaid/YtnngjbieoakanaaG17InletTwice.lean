/- Rows and blocks of unlike types; a fact that no word looks into. No program. -/
import Derived.Test.YtnngjbieoakanaaG11InletTwice
import Derived.Test.YtnngjbieoakanaaRgm
import Derived.Test.YtnngjbieoakanaaG5InletTwice
import Derived.Laws.CopyOwn
import Derived.Lib.SliceRun

namespace Go.Proofs.Ytnngjbieoakanaa
open Go.RowKit
set_option linter.unusedVariables false
theorem own_nt {w : World} {B sz n g : Nat} {e t : TypeId} {v : Value} {xs : List Value} {cs : Array Value} (h : w.ownsRow B e sz v n xs) (hb : Blk w g t cs) (hne : e ≠ t) : v.ownBlock ≠ some g := fun hk => by
  rcases own_open h with ⟨rfl, _, _⟩ | ⟨rb, c, L, rfl, _, hr, _⟩
  · simp [Value.ownBlock] at hk
  · simp [Value.ownBlock] at hk
    subst hk
    unfold Blk at hb hr
    rw [hb] at hr
    injection hr with hr
    injection hr with _ ht
    exact hne ht.symm
theorem own_fr {w w' : World} {B B' sz sz' n n' : Nat} {e e' : TypeId} {v v' : Value} {xs xs' : List Value} (h : w.ownsRow B e sz v n xs) (ho : w.ownsRow B' e' sz' v' n' xs') (hne : e ≠ e') (hg : w.grownBy w' v'.ownBlock) : w'.ownsRow B e sz v n xs :=
  own_kept h fun k hk => hg.block k (h.lt k hk).2 fun he => by
    rcases own_open ho with ⟨rfl, _, _⟩ | ⟨rb, c, L, rfl, _, hr, _⟩
    · simp [Value.ownBlock] at he
    · simp [Value.ownBlock] at he
      subst he
      exact own_nt h hr hne hk
theorem blk_nt {w : World} {a b : Nat} {t u : TypeId} {cs ds : Array Value} (h : Blk w a t cs) (k : Blk w b u ds) (hne : t ≠ u) : a ≠ b := by
  rintro rfl
  unfold Blk at h k
  rw [h] at k
  injection k with k
  injection k with _ k
  exact hne k
/-- A fact that no word looks into. -/
structure Sh (p : Prop) : Prop where
  out : p
end Go.Proofs.Ytnngjbieoakanaa

/- copy and clear over rows of numbers that are known whole. No program. -/
namespace Go.Proofs.Ytnngjbieoakanaa
open Go.RowKit
set_option linter.unusedVariables false

/-- A row of numbers, its block known whole. -/
def Mem (w : World) (g : Nat) (e : TypeId) (k : IntKind) (m : List Nat) : Prop := Blk w g e (ns k m).toArray
section
variable {w w' : World} {g : Nat} {e : TypeId} {k : IntKind} {m : List Nat}
theorem Mem.lt (h : Mem w g e k m) : g < w.heap.size := Blk.lt h
theorem Mem.cell (h : Mem w g e k m) (i : Nat) (hi : i < m.length) : w.cell? ⟨g, i, none⟩ = some (.int k ((m.getD i 0 : Nat) : Int)) := by
  rw [Blk.cell h]
  simp [ns, hi]
theorem Mem.frozen (h : Mem w g e k m) (i : Nat) : w.frozen? ⟨g, i, none⟩ = false := Blk.frozen h i
theorem Mem.solo {j : Nat} (h : Mem w g e k m) (hs : Solo j w w') (hne : g ≠ j) : Mem w' g e k m := hs.blk h hne
theorem Mem.below {B : Nat} (h : Mem w g e k m) (hb : Below B w w') (hg : g < B) : Mem w' g e k m := Blk.below h hb hg
theorem Mem.alloc (h : Mem w g e k m) (o : Obj) : Mem (w.alloc o) g e k m := Blk.alloc h o
/-- Some of its numbers, read from a place on. -/
theorem Mem.rd (h : Mem w g e k m) {B o n : Nat} (hB : g < B) (hn : o + n ≤ m.length) : Rd w B 1 (some ⟨g, o, none⟩) n (ns k ((m.drop o).take n)) := by
  refine ⟨by simp [ns]; omega, fun _ => ⟨g, o, rfl, hB, fun j hj => ?_⟩⟩
  rw [Blk.cell h]
  have hj' : j < n := by omega
  simp [ns, hj', List.getElem?_drop]
theorem Mem.set (h : Mem w g e k m) (i x : Nat) : Mem (w.setCell ⟨g, i, none⟩ (.int k (x : Int))) g e k (m.set i x) := by
  have := Blk.set h i (.int k (x : Int))
  unfold Mem
  have e : (ns k m).toArray.setIfInBounds i (.int k (x : Int)) = (ns k (m.set i x)).toArray := by
    simp [ns, List.map_set]
  rw [← e]
  exact this
end
theorem spl_cons (m : List Nat) (o b : Nat) (bs : List Nat) (h : o + bs.length + 1 ≤ m.length) : spl (m.set o b) (o + 1) bs = spl m o (b :: bs) := by
  apply List.ext_getElem?
  intro i
  rw [spl_get (by simp; omega), spl_get (by simp; omega), List.getElem?_set]
  simp only [List.length_cons]
  by_cases h1 : i = o
  · subst h1
    rw [if_neg (by omega), if_pos rfl, if_pos (by omega), if_pos (by omega)]
    simp
  · by_cases h2 : o + 1 ≤ i ∧ i < o + 1 + bs.length
    · rw [if_pos h2, if_pos (by omega), show i - o = (i - (o + 1)) + 1 by omega, List.getElem?_cons_succ]
    · rw [if_neg h2, if_neg (by omega), if_neg (by omega)]
theorem spl_nil (m : List Nat) (o : Nat) : spl m o [] = m := by unfold spl; simp
theorem Mem.setCells {e : TypeId} {k : IntKind} {g : Nat} : ∀ (bs : List Nat) (o : Nat) (w : World) (m : List Nat), Mem w g e k m → o + bs.length ≤ m.length → Mem (w.setCells g o (ns k bs)) g e k (spl m o bs)
  | [], o, w, m, h, _ => by rw [spl_nil]; exact h
  | b :: bs, o, w, m, h, hl => by
    simp only [List.length_cons] at hl
    have := Mem.setCells bs (o + 1) _ _ (h.set o b) (by simp; omega)
    rw [spl_cons _ _ _ _ (by omega)] at this
    exact this
theorem Solo.drewN {g : Nat} {w w' : World} (h : Solo g w w') (n : Nat) : Solo g w (w'.drewN n) := ⟨below_drewN h.1 n, h.2.1, h.2.2⟩
theorem Solo.setCellsC {g : Nat} {w : World} : ∀ (vs : List Value) (o : Nat) (w' : World), Solo g w w' → Solo g w (w'.setCells g o vs)
  | [], _, _, h => h
  | v :: vs, o, w', h => Solo.setCellsC vs (o + 1) _ (h.setCell o v)
theorem Solo.setRow {g : Nat} {w : World} (cs : Array Value) : Solo g w (w.setRow g cs) :=
  ⟨below_setRow (Below.refl _ _) (Nat.le_refl _) cs, by simp, fun k hk => setRow_other w g k cs hk⟩

section
variable {P : Program} {w : World} {ops : Array Oper} {rest : List Oper} {o : Oper} {a : Act} {Q : Exit → Act → World → Prop} {t e : TypeId} {z : Value} {bytes : Nat} {k : IntKind}
/-- copy onto a row that is known whole. -/
theorem cpy (el : El P t e z 1 bytes) (hgd : o.guard = none) (d s : Operand) (ho : o.op = .call { callee := .builtin .copy, args := #[d, s], argTypes := #[t, t] })
    {g off dn dc : Nat} {m : List Nat} (hd : a.eval d = .slice (some ⟨g, off, none⟩) dn dc) (hm : Mem w g e k m) (hfit : off + dn ≤ m.length)
    {B : Nat} {A : Option Addr} {sn sc : Nat} {l : List Nat} (hs : a.eval s = .slice A sn sc) (hr : Rd w B 1 A sn (ns k l))
    (h : ∀ w' n, n = min sn dn → Mem w' g e k (spl m off (l.take n)) → Solo g w w' → wpList P ops Q rest (a.put o.dst (.int .i64 (n : Int))) w') : wpList P ops Q (o :: rest) a w := by
  obtain ⟨ht, hinf, hzs, hsz, hb1⟩ := el
  obtain ⟨i, hi, hz, hsize, hby⟩ := info_parts hinf
  have hsz1 : (P.info? e).map (·.size) = some 1 := by rw [hi]; simp [hsize]
  have hl := hr.natLen
  rcases Nat.eq_zero_or_pos (min sn dn) with h0 | h0
  · refine wpList_copy_nothing hgd d s t t ho e ht hsz1 _ _ _ _ _ _ hd hs h0 ?_
    have := h w 0 h0.symm (by rw [List.take_zero, spl_nil]; exact hm) Solo.refl
    exact this
  · obtain ⟨b, so, rfl, _, hc⟩ := hr.2 (by omega)
    refine wpList_copy_own hgd d s t t ho e ht hsz1 g off dn dc _ sn sc hd hs _ e hm (ns k (l.take (min sn dn))) (by show _ = min sn dn; simp only [ns, List.length_map, List.length_take]; omega) ?_ (by simp [ns]; omega) (ns_one _ _) ?_
    · intro j v hv
      have hj : j < min sn dn := by
        have := (List.getElem?_eq_some_iff.1 hv).1
        simp [ns] at this
        omega
      rw [addr_add, hc j (by omega)]
      rw [← hv]
      simp [ns, hj]
    · have hlen : (ns k (l.take (min sn dn))).length = min sn dn := by simp [ns]; omega
      have := h (w.setRow g ((((ns k m).toArray).toList.take off ++ ns k (l.take (min sn dn)) ++ ((ns k m).toArray).toList.drop (off + (ns k (l.take (min sn dn))).length)).toArray)) (min sn dn) rfl ?_ (Solo.setRow _)
      · rw [← hlen] at this
        simpa [goInt, splice, hlen] using this
      · have h1 := setRow_heap w g _ ((((ns k m).toArray).toList.take off ++ ns k (l.take (min sn dn)) ++ ((ns k m).toArray).toList.drop (off + (ns k (l.take (min sn dn))).length)).toArray) e _ hm
        unfold Mem Blk
        rw [h1]
        congr 2
        unfold spl
        simp [ns, List.map_take, List.map_drop]
end
section
variable {P : Program} {w : World} {t e : TypeId} {k : IntKind} {m : List Nat}
/-- clear of some of a row that is known whole. -/
theorem run_clr (ht : P.underlying t = some (.slice e)) (hv : ∀ w, (zeroValue e).run P w = .ok (.int k 0) w) {g off n c : Nat} (hm : Mem w g e k m) (hfit : off + n ≤ m.length) :
    (Builtin.clear_ #[t] 0 #[.slice (some ⟨g, off, none⟩) n c]).run P w = .ok (.tuple #[]) (w.setCells g off (ns k (List.replicate n 0))) ∧ Mem (w.setCells g off (ns k (List.replicate n 0))) g e k (spl m off (List.replicate n 0)) ∧ Solo g w (w.setCells g off (ns k (List.replicate n 0))) := by
  have e1 : ns k (List.replicate n 0) = List.replicate n (Value.int k 0) := by simp [ns]
  refine ⟨?_, Mem.setCells _ _ _ _ hm (by simp; omega), Solo.setCellsC _ _ _ Solo.refl⟩
  rw [e1]
  rcases Nat.eq_zero_or_pos n with rfl | hn
  · simp [Builtin.clear_, run_underlying ht, World.setCells]
  exact Go.Lib.run_clear_slice w t e 0 (.int k 0) ht hv rfl rfl g off n c hn (fun j hj => by rw [hm.cell _ (by omega)]; rfl) (fun j hj => hm.frozen _)
end
/-- A slice's part, its address by one name. -/
theorem run_cut {P : Program} {t e : TypeId} {z : Value} {bytes : Nat} (el : El P t e z 1 bytes) (A : Option Addr) (n c h k : Nat) (h1 : h ≤ k) (h2 : k ≤ c) (w : World) :
    (Instr.slice t (.slice A n c) (some (.int .i64 (h : Int))) (some (.int .i64 (k : Int))) none).run P w = .ok (.slice (if c = h then A else A.map (·.add h)) (k - h) (c - h)) w := by
  obtain ⟨ht, hinf, hzs, hsz, hb1⟩ := el
  obtain ⟨i, hi, hz, hsize, hby⟩ := info_parts hinf
  have he : P.elem t = e := by unfold Program.elem; rw [ht]
  have ht' : P.underlying t = some (.slice (P.elem t)) := by rw [he]; exact ht
  rw [run_slice_lh (P := P) w t A n c ht' .i64 .i64 (h : Int) (k : Int) (by omega) (by omega) (by omega)]
  rw [he]
  simp [sizeOf, typeInfo, hi, hsize, sliced, Result.andThen]
end Go.Proofs.Ytnngjbieoakanaa
