/- append of zeros to a row of the call's own, of one cell an element, whether it has room or not. No program. -/
import Derived.Test.YtnngjbieoakanaaG11InletTwice
import Derived.Test.YtnngjbieoakanaaG22InletTwice
import Derived.Lib.AppendZeros
import Derived.Lib.AppendZerosOnto
import Derived.Laws.IdiomCopy
import Derived.Laws.OwnMore

namespace Go.Proofs.Ytnngjbieoakanaa
open Go.RowKit
set_option linter.unusedVariables false
/-- Cells written from a place on, as a piece of a row. -/
theorem setL_splv' : ∀ (l : List Value) (L : List Value) (o : Nat), o + l.length ≤ L.length → setL L.toArray o l = (splv L o l).toArray
  | [], L, o, h => by
    unfold setL
    congr 1
    refine List.ext_getElem? fun k => ?_
    rw [splv_get h, if_neg (by simp)]
  | v :: r, L, o, h => by
    unfold setL
    rw [List.setIfInBounds_toArray, setL_splv' r (L.set o v) (o + 1) (by simp at h ⊢; omega)]
    congr 1
    refine List.ext_getElem? fun k => ?_
    rw [splv_get (by simp at h ⊢; omega), splv_get h, List.getElem?_set]
    simp only [List.length_cons] at h ⊢
    rcases Nat.lt_trichotomy k o with h1 | h1 | h1
    · rw [if_neg (by omega), if_neg (by omega), if_neg (by omega)]
    · subst h1
      rw [if_neg (by omega), if_pos rfl, if_pos (by omega), if_pos (by omega), Nat.sub_self]
      rfl
    · by_cases h2 : k < o + 1 + r.length
      · rw [if_pos (by omega), if_pos (by omega), show k - o = (k - (o + 1)) + 1 by omega, List.getElem?_cons_succ]
      · rw [if_neg (by omega), if_neg (by omega), if_neg (by omega)]
theorem zeroCells_one (z : Value) (n : Nat) : (Builtin.zeroCells #[z] n).toList = List.replicate n z := by
  refine List.ext_getElem (by simp [Builtin.zeroCells]) fun i h1 h2 => ?_
  simp [Builtin.zeroCells]
  have : i % 1 = 0 := Nat.mod_one i
  simp [Nat.mod_one]
section
variable {P : Program} {w : World} {t e : TypeId} {z : Value} {bytes : Nat}
theorem run_zapO (el : El P t e z 1 bytes) (hzc : z.cells = #[z]) (hz1 : z.oneCell' = true) {tn ty : TypeId} {kq kn : IntKind} (htn : P.underlying tn = some (.int kn)) {base n k : Nat} {v : Value} {xs : List Value} (h : w.ownsRow base e 1 v n xs) (hB : base ≤ w.heap.size)
    (hk : n + k ≤ 1000000) (hby : bytes ≤ 1000) :
    ∃ v' w', (Builtin.append_ #[t, tn] ty #[v, .int kq (k : Int)]).run P w = .ok v' w' ∧ w'.ownsRow base e 1 v' (n + k) (xs ++ List.replicate k z) ∧ w.grownBy w' v.ownBlock ∧ Below base w w' := by
  have h0 := h
  obtain ⟨ht, hinf, hzs, hsz, hb1⟩ := el
  obtain ⟨i, hi, hz, hsize, hbyt⟩ := info_parts hinf
  have hbel : ∀ w', w.grownBy w' v.ownBlock → Below base w w' := fun w' hg => (Below.refl _ _).grown hg hB fun k hk => (h.lt k hk).1
  have hw : IntKind.i64.wrap (k : Int) = k := by rw [IntKind.wrap_i64]; omega
  have hw0 : IntKind.i64.wrap 0 = 0 := by rw [IntKind.wrap_i64]; rfl
  have h48 : k * i.bytes ≤ 281474976710656 := by
    rw [hbyt]
    exact Nat.le_trans (Nat.mul_le_mul (show k ≤ 1000000 by omega) hby) (by omega)
  have h48i : ¬ (281474976710656 < (k : Int) * (i.bytes : Int)) := by rw [← Int.natCast_mul]; omega
  have hneg : ¬ ((k : Int) < 0) := by omega
  rcases own_open h with ⟨rfl, rfl, rfl⟩ | ⟨g, c, L, rfl, hg, hm, hnc, hcm, hl, hx⟩
  · rcases Nat.eq_zero_or_pos k with rfl | hk0
    · refine ⟨.slice none 0 0, w, ?_, by simpa using h0, grownBy_refl _ _, hbel _ (grownBy_refl _ _)⟩
      simp [Builtin.append_, run_underlying ht, run_underlying htn, sizeOf, typeInfo, hi, asInt, asIntOf, hw0]
    · have hr := Lib.run_append_nil_zeros (P := P) w t tn ty e i z kq kn ht htn hi hz k hk0 (by omega) (by omega) h48
      have hge := grownCap_ge w k 0 e
      have hle := grownCap_le_maxLen w k 0 e (by unfold maxLen; omega)
      have hgr : w.grownBy (w.drew.alloc (.cells (Builtin.zeroCells z.cells k ++ Builtin.zeroCells z.cells (grownCap w k 0 e - k)) e)) (Value.slice none 0 0).ownBlock := grownBy_trans (grownBy_drew (grownBy_refl _ _)) (World.grownBy_alloc _ _ _)
      refine ⟨_, _, hr, ?_, hgr, hbel _ hgr⟩
      refine ⟨by simp, .inr ⟨_, _, _, by rw [Nat.zero_add], hB, heap_alloc_new w.drew _, by omega, hle, ?_, ?_⟩⟩
      · rw [Array.size_append, size_zeroCells, size_zeroCells, hzs]; omega
      · rw [Array.toList_append, hzc, zeroCells_one, zeroCells_one]; simp
  · by_cases hroom : n + k ≤ c
    · have hst := run_storeCells_cells (P := P) g n (List.replicate k z) 0 w (by
        intro j hj
        rw [List.length_replicate] at hj
        rw [hm.cell]
        simp
        omega) (fun j hj => hm.frozen _) (fun u hu => by rw [List.eq_of_mem_replicate hu]; exact hz1)
      simp only [Nat.add_zero] at hst
      have hr : (Builtin.append_ #[t, tn] ty #[.slice (some ⟨g, 0, none⟩) n c, .int kq (k : Int)]).run P w = .ok (.slice (some ⟨g, 0, none⟩) (n + k) c) (w.setCells g n (List.replicate k z)) := by
        rcases Nat.eq_zero_or_pos k with rfl | hk0
        · have : n ≤ c := hnc
          simp [Builtin.append_, run_underlying ht, run_underlying htn, sizeOf, typeInfo, hi, asInt, asIntOf, this, storeCells, World.setCells, hw0]
        · have hzl : (Builtin.zeroCells z.cells k).toList = List.replicate k z := by rw [hzc]; exact zeroCells_one z k
          have hk00 : ¬ k = 0 := by omega
          simp [Builtin.append_, run_underlying ht, run_underlying htn, sizeOf, typeInfo, zeroValue, hi, hz, hsize, asInt, asIntOf, hw, hneg, h48i, hroom, hk00, hzl, Addr.add_lit, hst]
      have hfit : n + (List.replicate k z).length ≤ L.length := by rw [List.length_replicate]; omega
      have hb := hm.setCells (List.replicate k z) n
      have hso : Solo g w (w.setCells g n (List.replicate k z)) := Solo.refl.setCells _ _
      refine ⟨_, _, hr, ?_, hso.grownBy, hbel _ hso.grownBy⟩
      rw [setL_splv' _ _ _ hfit] at hb
      refine own_shut hg hb hroom hcm (by rw [splv_len hfit]; exact hl) ?_
      rw [Nat.mul_one] at hx hl ⊢
      refine List.ext_getElem? fun j => ?_
      have hxl := h.1
      rw [List.getElem?_take]
      by_cases hj : j < n + k
      · rw [if_pos hj, splv_get hfit, List.length_replicate]
        by_cases hj2 : n ≤ j
        · rw [if_pos ⟨hj2, hj⟩, List.getElem?_append_right (by omega), hxl, Nat.mul_one]
        · rw [if_neg (by omega), List.getElem?_append_left (by omega), ← hx, List.getElem?_take, if_pos (by omega)]
      · rw [if_neg hj]
        exact (List.getElem?_eq_none (by rw [List.length_append, List.length_replicate]; omega)).symm
    · have hk0 : 0 < k := by omega
      have hold := run_firstCells_some (P := P) w.drew i.size n ⟨g, 0, none⟩ n c ((L.drop 0).take n) (by simp [hsize]; omega) (fun j v hj => blk_cells (w := w.drew) (e := e) hm j v hj)
      have hnext : Builtin.nextslicecap (n + k) c ≤ 4000000 := by
        have hgb : ∀ r c', c' ≤ 1000000 → Builtin.growBy (n + k) r c' ≤ 1000000 + 250200 := by
          intro r
          induction r with
          | zero => intro c' h; unfold Builtin.growBy; omega
          | succ r ih =>
            intro c' h
            unfold Builtin.growBy
            split
            · omega
            · by_cases h2 : c' + (c' + 768) / 4 ≤ 1000000
              · exact ih _ h2
              · have hx : ∀ r, Builtin.growBy (n + k) r (c' + (c' + 768) / 4) = c' + (c' + 768) / 4 := by
                  intro r
                  cases r with
                  | zero => rfl
                  | succ r => unfold Builtin.growBy; rw [if_pos (by omega)]
                rw [hx]
                omega
        unfold Builtin.nextslicecap
        split
        · omega
        · split
          · omega
          · exact Nat.le_trans (hgb 4 c (by omega)) (by omega)
      have hfit : Builtin.nextslicecap (n + k) c * i.bytes ≤ 281474976710656 := by
        rw [hbyt]
        exact Nat.le_trans (Nat.mul_le_mul hnext hby) (by omega)
      have hr := Lib.run_append_grow_zeros (P := P) w t tn ty e i z kq kn ht htn hi hz (some ⟨g, 0, none⟩) n c _ hold k hk0 (by omega) (by omega) (by omega) h48 hfit
      have hge := grownCap_ge w (n + k) c e
      have hle := grownCap_le_maxLen w (n + k) c e (by unfold maxLen; omega)
      have hgr : w.grownBy (w.drew.alloc (.cells (((L.drop 0).take n).toArray ++ Builtin.zeroCells z.cells k ++ Builtin.zeroCells z.cells (grownCap w (n + k) c e - (n + k))) e)) (Value.slice (some ⟨g, 0, none⟩) n c).ownBlock := grownBy_trans (grownBy_drew (grownBy_refl _ _)) (World.grownBy_alloc _ _ _)
      refine ⟨_, _, hr, ?_, hgr, hbel _ hgr⟩
      rw [Nat.mul_one] at hx hl
      have hxl := h.1
      refine ⟨by rw [List.length_append, List.length_replicate, hxl, Nat.mul_one, Nat.mul_one], .inr ⟨_, _, _, rfl, hB, heap_alloc_new w.drew _, by omega, hle, ?_, ?_⟩⟩
      · rw [Array.size_append, Array.size_append, size_zeroCells, size_zeroCells, hzs]
        simp
        omega
      · rw [Array.toList_append, Array.toList_append, hzc, zeroCells_one, zeroCells_one]
        simp only [List.drop_zero, Nat.mul_one]
        rw [hx]
        rw [List.take_append_of_le_length (by rw [List.length_append, List.length_replicate, hxl]; omega)]
        exact List.take_of_length_le (by rw [List.length_append, List.length_replicate, hxl]; omega)
end
section
variable {P : Program} {w : World} {ops : Array Oper} {rest : List Oper} {o : Oper} {a : Act} {Q : Exit → Act → World → Prop} {t e : TypeId} {z : Value} {bytes : Nat}
theorem zapO (el : El P t e z 1 bytes) (hzc : z.cells = #[z]) (hz1 : z.oneCell' = true) (hgd : o.guard = none) (d s : Operand) {tn : TypeId} {kq kn : IntKind} (htn : P.underlying tn = some (.int kn)) (ho : o.op = .call { callee := .builtin .append, args := #[d, s], argTypes := #[t, tn] })
    {base n k : Nat} {v : Value} {xs : List Value} (hd : a.eval d = v) (hs : a.eval s = .int kq (k : Int)) (hown : w.ownsRow base e 1 v n xs) (hB : base ≤ w.heap.size) (hk : n + k ≤ 1000000) (hby : bytes ≤ 1000)
    (h : ∀ v' w', w'.ownsRow base e 1 v' (n + k) (xs ++ List.replicate k z) → w.grownBy w' v.ownBlock → Below base w w' → wpList P ops Q rest (a.put o.dst v') w') : wpList P ops Q (o :: rest) a w := by
  obtain ⟨v', w', hr, h1, h2, h3⟩ := run_zapO (P := P) (ty := o.type) (kq := kq) el hzc hz1 htn hown hB hk hby
  exact wpList_runa hgd d s ho hd hs hr (h v' w' h1 h2 h3)
/-- make of n zeros. -/
theorem mkF {kl kc : IntKind} (el : El P t e z 1 bytes) (hzc : z.cells = #[z]) (hgd : o.guard = none) (l c : Operand) (ho : o.op = .makeSlice t l c) (n : Nat) (hl : a.eval l = .int kl (n : Int)) (hc : a.eval c = .int kc (n : Int)) (hn : n ≤ 1000000) (hby : bytes ≤ 1000)
    (h : ∀ w', w'.ownsRow w.heap.size e 1 (.slice (some ⟨w.heap.size, 0, none⟩) n n) n (List.replicate n z) → Below w.heap.size w w' → wpList P ops Q rest (a.put o.dst (.slice (some ⟨w.heap.size, 0, none⟩) n n)) w') : wpList P ops Q (o :: rest) a w := by
  obtain ⟨ht, hinf, hzs, hsz, hb1⟩ := el
  obtain ⟨i, hi, hz, hsize, hby2⟩ := info_parts hinf
  obtain ⟨w1, hrun, ho1, hgr⟩ := run_make_full (P := P) w w.heap.size t e i z 1 ht hi hz hsize kl kc n (by rw [hby2]; exact Nat.le_trans (Nat.mul_le_mul hby hn) (by omega)) (by unfold maxLen; omega) (Nat.le_refl _)
  have h1 : (madeCells z.cells (n * 1)).toList = List.replicate n z := by rw [hzc, toList_madeCells_one, Nat.mul_one]
  rw [h1] at ho1
  refine wpList_plain hgd fun K hK => ?_
  unfold Oper.wp
  simp [execOp, ho, hl, hc, hrun, Result.andThen]
  exact hK _ _ (h w1 ho1 ((Below.refl _ _).grown hgr (Nat.le_refl _) fun k hk => by cases hk))
end
end Go.Proofs.Ytnngjbieoakanaa
