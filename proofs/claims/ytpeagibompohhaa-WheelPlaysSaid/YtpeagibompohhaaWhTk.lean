/- Package wheel: Tick. -/
import Derived.Test.YtpeagibompohhaaWhT
import Derived.Sort.OwnSortedInts
namespace Go.Proofs.Ytpeagibompohhaa
open Go.RowKit
set_option linter.unusedVariables false
set_option linter.unusedSimpArgs false
def sortI (l : List Int) : List Int := l.mergeSort (fun x y => decide (x ≤ y))
theorem sortI_len (l : List Int) : (sortI l).length = l.length := List.length_mergeSort _
theorem sortI_nil : sortI [] = [] := by unfold sortI; simp
/-- slices.Sort at a row of the call's own. -/
theorem wsort_any (B : Nat) (v : Value) (l : List Int) (w : World) (h : Zats w 3 .i64 B v l) (hl : l.length ≤ 10000) :
    Calls Try.prog 25 #[v] w fun e w' => e = .returned (.tuple #[]) ∧ Zats w' 3 .i64 B v (sortI l) ∧ w.heap.size ≤ w'.heap.size ∧ (∀ k, k < w.heap.size → v.ownBlock ≠ some k → w'.heap[k]? = w.heap[k]?) ∧ Un w w' := by
  rcases h.2 with ⟨rfl, h0⟩ | ⟨rb, c, cur, rfl, hB, hr, hnc, hcm, hcs, hT⟩
  · have hl0 : l = [] := List.eq_nil_of_length_eq_zero h0
    subst hl0
    refine (Try.slices_Sort_int_none none 0 w).mono ?_
    rintro e w' ⟨rfl, rfl⟩
    refine ⟨rfl, ?_, Nat.le_refl _, fun _ _ _ => rfl, Un.refl _⟩
    rw [sortI_nil]
    exact Zats.nil _ _ _ _
  · have hT' : cur.toList.take l.length = l.map (Value.int .i64) := by rw [Nat.mul_one] at hT; exact hT
    refine (Try.slices_Sort_int rb 0 c l w (Go.holds_of_blockI hr hT') (by exact (Array.getElem?_eq_some_iff.1 hr).1) (by omega)).mono ?_
    rintro e w' ⟨rfl, n, os, rfl⟩
    have hg := Go.grownBy_sortedI (w := w) (g := rb) (n := n) (os := os) (l.mergeSort fun x y => decide (x ≤ y)).toArray
    refine ⟨rfl, ?_, hg.size, fun k hk hne => hg.block k hk fun e => hne ?_, unG hg⟩
    · have := Go.ownsRow_sortedI (n := n) (os := os) (ss := l) (ts := l.mergeSort fun x y => decide (x ≤ y)) (List.length_mergeSort _) hB hr hnc hcm hcs
      unfold Zats
      rw [sortI_len]
      exact this
    · exact e.symm ▸ rfl
theorem WS.tick {w w' : World} {g B mb most now : Nat} {sl : List Value} {S : List (List Int)} (h : WS w g B mb most now sl S) : WS (w.setCell ⟨g, 1, none⟩ (.int .i64 ((now : Int) + 1))) g B mb most (now + 1) sl S where
  blk := by
    have := h.blk.set 1 (.int .i64 ((now : Int) + 1))
    rw [show (now : Int) + 1 = ((now + 1 : Nat) : Int) by push_cast; rfl] at this ⊢
    exact this
  sll := h.sll
  ssl := h.ssl
  rows p v l h1 h2 := (h.rows p v l h1 h2).kept fun k hk => ((Solo.refl (g := g) (w := w)).setCell 1 _).2.2 k fun e => by subst e; exact h.rowg h1 hk
  apart := h.apart
  bg := h.bg
theorem WS.same {w w' : World} {g B mb most now : Nat} {sl : List Value} {S : List (List Int)} (h : WS w g B mb most now sl S) (hg : w'.heap[g]? = w.heap[g]?) (hr : ∀ (p : Nat) (v : Value) (k : Nat), sl[p]? = some v → v.ownBlock = some k → w'.heap[k]? = w.heap[k]?) : WS w' g B mb most now sl S where
  blk := hg.trans h.blk
  sll := h.sll
  ssl := h.ssl
  rows p v l h1 h2 := (h.rows p v l h1 h2).kept fun k hk => hr p v k h1 hk
  apart := h.apart
  bg := h.bg
theorem leftL_mem {L : List Tm} {t : Nat} {x : Tm} : x ∈ leftL L t ↔ x ∈ L ∧ x.2 ≠ t := by simp [leftL]
theorem left_due (L : List Tm) (t : Nat) : (leftL L t).length + (dueL L t).length = L.length := by
  unfold leftL dueL
  induction L with
  | nil => rfl
  | cons x L ih =>
    by_cases e : x.2 = t
    · rw [List.filter_cons_of_neg (by simpa using e), List.filter_cons_of_pos (by simpa using e)]
      simp only [List.map_cons, List.length_cons]
      omega
    · rw [List.filter_cons_of_pos (by simpa using e), List.filter_cons_of_neg (by simpa using e)]
      simp only [List.length_cons]
      omega
/-- What was due isn't there any more. -/
theorem WX.left {P : Nat → Nat} {S : List (List Int)} {f : Fm} {L : List Tm} {l : List Int} {t : Nat} (h : WX P S f L l) (hp : ∀ x ∈ L, x.1 ∈ l ↔ x.2 = t) : WL P S (f.wo l) (leftL L t) where
  wg := by rw [Fm.wo_nil]; exact h.wg
  fl id t' := by
    rw [leftL_mem]
    constructor
    · rintro ⟨hm, hne⟩
      obtain ⟨k, e⟩ := h.fnd hm
      exact ⟨k, by rw [Fm.wo_out fun hl => hne ((hp _ hm).1 hl)]; exact e⟩
    · rintro ⟨k, e⟩
      by_cases hl : id ∈ l
      · rw [Fm.wo_in hl] at e; cases e
      · rw [Fm.wo_out hl] at e
        exact ⟨h.mem e, fun e' => hl ((hp _ (h.mem e)).2 e')⟩
  nd := (List.Sublist.map _ List.filter_sublist).nodup h.nd
  i64 x hx := h.i64 x (leftL_mem.1 hx).1
theorem Fm.wo_take {f : Fm} {l : List Int} {i : Nat} {x : Int} (hx : l[i]? = some x) : (f.wo (l.take i)).upd x none = f.wo (l.take (i + 1)) := by
  funext id
  unfold Fm.wo Fm.upd
  rw [List.take_add_one, hx]
  by_cases e : id = x
  · subst e; simp
  · simp [e]
theorem perm_sortI {l m : List Int} (h : l.Perm m) : sortI l = sortI m := by
  have hp : (sortI l).Perm (sortI m) := (List.mergeSort_perm l _).trans (h.trans (List.mergeSort_perm m _).symm)
  have hs : ∀ k : List Int, (sortI k).Pairwise (fun x y => x ≤ y) := fun k => by
    have := List.pairwise_mergeSort (le := fun x y : Int => decide (x ≤ y)) (fun a b c h1 h2 => by simp only [decide_eq_true_eq] at *; omega) (fun a b => by simp only [Bool.or_eq_true, decide_eq_true_eq]; omega) k
    exact this.imp fun h => by simpa using h
  exact hp.eq_of_pairwise (fun a b _ _ h1 h2 => Int.le_antisymm h1 h2) (hs l) (hs m)
set_option maxRecDepth 20000 in
set_option maxHeartbeats 4000000 in
theorem wtick_any (g B mb most n n' : Nat) (sl : List Value) (S : List (List Int)) (f : Fm) (L : List Tm) (w : World) (h : WS w g B mb most n sl S) (hm : MapW w mb f L.length) (hl : WL (plW n) S f L) (hn' : n' = n + 1) (hn : n ≤ 4000000000) (hll : L.length ≤ 4096) (hdu : ∀ x ∈ L, n < x.2 ∧ x.2 ≤ n + 65535) :
    Calls Try.prog 12 #[.pointer (some ⟨g, 0, none⟩)] w fun e w' => ∃ v sl' S' f', e = .returned v ∧ Zats w' 3 .i64 w.heap.size v (sortI (dueL L n')) ∧ WS w' g B mb most n' sl' S' ∧ MapW w' mb f' (leftL L n').length ∧ WL (plW n') S' f' (leftL L n') ∧ KeptW g mb sl sl' w w' := by
  have c1 := h.c1
  have f1 := h.blk.frozen 1
  have HW0 := Lib.hid h
  have HM0 := Lib.hid hm
  have HL0 := Lib.hid hl
  have HDU := Lib.hid hdu
  have HNE := Lib.hid hn'
  have hnb : n' ≤ 4000000001 := by omega
  clear h hm hl hdu hn'
  go_enter Try.func12, Try.ntmps12
  go_upto_region 2 with fail
  have HW1 : Hid (WS (w.setCell ⟨g, 1, none⟩ (.int .i64 ((n : Int) + 1))) g B mb most n' sl S) := Lib.hid (by rw [HNE.out]; exact HW0.out.tick (w' := w))
  have hs1 : Solo g w (w.setCell ⟨g, 1, none⟩ (.int .i64 ((n : Int) + 1))) := Solo.refl.setCell 1 _
  have HM1 := Lib.hid (HM0.out.same (hs1.2.2 mb (Ne.symm (HM0.out.ne HW0.out.blk))))
  have HK1 : Hid (KeptW g mb sl sl w (w.setCell ⟨g, 1, none⟩ (.int .i64 ((n : Int) + 1)))) := Lib.hid ⟨fun k hk hg _ _ => hs1.2.2 k hg, fun p v k hu hk => .inl ⟨p, v, hu, hk⟩, hs1.1.size, unB hs1.1⟩
  clear c1 f1 hs1
  generalize w.setCell ⟨g, 1, none⟩ (.int .i64 ((n : Int) + 1)) = w1 at HW1 HM1 HK1 ⊢
  go_wp2_with fail
  refine (wturn_any g B mb most n n' L.length sl S f L w1 HW1.out HM1.out HL0.out HNE.out hn hll hll HDU.out).mono ?_
  rintro e w2 ⟨rfl, sl2, S2, f2, hw2, hm2, hl2, hk2⟩
  have HW2 := Lib.hid hw2
  have HM2 := Lib.hid hm2
  have HL2 := Lib.hid hl2
  have HK2 := Lib.hid (HK1.out.trans hk2)
  clear hw2 hm2 hl2 hk2 HW1 HM1 HK1
  have c1 := HW2.out.c1
  go_wp2_with fail
  refine (wplace_any g B mb most n' n' sl2 S2 w2 HW2.out (by omega) (by omega)).mono ?_
  rintro e w3 ⟨rfl, hq3⟩
  have hb3 : Below w2.heap.size w2 w3 := by obtain ⟨q, rfl⟩ := hq3; exact below_drewN (Below.refl _ _) q
  have HW3 := Lib.hid (HW2.out.into hb3)
  have HM3 := Lib.hid (HM2.out.same (hb3.block mb HM2.out.lt))
  have HK3 := Lib.hid (HK2.out.trans (KeptW.of_below hb3))
  clear hq3 hb3 c1 HW2 HM2 HK2
  obtain ⟨v0, l0, hv0, hl0, _, _⟩ := HW3.out.place (plW_lt n' n')
  have hll0 := HL2.out.row_len hl0
  have HL0X := Lib.hid hl0
  have HV0X := Lib.hid hv0
  go_wp2_with fail
  refine (wempty_any g B mb most n' (plW n' n') sl2 S2 v0 l0 w3 HW3.out hv0 hl0 (by omega)).mono ?_
  rintro e w4 ⟨v4, rfl, hz4, hw4, ht4⟩
  clear hv0 hl0
  have HZ4 := Lib.hid hz4
  have HW4 := Lib.hid hw4
  have HM4 := Lib.hid (HM3.out.same (ht4.2 mb HM3.out.lt (Ne.symm (HM3.out.ne HW3.out.blk))))
  have HK4 := Lib.hid (HK3.out.trans (KeptW.of_tou (mb := mb) (p := plW n' n') ht4))
  have HX4 := Lib.hid (WL.emptied HL2.out HL0X.out)
  have HIFF : Hid (∀ x ∈ L, x.1 ∈ l0 ↔ x.2 = n') := Lib.hid fun x hx => by
    have hwg := HL2.out.wg
    rw [Fm.wo_nil] at hwg
    constructor
    · intro hm
      obtain ⟨_, t, k, hf, hk, hpt, hm'⟩ := HL2.out.row_mem HL0X.out hm
      have := HL2.out.one (id := x.1) (t := x.2) hx hm'
      rw [← this, plW_now] at hpt
      exact plW_due hpt
    · intro e
      obtain ⟨k, hf⟩ := HL2.out.fnd (id := x.1) (t := x.2) hx
      obtain ⟨l', h1, h2⟩ := hwg.here x.1 x.2 k hf
      rw [e, HL0X.out] at h1
      injection h1 with h1
      subst h1
      exact List.mem_of_getElem? h2
  have HPERM := Lib.hid (HL2.out.due_perm HL0X.out fun x hx e => by rw [plW_now] at e; exact plW_due e)
  have HLEN : Hid ((leftL L n').length = L.length - l0.length) := Lib.hid (by
    have h1 := left_due L n'
    have h2 := HPERM.out.length_eq
    omega)
  have HND := Lib.hid ((show WG (plW n') S2 f2 from by have := HL2.out.wg; rwa [Fm.wo_nil] at this).nodup HL0X.out)
  have HI64 : Hid (∀ x ∈ l0, I64 x ∧ (f2 x).isSome) := Lib.hid fun x hx => by
    obtain ⟨_, t, k, hf, hk, hpt, hm'⟩ := HL2.out.row_mem HL0X.out hx
    exact ⟨HL2.out.i64 _ hm', by rw [hf]; rfl⟩
  have HSZ : Hid (w.heap.size ≤ w3.heap.size) := Lib.hid HK3.out.size
  have HLT : Hid (∀ (q : Nat) (u : Value) (k : Nat), (sl2.set (plW n' n') (.slice none 0 0))[q]? = some u → u.ownBlock = some k → k < w3.heap.size) := Lib.hid fun q u k hu hk => by
    by_cases e : plW n' n' = q
    · subst e
      rw [List.getElem?_set_self (get_lt HV0X.out)] at hu
      injection hu with hu
      subst hu
      simp [Value.ownBlock] at hk
    · rw [List.getElem?_set_ne e] at hu
      obtain ⟨u', l, h1, h2, _, hz⟩ := HW3.out.place (p := q) (by rw [← HW3.out.sll]; exact get_lt hu)
      rw [hu] at h1
      injection h1 with h1
      subst h1
      exact (hz.lt k hk).2
  have HGM : Hid (g < w3.heap.size ∧ mb < w3.heap.size) := Lib.hid ⟨HW3.out.lt, HM3.out.lt⟩
  have HS4 : Hid (w3.heap.size ≤ w4.heap.size) := Lib.hid ht4.1.size
  clear hz4 hw4 ht4 HW3 HM3 HK3
  obtain ⟨A4, n4, cc4, rfl, hnc4, hln4, _⟩ := HZ4.out.out
  have hn4 : n4 ≤ 5000 := by rw [← hln4.out]; omega
  go_wp2_with fail
  go_loopw [24] (fun iv wk => ∃ (i : Nat), i ≤ n4 ∧ iv = .int .i64 (i : Nat) ∧ Hid (WS wk g B mb most n' (sl2.set (plW n' n') (.slice none 0 0)) (S2.set (plW n' n') [])) ∧ Hid (MapW wk mb (f2.wo (l0.take i)) (L.length - i)) ∧ Hid (KeptW g mb sl (sl2.set (plW n' n') (.slice none 0 0)) w wk) ∧ Hid (Zats wk 3 .i64 w3.heap.size (.slice A4 n4 cc4) l0) ∧ Hid (w3.heap.size ≤ wk.heap.size)) (fun iv _ => n4 - (intOf iv).toNat)
  case atStart => exact ⟨0, Nat.zero_le _, rfl, HW4, Lib.hid (by rw [List.take_zero, Fm.wo_nil, Nat.sub_zero]; exact HM4.out), HK4, HZ4, HS4⟩
  case round =>
    clear HW4 HM4 HK4 HZ4 HS4
    obtain ⟨i, hi, rfl, HW4, HM4, HK4, HZ4, HS4⟩ := hrel
    by_cases hlt : i < n4
    · have hlt' : (i : Int) < (n4 : Int) := by omega
      obtain ⟨x, hx⟩ : ∃ x, l0[i]? = some x := ⟨_, List.getElem?_eq_getElem (by rw [hln4.out]; exact hlt)⟩
      obtain ⟨hix, hfx⟩ := HI64.out x (List.mem_of_getElem? hx)
      obtain ⟨ab, hA, q0⟩ := ZatsAt HZ4.out hx
      subst hA
      have c2 := HW4.out.c2
      obtain ⟨wc, hrun, hmc, htc⟩ := HM4.out.drop hix 0
      have hfi : (f2.wo (l0.take i)) x = f2 x := Fm.wo_out fun hm => by
        obtain ⟨j, hj⟩ := List.getElem?_of_mem hm
        have hjl := get_lt hj
        rw [List.length_take] at hjl
        rw [List.getElem?_take, if_pos (by omega)] at hj
        have h2 := List.pairwise_iff_getElem.1 HND.out j i (get_lt hj) (get_lt hx) (by omega)
        rw [List.getElem?_eq_getElem (get_lt hj)] at hj
        rw [List.getElem?_eq_getElem (get_lt hx)] at hx
        injection hj with hj
        injection hx with hx
        exact h2 (hj.trans hx.symm)
      rw [hfi, hfx, if_pos rfl, Fm.wo_take hx, Nat.sub_sub] at hmc
      have HW5 := Lib.hid (HW4.out.turned HM4.out htc)
      have HM5 := Lib.hid hmc
      have HK5 : Hid (KeptW g mb sl (sl2.set (plW n' n') (.slice none 0 0)) w wc) := Lib.hid (HK4.out.trans ⟨fun k hk _ hkm _ => htc.grown.block k hk fun e => hkm (by injection e), fun p v k hu hk => .inl ⟨p, v, hu, hk⟩, htc.grown.size, unG htc.grown⟩)
      have HZ5 := Lib.hid (HZ4.out.kept fun k hk => htc.grown.block k (HZ4.out.lt k hk).2 fun e => HM4.out.row (B' := 0) HZ4.out (by rw [← (show k = mb by injection e)]; exact hk))
      have HS5 : Hid (w3.heap.size ≤ wc.heap.size) := Lib.hid (Nat.le_trans HS4.out htc.grown.size)
      clear hx hfi hfx hmc htc HW4 HM4 HK4 HZ4 HS4
      go_wp2_with fail
      clear hrun c2 q0
      go_roundw
      case rel => exact ⟨i + 1, by omega, by go_num, HW5, HM5, HK5, HZ5, HS5⟩
      case measure => simp [intOf]; omega
    · have hie : i = n4 := by omega
      subst hie
      have HM6 : Hid (MapW wr mb (f2.wo l0) (leftL L n').length) := Lib.hid (by
        have h6 := HM4.out
        rw [List.take_of_length_le (by rw [hln4.out]; exact Nat.le_refl _), ← hln4.out, ← HLEN.out] at h6
        exact h6)
      have HL6 := Lib.hid (HX4.out.left HIFF.out)
      go_wp2_with fail
      refine (wsort_any _ _ l0 wr HZ4.out (by omega)).mono ?_
      rintro e w7 ⟨rfl, hz7, hs7, hk7, hu7⟩
      have hb7 : ∀ k, k < w3.heap.size → w7.heap[k]? = wr.heap[k]? := fun k hk => hk7 k (Nat.lt_of_lt_of_le hk HS4.out) fun e => by have := (HZ4.out.lt k e).1; omega
      have HW7 := Lib.hid (HW4.out.same (hb7 g HGM.out.1) fun p v k hu hk => hb7 k (HLT.out p v k hu hk))
      have HM7 := Lib.hid (HM6.out.same (hb7 mb HGM.out.2))
      have HK7 : Hid (KeptW g mb sl (sl2.set (plW n' n') (.slice none 0 0)) w w7) := Lib.hid ⟨fun k hk a b c => (hb7 k (Nat.lt_of_lt_of_le hk HSZ.out)).trans (HK4.out.same k hk a b c), HK4.out.new, Nat.le_trans HK4.out.size hs7, HK4.out.un.trans hu7⟩
      have HZ7 : Hid (Zats w7 3 .i64 w.heap.size (.slice A4 i cc4) (sortI (dueL L n'))) := Lib.hid (by rw [← perm_sortI HPERM.out]; exact hz7.mono HSZ.out)
      clear hz7 hs7 hk7 hb7 HW4 HM4 HK4 HZ4 HM6
      go_wp2_with fail
      go_ret
      exact ⟨_, _, _, _, rfl, HZ7.out, HW7.out, HM7.out, HL6.out, HK7.out⟩
end Go.Proofs.Ytpeagibompohhaa
