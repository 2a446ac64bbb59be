/- Layer 44: alive; what a count tells is the document's; the law HistRows. -/
import Derived.Test.YtioebcjhmfndnaaHi5
import Derived.Test.YtioebcjhmfndnaaHi6
import Derived.Test.YtioebcjhmfndnaaStm
namespace Go.Proofs.Ytioebcjhmfndnaa
open Go.RowKit
set_option linter.unusedVariables false
set_option linter.unusedSimpArgs false
def ZH : Array Value := (HRow (fun _ => 0) ++ [Value.int .i64 ((0 : Nat) : Int)]).toArray
theorem ZH_size : ZH.size = 121 := rfl
theorem ZH_zero (w : World) : (zeroValue 28).run Try.prog w = .ok (.agg ZH) w := by unfold ZH; kernel_rfl
theorem ZH_one : ∀ v ∈ ZH.toList, v.oneCell' = true := by
  intro v hv
  unfold ZH HRow at hv
  simp only [List.mem_append, List.mem_map, List.mem_singleton] at hv
  rcases hv with ⟨_, _, rfl⟩ | rfl <;> rfl
theorem ZH_new (w : World) : HF (w.alloc (.cells ZH 28)) w.heap.size (fun _ => 0) 0 := Blk.new _ _ _
theorem setL_len : ∀ (l : List Value) (cs : Array Value) (o : Nat), (setL cs o l).size = cs.size
  | [], _, _ => rfl
  | v :: l, cs, o => by rw [setL, setL_len l]; simp
theorem setL_get : ∀ (l : List Value) (cs : Array Value) (o i : Nat), o + l.length ≤ cs.size → (setL cs o l)[i]? = if o ≤ i ∧ i < o + l.length then l[i - o]? else cs[i]?
  | [], cs, o, i, _ => by rw [setL, if_neg (by intro ⟨a, b⟩; simp only [List.length_nil] at b; omega)]
  | v :: l, cs, o, i, h => by
    simp only [List.length_cons] at h
    rw [setL, setL_get l _ _ _ (by rw [Array.size_setIfInBounds]; omega)]
    by_cases h1 : o + 1 ≤ i ∧ i < o + 1 + l.length
    · rw [if_pos h1, if_pos (by simp only [List.length_cons]; omega), show i - o = (i - (o + 1)) + 1 by omega, List.getElem?_cons_succ]
    · rw [if_neg h1]
      by_cases h2 : i = o
      · subst h2
        rw [if_pos (by simp only [List.length_cons]; omega), Nat.sub_self, List.getElem?_cons_zero, Array.getElem?_setIfInBounds, if_pos rfl, if_pos (by omega)]
      · rw [if_neg (by simp only [List.length_cons]; omega), Array.getElem?_setIfInBounds, if_neg (fun e => h2 e.symm)]
theorem setL_all (cs : Array Value) (l : List Value) (h : l.length = cs.size) : setL cs 0 l = l.toArray := by
  apply Array.ext_getElem?
  intro i
  rw [setL_get l cs 0 i (by omega)]
  by_cases hi : i < l.length
  · rw [if_pos (by omega), Nat.sub_zero]; simp
  · rw [if_neg (by omega), Array.getElem?_eq_none (by omega), Array.getElem?_eq_none (by simpa using hi)]
theorem ZH_store {w : World} {g s : Nat} {f : Nat → Nat} (h : HF w g f s) : (storeCells ⟨g, 0, none⟩ ZH.toList).run Try.prog w = .ok () (w.setCells g 0 ZH.toList) ∧ HF (w.setCells g 0 ZH.toList) g (fun _ => 0) 0 ∧ Solo g w (w.setCells g 0 ZH.toList) := by
  have hsz : (HRow f ++ [Value.int .i64 (s : Nat)]).toArray.size = 121 := by simp [HRow_len]
  have ht : w.there g 0 ZH.toList.length := Blk.there h (by have := ZH_size; rw [hsz, Array.length_toList]; omega)
  refine ⟨?_, ?_, Solo.refl.setCells _ _⟩
  · have := run_storeCells_cells (P := Try.prog) g 0 ZH.toList 0 w (fun j hj => by simpa using (ht j hj).1) (fun j hj => by simpa using (ht j hj).2) ZH_one
    simpa using this
  · have := Blk.setCells ZH.toList 0 h
    rw [setL_all _ _ (by rw [hsz, Array.length_toList]; exact ZH_size)] at this
    exact this
set_option maxRecDepth 20000 in
set_option maxHeartbeats 4000000 in
theorem alive44 (w : World) : Calls Try.prog 9 #[] w fun e w' => e = .returned (.bool true) ∧ Below w.heap.size w w' := by
  have hzv : ∀ w' : World, (zeroValue 28).run Try.prog w' = .ok (.agg ZH) w' := ZH_zero
  have hzs := ZH_size
  obtain ⟨hst, hh, hso⟩ := ZH_store (ZH_new w)
  have HH := Lib.hid hh
  have SO := Lib.hid hso
  clear hh hso
  go_enter Try.func9, Try.ntmps9
  go_wp2_with fail
  have B1 := Lib.hid (((Below.refl w.heap.size w).alloc (Nat.le_refl _) (.cells ZH 28)).trans (SO.out.1.mono (by simp)))
  clear SO hst hzs hzv
  generalize (w.alloc (.cells ZH 28)).setCells w.heap.size 0 ZH.toList = w1 at HH B1 ⊢
  refine (h_add w.heap.size 0 (fun _ => 0) 5 2 w1 HH.out (by omega) (fun _ _ => by omega) (by decide) (by decide)).mono ?_
  rintro e w2 ⟨rfl, h2, t2⟩
  have H2 := Lib.hid (show HF w2 w.heap.size (fun r => if r = 5 then 2 else 0) 10 from h2.same fun r hr => by
    show 0 + cntF r (5, 2) = _
    unfold cntF
    rw [show rowN (inN 5) = 5 by decide, show ofN 2 = 2 by decide]
    by_cases e : r = 5
    · subst e; rfl
    · rw [if_neg e, if_neg (fun h => e h.symm)])
  have B2 := Lib.hid (B1.out.trans t2.1)
  clear h2 t2 HH B1
  go_wp2_with fail
  refine (hrow_any 5 w2 (by decide)).mono ?_
  rw [show rowN (inN 5) = 5 by decide]
  rintro e w3 ⟨rfl, rfl⟩
  go_wp2_with fail
  refine (hrow_any 9 _ (by decide)).mono ?_
  rw [show rowN (inN 9) = 8 by decide]
  rintro e w4 ⟨rfl, rfl⟩
  go_wp2_with fail
  refine (hleast_any 8 _ (by decide)).mono ?_
  rw [show leastN (clN 0 120 8) = 8 by decide]
  rintro e w5 ⟨rfl, rfl⟩
  go_wp2_with fail
  refine (h_many w.heap.size 10 2 _ _ H2.out (by decide) (by omega)).mono ?_
  rintro e w6 ⟨rfl, rfl⟩
  go_wp2_with fail
  refine (h_mean w.heap.size 10 2 _ _ H2.out (by decide) (by omega) (by omega)).mono ?_
  rintro e w7 ⟨rfl, rfl⟩
  go_wp2_with fail
  go_ret
  exact ⟨rfl, B2.out⟩
set_option maxRecDepth 20000 in
set_option maxHeartbeats 4000000 in
theorem histRows_walk (n row : Int) (w : World) (hn : (Lit.int .i64 n).wf = true) (hr : (Lit.int .i64 row).wf = true) :
    Calls Try.prog 3 #[.int .i64 n, .int .i64 row] w fun e w' => e = .returned (.bool true) ∧ Below w.heap.size w w' := by
  have CR := Lib.hid (fun w' => hrow_any n w' hn)
  have CR2 := Lib.hid (fun w' => rrow_any n w' hn)
  have CL := Lib.hid (fun w' => hleast_any row w' hr)
  have CL2 := Lib.hid (fun w' => rleast_any row w' hr)
  have hx := inN_lt n
  have HSP := Lib.hid (rowN_spec hx)
  have HLE := Lib.hid (rowN_least hx)
  have HXN := Lib.hid (show 0 ≤ n → n < 2147483648 → (inN n : Int) = n from fun h0 h1 => clN_in (by omega) (by omega))
  obtain ⟨x, hxx⟩ : ∃ x, x = inN n := ⟨_, rfl⟩
  rw [← hxx] at CR CR2 HSP HLE HXN hx
  obtain ⟨r, hrr⟩ : ∃ r, r = rowN x := ⟨_, rfl⟩
  rw [← hrr] at CR CR2 HSP HLE
  have hr120 : r < 120 := HSP.out.1
  have hr1 : (r : Int) < 120 := by omega
  have hr2 : ¬ (r : Int) < 0 := by omega
  have hr3 : ¬ (120 : Int) ≤ (r : Int) := by omega
  obtain ⟨q, hq⟩ : ∃ q, q = leastN (clN 0 120 row) := ⟨_, rfl⟩
  rw [← hq] at CL CL2
  clear hxx hrr hq
  go_enter Try.func3, Try.ntmps3
  go_wp2_with fail
  refine (CR.out _).mono ?_
  rintro e w1 ⟨rfl, rfl⟩
  go_wp2_with fail
  refine (CR2.out _).mono ?_
  rintro e w2 ⟨rfl, rfl⟩
  go_wp2_with fail
  refine (CL.out _).mono ?_
  rintro e w3 ⟨rfl, rfl⟩
  go_wp2_with fail
  refine (CL2.out _).mono ?_
  rintro e w4 ⟨rfl, rfl⟩
  by_cases h0 : n < 0
  · go_wp2_with fail
    refine (alive44 _).mono ?_
    rintro e w9 ⟨rfl, hb9⟩
    go_wp2_with fail
    go_ret
    exact ⟨rfl, hb9⟩
  by_cases h1 : 2147483648 ≤ n
  · go_wp2_with fail
    refine (alive44 _).mono ?_
    rintro e w9 ⟨rfl, hb9⟩
    go_wp2_with fail
    go_ret
    exact ⟨rfl, hb9⟩
  have hxn : (x : Int) = n := HXN.out (by omega) (by omega)
  have C1 := Lib.hid (fun w' => hleast_any (r : Int) w' (WalkArith.wf_i64 ⟨by omega, by omega⟩))
  rw [clN_of (Nat.zero_le _) (by omega)] at C1
  have C2 := Lib.hid (fun w' => hleast_any ((r : Int) + 1) w' (WalkArith.wf_i64 ⟨by omega, by omega⟩))
  rw [show (r : Int) + 1 = ((r + 1 : Nat) : Int) by omega, clN_of (Nat.zero_le _) (by omega)] at C2
  have hl1 := leastN_le r (by omega)
  have hl2 := leastN_le (r + 1) (by omega)
  have hs1 := HSP.out.2.1
  have hs2 := HSP.out.2.2
  have C3 := Lib.hid (fun w' => hrow_any (leastN r : Nat) w' (WalkArith.wf_i64 ⟨by omega, by omega⟩))
  rw [show inN (leastN r : Nat) = leastN r from clN_of (Nat.zero_le _) (by omega), HLE.out] at C3
  obtain ⟨a, ha⟩ : ∃ a, a = leastN r := ⟨_, rfl⟩
  obtain ⟨b, hb⟩ : ∃ b, b = leastN (r + 1) := ⟨_, rfl⟩
  obtain ⟨r1, hr1'⟩ : ∃ r1, r1 = r + 1 := ⟨_, rfl⟩
  rw [← ha] at C1 C3 hs1 hl1
  rw [← hb, ← hr1'] at C2
  rw [← hb] at hs2 hl2
  have hri : (r : Int) + 1 = (r1 : Nat) := by omega
  have g1 : (a : Int) ≤ n := by omega
  have g2 : n < (b : Int) := by omega
  clear ha hb hr1' CR CR2 CL CL2 HSP HLE HXN hn hr hs1 hs2 hl1 hl2 hx hr120 hxn
  go_wp2_with fail
  refine (C1.out _).mono ?_
  rintro e w5 ⟨rfl, rfl⟩
  go_wp2_with fail
  refine (C2.out _).mono ?_
  rintro e w6 ⟨rfl, rfl⟩
  go_wp2_with fail
  refine (C1.out _).mono ?_
  rintro e w7 ⟨rfl, rfl⟩
  go_wp2_with fail
  refine (C3.out _).mono ?_
  rintro e w8 ⟨rfl, rfl⟩
  go_wp2_with fail
  refine (alive44 _).mono ?_
  rintro e w9 ⟨rfl, hb9⟩
  go_wp2_with fail
  go_ret
  exact ⟨rfl, hb9⟩
end Go.Proofs.Ytioebcjhmfndnaa
