/- Package wheel: New, soonest. -/
import Derived.Test.YtpeagibompohhaaWhCa2
import Derived.Test.YtpeagibompohhaaWhG
namespace Go.Proofs.Ytpeagibompohhaa
open Go.RowKit
set_option linter.unusedVariables false
set_option linter.unusedSimpArgs false
def tkF (f : Fm) (id : Int) : Nat := match f id with | some (t, _) => t | none => 0
def soonW (f : Fm) (x : Int) (l : List Int) : Nat := l.foldl (fun a i => min a (tkF f i)) (tkF f x)
def mostN (most : Int) : Nat := if most < 0 then 0 else if 4096 < most then 4096 else most.toNat
set_option maxRecDepth 20000 in
set_option maxHeartbeats 2000000 in
theorem wnew_any (most : Int) (w : World) (hm : I64 most) :
    Calls Try.prog 6 #[.int .i64 most] w fun e w' => ∃ g mb, e = .returned (.pointer (some ⟨g, 0, none⟩)) ∧ w.heap.size ≤ mb ∧ WS w' g w.heap.size mb (mostN most) 0 (List.replicate 64 (.slice none 0 0)) (List.replicate 64 []) ∧ MapW w' mb (fun _ => none) 0 ∧ Below w.heap.size w w' := by
  obtain ⟨n, hn, hn1⟩ : ∃ n : Nat, mostN most = n ∧ ((most < 0 ∧ n = 0) ∨ (4096 < most ∧ n = 4096) ∨ (0 ≤ most ∧ most ≤ 4096 ∧ most = n)) := by
    refine ⟨_, rfl, ?_⟩
    unfold mostN
    split
    · exact .inl ⟨by assumption, rfl⟩
    · split
      · exact .inr (.inl ⟨by assumption, rfl⟩)
      · exact .inr (.inr ⟨by omega, by omega, by omega⟩)
  rw [hn]
  have HM := Lib.hid hm
  clear hn hm
  have hfin : ∀ (w' : World) (cs : Array Value), w' = (w.alloc (.map #[] 0)).alloc (.cells cs 54) → cs = (wcs n 0 w.heap.size (List.replicate 64 (.slice none 0 0))).toArray → WS w' (w.heap.size + 1) w.heap.size w.heap.size n 0 (List.replicate 64 (.slice none 0 0)) (List.replicate 64 []) ∧ MapW w' w.heap.size (fun _ => none) 0 ∧ Below w.heap.size w w' := fun w' cs h1 h2 => by
    have hsz : (w.alloc (.map #[] 0)).heap.size = w.heap.size + 1 := by simp
    have hb1 := (Below.refl w.heap.size w).alloc (Nat.le_refl _) (.map #[] 0)
    have hb2 := (Below.refl (w.alloc (.map #[] 0)).heap.size (w.alloc (.map #[] 0))).alloc (Nat.le_refl _) (.cells cs 54)
    have hk := Blk.new (w.alloc (.map #[] 0)) 54 cs
    have hm1 := (MapW.made w).same (hb2.block w.heap.size (by rw [hsz]; omega))
    rw [hsz] at hk
    subst h1 h2
    refine ⟨⟨hk, by simp, by simp, fun p v l h1 h2 => ?_, fun p q v u k _ h1 h2 ho => ?_, by omega⟩, hm1, hb1.trans (hb2.mono hb1.size)⟩
    · have e1 := List.getElem?_replicate (n := 64) (a := Value.slice none 0 0) (i := p)
      have e2 := List.getElem?_replicate (n := 64) (a := ([] : List Int)) (i := p)
      rw [e1] at h1
      rw [e2] at h2
      split at h1
      · rename_i hp
        rw [if_pos hp] at h2
        injection h1 with h1
        injection h2 with h2
        subst h1 h2
        exact Zats.nil _ _ _ _
      · cases h1
    · have e1 := List.getElem?_replicate (n := 64) (a := Value.slice none 0 0) (i := p)
      rw [e1] at h1
      split at h1
      · injection h1 with h1
        subst h1
        simp [Value.ownBlock] at ho
      · cases h1
  have HFIN := Lib.hid hfin
  clear hfin
  have hmn : min (max most 0) 4096 = (n : Int) := by omega
  have HMN := Lib.hid hmn
  have hmk : (Instr.makeMap 50 none).run Try.prog w = .ok (.map (some w.heap.size)) (w.alloc (.map #[] 0)) := by kernel_rfl
  obtain ⟨Z, hZ⟩ : ∃ Z : Array Value, Z = (.int .i64 0 :: .int .i64 0 :: .map none :: List.replicate 64 (.slice none 0 0)).toArray := ⟨_, rfl⟩
  have hzv : ∀ w' : World, (zeroValue 54).run Try.prog w' = .ok (.agg Z) w' := fun w' => by subst hZ; kernel_rfl
  have hz0 : ¬ Z = #[] := by subst hZ; simp
  have hz3 : ¬ Z.size < 3 := by subst hZ; simp
  have HZ := Lib.hid hZ
  clear hn1 hmn hZ
  go_enter Try.func6, Try.ntmps6
  go_wp2_with fail
  go_ret
  refine ⟨_, _, rfl, Nat.le_refl _, HFIN.out _ _ rfl ?_⟩
  rw [HMN.out, HZ.out]
  rfl
theorem tkF_some {f : Fm} {id : Int} {t k : Nat} (h : f id = some (t, k)) : tkF f id = t := by unfold tkF; rw [h]
theorem soonW_snoc (f : Fm) (x y : Int) (l : List Int) : soonW f x (l ++ [y]) = min (soonW f x l) (tkF f y) := by
  unfold soonW
  rw [List.foldl_append]
  rfl
/-- The tick at which the first of some numbers is due. -/
theorem wsoon_any (g B mb most now sz : Nat) (sl : List Value) (S : List (List Int)) (f : Fm) (A : Option Addr) (n c : Nat) (x : Int) (l : List Int) (w : World) (h : WS w g B mb most now sl S) (hm : MapW w mb f sz) (hr : Rd w w.heap.size 1 A n (zs .i64 (x :: l))) (hn : (x :: l).length = n)
    (hf : ∀ i ∈ x :: l, I64 i ∧ ∃ t k, f i = some (t, k)) (hn2 : n ≤ 100000) :
    Calls Try.prog 27 #[.pointer (some ⟨g, 0, none⟩), .slice A n c] w fun e w' => e = .returned (.int .i64 (soonW f x (x :: l) : Nat)) ∧ ∃ q, w' = w.drewN q := by
  obtain ⟨b, off, rfl, _, hc⟩ := hr.2 (by rw [← hn]; simp)
  have hcell : Hid (∀ i y, (x :: l)[i]? = some y → w.cell? ⟨b, off + i, none⟩ = some (.int .i64 y)) := Lib.hid fun i y hy => by
    have := hc i (by have := get_lt hy; rw [hn] at this; omega)
    rw [this]
    exact zs_get hy
  have c2 := h.c2
  have HX : Hid (w.cell? ⟨b, off, none⟩ = some (.int .i64 x)) := Lib.hid (hcell.out 0 x rfl)
  obtain ⟨⟨hix, tx, kx, hfx⟩, _⟩ : (I64 x ∧ ∃ t k, f x = some (t, k)) ∧ True := ⟨hf x (by simp), trivial⟩
  have hlk := hm.at_some hix hfx
  have hx := HX.out
  have hn0 : 0 < n := by have := hn; simp at this; omega
  have hfd : ∀ w' : World, (Instr.field 58 (.agg #[.int .i64 (tx : Nat), .int .i64 (kx : Nat)]) 0).run Try.prog w' = .ok (.int .i64 (tx : Nat)) w' := fun w' => by kernel_rfl
  have HW := Lib.hid h
  have HM := Lib.hid hm
  have HF := Lib.hid hf
  have HN := Lib.hid hn
  clear h hm hf hn hr hc
  go_enter Try.func27, Try.ntmps27
  go_wp2_with fail
  clear c2 hx hlk
  refine wp_ord [(0, .pure), (1, .pure), (2, .pure), (3, .read), (4, .pure), (5, .pure), (6, .read), (7, .sole), (8, .pure), (9, .pure)] [] (by kernel_rfl) (by kernel_rfl) (fun QQ hQ wd hwd => ?_); simp only [List.map_cons, List.map_nil, List.getD_cons_zero, List.getD_cons_succ]
  have hD : Below w.heap.size w wd := by rw [hwd.out]; exact (Below.refl _ _).drew
  have c2 := (HW.out.into hD).c2
  have hx : wd.cell? ⟨b, off, none⟩ = some (.int .i64 x) := by rw [hwd.out]; exact HX.out
  have hlk := (HM.out.same (hD.block mb HM.out.lt)).at_some hix hfx
  have HWD : Hid (∃ q, wd = w.drewN q) := Lib.hid ⟨1, hwd.out⟩
  clear hD hwd
  (refine o_pure (v := ?_) (by rfl) (fun w' => ?_) ?_; rotate_left; (focus (go_simp; (try with_reducible rfl); (try (rw [if_pos (by omega)]; (try with_reducible rfl))))); (try simp only [Act.put, List.setIfInBounds_toArray, List.set_cons_zero, List.set_cons_succ]))
  (refine o_pure (v := ?_) (by rfl) (fun w' => ?_) ?_; rotate_left; (focus (go_simp; (try with_reducible rfl); (try (rw [if_pos (by omega)]; (try with_reducible rfl))))); (try simp only [Act.put, List.setIfInBounds_toArray, List.set_cons_zero, List.set_cons_succ]))
  (refine o_pure (v := ?_) (by rfl) (fun w' => ?_) ?_; rotate_left; (focus (go_simp; (try with_reducible rfl); (try (rw [if_pos (by omega)]; (try with_reducible rfl))))); (try simp only [Act.put, List.setIfInBounds_toArray, List.set_cons_zero, List.set_cons_succ]))
  (refine o_load _ (by rfl) rfl rfl (by assumption) (by kernel_rfl) ?_; simp only [Act.put, List.setIfInBounds_toArray, List.set_cons_zero, List.set_cons_succ])
  (refine o_pure (v := ?_) (by rfl) (fun w' => ?_) ?_; rotate_left; (focus (go_simp; (try with_reducible rfl); (try (rw [if_pos (by omega)]; (try with_reducible rfl))))); (try simp only [Act.put, List.setIfInBounds_toArray, List.set_cons_zero, List.set_cons_succ]))
  (refine o_pure (v := ?_) (by rfl) (fun w' => ?_) ?_; rotate_left; (focus (go_simp; (try with_reducible rfl); (try (rw [if_pos (by omega)]; (try with_reducible rfl))))); (try simp only [Act.put, List.setIfInBounds_toArray, List.set_cons_zero, List.set_cons_succ]))
  (refine o_load _ (by rfl) rfl rfl (by assumption) (by kernel_rfl) ?_; simp only [Act.put, List.setIfInBounds_toArray, List.set_cons_zero, List.set_cons_succ])
  refine o_sole (fun K hK => ?_)
  go_wp2_with fail
  refine hK _ _ (fun _ => Ext.of (Below.refl _ _)) ?_; clear hK K
  (refine o_pure (v := ?_) (by rfl) (fun w' => ?_) ?_; rotate_left; (focus (go_simp; (try with_reducible rfl); (try (rw [if_pos (by omega)]; (try with_reducible rfl))))); (try simp only [Act.put, List.setIfInBounds_toArray, List.set_cons_zero, List.set_cons_succ]))
  (refine o_pure (v := ?_) (by rfl) (fun w' => ?_) ?_; rotate_left; (focus (go_simp; (try with_reducible rfl); (try (rw [if_pos (by omega)]; (try with_reducible rfl))))); (try simp only [Act.put, List.setIfInBounds_toArray, List.set_cons_zero, List.set_cons_succ]))
  refine o_nil (hQ.out _ _ ?_); clear hQ QQ
  have hs0 : soonW f x ((x :: l).take 0) = tx := by unfold soonW; simp [tkF_some hfx]
  clear c2 hlk hfd
  go_wp2_with fail
  go_loopw [5, 19] (fun tv iv wr => ∃ i : Nat, i ≤ n ∧ tv = .int .i64 (soonW f x ((x :: l).take i) : Nat) ∧ iv = .int .i64 (i : Nat) ∧ Hid (∃ q, wr = w.drewN q)) (fun _ iv _ => n - (intOf iv).toNat)
  case atStart => exact ⟨0, Nat.zero_le _, by rw [hs0], rfl, HWD⟩
  case round =>
    obtain ⟨i, hi, rfl, rfl, HQ⟩ := hrel
    by_cases hin : i < n
    · obtain ⟨y, hy⟩ : ∃ y, (x :: l)[i]? = some y := ⟨_, List.getElem?_eq_getElem (by rw [HN.out]; exact hin)⟩
      obtain ⟨hiy, ty, ky, hfy⟩ := HF.out y (List.mem_of_getElem? hy)
      have hfd : ∀ w' : World, (Instr.field 58 (.agg #[.int .i64 (ty : Nat), .int .i64 (ky : Nat)]) 0).run Try.prog w' = .ok (.int .i64 (ty : Nat)) w' := fun w' => by kernel_rfl
      have hnext : soonW f x ((x :: l).take (i + 1)) = min (soonW f x ((x :: l).take i)) ty := by
        rw [← tkF_some hfy, ← soonW_snoc]
        congr 1
        rw [List.take_add_one, hy]; rfl
      have HNX := Lib.hid hnext
      have HD : Hid (Below w.heap.size w wr ∧ wr.cell? ⟨b, off + i, none⟩ = some (.int .i64 y)) := Lib.hid (by obtain ⟨q, rfl⟩ := HQ.out; exact ⟨below_drewN (Below.refl _ _) q, hcell.out i y hy⟩)
      have d1 := HD.out.2
      have c2 := (HW.out.into HD.out.1).c2
      have hlk := (HM.out.same (HD.out.1.block mb HM.out.lt)).at_some hiy hfy
      obtain ⟨a, ha⟩ : ∃ a, a = soonW f x ((x :: l).take i) := ⟨_, rfl⟩
      rw [← ha] at HNX ⊢
      clear hnext hfy hy hs0 ha
      go_wp2_with fail
      go_roundw
      case rel => exact ⟨i + 1, hin, by rw [HNX.out]; go_num, by go_num, HQ⟩
      case measure => simp [intOf]; omega
    · have hie : i = n := by omega
      subst hie
      go_wp2_with fail
      go_ret
      have hfull : (x :: l).take i = x :: l := List.take_of_length_le (by rw [HN.out]; exact Nat.le_refl _)
      rw [hfull]
      exact ⟨rfl, HQ.out⟩
end Go.Proofs.Ytpeagibompohhaa
