/- Contracts of package replay that only read. -/
import Derived.Test.YtahdfginmkcgfaaRmath
import Derived.Test.YtahdfginmkcgfaaBlkS
import Derived.Test.YtahdfginmkcgfaaRows
import Derived.Laws.BitsAll
import Derived.OwnWalk
import Derived.BigQuiet
import Derived.RegionTactic
import Derived.ChangeAlike
import Derived.Lib.SliceRun
namespace Go.Proofs.Ytahdfginmkcgfaa
open Go.RowKit
set_option linter.unusedVariables false

/-- A word of four; a bit's number: names, for the walk. -/
def wo (cw : List Nat) (i : Nat) : Nat := cw.getD i 0
def pw (n : Nat) : Nat := 2 ^ (n % 64)
theorem pw_lt (n : Nat) : pw n < 18446744073709551616 := (Nat.pow_lt_pow_right (a := 2) (m := n % 64) (n := 64) (by omega) (Nat.mod_lt _ (by omega)))
theorem wo_lt {cw : List Nat} (h : Ok4 cw) (i : Nat) : wo cw i < 18446744073709551616 := h.at_ i
/-- The cells of a window. -/
def win (top : Nat) (cw : List Nat) : Array Value := (Value.int .u64 (top : Int) :: ns .u64 cw).toArray
def Win (w : World) (g top : Nat) (cw : List Nat) : Prop := Blk w g 47 (win top cw)
/-- Nothing has turned but this block. -/
def Solo (g : Nat) (w w' : World) : Prop := Below g w w' ∧ w'.heap.size = w.heap.size ∧ ∀ k, k ≠ g → w'.heap[k]? = w.heap[k]?
section
variable {g top : Nat} {cw : List Nat} {w w' w2 : World}
theorem Solo.refl : Solo g w w := ⟨Below.refl _ _, rfl, fun _ _ => rfl⟩
theorem Solo.trans (h : Solo g w w') (k : Solo g w' w2) : Solo g w w2 := ⟨h.1.trans k.1, k.2.1.trans h.2.1, fun i hi => (k.2.2 i hi).trans (h.2.2 i hi)⟩
theorem Solo.drew (h : Solo g w w') : Solo g w w'.drew := ⟨h.1.drew, h.2.1, h.2.2⟩
theorem Solo.setCell (h : Solo g w w') (o : Nat) (v : Value) : Solo g w (w'.setCell ⟨g, o, none⟩ v) :=
  ⟨h.1.setCell (Nat.le_refl _) v, by rw [← h.2.1]; simp [World.setCell], fun k hk => (Below.heap_setCell w' ⟨g, o, none⟩ v k hk).trans (h.2.2 k hk)⟩
theorem Win.first (h : Win w g top cw) : w.cell? ⟨g, 0, none⟩ = some (.int .u64 (top : Int)) := by
  rw [Blk.cell h]; rfl
theorem Win.word (h : Win w g top cw) (h4 : Ok4 cw) {i : Nat} (hi : i < 4) : w.cell? ⟨g, 1 + i, none⟩ = some (.int .u64 ((wo cw i : Nat) : Int)) := by
  rw [Blk.cell h]
  have := h4.1
  unfold win ns wo
  simp [Nat.add_comm 1 i, show i < cw.length by omega]
theorem Win.frozen (h : Win w g top cw) (i : Nat) : w.frozen? ⟨g, i, none⟩ = false := Blk.frozen h i
theorem Win.drew (h : Win w g top cw) : Win w.drew g top cw := h
theorem Win.setTop (h : Win w g top cw) (n : Nat) : Win (w.setCell ⟨g, 0, none⟩ (.int .u64 (n : Int))) g n cw := Blk.set h 0 _
theorem Win.setWord (h : Win w g top cw) (i v : Nat) : Win (w.setCell ⟨g, 1 + i, none⟩ (.int .u64 (v : Int))) g top (cw.set i v) := by
  have := Blk.set h (1 + i) (.int .u64 (v : Int))
  unfold Win
  have e : (win top cw).setIfInBounds (1 + i) (.int .u64 (v : Int)) = win top (cw.set i v) := by
    unfold win ns
    simp [Nat.add_comm 1 i, List.map_set]
  rw [← e]
  exact this
end

theorem place_any (n : Nat) (w : World) (hn : n < 18446744073709551616) :
    Calls Try.prog 49 #[.int .u64 n] w fun e w' => e = .returned (.tuple #[.int .i64 ((n % 256 / 64 : Nat) : Int), .int .u64 ((pw n : Nat) : Int)]) ∧ w' = w := by
  go_enter Try.func49, Try.ntmps49
  go_wp2
  go_ret2
  refine ⟨?_, rfl⟩
  have e : IntKind.u64.wrap (2 ^ (n % 64)) = ((pw n : Nat) : Int) := by
    have := pw_lt n
    unfold pw at *
    rw [show (2 : Int) ^ (n % 64) = ((2 ^ (n % 64) : Nat) : Int) by push_cast; rfl, IntKind.wrap_u64]
    exact Int.emod_eq_of_lt (Int.natCast_nonneg _) (Int.ofNat_lt.2 this)
  show Ending.returned (.tuple #[.int .i64 _, .int .u64 (IntKind.u64.wrap (2 ^ (n % 64)))]) = _
  rw [e]
  rfl
theorem bit_bool (cw : List Nat) (n : Nat) (h4 : Ok4 cw) : (bits .and .u64 ((wo cw (n % 256 / 64) : Nat) : Int) ((pw n : Nat) : Int) != 0) = bitp cw (n % 256) := by
  rw [u64_and_nat _ _ (wo_lt h4 _) (pw_lt n), ← bitp_mod, ← bit_ne]
  unfold wo pw
  generalize cw.getD (n % 256 / 64) 0 &&& 2 ^ (n % 64) = x
  by_cases h : x = 0
  · subst h
    rfl
  · simp [bne, h]
theorem has_any (g top n : Nat) (cw : List Nat) (w : World) (hw : Win w g top cw) (h4 : Ok4 cw) (hn : n < 18446744073709551616) :
    Calls Try.prog 47 #[.pointer (some ⟨g, 0, none⟩), .int .u64 n] w fun e w' => e = .returned (.bool (bitp cw (n % 256))) ∧ w' = w := by
  have hc := hw.word h4 (i := n % 256 / 64) (by omega)
  go_enter Try.func47, Try.ntmps47
  go_wp2_with fail
  refine (place_any n w hn).mono ?_
  rintro e w1 ⟨rfl, rfl⟩
  go_wp2_with fail
  go_ret
  exact ⟨ret_bool (bit_bool cw n h4), rfl⟩
theorem fresh_any (g top n : Nat) (cw : List Nat) (w : World) (hw : Win w g top cw) (h4 : Ok4 cw) (hn : n < 18446744073709551616) (ht : top < 18446744073709551616) :
    Calls Try.prog 30 #[.pointer (some ⟨g, 0, none⟩), .int .u64 n] w fun e w' => e = .returned (.bool (freshB top cw n)) ∧ w' = w := by
  have hc := hw.first
  have HW := Lib.hid hw
  have H4 := Lib.hid h4
  clear hw h4
  by_cases h1 : top < n
  · go_enter Try.func30, Try.ntmps30
    go_wp2_with fail
    go_ret
    exact ⟨ret_bool (by unfold freshB; rw [decide_eq_true h1]; rfl), rfl⟩
  · by_cases h2 : top - n < 256
    · have h3 : (top : Int) - (n : Int) < 256 := by omega
      go_enter Try.func30, Try.ntmps30
      go_wp2_with fail
      refine (has_any g top n cw w HW.out H4.out hn).mono ?_
      rintro e w1 ⟨rfl, rfl⟩
      go_wp2_with fail
      go_ret
      exact ⟨ret_bool (by unfold freshB; rw [decide_eq_false (by omega), decide_eq_true h2]; simp), rfl⟩
    · have h3 : 256 ≤ (top : Int) - (n : Int) := by omega
      go_enter Try.func30, Try.ntmps30
      go_wp2_with fail
      go_ret
      exact ⟨ret_bool (by unfold freshB; rw [decide_eq_false (by omega), decide_eq_false h2]; simp), rfl⟩
theorem begun_any (g top : Nat) (cw : List Nat) (w : World) (hw : Win w g top cw) (h4 : Ok4 cw) (ht : top < 18446744073709551616) :
    Calls Try.prog 50 #[.pointer (some ⟨g, 0, none⟩)] w fun e w' => e = .returned (.bool (bitp cw (top % 256))) ∧ w' = w := by
  have hc := hw.first
  have HW := Lib.hid hw
  have H4 := Lib.hid h4
  clear hw h4
  go_enter Try.func50, Try.ntmps50
  go_wp2_with fail
  refine (has_any g top top cw w HW.out H4.out ht).mono ?_
  rintro e w1 ⟨rfl, rfl⟩
  go_wp2_with fail
  go_ret
  exact ⟨rfl, rfl⟩
theorem run_clear_win (g top : Nat) (cw : List Nat) (w : World) (hw : Win w g top cw) (h4 : Ok4 cw) :
    (Builtin.clear_ #[44] 0 #[.slice (some ⟨g, 1, none⟩) 4 4]).run Try.prog w = .ok (.tuple #[]) (w.setCells g 1 (List.replicate 4 (.int .u64 0))) := by
  refine Go.Lib.run_clear_slice w _ 22 0 (.int .u64 0) Try.underlying44 ?_ rfl rfl g 1 4 4 (by omega) (fun j hj => ?_) (fun j hj => hw.frozen _)
  · intro w
    rfl
  · rw [hw.word h4 hj]
    rfl
theorem clear_win (g top : Nat) (cw : List Nat) (w : World) (hw : Win w g top cw) (h4 : Ok4 cw) :
    Win (w.setCells g 1 (List.replicate 4 (.int .u64 0))) g top [0, 0, 0, 0] ∧ Solo g w (w.setCells g 1 (List.replicate 4 (.int .u64 0))) := by
  refine ⟨?_, (((Solo.refl.setCell 1 _).setCell 2 _).setCell 3 _).setCell 4 _⟩
  have h := (((hw.setWord 0 0).setWord 1 0).setWord 2 0).setWord 3 0
  have e : (((cw.set 0 0).set 1 0).set 2 0).set 3 0 = [0, 0, 0, 0] := by
    obtain ⟨hl, _⟩ := h4
    match cw, hl with
    | [a, b, c, d], _ => rfl
  rw [e] at h
  exact h
theorem andNot_val (cw : List Nat) (x : Nat) (h4 : Ok4 cw) : bits .andNot .u64 ((wo cw (x % 256 / 64) : Nat) : Int) ((pw x : Nat) : Int) = ((wo cw (x % 256 / 64) &&& (18446744073709551615 - 2 ^ (x % 64)) : Nat) : Int) := by
  rw [u64_andNot_nat _ _ (wo_lt h4 _) (pw_lt x)]
  rfl
theorem or_val (cw : List Nat) (x : Nat) (h4 : Ok4 cw) : bits .or .u64 ((wo cw (x % 256 / 64) : Nat) : Int) ((pw x : Nat) : Int) = ((wo cw (x % 256 / 64) ||| 2 ^ (x % 64) : Nat) : Int) := by
  rw [u64_or_nat _ _ (wo_lt h4 _) (pw_lt x)]
  rfl
set_option maxRecDepth 20000 in
theorem rise_any (g top n : Nat) (cw : List Nat) (w : World) (hw : Win w g top cw) (h4 : Ok4 cw) (hn : n < 18446744073709551616) (ht : top < 18446744073709551616) :
    Calls Try.prog 48 #[.pointer (some ⟨g, 0, none⟩), .int .u64 n] w fun e w' => (∃ v, e = .returned v) ∧ ∃ cw', Rise top cw n cw' ∧ Win w' g (max top n) cw' ∧ Solo g w w' := by
  have hc := hw.first
  have hf0 := hw.frozen 0
  have HW := Lib.hid hw
  have H4 := Lib.hid h4
  clear hw h4
  by_cases h1 : n ≤ top
  · go_enter Try.func48, Try.ntmps48
    go_wp2_with fail
    exact bodyPost_ret (results_none rfl _ _ _) rfl ⟨⟨_, rfl⟩, cw, Rise.same H4.out h1, by rw [Nat.max_eq_left h1]; exact HW.out, Solo.refl⟩
  · have hm : max top n = n := Nat.max_eq_right (by omega)
    have HM := Lib.hid hm
    clear hm
    by_cases h2 : 256 ≤ n - top
    · have h3 : 256 ≤ (n : Int) - (top : Int) := by omega
      go_enter Try.func48, Try.ntmps48
      go_wp2_with fail
      rw [run_clear_win g top cw w HW.out H4.out]
      obtain ⟨hw2, hs2⟩ := clear_win g top cw w HW.out H4.out
      generalize w.setCells g 1 (List.replicate 4 (.int .u64 0)) = w2 at hw2 hs2 ⊢
      have hf2 := hw2.frozen 0
      have hc2 := hw2.first
      have HW2 := Lib.hid hw2
      clear hw2
      go_wp2_with fail
      go_end0
      exact ⟨⟨_, rfl⟩, _, Rise.clear (by omega), by rw [HM.out]; exact HW2.out.setTop n, hs2.setCell 0 _⟩
    · have h3 : (n : Int) - (top : Int) < 256 := by omega
      go_enter Try.func48, Try.ntmps48
      go_wp2_with fail
      clear hc hf0
      go_loopw [4] (fun xv wr => ∃ (x : Nat) (cx : List Nat), xv = .int .u64 x ∧ top ≤ x ∧ x ≤ n ∧ Hid (Down top cw n x cx) ∧ Hid (Win wr g top cx) ∧ Solo g w wr) (fun xv _ => (intOf xv).toNat - top)
      case atStart => exact ⟨n, cw, rfl, by omega, Nat.le_refl _, Lib.hid (Down.start H4.out), HW, Solo.refl⟩
      case round =>
        obtain ⟨x, cx, rfl, hx1, hx2, hd, hwx, hs⟩ := hrel
        have hc := hwx.out.first
        have hf0 := hwx.out.frozen 0
        have hcx := hwx.out.word hd.out.1 (i := x % 256 / 64) (by omega)
        have hfx := hwx.out.frozen (1 + x % 256 / 64)
        by_cases hlt : top < x
        · have he := andNot_val cx x hd.out.1
          go_wp2_with fail
          refine (place_any x wr (by omega)).mono ?_
          rintro e w1 ⟨rfl, rfl⟩
          go_wp2_with fail
          go_region
          go_wp2
          go_roundw
          case rel => exact ⟨x - 1, clrw cx x, by go_num, by omega, by omega, Lib.hid (hd.out.step (by omega) hx2), Lib.hid ((hwx.out.setWord (x % 256 / 64) _).drew), (hs.setCell (1 + x % 256 / 64) _).drew⟩
          case measure => simp [intOf]; omega
        · obtain rfl : x = top := by omega
          go_wp2_with fail
          go_end0
          exact ⟨⟨_, rfl⟩, cx, hd.out.done, by rw [HM.out]; exact hwx.out.setTop n, hs.setCell 0 _⟩
set_option maxRecDepth 20000 in
theorem take_any (g top n : Nat) (cw : List Nat) (w : World) (hw : Win w g top cw) (h4 : Ok4 cw) (hn : n < 18446744073709551616) (ht : top < 18446744073709551616) :
    Calls Try.prog 31 #[.pointer (some ⟨g, 0, none⟩), .int .u64 n] w fun e w' => e = .returned (.bool (freshB top cw n)) ∧ Solo g w w' ∧
      ((freshB top cw n = false ∧ Win w' g top cw) ∨ (freshB top cw n = true ∧ ∃ cw', Rise top cw n cw' ∧ Win w' g (max top n) (setw cw' n))) := by
  have HW := Lib.hid hw
  have H4 := Lib.hid h4
  clear hw h4
  go_enter Try.func31, Try.ntmps31
  go_wp2_with fail
  refine (fresh_any g top n cw w HW.out H4.out hn ht).mono ?_
  rintro e w1 ⟨rfl, rfl⟩
  cases hf : freshB top cw n
  · have HF := Lib.hid hf
    clear hf
    go_wp2_with fail
    go_ret
    exact ⟨ret_bool HF.out.symm, Solo.refl, Or.inl ⟨HF.out, HW.out⟩⟩
  · have HF := Lib.hid hf
    clear hf
    go_wp2_with fail
    refine (rise_any g top n cw w1 HW.out H4.out hn ht).mono ?_
    rintro e w2 ⟨⟨v, rfl⟩, cw', hr, hw2, hs2⟩
    have hcx := hw2.word hr.1 (i := n % 256 / 64) (by omega)
    have hfx := hw2.frozen (1 + n % 256 / 64)
    have he := or_val cw' n hr.1
    have HW2 := Lib.hid hw2
    have HR := Lib.hid hr
    clear hw2 hr
    go_wp2_with fail
    refine (place_any n w2 hn).mono ?_
    rintro e w3 ⟨rfl, rfl⟩
    go_wp2_with fail
    go_region
    go_wp2
    go_ret
    exact ⟨ret_bool HF.out.symm, (hs2.setCell _ _).drew, Or.inr ⟨HF.out, cw', HR.out, (HW2.out.setWord (n % 256 / 64) _).drew⟩⟩
end Go.Proofs.Ytahdfginmkcgfaa
