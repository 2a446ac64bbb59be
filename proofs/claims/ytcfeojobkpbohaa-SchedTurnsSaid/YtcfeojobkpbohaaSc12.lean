/- Layer 19 by the document: Order, Choose, Row; paths as the document has them; apart; the example. -/
import Derived.Test.YtcfeojobkpbohaaSc11
import Derived.Test.YtcfeojobkpbohaaSc9
namespace Go.Proofs.Ytcfeojobkpbohaa
open Go.RowKit Go.Sort
set_option linter.unusedVariables false
set_option linter.unusedSimpArgs false
/-- The first k of those in order that are chosen. -/
def chRk (pol : Int) (s : List Pth) (k : Nat) : List Pth := match s.take k with
  | [] => []
  | x :: t => x :: t.filter fun y => decide (pol = 3) && decide (rkP y = rkP x)
def chR (pol : Int) (s : List Pth) : List Pth := chRk pol s s.length
theorem chRk_zero (pol : Int) (s : List Pth) : chRk pol s 0 = [] := rfl
theorem chRk_one {pol : Int} {s : List Pth} {x : Pth} (h : s[0]? = some x) : chRk pol s 1 = [x] := by
  cases s with
  | nil => simp at h
  | cons y t => simp at h; subst h; rfl
theorem chRk_step {pol : Int} {s : List Pth} {k : Nat} {x y : Pth} (hk : 0 < k) (h : s[k]? = some x) (h0 : s[0]? = some y) : chRk pol s (k + 1) = chRk pol s k ++ (if (decide (pol = 3) && decide (rkP x = rkP y)) then [x] else []) := by
  cases s with
  | nil => simp at h
  | cons z t =>
    simp at h0; subst h0
    obtain ⟨j, rfl⟩ : ∃ j, k = j + 1 := ⟨k - 1, by omega⟩
    have hj : t[j]? = some x := by simpa using h
    unfold chRk
    rw [List.take_succ_cons, List.take_succ_cons, List.take_add_one, hj]
    simp only [Option.toList_some, List.filter_append, List.cons_append, List.filter_cons, List.filter_nil]
theorem chRk_yes {pol : Int} {s : List Pth} {k : Nat} {x y : Pth} (hk : 0 < k) (h : s[k]? = some x) (h0 : s[0]? = some y) (hp : pol = 3) (hr : rkP x = rkP y) : chRk pol s (k + 1) = chRk pol s k ++ [x] := by
  rw [chRk_step hk h h0, decide_eq_true hp, decide_eq_true hr]; rfl
theorem chRk_no {pol : Int} {s : List Pth} {k : Nat} {x y : Pth} (hk : 0 < k) (h : s[k]? = some x) (h0 : s[0]? = some y) (hp : ¬ pol = 3 ∨ ¬ rkP x = rkP y) : chRk pol s (k + 1) = chRk pol s k := by
  rw [chRk_step hk h h0]
  rcases hp with hp | hp
  · rw [decide_eq_false hp]; simp
  · rw [decide_eq_false hp]; simp
theorem chRk_len (pol : Int) (s : List Pth) (k : Nat) : (chRk pol s k).length ≤ s.length := by
  have h1 : (s.take k).length ≤ s.length := by rw [List.length_take]; omega
  unfold chRk
  split
  · exact Nat.zero_le _
  · rename_i x t he
    rw [he, List.length_cons] at h1
    rw [List.length_cons]
    have := List.length_filter_le (fun y => decide (pol = 3) && decide (rkP y = rkP x)) t
    omega
set_option maxRecDepth 20000 in
set_option maxHeartbeats 4000000 in
theorem rOrder_any (pol last n : Int) (A : Option Addr) (m c : Nat) (l : List Pth) (w : World) (h : Rd w w.heap.size 7 A m (pths l)) (hm : m ≤ 100) :
    Calls Try.prog 9 #[.int .i64 pol, .int .i64 last, .int .i64 n, .slice A m c] w fun e w' => ∃ (v : Value) (s : List Pth), e = .returned v ∧ Zats w' 3 .i64 w.heap.size v (s.map Pth.id) ∧ Below w.heap.size w w' ∧ s.Perm (l.filter (fitP n)) ∧ s.Pairwise (fun x y => ltP pol last y x = false) := by
  have HO := Lib.hid (rorder_any pol last n A m c l w h hm)
  have HL := Lib.hid h.pthLen
  clear h
  go_enter Try.func9, Try.ntmps9
  go_wp2_with fail
  refine HO.out.mono ?_
  rintro e w2 ⟨v, s, rfl, ho, hb, hp, hq⟩
  obtain ⟨A2, c2, rfl, h1, h2, h3⟩ := own_form ho
  have HP := Lib.hid hp
  have HQ := Lib.hid hq
  have HB := Lib.hid hb
  have hsl : s.length ≤ 100 := by rw [hp.length_eq]; have := List.length_filter_le (fitP n) l; have := HL.out; omega
  have HR := Lib.hid h3
  obtain ⟨sn, hsn⟩ : ∃ sn, s.length = sn := ⟨_, rfl⟩
  have HLS := Sh.mk hsn
  clear ho h1 h2 h3 hp hq hb HO
  rw [hsn] at HR hsl ⊢
  clear hsn
  have HO0 : Hid (Zats w2 3 .i64 w2.heap.size (.slice none 0 0) ((s.take 0).map Pth.id)) := Lib.hid (Zats.nil _ _ _ _)
  go_wp2_with fail
  go_loopw [9, 11] (fun qv iv wr => ∃ (k : Nat), k ≤ sn ∧ iv = .int .i64 (k : Nat) ∧ Hid (Zats wr 3 .i64 w2.heap.size qv ((s.take k).map Pth.id)) ∧ Hid (Below w2.heap.size w2 wr)) (fun _ iv _ => sn - (intOf iv).toNat)
  case atStart => exact ⟨0, Nat.zero_le _, rfl, HO0, Lib.hid (Below.refl _ _)⟩
  case round =>
    clear HO0
    obtain ⟨k, hk, rfl, O2, BB⟩ := hrel
    by_cases hlt : k < sn
    · have hlt' : (k : Int) < (sn : Int) := by omega
      have hk0 : (0 : Int) ≤ (k : Int) := by omega
      obtain ⟨rb, off, x, hA, hrb, HC, HX⟩ := HR.out.pth hlt
      subst hA
      obtain ⟨a0, a1, a2, a3, a4, a5, a6⟩ := pt7 (w := wr) (o := off + k * 7) (fun j v hj => (BB.out.cell (p := ⟨rb, off + k * 7 + j, none⟩) hrb).trans (HC.out j v hj))
      have hroom : (((s.take k).map Pth.id).length + 1) * 8 ≤ room := room_ge (by rw [List.length_map, List.length_take]; omega)
      have hbw : w2.heap.size ≤ wr.heap.size := BB.out.size
      clear a1 a2 a3 a4 a5 a6
      go_wp2_with (at_builtin; go_must (refine app1z intEl x.id rfl _ _ rfl rfl O2.out rfl rfl hroom hbw ?_))
      intro v5 w5 ho5 hg5 hb5
      have O5 := Lib.hid (show Zats w5 3 .i64 w2.heap.size v5 ((s.take (k + 1)).map Pth.id) by rw [map_snocP HX.out, List.map_take]; exact ho5)
      have B5 := Lib.hid (BB.out.trans hb5)
      clear ho5 hg5 hb5 a0 O2 BB hroom hbw
      go_wp2_with fail
      go_roundw
      case rel => exact ⟨k + 1, by omega, by go_num, O5, B5⟩
      case measure => simp [intOf]; omega
    · have hlt' : ¬ (k : Int) < (sn : Int) := by omega
      have O3 := Lib.hid (show Zats wr 3 .i64 w.heap.size u9 (s.map Pth.id) by have := O2.out.mono HB.out.size; rw [List.take_of_length_le (by rw [HLS.out]; omega)] at this; exact this)
      have B3 := Lib.hid (HB.out.trans (BB.out.mono HB.out.size))
      clear O2 BB
      go_wp2_with fail
      refine bodyPost_ret (v := u9) (by kernel_rfl) rfl ?_
      first
      | exact ⟨_, s, rfl, O3.out, B3.out, HP.out, HQ.out⟩
      | exact ⟨_, rfl, s, O3.out, B3.out, HP.out, HQ.out⟩
set_option maxRecDepth 20000 in
set_option maxHeartbeats 4000000 in
theorem rChoose_any (pol last n : Int) (A : Option Addr) (m c : Nat) (l : List Pth) (w : World) (h : Rd w w.heap.size 7 A m (pths l)) (hm : m ≤ 100) :
    Calls Try.prog 14 #[.int .i64 pol, .int .i64 last, .int .i64 n, .slice A m c] w fun e w' => ∃ (v : Value) (s : List Pth), e = .returned v ∧ Zats w' 3 .i64 w.heap.size v ((chR pol s).map Pth.id) ∧ Below w.heap.size w w' ∧ s.Perm (l.filter (fitP n)) ∧ s.Pairwise (fun x y => ltP pol last y x = false) := by
  have HO := Lib.hid (rorder_any pol last n A m c l w h hm)
  have HL := Lib.hid h.pthLen
  clear h
  go_enter Try.func14, Try.ntmps14
  go_wp2_with fail
  refine HO.out.mono ?_
  rintro e w2 ⟨v, s, rfl, ho, hb, hp, hq⟩
  obtain ⟨A2, c2, rfl, h1, h2, h3⟩ := own_form ho
  have HP := Lib.hid hp
  have HQ := Lib.hid hq
  have HB := Lib.hid hb
  have hsl : s.length ≤ 100 := by rw [hp.length_eq]; have := List.length_filter_le (fitP n) l; have := HL.out; omega
  have HR := Lib.hid h3
  obtain ⟨sn, hsn⟩ : ∃ sn, s.length = sn := ⟨_, rfl⟩
  have HLS := Sh.mk hsn
  clear ho h1 h2 h3 hp hq hb HO
  rw [hsn] at HR hsl ⊢
  clear hsn
  have HO0 : Hid (Zats w2 3 .i64 w2.heap.size (.slice none 0 0) ((chRk pol s 0).map Pth.id)) := Lib.hid (Zats.nil _ _ _ _)
  go_wp2_with fail
  go_loopw [9, 11] (fun qv iv wr => ∃ (k : Nat), k ≤ sn ∧ iv = .int .i64 (k : Nat) ∧ Hid (Zats wr 3 .i64 w2.heap.size qv ((chRk pol s k).map Pth.id)) ∧ Hid (Below w2.heap.size w2 wr)) (fun _ iv _ => sn - (intOf iv).toNat)
  case atStart => exact ⟨0, Nat.zero_le _, rfl, HO0, Lib.hid (Below.refl _ _)⟩
  case round =>
    clear HO0
    obtain ⟨k, hk, rfl, HO2, BB⟩ := hrel
    by_cases hlt : k < sn
    · have hlt' : (k : Int) < (sn : Int) := by omega
      have hk0 : (0 : Int) ≤ (k : Int) := by omega
      have hs0 : 0 < sn := by omega
      have hs0' : (0 : Int) < (sn : Int) := by omega
      obtain ⟨rb, off, x, hA, hrb, HC, HX⟩ := HR.out.pth hlt
      obtain ⟨rb2, off2, y, hA2, hrb2, HC2, HY⟩ := HR.out.pth hs0
      rw [hA] at hA2
      injection hA2 with hA2
      injection hA2 with e1 e2
      subst e1
      subst e2
      subst hA
      by_cases hkz : k = 0
      · subst hkz
        go_wp2_with fail
        refine wp_ext (by kernel_rfl) (by kernel_rfl) (fun QQ hQ => ?_)
        (first | (refine x_load _ (by rfl) rfl rfl (by assumption) (by kernel_rfl) ?_; simp only [Act.put, List.setIfInBounds_toArray, List.set_cons_zero, List.set_cons_succ]) | (refine x_val (v := ?_) (by rfl) (fun w' hx => ?_) ?_; rotate_left; (focus (go_simp; (try with_reducible rfl))); (try simp only [Act.put, List.setIfInBounds_toArray, List.set_cons_zero, List.set_cons_succ])))
        (first | (refine x_load _ (by rfl) rfl rfl (by assumption) (by kernel_rfl) ?_; simp only [Act.put, List.setIfInBounds_toArray, List.set_cons_zero, List.set_cons_succ]) | (refine x_val (v := ?_) (by rfl) (fun w' hx => ?_) ?_; rotate_left; (focus (go_simp; (try with_reducible rfl))); (try simp only [Act.put, List.setIfInBounds_toArray, List.set_cons_zero, List.set_cons_succ])))
        (first | (refine x_load _ (by rfl) rfl rfl (by assumption) (by kernel_rfl) ?_; simp only [Act.put, List.setIfInBounds_toArray, List.set_cons_zero, List.set_cons_succ]) | (refine x_val (v := ?_) (by rfl) (fun w' hx => ?_) ?_; rotate_left; (focus (go_simp; (try with_reducible rfl))); (try simp only [Act.put, List.setIfInBounds_toArray, List.set_cons_zero, List.set_cons_succ])))
        (refine x_skip (by rfl) ?_; simp only [Act.put, List.setIfInBounds_toArray, List.set_cons_zero, List.set_cons_succ])
        (refine x_skip (by rfl) ?_; simp only [Act.put, List.setIfInBounds_toArray, List.set_cons_zero, List.set_cons_succ])
        (refine x_skip (by rfl) ?_; simp only [Act.put, List.setIfInBounds_toArray, List.set_cons_zero, List.set_cons_succ])
        (refine x_skip (by rfl) ?_; simp only [Act.put, List.setIfInBounds_toArray, List.set_cons_zero, List.set_cons_succ])
        (refine x_skip (by rfl) ?_; simp only [Act.put, List.setIfInBounds_toArray, List.set_cons_zero, List.set_cons_succ])
        (refine x_skip (by rfl) ?_; simp only [Act.put, List.setIfInBounds_toArray, List.set_cons_zero, List.set_cons_succ])
        (refine x_skip (by rfl) ?_; simp only [Act.put, List.setIfInBounds_toArray, List.set_cons_zero, List.set_cons_succ])
        (refine x_skip (by rfl) ?_; simp only [Act.put, List.setIfInBounds_toArray, List.set_cons_zero, List.set_cons_succ])
        (refine x_skip (by rfl) ?_; simp only [Act.put, List.setIfInBounds_toArray, List.set_cons_zero, List.set_cons_succ])
        (refine x_skip (by rfl) ?_; simp only [Act.put, List.setIfInBounds_toArray, List.set_cons_zero, List.set_cons_succ])
        (refine x_skip (by rfl) ?_; simp only [Act.put, List.setIfInBounds_toArray, List.set_cons_zero, List.set_cons_succ])
        (refine x_skip (by rfl) ?_; simp only [Act.put, List.setIfInBounds_toArray, List.set_cons_zero, List.set_cons_succ])
        (refine x_skip (by rfl) ?_; simp only [Act.put, List.setIfInBounds_toArray, List.set_cons_zero, List.set_cons_succ])
        (refine x_skip (by rfl) ?_; simp only [Act.put, List.setIfInBounds_toArray, List.set_cons_zero, List.set_cons_succ])
        (first | (refine x_load _ (by rfl) rfl rfl (by assumption) (by kernel_rfl) ?_; simp only [Act.put, List.setIfInBounds_toArray, List.set_cons_zero, List.set_cons_succ]) | (refine x_val (v := ?_) (by rfl) (fun w' hx => ?_) ?_; rotate_left; (focus (go_simp; (try with_reducible rfl))); (try simp only [Act.put, List.setIfInBounds_toArray, List.set_cons_zero, List.set_cons_succ])))
        refine x_nil (hQ.out _ ?_); clear hQ QQ
        intro w4 hb4
        have B4 := Lib.hid (BB.out.trans (hb4.mono BB.out.size))
        have O2 := Lib.hid (HO2.out.below hb4)
        have a0 := (B4.out.cell (p := ⟨rb, off + 0 * 7 + 0, none⟩) hrb).trans (HC.out 0 _ rfl)
        have hroom : (((chRk pol s 0).map Pth.id).length + 1) * 8 ≤ room := room_ge (by rw [List.length_map]; have := chRk_len pol s 0; have := HLS.out; omega)
        have hbw : w2.heap.size ≤ w4.heap.size := B4.out.size
        clear hb4 BB HO2
        simp only [Nat.zero_mul, Nat.add_zero] at a0
        go_wp2_with (at_builtin; go_must (refine app1z intEl x.id rfl _ _ rfl rfl O2.out rfl rfl hroom hbw ?_))
        intro v5 w5 ho5 hg5 hb5
        have O5 := Lib.hid (show Zats w5 3 .i64 w2.heap.size v5 ((chRk pol s (0 + 1)).map Pth.id) by have h := ho5; rw [show chRk pol s 0 = [] from rfl] at h; rw [show chRk pol s (0 + 1) = [x] from chRk_one HX.out]; exact h)
        have B5 := Lib.hid (B4.out.trans hb5)
        clear ho5 hg5 hb5 a0 O2 B4 hroom hbw
        go_wp2_with fail
        go_roundw
        case rel => exact ⟨0 + 1, by omega, by go_num, O5, B5⟩
        case measure => simp [intOf]; omega
      · have hkz' : ((k : Int) == 0) = false := by simp; omega
        have hkp : 0 < k := by omega
        by_cases hp : pol = 3
        · have hp' : (pol == 3) = true := by simpa using hp
          have HPP := Sh.mk hp
          clear hp hkz
          have XC := Lib.hid (fun j v hj => (BB.out.cell (p := ⟨rb, off + k * 7 + j, none⟩) hrb).trans (HC.out j v hj))
          have YC := Lib.hid (show ∀ j v, y.el[j]? = some v → wr.cell? ⟨rb, off + j, none⟩ = some v from fun j v hj => (BB.out.cell (p := ⟨rb, off + j, none⟩) hrb).trans (by have := HC2.out j v hj; rw [Nat.zero_mul, Nat.add_zero] at this; exact this))
          have R1 := Lib.hid (fun w' => rrank_any x w')
          have R2 := Lib.hid (fun w' => rrank_any y w')
          obtain ⟨r1, hr1⟩ : ∃ r, r = rkP x := ⟨_, rfl⟩
          obtain ⟨r2, hr2⟩ : ∃ r, r = rkP y := ⟨_, rfl⟩
          rw [← hr1] at R1
          rw [← hr2] at R2
          by_cases hre : r1 = r2
          · have hre' : (r1 == r2) = true := by simpa using hre
            have HST := Sh.mk (chRk_yes hkp HX.out HY.out HPP.out (by rw [← hr1, ← hr2]; exact hre))
            clear hr1 hr2
            subst hre
            go_wp2_with fail
            refine wp_ext (by kernel_rfl) (by kernel_rfl) (fun QQ hQ => ?_)
            (first | (refine x_load _ (by rfl) rfl rfl (by assumption) (by kernel_rfl) ?_; simp only [Act.put, List.setIfInBounds_toArray, List.set_cons_zero, List.set_cons_succ]) | (refine x_val (v := ?_) (by rfl) (fun w' hx => ?_) ?_; rotate_left; (focus (go_simp; (try with_reducible rfl))); (try simp only [Act.put, List.setIfInBounds_toArray, List.set_cons_zero, List.set_cons_succ])))
            (first | (refine x_load _ (by rfl) rfl rfl (by assumption) (by kernel_rfl) ?_; simp only [Act.put, List.setIfInBounds_toArray, List.set_cons_zero, List.set_cons_succ]) | (refine x_val (v := ?_) (by rfl) (fun w' hx => ?_) ?_; rotate_left; (focus (go_simp; (try with_reducible rfl))); (try simp only [Act.put, List.setIfInBounds_toArray, List.set_cons_zero, List.set_cons_succ])))
            (first | (refine x_load _ (by rfl) rfl rfl (by assumption) (by kernel_rfl) ?_; simp only [Act.put, List.setIfInBounds_toArray, List.set_cons_zero, List.set_cons_succ]) | (refine x_val (v := ?_) (by rfl) (fun w' hx => ?_) ?_; rotate_left; (focus (go_simp; (try with_reducible rfl))); (try simp only [Act.put, List.setIfInBounds_toArray, List.set_cons_zero, List.set_cons_succ])))
            (first | (refine x_load _ (by rfl) rfl rfl (by assumption) (by kernel_rfl) ?_; simp only [Act.put, List.setIfInBounds_toArray, List.set_cons_zero, List.set_cons_succ]) | (refine x_val (v := ?_) (by rfl) (fun w' hx => ?_) ?_; rotate_left; (focus (go_simp; (try with_reducible rfl))); (try simp only [Act.put, List.setIfInBounds_toArray, List.set_cons_zero, List.set_cons_succ])))
            (first | (refine x_load _ (by rfl) rfl rfl (by assumption) (by kernel_rfl) ?_; simp only [Act.put, List.setIfInBounds_toArray, List.set_cons_zero, List.set_cons_succ]) | (refine x_val (v := ?_) (by rfl) (fun w' hx => ?_) ?_; rotate_left; (focus (go_simp; (try with_reducible rfl))); (try simp only [Act.put, List.setIfInBounds_toArray, List.set_cons_zero, List.set_cons_succ])))
            (first | (refine x_load _ (by rfl) rfl rfl (by assumption) (by kernel_rfl) ?_; simp only [Act.put, List.setIfInBounds_toArray, List.set_cons_zero, List.set_cons_succ]) | (refine x_val (v := ?_) (by rfl) (fun w' hx => ?_) ?_; rotate_left; (focus (go_simp; (try with_reducible rfl))); (try simp only [Act.put, List.setIfInBounds_toArray, List.set_cons_zero, List.set_cons_succ])))
            (first | (refine x_load _ (by rfl) rfl rfl (by assumption) (by kernel_rfl) ?_; simp only [Act.put, List.setIfInBounds_toArray, List.set_cons_zero, List.set_cons_succ]) | (refine x_val (v := ?_) (by rfl) (fun w' hx => ?_) ?_; rotate_left; (focus (go_simp; (try with_reducible rfl))); (try simp only [Act.put, List.setIfInBounds_toArray, List.set_cons_zero, List.set_cons_succ])))
            (first | (refine x_load _ (by rfl) rfl rfl (by assumption) (by kernel_rfl) ?_; simp only [Act.put, List.setIfInBounds_toArray, List.set_cons_zero, List.set_cons_succ]) | (refine x_val (v := ?_) (by rfl) (fun w' hx => ?_) ?_; rotate_left; (focus (go_simp; (try with_reducible rfl))); (try simp only [Act.put, List.setIfInBounds_toArray, List.set_cons_zero, List.set_cons_succ])))
            (first | (refine x_load _ (by rfl) rfl rfl (by assumption) (by kernel_rfl) ?_; simp only [Act.put, List.setIfInBounds_toArray, List.set_cons_zero, List.set_cons_succ]) | (refine x_val (v := ?_) (by rfl) (fun w' hx => ?_) ?_; rotate_left; (focus (go_simp; (try with_reducible rfl))); (try simp only [Act.put, List.setIfInBounds_toArray, List.set_cons_zero, List.set_cons_succ])))
            refine x_loads _ [.int .i64 x.id, .bool x.up, .bool x.bk, .bool x.bd, .int .i64 x.room, .int .i64 x.und, .int .i64 x.mean] (by rfl) rfl rfl (XC.out) (Nat.succ_pos _) (by kernel_rfl) (by kernel_rfl) ?_; simp only [Act.put, List.setIfInBounds_toArray, List.set_cons_zero, List.set_cons_succ]
            refine x_call (by rfl) (fun w' hx => by go_simp) (fun w' hx => R1.out w') ?_; simp only [Act.put, List.setIfInBounds_toArray, List.set_cons_zero, List.set_cons_succ]
            (first | (refine x_load _ (by rfl) rfl rfl (by assumption) (by kernel_rfl) ?_; simp only [Act.put, List.setIfInBounds_toArray, List.set_cons_zero, List.set_cons_succ]) | (refine x_val (v := ?_) (by rfl) (fun w' hx => ?_) ?_; rotate_left; (focus (go_simp; (try with_reducible rfl))); (try simp only [Act.put, List.setIfInBounds_toArray, List.set_cons_zero, List.set_cons_succ])))
            (first | (refine x_load _ (by rfl) rfl rfl (by assumption) (by kernel_rfl) ?_; simp only [Act.put, List.setIfInBounds_toArray, List.set_cons_zero, List.set_cons_succ]) | (refine x_val (v := ?_) (by rfl) (fun w' hx => ?_) ?_; rotate_left; (focus (go_simp; (try with_reducible rfl))); (try simp only [Act.put, List.setIfInBounds_toArray, List.set_cons_zero, List.set_cons_succ])))
            refine x_loads _ [.int .i64 y.id, .bool y.up, .bool y.bk, .bool y.bd, .int .i64 y.room, .int .i64 y.und, .int .i64 y.mean] (by rfl) rfl rfl (YC.out) (Nat.succ_pos _) (by kernel_rfl) (by kernel_rfl) ?_; simp only [Act.put, List.setIfInBounds_toArray, List.set_cons_zero, List.set_cons_succ]
            refine x_call (by rfl) (fun w' hx => by go_simp) (fun w' hx => R2.out w') ?_; simp only [Act.put, List.setIfInBounds_toArray, List.set_cons_zero, List.set_cons_succ]
            (first | (refine x_load _ (by rfl) rfl rfl (by assumption) (by kernel_rfl) ?_; simp only [Act.put, List.setIfInBounds_toArray, List.set_cons_zero, List.set_cons_succ]) | (refine x_val (v := ?_) (by rfl) (fun w' hx => ?_) ?_; rotate_left; (focus (go_simp; (try with_reducible rfl))); (try simp only [Act.put, List.setIfInBounds_toArray, List.set_cons_zero, List.set_cons_succ])))
            (first | (refine x_load _ (by rfl) rfl rfl (by assumption) (by kernel_rfl) ?_; simp only [Act.put, List.setIfInBounds_toArray, List.set_cons_zero, List.set_cons_succ]) | (refine x_val (v := ?_) (by rfl) (fun w' hx => ?_) ?_; rotate_left; (focus (go_simp; (try with_reducible rfl))); (try simp only [Act.put, List.setIfInBounds_toArray, List.set_cons_zero, List.set_cons_succ])))
            (first | (refine x_load _ (by rfl) rfl rfl (by assumption) (by kernel_rfl) ?_; simp only [Act.put, List.setIfInBounds_toArray, List.set_cons_zero, List.set_cons_succ]) | (refine x_val (v := ?_) (by rfl) (fun w' hx => ?_) ?_; rotate_left; (focus (go_simp; (try with_reducible rfl))); (try simp only [Act.put, List.setIfInBounds_toArray, List.set_cons_zero, List.set_cons_succ])))
            refine x_nil (hQ.out _ ?_); clear hQ QQ
            clear XC YC R1 R2
            intro w4 hb4
            have B4 := Lib.hid (BB.out.trans (hb4.mono BB.out.size))
            have O2 := Lib.hid (HO2.out.below hb4)
            have a0 := (B4.out.cell (p := ⟨rb, off + k * 7 + 0, none⟩) hrb).trans (HC.out 0 _ rfl)
            have hroom : (((chRk pol s k).map Pth.id).length + 1) * 8 ≤ room := room_ge (by rw [List.length_map]; have := chRk_len pol s k; have := HLS.out; omega)
            have hbw : w2.heap.size ≤ w4.heap.size := B4.out.size
            clear hb4 BB HO2
            rw [Nat.add_zero] at a0
            go_wp2_with (at_builtin; go_must (refine app1z intEl x.id rfl _ _ rfl rfl O2.out rfl rfl hroom hbw ?_))
            intro v5 w5 ho5 hg5 hb5
            have O5 := Lib.hid (show Zats w5 3 .i64 w2.heap.size v5 ((chRk pol s (k + 1)).map Pth.id) by rw [HST.out, List.map_append]; exact ho5)
            have B5 := Lib.hid (B4.out.trans hb5)
            clear ho5 hg5 hb5 a0 O2 B4 hroom hbw
            go_wp2_with fail
            go_roundw
            case rel => exact ⟨k + 1, by omega, by go_num, O5, B5⟩
            case measure => simp [intOf]; omega
          · have hre' : (r1 == r2) = false := by simpa using hre
            have HST := Sh.mk (chRk_no (pol := pol) hkp HX.out HY.out (.inr (by rw [← hr1, ← hr2]; exact hre)))
            clear hr1 hr2 hre
            go_wp2_with fail
            refine wp_ext (by kernel_rfl) (by kernel_rfl) (fun QQ hQ => ?_)
            (first | (refine x_load _ (by rfl) rfl rfl (by assumption) (by kernel_rfl) ?_; simp only [Act.put, List.setIfInBounds_toArray, List.set_cons_zero, List.set_cons_succ]) | (refine x_val (v := ?_) (by rfl) (fun w' hx => ?_) ?_; rotate_left; (focus (go_simp; (try with_reducible rfl))); (try simp only [Act.put, List.setIfInBounds_toArray, List.set_cons_zero, List.set_cons_succ])))
            (first | (refine x_load _ (by rfl) rfl rfl (by assumption) (by kernel_rfl) ?_; simp only [Act.put, List.setIfInBounds_toArray, List.set_cons_zero, List.set_cons_succ]) | (refine x_val (v := ?_) (by rfl) (fun w' hx => ?_) ?_; rotate_left; (focus (go_simp; (try with_reducible rfl))); (try simp only [Act.put, List.setIfInBounds_toArray, List.set_cons_zero, List.set_cons_succ])))
            (first | (refine x_load _ (by rfl) rfl rfl (by assumption) (by kernel_rfl) ?_; simp only [Act.put, List.setIfInBounds_toArray, List.set_cons_zero, List.set_cons_succ]) | (refine x_val (v := ?_) (by rfl) (fun w' hx => ?_) ?_; rotate_left; (focus (go_simp; (try with_reducible rfl))); (try simp only [Act.put, List.setIfInBounds_toArray, List.set_cons_zero, List.set_cons_succ])))
            (first | (refine x_load _ (by rfl) rfl rfl (by assumption) (by kernel_rfl) ?_; simp only [Act.put, List.setIfInBounds_toArray, List.set_cons_zero, List.set_cons_succ]) | (refine x_val (v := ?_) (by rfl) (fun w' hx => ?_) ?_; rotate_left; (focus (go_simp; (try with_reducible rfl))); (try simp only [Act.put, List.setIfInBounds_toArray, List.set_cons_zero, List.set_cons_succ])))
            (first | (refine x_load _ (by rfl) rfl rfl (by assumption) (by kernel_rfl) ?_; simp only [Act.put, List.setIfInBounds_toArray, List.set_cons_zero, List.set_cons_succ]) | (refine x_val (v := ?_) (by rfl) (fun w' hx => ?_) ?_; rotate_left; (focus (go_simp; (try with_reducible rfl))); (try simp only [Act.put, List.setIfInBounds_toArray, List.set_cons_zero, List.set_cons_succ])))
            (first | (refine x_load _ (by rfl) rfl rfl (by assumption) (by kernel_rfl) ?_; simp only [Act.put, List.setIfInBounds_toArray, List.set_cons_zero, List.set_cons_succ]) | (refine x_val (v := ?_) (by rfl) (fun w' hx => ?_) ?_; rotate_left; (focus (go_simp; (try with_reducible rfl))); (try simp only [Act.put, List.setIfInBounds_toArray, List.set_cons_zero, List.set_cons_succ])))
            (first | (refine x_load _ (by rfl) rfl rfl (by assumption) (by kernel_rfl) ?_; simp only [Act.put, List.setIfInBounds_toArray, List.set_cons_zero, List.set_cons_succ]) | (refine x_val (v := ?_) (by rfl) (fun w' hx => ?_) ?_; rotate_left; (focus (go_simp; (try with_reducible rfl))); (try simp only [Act.put, List.setIfInBounds_toArray, List.set_cons_zero, List.set_cons_succ])))
            (first | (refine x_load _ (by rfl) rfl rfl (by assumption) (by kernel_rfl) ?_; simp only [Act.put, List.setIfInBounds_toArray, List.set_cons_zero, List.set_cons_succ]) | (refine x_val (v := ?_) (by rfl) (fun w' hx => ?_) ?_; rotate_left; (focus (go_simp; (try with_reducible rfl))); (try simp only [Act.put, List.setIfInBounds_toArray, List.set_cons_zero, List.set_cons_succ])))
            (first | (refine x_load _ (by rfl) rfl rfl (by assumption) (by kernel_rfl) ?_; simp only [Act.put, List.setIfInBounds_toArray, List.set_cons_zero, List.set_cons_succ]) | (refine x_val (v := ?_) (by rfl) (fun w' hx => ?_) ?_; rotate_left; (focus (go_simp; (try with_reducible rfl))); (try simp only [Act.put, List.setIfInBounds_toArray, List.set_cons_zero, List.set_cons_succ])))
            refine x_loads _ [.int .i64 x.id, .bool x.up, .bool x.bk, .bool x.bd, .int .i64 x.room, .int .i64 x.und, .int .i64 x.mean] (by rfl) rfl rfl (XC.out) (Nat.succ_pos _) (by kernel_rfl) (by kernel_rfl) ?_; simp only [Act.put, List.setIfInBounds_toArray, List.set_cons_zero, List.set_cons_succ]
            refine x_call (by rfl) (fun w' hx => by go_simp) (fun w' hx => R1.out w') ?_; simp only [Act.put, List.setIfInBounds_toArray, List.set_cons_zero, List.set_cons_succ]
            (first | (refine x_load _ (by rfl) rfl rfl (by assumption) (by kernel_rfl) ?_; simp only [Act.put, List.setIfInBounds_toArray, List.set_cons_zero, List.set_cons_succ]) | (refine x_val (v := ?_) (by rfl) (fun w' hx => ?_) ?_; rotate_left; (focus (go_simp; (try with_reducible rfl))); (try simp only [Act.put, List.setIfInBounds_toArray, List.set_cons_zero, List.set_cons_succ])))
            (first | (refine x_load _ (by rfl) rfl rfl (by assumption) (by kernel_rfl) ?_; simp only [Act.put, List.setIfInBounds_toArray, List.set_cons_zero, List.set_cons_succ]) | (refine x_val (v := ?_) (by rfl) (fun w' hx => ?_) ?_; rotate_left; (focus (go_simp; (try with_reducible rfl))); (try simp only [Act.put, List.setIfInBounds_toArray, List.set_cons_zero, List.set_cons_succ])))
            refine x_loads _ [.int .i64 y.id, .bool y.up, .bool y.bk, .bool y.bd, .int .i64 y.room, .int .i64 y.und, .int .i64 y.mean] (by rfl) rfl rfl (YC.out) (Nat.succ_pos _) (by kernel_rfl) (by kernel_rfl) ?_; simp only [Act.put, List.setIfInBounds_toArray, List.set_cons_zero, List.set_cons_succ]
            refine x_call (by rfl) (fun w' hx => by go_simp) (fun w' hx => R2.out w') ?_; simp only [Act.put, List.setIfInBounds_toArray, List.set_cons_zero, List.set_cons_succ]
            (first | (refine x_load _ (by rfl) rfl rfl (by assumption) (by kernel_rfl) ?_; simp only [Act.put, List.setIfInBounds_toArray, List.set_cons_zero, List.set_cons_succ]) | (refine x_val (v := ?_) (by rfl) (fun w' hx => ?_) ?_; rotate_left; (focus (go_simp; (try with_reducible rfl))); (try simp only [Act.put, List.setIfInBounds_toArray, List.set_cons_zero, List.set_cons_succ])))
            (first | (refine x_load _ (by rfl) rfl rfl (by assumption) (by kernel_rfl) ?_; simp only [Act.put, List.setIfInBounds_toArray, List.set_cons_zero, List.set_cons_succ]) | (refine x_val (v := ?_) (by rfl) (fun w' hx => ?_) ?_; rotate_left; (focus (go_simp; (try with_reducible rfl))); (try simp only [Act.put, List.setIfInBounds_toArray, List.set_cons_zero, List.set_cons_succ])))
            (first | (refine x_load _ (by rfl) rfl rfl (by assumption) (by kernel_rfl) ?_; simp only [Act.put, List.setIfInBounds_toArray, List.set_cons_zero, List.set_cons_succ]) | (refine x_val (v := ?_) (by rfl) (fun w' hx => ?_) ?_; rotate_left; (focus (go_simp; (try with_reducible rfl))); (try simp only [Act.put, List.setIfInBounds_toArray, List.set_cons_zero, List.set_cons_succ])))
            refine x_nil (hQ.out _ ?_); clear hQ QQ
            clear XC YC R1 R2
            intro w4 hb4
            have B4 := Lib.hid (BB.out.trans (hb4.mono BB.out.size))
            have O5 := Lib.hid (show Zats w4 3 .i64 w2.heap.size u9 ((chRk pol s (k + 1)).map Pth.id) by rw [HST.out]; exact HO2.out.below hb4)
            clear hb4 BB HO2
            go_wp2_with fail
            go_roundw
            case rel => exact ⟨k + 1, by omega, by go_num, O5, B4⟩
            case measure => simp [intOf]; omega
        · have hp' : (pol == 3) = false := by simpa using hp
          have HST := Sh.mk (chRk_no hkp HX.out HY.out (.inl hp))
          clear hp hkz
          go_wp2_with fail
          refine wp_ext (by kernel_rfl) (by kernel_rfl) (fun QQ hQ => ?_)
          (first | (refine x_load _ (by rfl) rfl rfl (by assumption) (by kernel_rfl) ?_; simp only [Act.put, List.setIfInBounds_toArray, List.set_cons_zero, List.set_cons_succ]) | (refine x_val (v := ?_) (by rfl) (fun w' hx => ?_) ?_; rotate_left; (focus (go_simp; (try with_reducible rfl))); (try simp only [Act.put, List.setIfInBounds_toArray, List.set_cons_zero, List.set_cons_succ])))
          (first | (refine x_load _ (by rfl) rfl rfl (by assumption) (by kernel_rfl) ?_; simp only [Act.put, List.setIfInBounds_toArray, List.set_cons_zero, List.set_cons_succ]) | (refine x_val (v := ?_) (by rfl) (fun w' hx => ?_) ?_; rotate_left; (focus (go_simp; (try with_reducible rfl))); (try simp only [Act.put, List.setIfInBounds_toArray, List.set_cons_zero, List.set_cons_succ])))
          (first | (refine x_load _ (by rfl) rfl rfl (by assumption) (by kernel_rfl) ?_; simp only [Act.put, List.setIfInBounds_toArray, List.set_cons_zero, List.set_cons_succ]) | (refine x_val (v := ?_) (by rfl) (fun w' hx => ?_) ?_; rotate_left; (focus (go_simp; (try with_reducible rfl))); (try simp only [Act.put, List.setIfInBounds_toArray, List.set_cons_zero, List.set_cons_succ])))
          (first | (refine x_load _ (by rfl) rfl rfl (by assumption) (by kernel_rfl) ?_; simp only [Act.put, List.setIfInBounds_toArray, List.set_cons_zero, List.set_cons_succ]) | (refine x_val (v := ?_) (by rfl) (fun w' hx => ?_) ?_; rotate_left; (focus (go_simp; (try with_reducible rfl))); (try simp only [Act.put, List.setIfInBounds_toArray, List.set_cons_zero, List.set_cons_succ])))
          (first | (refine x_load _ (by rfl) rfl rfl (by assumption) (by kernel_rfl) ?_; simp only [Act.put, List.setIfInBounds_toArray, List.set_cons_zero, List.set_cons_succ]) | (refine x_val (v := ?_) (by rfl) (fun w' hx => ?_) ?_; rotate_left; (focus (go_simp; (try with_reducible rfl))); (try simp only [Act.put, List.setIfInBounds_toArray, List.set_cons_zero, List.set_cons_succ])))
          (first | (refine x_load _ (by rfl) rfl rfl (by assumption) (by kernel_rfl) ?_; simp only [Act.put, List.setIfInBounds_toArray, List.set_cons_zero, List.set_cons_succ]) | (refine x_val (v := ?_) (by rfl) (fun w' hx => ?_) ?_; rotate_left; (focus (go_simp; (try with_reducible rfl))); (try simp only [Act.put, List.setIfInBounds_toArray, List.set_cons_zero, List.set_cons_succ])))
          (refine x_skip (by rfl) ?_; simp only [Act.put, List.setIfInBounds_toArray, List.set_cons_zero, List.set_cons_succ])
          (refine x_skip (by rfl) ?_; simp only [Act.put, List.setIfInBounds_toArray, List.set_cons_zero, List.set_cons_succ])
          (refine x_skip (by rfl) ?_; simp only [Act.put, List.setIfInBounds_toArray, List.set_cons_zero, List.set_cons_succ])
          (refine x_skip (by rfl) ?_; simp only [Act.put, List.setIfInBounds_toArray, List.set_cons_zero, List.set_cons_succ])
          (refine x_skip (by rfl) ?_; simp only [Act.put, List.setIfInBounds_toArray, List.set_cons_zero, List.set_cons_succ])
          (refine x_skip (by rfl) ?_; simp only [Act.put, List.setIfInBounds_toArray, List.set_cons_zero, List.set_cons_succ])
          (refine x_skip (by rfl) ?_; simp only [Act.put, List.setIfInBounds_toArray, List.set_cons_zero, List.set_cons_succ])
          (refine x_skip (by rfl) ?_; simp only [Act.put, List.setIfInBounds_toArray, List.set_cons_zero, List.set_cons_succ])
          (refine x_skip (by rfl) ?_; simp only [Act.put, List.setIfInBounds_toArray, List.set_cons_zero, List.set_cons_succ])
          (refine x_skip (by rfl) ?_; simp only [Act.put, List.setIfInBounds_toArray, List.set_cons_zero, List.set_cons_succ])
          (first | (refine x_load _ (by rfl) rfl rfl (by assumption) (by kernel_rfl) ?_; simp only [Act.put, List.setIfInBounds_toArray, List.set_cons_zero, List.set_cons_succ]) | (refine x_val (v := ?_) (by rfl) (fun w' hx => ?_) ?_; rotate_left; (focus (go_simp; (try with_reducible rfl))); (try simp only [Act.put, List.setIfInBounds_toArray, List.set_cons_zero, List.set_cons_succ])))
          (first | (refine x_load _ (by rfl) rfl rfl (by assumption) (by kernel_rfl) ?_; simp only [Act.put, List.setIfInBounds_toArray, List.set_cons_zero, List.set_cons_succ]) | (refine x_val (v := ?_) (by rfl) (fun w' hx => ?_) ?_; rotate_left; (focus (go_simp; (try with_reducible rfl))); (try simp only [Act.put, List.setIfInBounds_toArray, List.set_cons_zero, List.set_cons_succ])))
          refine x_nil (hQ.out _ ?_); clear hQ QQ
          intro w4 hb4
          have B4 := Lib.hid (BB.out.trans (hb4.mono BB.out.size))
          have O5 := Lib.hid (show Zats w4 3 .i64 w2.heap.size u9 ((chRk pol s (k + 1)).map Pth.id) by rw [HST.out]; exact HO2.out.below hb4)
          clear hb4 BB HO2
          go_wp2_with fail
          go_roundw
          case rel => exact ⟨k + 1, by omega, by go_num, O5, B4⟩
          case measure => simp [intOf]; omega
    · have hlt' : ¬ (k : Int) < (sn : Int) := by omega
      have O3 := Lib.hid (show Zats wr 3 .i64 w.heap.size u9 ((chR pol s).map Pth.id) by have := HO2.out.mono HB.out.size; rw [show k = s.length by rw [HLS.out]; omega] at this; exact this)
      have B3 := Lib.hid (HB.out.trans (BB.out.mono HB.out.size))
      clear HO2 BB
      go_wp2_with fail
      refine bodyPost_ret (v := u9) (by kernel_rfl) rfl ?_
      first
      | exact ⟨_, s, rfl, O3.out, B3.out, HP.out, HQ.out⟩
      | exact ⟨_, rfl, s, O3.out, B3.out, HP.out, HQ.out⟩
set_option maxRecDepth 20000 in
set_option maxHeartbeats 4000000 in
theorem row_any (A1 A2 : Option Addr) (n1 n2 c1 c2 B1 B2 : Nat) (l1 l2 : List Int) (w : World) (h1 : Rd w B1 1 A1 n1 (zs .i64 l1)) (h2 : Rd w B2 1 A2 n2 (zs .i64 l2)) (hb1 : B1 ≤ w.heap.size) (hb2 : B2 ≤ w.heap.size) (hn : n1 ≤ 65536) :
    Calls Try.prog 7 #[.slice A1 n1 c1, .slice A2 n2 c2] w fun e w' => e = .returned (.bool (decide (l1 = l2))) ∧ Below w.heap.size w w' := by
  have H1 := Lib.hid h1
  have H2 := Lib.hid h2
  have L1 := Lib.hid h1.intLen
  have L2 := Lib.hid h2.intLen
  clear h1 h2
  by_cases he : n1 = n2
  · subst he
    go_enter Try.func7, Try.ntmps7
    go_wp2_with fail
    go_loopw [5] (fun iv wr => ∃ (k : Nat), k ≤ n1 ∧ iv = .int .i64 (k : Nat) ∧ Hid (l1.take k = l2.take k) ∧ Hid (Below w.heap.size w wr)) (fun iv _ => n1 - (intOf iv).toNat)
    case atStart => exact ⟨0, Nat.zero_le _, rfl, Lib.hid (by simp), Lib.hid (Below.refl _ _)⟩
    case round =>
      obtain ⟨k, hk, rfl, HK, BB⟩ := hrel
      by_cases hlt : k < n1
      · have hlt' : (k : Int) < (n1 : Int) := by omega
        have hk0 : (0 : Int) ≤ (k : Int) := by omega
        obtain ⟨b1, o1, x1, rfl, hbb1, hc1, hx1⟩ := H1.out.nthz hlt
        obtain ⟨b2, o2, x2, rfl, hbb2, hc2, hx2⟩ := H2.out.nthz hlt
        have p1 := (BB.out.cell (p := ⟨b1, o1 + k, none⟩) (show b1 < w.heap.size by omega)).trans hc1
        have p2 := (BB.out.cell (p := ⟨b2, o2 + k, none⟩) (show b2 < w.heap.size by omega)).trans hc2
        clear hc1 hc2
        by_cases hx : x1 = x2
        · have hx' : (x1 != x2) = false := by simp [hx]
          have HK2 := Lib.hid (show l1.take (k + 1) = l2.take (k + 1) by rw [List.take_add_one, List.take_add_one, hx1.out, hx2.out, HK.out, hx])
          subst hx
          clear HK hx1 hx2
          go_wp2_with fail
          refine wp_ext (by kernel_rfl) (by kernel_rfl) (fun QQ hQ => ?_)
          iterate 9 (first | (refine x_load _ (by rfl) rfl rfl (by assumption) (by kernel_rfl) ?_; simp only [Act.put, List.setIfInBounds_toArray, List.set_cons_zero, List.set_cons_succ]) | (refine x_val (v := ?_) (by rfl) (fun w' hx => ?_) ?_; rotate_left; (focus (go_simp; (try with_reducible rfl))); (try simp only [Act.put, List.setIfInBounds_toArray, List.set_cons_zero, List.set_cons_succ])))
          refine x_nil (hQ.out _ ?_); clear hQ QQ
          intro w4 hb4
          have B4 := Lib.hid (BB.out.trans (hb4.mono BB.out.size))
          clear hb4 BB p1 p2
          go_wp2_with fail
          go_roundw
          case rel => exact ⟨k + 1, by omega, by go_num, HK2, B4⟩
          case measure => simp [intOf]; omega
        · have hx' : (x1 != x2) = true := by simp [hx]
          have HN := Lib.hid (show decide (l1 = l2) = false from decide_eq_false fun e => by
            have h1 := hx1.out
            rw [e, hx2.out] at h1
            injection h1 with h1
            exact hx h1.symm)
          clear hx hx1 hx2 HK
          go_wp2_with fail
          refine wp_ext (by kernel_rfl) (by kernel_rfl) (fun QQ hQ => ?_)
          iterate 9 (first | (refine x_load _ (by rfl) rfl rfl (by assumption) (by kernel_rfl) ?_; simp only [Act.put, List.setIfInBounds_toArray, List.set_cons_zero, List.set_cons_succ]) | (refine x_val (v := ?_) (by rfl) (fun w' hx => ?_) ?_; rotate_left; (focus (go_simp; (try with_reducible rfl))); (try simp only [Act.put, List.setIfInBounds_toArray, List.set_cons_zero, List.set_cons_succ])))
          refine x_nil (hQ.out _ ?_); clear hQ QQ
          intro w4 hb4
          have B4 := Lib.hid (BB.out.trans (hb4.mono BB.out.size))
          clear hb4 BB p1 p2
          go_wp2_with fail
          refine bodyPost_ret (v := .bool false) (by kernel_rfl) rfl ?_
          exact ⟨by rw [HN.out], B4.out⟩
      · have hlt' : ¬ (k : Int) < (n1 : Int) := by omega
        have HN := Lib.hid (show decide (l1 = l2) = true from decide_eq_true (by have := HK.out; rwa [List.take_of_length_le (by rw [L1.out]; omega), List.take_of_length_le (by rw [L2.out]; omega)] at this))
        clear HK
        go_wp2_with fail
        refine bodyPost_ret (v := .bool true) (by kernel_rfl) rfl ?_
        exact ⟨by rw [HN.out], BB.out⟩
  · have hne : ((n1 : Int) != (n2 : Int)) = true := by simp; omega
    have HN := Lib.hid (show decide (l1 = l2) = false from decide_eq_false fun e => he (by rw [← L1.out, ← L2.out, e]))
    clear he
    rw [HN.out]
    go_enter Try.func7, Try.ntmps7
    go_wp2
    go_ret
    exact ⟨rfl, Below.refl _ _⟩
end Go.Proofs.Ytcfeojobkpbohaa
