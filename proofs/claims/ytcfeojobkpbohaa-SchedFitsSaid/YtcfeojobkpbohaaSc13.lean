/- The law: paths as the document has them; apart; the example. -/
import Derived.Test.YtcfeojobkpbohaaSc12
namespace Go.Proofs.Ytcfeojobkpbohaa
open Go.RowKit Go.Sort
set_option linter.unusedVariables false
set_option linter.unusedSimpArgs false
set_option maxRecDepth 20000 in
set_option maxHeartbeats 4000000 in
theorem plain_any (A : Option Addr) (m c : Nat) (l : List Pth) (w : World) (h : Rd w w.heap.size 7 A m (pths l)) (hm : m ≤ 100) :
    Calls Try.prog 10 #[.slice A m c] w fun e w' => ∃ (v : Value), e = .returned v ∧ w'.ownsRow w.heap.size 41 7 v l.length (pths l) ∧ Below w.heap.size w w' := by
  have HR := Lib.hid h
  have HL := Lib.hid h.pthLen
  have HO0 : Hid (w.ownsRow w.heap.size 41 7 (.slice none 0 0) (l.take 0).length (pths (l.take 0))) := Lib.hid (World.ownsRow_nil _ _ _ _)
  clear h
  go_enter Try.func10, Try.ntmps10
  go_wp2_with fail
  go_loopw [3, 4] (fun qv iv wr => ∃ (k : Nat), k ≤ m ∧ iv = .int .i64 (k : Nat) ∧ Hid (wr.ownsRow w.heap.size 41 7 qv (l.take k).length (pths (l.take k))) ∧ Hid (Below w.heap.size w wr)) (fun _ iv _ => m - (intOf iv).toNat)
  case atStart => exact ⟨0, Nat.zero_le _, rfl, HO0, Lib.hid (Below.refl _ _)⟩
  case round =>
    clear HO0
    obtain ⟨k, hk, rfl, HO, BB⟩ := hrel
    by_cases hlt : k < m
    · have hlt' : (k : Int) < (m : Int) := by omega
      have hk0 : (0 : Int) ≤ (k : Int) := by omega
      obtain ⟨rb, off, x, hA, hrb, HC, HX⟩ := HR.out.pth hlt
      subst hA
      obtain ⟨a0, a1, a2, a3, a4, a5, a6⟩ := pt7 (w := wr) (o := off + k * 7) (fun j v hj => (BB.out.cell (p := ⟨rb, off + k * 7 + j, none⟩) hrb).trans (HC.out j v hj))
      go_upto_region 6 with fail
      have K1 := Lib.hid (Blk.new wr 36 #[.int .i64 x.id, .bool x.up, .bool x.bk, .bool x.bd, .int .i64 x.room, .int .i64 x.und, .int .i64 x.mean])
      have hb1 := (Below.refl wr.heap.size wr).alloc (Nat.le_refl _) (.cells #[.int .i64 x.id, .bool x.up, .bool x.bk, .bool x.bd, .int .i64 x.room, .int .i64 x.und, .int .i64 x.mean] 36)
      have B2 := Lib.hid (BB.out.trans (hb1.mono BB.out.size))
      have O2 := Lib.hid (own_below HO.out hb1 fun g hg => (HO.out.lt g hg).2)
      obtain ⟨Y, hY⟩ : ∃ Y, Y = wr.heap.size := ⟨_, rfl⟩
      rw [← hY] at K1 ⊢
      clear hb1 hY BB HO a0 a1 a2 a3 a4 a5 a6
      generalize wr.alloc (.cells #[.int .i64 x.id, .bool x.up, .bool x.bk, .bool x.bd, .int .i64 x.room, .int .i64 x.und, .int .i64 x.mean] 36) = w3 at *
      obtain ⟨b0, b1, b2, b3, b4, b5, b6⟩ := ptb (x := x) K1.out
      have hroom : ((l.take k).length + 1) * 40 ≤ room := room_ge (by rw [List.length_take]; omega)
      have hbw : w.heap.size ≤ w3.heap.size := B2.out.size
      go_wp2_with (at_builtin; go_must (refine appZ rpEl x.cells rfl (pth_one _) rfl _ _ rfl rfl O2.out rfl rfl hroom hbw ?_))
      intro v5 w5 ho5 hg5 hb5
      have O5 := Lib.hid (show w5.ownsRow w.heap.size 41 7 v5 (l.take (k + 1)).length (pths (l.take (k + 1))) by rw [tkSnocP HX.out, List.length_append, List.length_take, pths_snoc]; exact ho5)
      have B5 := Lib.hid (B2.out.trans hb5)
      clear ho5 hg5 hb5 b0 b1 b2 b3 b4 b5 b6 B2 O2 K1 hroom hbw
      go_wp2_with fail
      go_roundw
      case rel => exact ⟨k + 1, by omega, by go_num, O5, B5⟩
      case measure => simp [intOf]; omega
    · have hlt' : ¬ (k : Int) < (m : Int) := by omega
      have O2 := Lib.hid (show wr.ownsRow w.heap.size 41 7 u3 l.length (pths l) by have := HO.out; rw [List.take_of_length_le (by rw [HL.out]; omega)] at this; exact this)
      clear HO
      go_wp2_with fail
      refine bodyPost_ret (v := u3) (by kernel_rfl) rfl ?_
      exact ⟨_, rfl, O2.out, BB.out⟩
/-- Of all pairs whose first place lies below i the numbers differ; of i's own those below k. -/
def Apt (l : List Pth) (i k : Nat) : Prop := ∀ p q x y, p < q → l[p]? = some x → l[q]? = some y → (p < i ∨ p = i ∧ q < k) → x.id ≠ y.id
theorem Apt.all {l : List Pth} {i k : Nat} (h : Apt l i k) (hi : l.length ≤ i) : (l.map Pth.id).Nodup := by
  unfold List.Nodup
  rw [List.pairwise_map, List.pairwise_iff_getElem]
  intro p q hp hq hpq
  exact h p q _ _ hpq (List.getElem?_eq_getElem hp) (List.getElem?_eq_getElem hq) (.inl (by omega))
theorem Apt.row {l : List Pth} {i k : Nat} (h : Apt l i k) (hk : l.length ≤ k) : Apt l (i + 1) (i + 2) := fun p q x y hpq hx hy hc => by
  have hq := (List.getElem?_eq_some_iff.1 hy).1
  refine h p q x y hpq hx hy ?_
  rcases hc with hc | hc
  · omega
  · omega
theorem Apt.start (l : List Pth) (i : Nat) (h : Apt l i 0) : Apt l i (i + 1) := fun p q x y hpq hx hy hc => h p q x y hpq hx hy (by omega)
theorem Apt.step {l : List Pth} {i k : Nat} {x y : Pth} (h : Apt l i k) (hx : l[i]? = some x) (hy : l[k]? = some y) (hne : x.id ≠ y.id) : Apt l i (k + 1) := fun p q a b hpq ha hb hc => by
  by_cases he : p = i ∧ q = k
  · obtain ⟨rfl, rfl⟩ := he
    rw [hx] at ha; rw [hy] at hb
    injection ha with ha; injection hb with hb
    subst ha; subst hb
    exact hne
  · exact h p q a b hpq ha hb (by omega)
def APost (l : List Pth) (w : World) (e : Ending) (w' : World) : Prop := ∃ b, e = .returned (.bool b) ∧ (b = true → (l.map Pth.id).Nodup) ∧ Below w.heap.size w w'
set_option maxRecDepth 20000 in
set_option maxHeartbeats 4000000 in
theorem apart_any (A : Option Addr) (m c : Nat) (l : List Pth) (w : World) (h : Rd w w.heap.size 7 A m (pths l)) (hm : m ≤ 100) :
    Calls Try.prog 12 #[.slice A m c] w (APost l w) := by
  have HR := Lib.hid h
  have HL := Lib.hid h.pthLen
  clear h
  go_enter Try.func12, Try.ntmps12
  go_wp2_with fail
  go_loopw [3] (fun iv wr => ∃ (i : Nat), i ≤ m ∧ iv = .int .i64 (i : Nat) ∧ Hid (Apt l i (i + 1)) ∧ Hid (Below w.heap.size w wr)) (fun iv _ => m - (intOf iv).toNat)
  case atStart => exact ⟨0, Nat.zero_le _, rfl, Lib.hid (fun p q x y hpq _ _ hc => by omega), Lib.hid (Below.refl _ _)⟩
  case round =>
    obtain ⟨i, hi, rfl, HA, BB⟩ := hrel
    by_cases hlt : i < m
    · have hlt' : (i : Int) < (m : Int) := by omega
      have hi0 : (0 : Int) ≤ (i : Int) := by omega
      obtain ⟨rb, off, x, hA, hrb, HC, HX⟩ := HR.out.pth hlt
      go_wp2_with fail
      go_loopw [4] (fun kv wr => ∃ (k : Nat), (i < k ∧ k ≤ m) ∧ kv = .int .i64 (k : Nat) ∧ Hid (Apt l i k) ∧ Hid (Below w.heap.size w wr)) (fun kv _ => m - (intOf kv).toNat)
      case atStart => exact ⟨i + 1, ⟨by omega, by omega⟩, by go_num, HA, BB⟩
      case round =>
        clear HA BB
        obtain ⟨k, hk, rfl, HA, BB⟩ := hrel
        by_cases hlk : k < m
        · have hlk' : (k : Int) < (m : Int) := by omega
          have hk0 : (0 : Int) ≤ (k : Int) := by omega
          obtain ⟨rb2, off2, y, hA2, hrb2, HC2, HY⟩ := HR.out.pth hlk
          rw [hA] at hA2
          injection hA2 with hA2
          injection hA2 with e1 e2
          subst e1
          subst e2
          subst hA
          have a0 := (BB.out.cell (p := ⟨rb, off + i * 7 + 0, none⟩) hrb).trans (HC.out 0 _ rfl)
          have c0 := (BB.out.cell (p := ⟨rb, off + k * 7 + 0, none⟩) hrb).trans (HC2.out 0 _ rfl)
          rw [Nat.add_zero] at a0 c0
          by_cases hx : x.id = y.id
          · have hx' : (x.id == y.id) = true := by simpa using hx
            clear hx
            go_wp2_with fail
            refine wp_ext (by kernel_rfl) (by kernel_rfl) (fun QQ hQ => ?_)
            iterate 11 (first | (refine x_load _ (by rfl) rfl rfl (by assumption) (by kernel_rfl) ?_; simp only [Act.put, List.setIfInBounds_toArray, List.set_cons_zero, List.set_cons_succ]) | (refine x_val (v := ?_) (by rfl) (fun w' hx => ?_) ?_; rotate_left; (focus (go_simp; (try with_reducible rfl))); (try simp only [Act.put, List.setIfInBounds_toArray, List.set_cons_zero, List.set_cons_succ])))
            refine x_nil (hQ.out _ ?_); clear hQ QQ
            intro w4 hb4
            have B4 := Lib.hid (BB.out.trans (hb4.mono BB.out.size))
            clear hb4 BB a0 c0
            go_wp2_with fail
            refine bodyPost_ret (v := .bool false) (by kernel_rfl) rfl ?_
            exact (show ∃ b, _ from ⟨false, rfl, by simp, B4.out⟩)
          · have hx' : (x.id == y.id) = false := by simpa using hx
            have HA2 := Lib.hid (HA.out.step HX.out HY.out hx)
            clear hx HA
            go_wp2_with fail
            refine wp_ext (by kernel_rfl) (by kernel_rfl) (fun QQ hQ => ?_)
            iterate 11 (first | (refine x_load _ (by rfl) rfl rfl (by assumption) (by kernel_rfl) ?_; simp only [Act.put, List.setIfInBounds_toArray, List.set_cons_zero, List.set_cons_succ]) | (refine x_val (v := ?_) (by rfl) (fun w' hx => ?_) ?_; rotate_left; (focus (go_simp; (try with_reducible rfl))); (try simp only [Act.put, List.setIfInBounds_toArray, List.set_cons_zero, List.set_cons_succ])))
            refine x_nil (hQ.out _ ?_); clear hQ QQ
            intro w4 hb4
            have B4 := Lib.hid (BB.out.trans (hb4.mono BB.out.size))
            clear hb4 BB a0 c0
            go_wp2_with fail
            go_roundw
            case rel => exact ⟨k + 1, ⟨by omega, by omega⟩, by go_num, HA2, B4⟩
            case measure => simp [intOf]; omega
        · have hlk' : ¬ (k : Int) < (m : Int) := by omega
          have HA2 := Lib.hid (HA.out.row (by rw [HL.out]; omega))
          clear HA
          go_wp2_with fail
          go_roundw
          case rel => exact ⟨i + 1, by omega, by go_num, HA2, BB⟩
          case measure => simp [intOf]; omega
    · have hlt' : ¬ (i : Int) < (m : Int) := by omega
      have HN := Lib.hid (HA.out.all (by rw [HL.out]; omega))
      go_wp2_with fail
      refine bodyPost_ret (v := .bool true) (by kernel_rfl) rfl ?_
      exact (show ∃ b, _ from ⟨true, rfl, fun _ => HN.out, BB.out⟩)
def exL : List Pth := [⟨1, true, false, false, 5, 0, 9⟩, ⟨2, true, true, false, 5, 0, 4⟩]
theorem exL_fit : exL.filter (fitP 1) = exL := by simp [exL, fitP]
theorem ex_choose {s : List Pth} (hp : s.Perm (exL.filter (fitP 1))) (hs : s.Pairwise (fun x y => ltP 1 0 y x = false)) : (chL 1 s).map Pth.id = [1] := by
  rw [exL_fit] at hp
  have hl := hp.length_eq
  match s, hl with
  | [a, b], _ =>
    have ha : a ∈ exL := hp.mem_iff.1 (by simp)
    have hb : b ∈ exL := hp.mem_iff.1 (by simp)
    have h1 : ltP 1 0 b a = false := by simpa using hs
    have hx : (⟨1, true, false, false, 5, 0, 9⟩ : Pth) ∈ [a, b] := hp.mem_iff.2 (by simp [exL])
    have hy : (⟨2, true, true, false, 5, 0, 4⟩ : Pth) ∈ [a, b] := hp.mem_iff.2 (by simp [exL])
    simp only [exL, List.mem_cons, List.not_mem_nil, or_false] at ha hb hx hy
    rcases ha with rfl | rfl
    · rfl
    · rcases hb with rfl | rfl
      · exact absurd h1 (by decide)
      · simp at hx
set_option maxRecDepth 20000 in
set_option maxHeartbeats 4000000 in
theorem alive_any (w : World) : Calls Try.prog 11 #[] w fun e w' => e = .returned (.bool true) ∧ Below w.heap.size w w' := by
  have HC : Hid (∀ w1 b, Rd w1 w1.heap.size 7 (some ⟨b, 0, none⟩) 2 (pths exL) → Calls Try.prog 13 #[.int .i64 1, .int .i64 0, .int .i64 1, .slice (some ⟨b, 0, none⟩) 2 2] w1 fun e w' => ∃ A c, e = .returned (.slice A 1 c) ∧ Rd w' w'.heap.size 1 A 1 (zs .i64 [1]) ∧ Below w1.heap.size w1 w') := Lib.hid (fun w1 b h => by
    refine (choose_any 1 0 1 _ 2 2 exL w1 h (by omega)).mono ?_
    rintro e w2 ⟨v, s, rfl, hz, hb, hp, hs⟩
    rw [ex_choose hp hs] at hz
    obtain ⟨A, n, c, rfl, hnc, hn, hr⟩ := hz.out
    have hn1 := hn.out
    simp at hn1
    subst hn1
    exact ⟨A, c, rfl, hr.out, hb⟩)
  go_enter Try.func11, Try.ntmps11
  go_wp2_with fail
  have hr := Rd.made (n := 2) (size := 7) w 36 #[.int .i64 1, .bool true, .bool false, .bool false, .int .i64 5, .int .i64 0, .int .i64 9, .int .i64 2, .bool true, .bool true, .bool false, .int .i64 5, .int .i64 0, .int .i64 4] rfl
  have hb := (Below.refl w.heap.size w).alloc (Nat.le_refl _) (.cells #[.int .i64 1, .bool true, .bool false, .bool false, .int .i64 5, .int .i64 0, .int .i64 9, .int .i64 2, .bool true, .bool true, .bool false, .int .i64 5, .int .i64 0, .int .i64 4] 36)
  have HR := Lib.hid (show Rd (w.alloc (.cells #[.int .i64 1, .bool true, .bool false, .bool false, .int .i64 5, .int .i64 0, .int .i64 9, .int .i64 2, .bool true, .bool true, .bool false, .int .i64 5, .int .i64 0, .int .i64 4] 36)) (w.alloc (.cells #[.int .i64 1, .bool true, .bool false, .bool false, .int .i64 5, .int .i64 0, .int .i64 9, .int .i64 2, .bool true, .bool true, .bool false, .int .i64 5, .int .i64 0, .int .i64 4] 36)).heap.size 7 (some ⟨w.heap.size, 0, none⟩) 2 (pths exL) by
    have := hr.mono (show w.heap.size + 1 ≤ (w.alloc (.cells #[.int .i64 1, .bool true, .bool false, .bool false, .int .i64 5, .int .i64 0, .int .i64 9, .int .i64 2, .bool true, .bool true, .bool false, .int .i64 5, .int .i64 0, .int .i64 4] 36)).heap.size by simp)
    exact this)
  have HB := Lib.hid hb
  clear hr hb
  generalize w.alloc (.cells #[.int .i64 1, .bool true, .bool false, .bool false, .int .i64 5, .int .i64 0, .int .i64 9, .int .i64 2, .bool true, .bool true, .bool false, .int .i64 5, .int .i64 0, .int .i64 4] 36) = w1 at HR HB ⊢
  refine (HC.out w1 _ HR.out).mono ?_
  rintro e w2 ⟨A2, c2, rfl, hr2, hb2⟩
  obtain ⟨b2, o2, x2, rfl, hbb2, hc2, hx2⟩ := hr2.nthz (i := 0) (by omega)
  have hx := hx2.out
  simp at hx
  subst hx
  have HB2 := Lib.hid (HB.out.trans (hb2.mono HB.out.size))
  rw [Nat.add_zero] at hc2
  clear hr2 hb2 HR hx2 HC
  go_wp2
  go_ret
  exact ⟨rfl, HB2.out⟩
end Go.Proofs.Ytcfeojobkpbohaa
