/- Layer 29 by the document: Add, Due, Next. -/
import Derived.Test.YtpeagibompohhaaWhR0
import Derived.Test.YtpeagibompohhaaGhoR
import Derived.Test.YtpeagibompohhaaQx
namespace Go.Proofs.Ytpeagibompohhaa
open Go.RowKit
set_option linter.unusedVariables false
set_option linter.unusedSimpArgs false
theorem wblk0 (w : World) (cs : Array Value) : Blk ((w.alloc (.cells cs 27)).alloc (.cells #[.int .i64 0, .int .i64 0, .slice none 0 0] 27)) w.heap.size 27 cs := (Blk.new w _ _).alloc _
theorem wblk1 (w : World) (cs : Array Value) : Blk ((w.alloc (.cells cs 27)).alloc (.cells #[.int .i64 0, .int .i64 0, .slice none 0 0] 27)) (w.heap.size + 1) 27 #[.int .i64 0, .int .i64 0, .slice none 0 0] := by
  have := Blk.new (w.alloc (.cells cs 27)) 27 #[.int .i64 0, .int .i64 0, .slice none 0 0]
  simpa using this
theorem wblkB (w : World) (cs : Array Value) : Below w.heap.size w ((w.alloc (.cells cs 27)).alloc (.cells #[.int .i64 0, .int .i64 0, .slice none 0 0] 27)) := ((Below.refl _ _).alloc (Nat.le_refl _) _).alloc (by simp) _
set_option maxRecDepth 20000 in
set_option maxHeartbeats 2000000 in
theorem rdue_no (A : Option Addr) (n c B now most : Nat) (L : List Tm) (id : Int) (w : World) (h : Rd w B 2 A n (tcs L)) (hn : n ≤ 5000) (hB : B ≤ w.heap.size) (hno : ∀ t, (id, t) ∉ L) :
    Calls Try.prog 16 #[.agg #[.int .i64 (now : Nat), .int .i64 (most : Nat), .slice A n c], .int .i64 id] w fun e w' => e = .returned (.tuple #[.int .i64 0, .bool false]) ∧ Below w.heap.size w w' := by
  have HR := Lib.hid h
  have HNO := Lib.hid hno
  clear h hno
  go_enter Try.func16, Try.ntmps16
  go_wp2_with fail
  have K0 := Lib.hid (Blk.new w 27 #[.int .i64 (now : Nat), .int .i64 (most : Nat), .slice A n c])
  have B0 := Lib.hid ((Below.refl w.heap.size w).alloc (Nat.le_refl _) (.cells #[.int .i64 (now : Nat), .int .i64 (most : Nat), .slice A n c] 27))
  generalize (w.alloc (.cells #[.int .i64 (now : Nat), .int .i64 (most : Nat), .slice A n c] 27)) = w2 at K0 B0 ⊢
  obtain ⟨c0, c1, c2⟩ := ptc3 K0.out
  go_loopw [6] (fun iv wr => ∃ (i : Nat), i ≤ n ∧ iv = .int .i64 (i : Nat) ∧ w2 = wr) (fun iv _ => n - (intOf iv).toNat)
  case atStart => exact ⟨0, Nat.zero_le _, rfl, rfl⟩
  case round =>
    obtain ⟨i, hi, rfl, hwk⟩ := hrel
    obtain rfl := hwk
    by_cases hlt : i < n
    · have hlt' : (i : Int) < (n : Int) := by omega
      obtain ⟨b, o, x, y, rfl, hb, q0, q1, hx⟩ := (HR.out.below (B0.out.mono hB)).tm hlt
      have he : ¬ x = id := fun e => HNO.out y (by rw [← e]; exact List.mem_of_getElem? hx.out)
      clear hx
      go_wp2_with fail
      go_roundw
      case rel => exact ⟨i + 1, by omega, by go_num, trivial⟩
      case measure => simp [intOf]; omega
    · go_wp2_with fail
      go_ret2
      exact ⟨rfl, B0.out⟩
set_option maxRecDepth 20000 in
set_option maxHeartbeats 2000000 in
theorem rdue_yes (A : Option Addr) (n c B now most t : Nat) (L : List Tm) (id : Int) (w : World) (h : Rd w B 2 A n (tcs L)) (hn : n ≤ 5000) (hB : B ≤ w.heap.size) (hnow : now ≤ 4000000000) (htb : t ≤ 4294967296) (hmem : (id, t) ∈ L) (hu : ∀ y, (id, y) ∈ L → y = t) (hnt : now ≤ t) :
    Calls Try.prog 16 #[.agg #[.int .i64 (now : Nat), .int .i64 (most : Nat), .slice A n c], .int .i64 id] w fun e w' => e = .returned (.tuple #[.int .i64 ((t - now : Nat) : Int), .bool true]) ∧ Below w.heap.size w w' := by
  have HR := Lib.hid h
  have HL := Lib.hid h.tmLen
  have HM := Lib.hid hmem
  have HU := Lib.hid hu
  obtain ⟨d, hd⟩ : ∃ d, d = t - now := ⟨_, rfl⟩
  have hsub : (t : Int) - (now : Int) = (d : Nat) := by omega
  have hwd : IntKind.i64.wrap (d : Int) = (d : Nat) := by rw [IntKind.wrap_i64]; omega
  rw [← hd]
  clear h hmem hu hd
  go_enter Try.func16, Try.ntmps16
  go_wp2_with fail
  have K0 := Lib.hid (Blk.new w 27 #[.int .i64 (now : Nat), .int .i64 (most : Nat), .slice A n c])
  have B0 := Lib.hid ((Below.refl w.heap.size w).alloc (Nat.le_refl _) (.cells #[.int .i64 (now : Nat), .int .i64 (most : Nat), .slice A n c] 27))
  generalize (w.alloc (.cells #[.int .i64 (now : Nat), .int .i64 (most : Nat), .slice A n c] 27)) = w2 at K0 B0 ⊢
  obtain ⟨c0, c1, c2⟩ := ptc3 K0.out
  go_loopw [6] (fun iv wr => ∃ (i : Nat), i ≤ n ∧ iv = .int .i64 (i : Nat) ∧ Hid (∀ y, (id, y) ∉ L.take i) ∧ w2 = wr) (fun iv _ => n - (intOf iv).toNat)
  case atStart => exact ⟨0, Nat.zero_le _, rfl, Lib.hid (by simp), rfl⟩
  case round =>
    obtain ⟨i, hi, rfl, HNO, hwk⟩ := hrel
    obtain rfl := hwk
    by_cases hlt : i < n
    · have hlt' : (i : Int) < (n : Int) := by omega
      obtain ⟨b, o, x, y, rfl, hb, q0, q1, hx⟩ := (HR.out.below (B0.out.mono hB)).tm hlt
      by_cases he : x = id
      · subst he
        obtain rfl : y = t := HU.out y (List.mem_of_getElem? hx.out)
        clear hx
        go_wp2_with fail
        refine wp_ext (by kernel_rfl) (by kernel_rfl) (fun QQ hQ => ?_)
        iterate 11 (first | (refine x_skip (by rfl) ?_; simp only [Act.put, List.setIfInBounds_toArray, List.set_cons_zero, List.set_cons_succ]) | (first | (refine x_load _ (by rfl) rfl rfl (by assumption) (by kernel_rfl) ?_; simp only [Act.put, List.setIfInBounds_toArray, List.set_cons_zero, List.set_cons_succ]) | (refine x_val (v := ?_) (by rfl) (fun w' hx => ?_) ?_; rotate_left; (focus (go_simp; (try with_reducible rfl))); (try simp only [Act.put, List.setIfInBounds_toArray, List.set_cons_zero, List.set_cons_succ]))))
        refine x_nil (hQ.out _ ?_); clear hQ QQ
        intro w9 hb9
        have B9 := Lib.hid (B0.out.trans (hb9.mono B0.out.size))
        clear hb9
        go_wp2_with fail
        go_ret2
        exact ⟨rfl, B9.out⟩
      · have HNO2 : Hid (∀ y, (id, y) ∉ L.take (i + 1)) := Lib.hid fun z hz => by
          rw [nth_take hx] at hz
          rcases List.mem_append.1 hz with hz | hz
          · exact HNO.out z hz
          · obtain hz := List.mem_singleton.1 hz
            injection hz with hz _
            exact he hz.symm
        clear hx
        go_wp2_with fail
        go_roundw
        case rel => exact ⟨i + 1, by omega, by go_num, HNO2, trivial⟩
        case measure => simp [intOf]; omega
    · exfalso
      have hie : i = n := by omega
      subst hie
      exact HNO.out t (by rw [List.take_of_length_le (by rw [HL.out]; exact Nat.le_refl _)]; exact HM.out)
theorem min_take {l : List Tm} {i : Nat} {x : Tm} {t : Nat} (h : Hid (l[i]? = some x)) (hm : IsMin (l.take i) t) : IsMin (l.take (i + 1)) (if x.2 < t then x.2 else t) := by
  rw [nth_take h]
  obtain ⟨⟨y, hy, e⟩, h2⟩ := hm
  split
  · exact ⟨⟨x, by simp, rfl⟩, fun z hz => by
      rcases List.mem_append.1 hz with hz | hz
      · have := h2 z hz; omega
      · obtain rfl := List.mem_singleton.1 hz; exact Nat.le_refl _⟩
  · exact ⟨⟨y, by simp [hy], e⟩, fun z hz => by
      rcases List.mem_append.1 hz with hz | hz
      · exact h2 z hz
      · obtain rfl := List.mem_singleton.1 hz; omega⟩
set_option maxRecDepth 20000 in
set_option maxHeartbeats 2000000 in
theorem rnext_any (A : Option Addr) (n c B now most : Nat) (L : List Tm) (w : World) (h : Rd w B 2 A n (tcs L)) (hn : n ≤ 5000) (hB : B ≤ w.heap.size) (hnow : now ≤ 4000000000) (hbd : ∀ x ∈ L, now < x.2 ∧ x.2 ≤ now + 65535) :
    Calls Try.prog 18 #[.agg #[.int .i64 (now : Nat), .int .i64 (most : Nat), .slice A n c]] w fun e w' => ((L = [] ∧ e = .returned (.tuple #[.int .i64 0, .bool false])) ∨ ∃ t, IsMin L t ∧ e = .returned (.tuple #[.int .i64 ((t - now : Nat) : Int), .bool true])) ∧ Below w.heap.size w w' := by
  have HR := Lib.hid h
  have HL := Lib.hid h.tmLen
  have HB := Lib.hid hbd
  clear h hbd
  go_enter Try.func18, Try.ntmps18
  go_wp2_with fail
  have K0 := Lib.hid (Blk.new w 27 #[.int .i64 (now : Nat), .int .i64 (most : Nat), .slice A n c])
  have B0 := Lib.hid ((Below.refl w.heap.size w).alloc (Nat.le_refl _) (.cells #[.int .i64 (now : Nat), .int .i64 (most : Nat), .slice A n c] 27))
  obtain ⟨g0, hg0⟩ : ∃ x, x = w.heap.size := ⟨_, rfl⟩
  have HG0 := Lib.hid hg0
  generalize (w.alloc (.cells #[.int .i64 (now : Nat), .int .i64 (most : Nat), .slice A n c] 27)) = w2 at K0 B0 ⊢
  rw [← hg0] at K0 B0 ⊢
  clear hg0
  go_loopw [4, 5] (fun bv iv wr => ∃ (i best : Nat), i ≤ n ∧ iv = .int .i64 (i : Nat) ∧ bv = .int .i64 (best : Nat) ∧ best ≤ 65535 ∧ Hid ((i = 0 ∧ best = 0) ∨ (0 < i ∧ ∃ t, IsMin (L.take i) t ∧ best = t - now ∧ now < t)) ∧ Hid (Below w2.heap.size w2 wr)) (fun _ iv _ => n - (intOf iv).toNat)
  case atStart => exact ⟨0, 0, Nat.zero_le _, rfl, rfl, by omega, Lib.hid (.inl ⟨rfl, rfl⟩), Lib.hid (Below.refl _ _)⟩
  case round =>
    obtain ⟨i, best, hi, rfl, rfl, hbest, HS, BB⟩ := hrel
    have K2 := Lib.hid (K0.out.below BB.out K0.out.lt)
    have B2 := Lib.hid (B0.out.trans (BB.out.mono (Nat.le_of_lt K0.out.lt)))
    obtain ⟨c0, c1, c2⟩ := ptc3 K2.out
    by_cases hlt : i < n
    · have hlt' : (i : Int) < (n : Int) := by omega
      obtain ⟨b, o, x, y, rfl, hb, q0, q1, hx⟩ := (HR.out.below (B2.out.mono (by rw [HG0.out]; exact hB))).tm hlt
      have hbx := HB.out _ (List.mem_of_getElem? hx.out)
      simp only at hbx
      obtain ⟨d, hd⟩ : ∃ d, d = y - now := ⟨_, rfl⟩
      have hsub : (y : Int) - (now : Int) = (d : Nat) := by omega
      have hd6 : d ≤ 65535 := by omega
      have hwd : IntKind.i64.wrap (d : Int) = (d : Nat) := by rw [IntKind.wrap_i64]; omega
      have HD := Lib.hid hd
      have HBX := Lib.hid hbx
      clear hd hbx
      go_wp2_with fail
      refine wp_ext (by kernel_rfl) (by kernel_rfl) (fun QQ hQ => ?_)
      iterate 10 (first | (refine x_skip (by rfl) ?_; simp only [Act.put, List.setIfInBounds_toArray, List.set_cons_zero, List.set_cons_succ]) | (first | (refine x_load _ (by rfl) rfl rfl (by assumption) (by kernel_rfl) ?_; simp only [Act.put, List.setIfInBounds_toArray, List.set_cons_zero, List.set_cons_succ]) | (refine x_val (v := ?_) (by rfl) (fun w' hx => ?_) ?_; rotate_left; (focus (go_simp; (try with_reducible rfl))); (try simp only [Act.put, List.setIfInBounds_toArray, List.set_cons_zero, List.set_cons_succ]))))
      refine x_nil (hQ.out _ ?_); clear hQ QQ
      intro w9 hb9
      have B9 := Lib.hid (BB.out.trans (hb9.mono BB.out.size))
      clear hb9 c0 c1 c2 q0 q1 hsub hwd
      by_cases h0 : i = 0
      · have hi0 : (i : Int) = 0 := by omega
        have HS2 : Hid ((i + 1 = 0 ∧ d = 0) ∨ (0 < i + 1 ∧ ∃ t, IsMin (L.take (i + 1)) t ∧ d = t - now ∧ now < t)) := Lib.hid (.inr ⟨by omega, y, ⟨⟨(x, y), by rw [nth_take hx]; simp, rfl⟩, fun z hz => by
          rw [nth_take hx, h0] at hz
          simp at hz
          rw [hz]
          exact Nat.le_refl _⟩, HD.out, HBX.out.1⟩)
        subst h0
        go_wp2_with fail
        go_roundw
        case rel => exact ⟨0 + 1, d, by omega, by go_num, rfl, hd6, HS2, B9⟩
        case measure => simp [intOf]; omega
      · obtain ⟨t, hmt, hbt, hnt⟩ : ∃ t, IsMin (L.take i) t ∧ best = t - now ∧ now < t := by
          rcases HS.out with ⟨e, _⟩ | ⟨_, h⟩
          · exact absurd e h0
          · exact h
        have hmt2 := min_take hx hmt
        have hi0 : ¬ (i : Int) = 0 := by omega
        by_cases hdb : d < best
        · have hdb' : (d : Int) < (best : Int) := by omega
          rw [if_pos (by have := HD.out; have := HBX.out; simp only; omega)] at hmt2
          have HS2 : Hid ((i + 1 = 0 ∧ d = 0) ∨ (0 < i + 1 ∧ ∃ t, IsMin (L.take (i + 1)) t ∧ d = t - now ∧ now < t)) := Lib.hid (.inr ⟨by omega, y, hmt2, HD.out, HBX.out.1⟩)
          clear hmt hbt hnt hmt2
          go_wp2_with fail
          go_roundw
          case rel => exact ⟨i + 1, d, by omega, by go_num, rfl, hd6, HS2, B9⟩
          case measure => simp [intOf]; omega
        · have hdb' : ¬ (d : Int) < (best : Int) := by omega
          rw [if_neg (by have := HD.out; have := HBX.out; simp only; omega)] at hmt2
          have HS2 : Hid ((i + 1 = 0 ∧ best = 0) ∨ (0 < i + 1 ∧ ∃ t, IsMin (L.take (i + 1)) t ∧ best = t - now ∧ now < t)) := Lib.hid (.inr ⟨by omega, t, hmt2, hbt, hnt⟩)
          clear hmt hbt hnt hmt2
          go_wp2_with fail
          go_roundw
          case rel => exact ⟨i + 1, best, by omega, by go_num, rfl, hbest, HS2, B9⟩
          case measure => simp [intOf]; omega
    · have hie : i = n := by omega
      subst hie
      have HTK : Hid (L.take i = L) := Lib.hid (List.take_of_length_le (by rw [HL.out]; exact Nat.le_refl _))
      rw [HTK.out] at HS
      by_cases h0 : i = 0
      · have hb0 : best = 0 := by
          rcases HS.out with ⟨_, e⟩ | ⟨e, _⟩
          · exact e
          · omega
        have HNIL : Hid (L = []) := Lib.hid (List.eq_nil_of_length_eq_zero (by rw [HL.out]; exact h0))
        subst h0 hb0
        go_wp2_with fail
        refine wp_ext (by kernel_rfl) (by kernel_rfl) (fun QQ hQ => ?_)
        iterate 7 (first | (refine x_skip (by rfl) ?_; simp only [Act.put, List.setIfInBounds_toArray, List.set_cons_zero, List.set_cons_succ]) | (first | (refine x_load _ (by rfl) rfl rfl (by assumption) (by kernel_rfl) ?_; simp only [Act.put, List.setIfInBounds_toArray, List.set_cons_zero, List.set_cons_succ]) | (refine x_val (v := ?_) (by rfl) (fun w' hx => ?_) ?_; rotate_left; (focus (go_simp; (try with_reducible rfl))); (try simp only [Act.put, List.setIfInBounds_toArray, List.set_cons_zero, List.set_cons_succ]))))
        refine x_nil (hQ.out _ ?_); clear hQ QQ
        intro w9 hb9
        have B9 := Lib.hid (B2.out.trans (hb9.mono (Nat.le_of_lt K2.out.lt)))
        clear hb9
        go_wp2_with fail
        go_ret2
        exact ⟨.inl ⟨HNIL.out, rfl⟩, by rw [← HG0.out]; exact B9.out⟩
      · obtain ⟨t, hmt, hbt, hnt⟩ : ∃ t, IsMin L t ∧ best = t - now ∧ now < t := by
          rcases HS.out with ⟨e, _⟩ | ⟨_, h⟩
          · exact absurd e h0
          · exact h
        have HMT := Lib.hid hmt
        have HBT := Lib.hid hbt
        have hi0 : decide (0 < i) = true := decide_eq_true (by omega)
        have hi1 : decide ((0 : Int) < (i : Int)) = true := decide_eq_true (by omega)
        clear hmt hbt hnt
        go_wp2_with fail
        refine wp_ext (by kernel_rfl) (by kernel_rfl) (fun QQ hQ => ?_)
        iterate 7 (first | (refine x_skip (by rfl) ?_; simp only [Act.put, List.setIfInBounds_toArray, List.set_cons_zero, List.set_cons_succ]) | (first | (refine x_load _ (by rfl) rfl rfl (by assumption) (by kernel_rfl) ?_; simp only [Act.put, List.setIfInBounds_toArray, List.set_cons_zero, List.set_cons_succ]) | (refine x_val (v := ?_) (by rfl) (fun w' hx => ?_) ?_; rotate_left; (focus (go_simp; (try with_reducible rfl))); (try simp only [Act.put, List.setIfInBounds_toArray, List.set_cons_zero, List.set_cons_succ]))))
        refine x_nil (hQ.out _ ?_); clear hQ QQ
        intro w9 hb9
        have B9 := Lib.hid (B2.out.trans (hb9.mono (Nat.le_of_lt K2.out.lt)))
        clear hb9
        go_wp2_with fail
        go_ret2
        exact ⟨.inr ⟨t, HMT.out, by rw [← HBT.out]; rfl⟩, by rw [← HG0.out]; exact B9.out⟩
set_option maxRecDepth 20000 in
set_option maxHeartbeats 2000000 in
theorem radd_bad (A : Option Addr) (n c now most : Nat) (id ticks : Int) (w : World) (ht : ticks < 1 ∨ 65535 < ticks) :
    Calls Try.prog 13 #[.agg #[.int .i64 (now : Nat), .int .i64 (most : Nat), .slice A n c], .int .i64 id, .int .i64 ticks] w fun e w' => e = .returned (.tuple #[.agg #[.int .i64 (now : Nat), .int .i64 (most : Nat), .slice A n c], .bool false]) ∧ Below w.heap.size w w' := by
  have k1 : Blk ((w.alloc (.cells #[.int .i64 (now : Nat), .int .i64 (most : Nat), .slice A n c] 27)).alloc (.cells #[.int .i64 (now : Nat), .int .i64 (most : Nat), .slice A n c] 27)) (w.heap.size + 1) 27 #[.int .i64 (now : Nat), .int .i64 (most : Nat), .slice A n c] := by
    have := Blk.new (w.alloc (.cells #[.int .i64 (now : Nat), .int .i64 (most : Nat), .slice A n c] 27)) 27 #[.int .i64 (now : Nat), .int .i64 (most : Nat), .slice A n c]
    simpa using this
  have HB9 : Hid (Below w.heap.size w ((w.alloc (.cells #[.int .i64 (now : Nat), .int .i64 (most : Nat), .slice A n c] 27)).alloc (.cells #[.int .i64 (now : Nat), .int .i64 (most : Nat), .slice A n c] 27))) := Lib.hid (((Below.refl _ _).alloc (Nat.le_refl _) _).alloc (by simp) _)
  obtain ⟨y0, y1, y2⟩ := ptc3 k1
  clear k1
  rcases ht with ht | ht
  · go_enter Try.func13, Try.ntmps13
    go_wp2_with fail
    exact bodyPost_ret (v := .tuple #[.agg #[.int .i64 (now : Nat), .int .i64 (most : Nat), .slice A n c], .bool false]) (by simp [results, Try.results13, go_sem, y0, y1, y2]) rfl ⟨rfl, HB9.out⟩
  · have h1 : ¬ ticks < 1 := by omega
    go_enter Try.func13, Try.ntmps13
    go_wp2_with fail
    exact bodyPost_ret (v := .tuple #[.agg #[.int .i64 (now : Nat), .int .i64 (most : Nat), .slice A n c], .bool false]) (by simp [results, Try.results13, go_sem, y0, y1, y2]) rfl ⟨rfl, HB9.out⟩
set_option maxRecDepth 20000 in
set_option maxHeartbeats 2000000 in
theorem radd_full (A : Option Addr) (n c B now most k : Nat) (L : List Tm) (id : Int) (w : World) (h : Rd w B 2 A n (tcs L)) (hn : n ≤ 4500) (hB : B ≤ w.heap.size) (hnow : now ≤ 4000000000) (h1 : 1 ≤ k) (h2 : k ≤ 65535) (hf : most ≤ (rmL L id).length) :
    Calls Try.prog 13 #[.agg #[.int .i64 (now : Nat), .int .i64 (most : Nat), .slice A n c], .int .i64 id, .int .i64 (k : Nat)] w fun e w' => ∃ v', e = .returned (.tuple #[.agg #[.int .i64 (now : Nat), .int .i64 (most : Nat), v'], .bool false]) ∧ TOwn w' w.heap.size v' (rmL L id) ∧ Below w.heap.size w w' := by
  have t1 : ¬ (k : Int) < 1 := by omega
  have t2 : ¬ (65535 : Int) < (k : Int) := by omega
  have t3 : ¬ k < 1 := by omega
  have t4 : ¬ 65535 < k := by omega
  have hlen : (rmL L id).length ≤ n := by rw [← h.tmLen]; exact rmL_le L id
  obtain ⟨m, hm⟩ : ∃ m, m = (rmL L id).length := ⟨_, rfl⟩
  rw [← hm] at hf hlen
  have HM := Lib.hid hm
  have HF := Lib.hid hf
  have HC := Lib.hid (fun (w2 : World) (h2 : Rd w2 B 2 A n (tcs L)) (hb : B ≤ w2.heap.size) => rcancel_any A n c B now most L id w2 h2 (by omega) hb)
  have HR := Lib.hid h
  have K0 := Lib.hid (wblk0 w #[.int .i64 (now : Nat), .int .i64 (most : Nat), .slice A n c])
  have K1 := Lib.hid (wblk1 w #[.int .i64 (now : Nat), .int .i64 (most : Nat), .slice A n c])
  have B0 := Lib.hid (wblkB w #[.int .i64 (now : Nat), .int .i64 (most : Nat), .slice A n c])
  clear h hm h1 h2 hf
  go_enter Try.func13, Try.ntmps13
  go_upto_region 1 with fail
  obtain ⟨g0, hg0⟩ : ∃ x, x = w.heap.size := ⟨_, rfl⟩
  have HG0 := Lib.hid hg0
  generalize ((w.alloc (.cells #[.int .i64 (now : Nat), .int .i64 (most : Nat), .slice A n c] 27)).alloc (.cells #[.int .i64 0, .int .i64 0, .slice none 0 0] 27)) = w2 at K0 K1 B0 ⊢
  rw [← hg0] at K0 K1 B0 ⊢
  clear hg0
  obtain ⟨c0, c1, c2⟩ := ptc3 K0.out
  go_wp2_with fail
  refine (HC.out w2 (HR.out.below (B0.out.mono (by rw [HG0.out]; exact hB))) (Nat.le_trans hB (by rw [← HG0.out]; exact Nat.le_of_lt K0.out.lt))).mono ?_
  rintro e w3 ⟨v3, rfl, ho3, hb3⟩
  have K3 := Lib.hid (K0.out.below hb3 K0.out.lt)
  have M3 := Lib.hid (K1.out.below hb3 K1.out.lt)
  have O3 : Hid (w3.ownsRow g0 56 2 v3 m (tcs (rmL L id))) := Lib.hid (by unfold TOwn at ho3; rw [← HM.out] at ho3; exact own_mono ho3 (Nat.le_of_lt K0.out.lt))
  have B3 := Lib.hid (B0.out.trans (hb3.mono (Nat.le_of_lt K0.out.lt)))
  clear ho3 hb3 K0 K1 B0 HC c0 c1 c2
  obtain ⟨A3, cc3, rfl, hnc3, hcm3, _⟩ := own_form O3.out
  have f0 := K3.out.frozen 0
  have f1 := K3.out.frozen 1
  have f2 := K3.out.frozen 2
  obtain ⟨d0, d1, d2⟩ := ptc3 K3.out
  go_upto_region 4 with fail
  have hs4 : Solo g0 w3 (((w3.setCell ⟨g0, 0, none⟩ (.int .i64 (now : Nat))).setCell ⟨g0, 1, none⟩ (.int .i64 (most : Nat))).setCell ⟨g0, 2, none⟩ (.slice A3 m cc3)) := (((Solo.refl (g := g0) (w := w3)).setCell 0 (.int .i64 (now : Nat))).setCell 1 (.int .i64 (most : Nat))).setCell 2 (.slice A3 m cc3)
  have K4 := Lib.hid (show Blk (((w3.setCell ⟨g0, 0, none⟩ (.int .i64 (now : Nat))).setCell ⟨g0, 1, none⟩ (.int .i64 (most : Nat))).setCell ⟨g0, 2, none⟩ (.slice A3 m cc3)) g0 27 #[.int .i64 (now : Nat), .int .i64 (most : Nat), .slice A3 m cc3] from ((K3.out.set 0 (.int .i64 (now : Nat))).set 1 (.int .i64 (most : Nat))).set 2 (.slice A3 m cc3))
  have M4 := Lib.hid (hs4.blk M3.out (by omega))
  have O4 := Lib.hid (own_kept O3.out fun k hk => hs4.2.2 k (fun e => own_nw O3.out K3.out (by decide) (by rw [← e]; exact hk)))
  have B4 := Lib.hid (B3.out.trans hs4.1)
  clear hs4 K3 M3 O3 B3 f0 f1 f2 d0 d1 d2
  generalize (((w3.setCell ⟨g0, 0, none⟩ (.int .i64 (now : Nat))).setCell ⟨g0, 1, none⟩ (.int .i64 (most : Nat))).setCell ⟨g0, 2, none⟩ (.slice A3 m cc3)) = w4 at K4 M4 O4 B4 ⊢
  obtain ⟨d0, d1, d2⟩ := ptc3 K4.out
  have z0 := M4.out.frozen 0
  have z1 := M4.out.frozen 1
  have z2 := M4.out.frozen 2
  obtain ⟨e0, e1, e2⟩ := ptc3 M4.out
  have hfi : (most : Int) ≤ (m : Int) := by have := HF.out; omega
  have hfn : most ≤ m := HF.out
  go_wp2_with fail
  have M9 := ((M4.out.set 0 (.int .i64 (now : Nat))).set 1 (.int .i64 (most : Nat))).set 2 (.slice A3 m cc3)
  have hs9 := (((Solo.refl (g := g0 + 1) (w := w4)).setCell 0 (.int .i64 (now : Nat))).setCell 1 (.int .i64 (most : Nat))).setCell 2 (.slice A3 m cc3)
  have M9 := (show Blk _ (g0 + 1) 27 #[.int .i64 (now : Nat), .int .i64 (most : Nat), .slice A3 m cc3] from M9)
  have HO9 := own_kept O4.out fun k hk => hs9.2.2 k (fun e => own_nw O4.out M4.out (by decide) (by rw [← e]; exact hk))
  have HB9 := B4.out.trans (hs9.1.mono (Nat.le_succ g0))
  generalize (((w4.setCell ⟨g0 + 1, 0, none⟩ (.int .i64 (now : Nat))).setCell ⟨g0 + 1, 1, none⟩ (.int .i64 (most : Nat))).setCell ⟨g0 + 1, 2, none⟩ (.slice A3 m cc3)) = w9 at M9 HO9 HB9 ⊢
  obtain ⟨y0, y1, y2⟩ := ptc3 M9
  rw [← HG0.out]
  exact bodyPost_ret (v := .tuple #[.agg #[.int .i64 (now : Nat), .int .i64 (most : Nat), .slice A3 m cc3], .bool false]) (by simp [results, Try.results13, go_sem, y0, y1, y2]) rfl ⟨_, rfl, by unfold TOwn; rw [← HM.out]; exact HO9, HB9⟩
set_option maxRecDepth 20000 in
set_option maxHeartbeats 2000000 in
theorem radd_put (A : Option Addr) (n c B now most k : Nat) (L : List Tm) (id : Int) (w : World) (h : Rd w B 2 A n (tcs L)) (hn : n ≤ 4500) (hB : B ≤ w.heap.size) (hnow : now ≤ 4000000000) (h1 : 1 ≤ k) (h2 : k ≤ 65535) (hf : (rmL L id).length < most) :
    Calls Try.prog 13 #[.agg #[.int .i64 (now : Nat), .int .i64 (most : Nat), .slice A n c], .int .i64 id, .int .i64 (k : Nat)] w fun e w' => ∃ v', e = .returned (.tuple #[.agg #[.int .i64 (now : Nat), .int .i64 (most : Nat), v'], .bool true]) ∧ TOwn w' w.heap.size v' (rmL L id ++ [(id, now + k)]) ∧ Below w.heap.size w w' := by
  have t1 : ¬ (k : Int) < 1 := by omega
  have t2 : ¬ (65535 : Int) < (k : Int) := by omega
  have t3 : ¬ k < 1 := by omega
  have t4 : ¬ 65535 < k := by omega
  have hlen : (rmL L id).length ≤ n := by rw [← h.tmLen]; exact rmL_le L id
  obtain ⟨m, hm⟩ : ∃ m, m = (rmL L id).length := ⟨_, rfl⟩
  rw [← hm] at hf hlen
  have HM := Lib.hid hm
  have HF := Lib.hid hf
  have HC := Lib.hid (fun (w2 : World) (h2 : Rd w2 B 2 A n (tcs L)) (hb : B ≤ w2.heap.size) => rcancel_any A n c B now most L id w2 h2 (by omega) hb)
  have HR := Lib.hid h
  have K0 := Lib.hid (wblk0 w #[.int .i64 (now : Nat), .int .i64 (most : Nat), .slice A n c])
  have K1 := Lib.hid (wblk1 w #[.int .i64 (now : Nat), .int .i64 (most : Nat), .slice A n c])
  have B0 := Lib.hid (wblkB w #[.int .i64 (now : Nat), .int .i64 (most : Nat), .slice A n c])
  clear h hm h1 h2 hf
  go_enter Try.func13, Try.ntmps13
  go_upto_region 1 with fail
  obtain ⟨g0, hg0⟩ : ∃ x, x = w.heap.size := ⟨_, rfl⟩
  have HG0 := Lib.hid hg0
  generalize ((w.alloc (.cells #[.int .i64 (now : Nat), .int .i64 (most : Nat), .slice A n c] 27)).alloc (.cells #[.int .i64 0, .int .i64 0, .slice none 0 0] 27)) = w2 at K0 K1 B0 ⊢
  rw [← hg0] at K0 K1 B0 ⊢
  clear hg0
  obtain ⟨c0, c1, c2⟩ := ptc3 K0.out
  go_wp2_with fail
  refine (HC.out w2 (HR.out.below (B0.out.mono (by rw [HG0.out]; exact hB))) (Nat.le_trans hB (by rw [← HG0.out]; exact Nat.le_of_lt K0.out.lt))).mono ?_
  rintro e w3 ⟨v3, rfl, ho3, hb3⟩
  have K3 := Lib.hid (K0.out.below hb3 K0.out.lt)
  have M3 := Lib.hid (K1.out.below hb3 K1.out.lt)
  have O3 : Hid (w3.ownsRow g0 56 2 v3 m (tcs (rmL L id))) := Lib.hid (by unfold TOwn at ho3; rw [← HM.out] at ho3; exact own_mono ho3 (Nat.le_of_lt K0.out.lt))
  have B3 := Lib.hid (B0.out.trans (hb3.mono (Nat.le_of_lt K0.out.lt)))
  clear ho3 hb3 K0 K1 B0 HC c0 c1 c2
  obtain ⟨A3, cc3, rfl, hnc3, hcm3, _⟩ := own_form O3.out
  have f0 := K3.out.frozen 0
  have f1 := K3.out.frozen 1
  have f2 := K3.out.frozen 2
  obtain ⟨d0, d1, d2⟩ := ptc3 K3.out
  go_upto_region 4 with fail
  have hs4 : Solo g0 w3 (((w3.setCell ⟨g0, 0, none⟩ (.int .i64 (now : Nat))).setCell ⟨g0, 1, none⟩ (.int .i64 (most : Nat))).setCell ⟨g0, 2, none⟩ (.slice A3 m cc3)) := (((Solo.refl (g := g0) (w := w3)).setCell 0 (.int .i64 (now : Nat))).setCell 1 (.int .i64 (most : Nat))).setCell 2 (.slice A3 m cc3)
  have K4 := Lib.hid (show Blk (((w3.setCell ⟨g0, 0, none⟩ (.int .i64 (now : Nat))).setCell ⟨g0, 1, none⟩ (.int .i64 (most : Nat))).setCell ⟨g0, 2, none⟩ (.slice A3 m cc3)) g0 27 #[.int .i64 (now : Nat), .int .i64 (most : Nat), .slice A3 m cc3] from ((K3.out.set 0 (.int .i64 (now : Nat))).set 1 (.int .i64 (most : Nat))).set 2 (.slice A3 m cc3))
  have M4 := Lib.hid (hs4.blk M3.out (by omega))
  have O4 := Lib.hid (own_kept O3.out fun k hk => hs4.2.2 k (fun e => own_nw O3.out K3.out (by decide) (by rw [← e]; exact hk)))
  have B4 := Lib.hid (B3.out.trans hs4.1)
  clear hs4 K3 M3 O3 B3 f0 f1 f2 d0 d1 d2
  generalize (((w3.setCell ⟨g0, 0, none⟩ (.int .i64 (now : Nat))).setCell ⟨g0, 1, none⟩ (.int .i64 (most : Nat))).setCell ⟨g0, 2, none⟩ (.slice A3 m cc3)) = w4 at K4 M4 O4 B4 ⊢
  obtain ⟨d0, d1, d2⟩ := ptc3 K4.out
  have hfi : ¬ (most : Int) ≤ (m : Int) := by have := HF.out; omega
  have hfn : ¬ most ≤ m := by have := HF.out; omega
  have hroom1 : m * 16 ≤ room := room_ge (by omega)
  obtain ⟨tt, htt⟩ : ∃ tt, tt = now + k := ⟨_, rfl⟩
  have hsum : (now : Int) + (k : Int) = (tt : Nat) := by omega
  have wtt : IntKind.i64.wrap (tt : Int) = (tt : Nat) := by rw [IntKind.wrap_i64]; omega
  have HSM := Lib.hid htt
  have R4 := Lib.hid (Rd.of_own O4.out)
  clear htt
  go_upto_region 6 with fail
  refine GH.wp_ghl2 (M := false) 11 ((GH.SP.row0 56 (w4.heap.size)) :: (GH.SP.eq (.pointer (some ⟨g0, 2, none⟩))) :: (GH.SP.eq (.slice A3 m cc3)) :: (GH.SP.row 56 2 (w4.heap.size) (m) (tcs (rmL L id))) :: (GH.SP.eq (.int .i64 id)) :: (GH.SP.eq (.pointer (some ⟨g0, 0, none⟩))) :: (GH.SP.eq (.int .i64 (now : Nat))) :: (GH.SP.eq (.int .i64 (k : Nat))) :: (GH.SP.eq (.int .i64 (tt : Nat))) :: (GH.SP.eq (.agg #[.int .i64 id, .int .i64 (tt : Nat)])) :: (GH.SP.rd 2 1 (tcs [(id, tt)])) :: []) (none :: none :: none :: none :: none :: none :: none :: none :: none :: none :: none :: none :: none :: none :: none :: none :: none :: none :: none :: none :: none :: none :: none :: none :: none :: none :: none :: none :: (some 0) :: (some 1) :: (some 2) :: (some 3) :: (some 4) :: (some 5) :: (some 6) :: (some 7) :: (some 8) :: (some 9) :: (some 10) :: none :: none :: none :: []) [28, 29, 30, 31, 32, 33, 34, 35, 36, 37, 38] (by rfl) (by kernel_rfl) (by kernel_rfl) ?_ ?_ ?_
  · intro S jx v hjx
    match jx, hjx with
    | 0, _ => rfl
    | 1, _ => rfl
    | 2, _ => rfl
    | 3, _ => rfl
    | 4, _ => rfl
    | 5, _ => rfl
    | 6, _ => rfl
    | 7, _ => rfl
    | 8, _ => rfl
    | 9, _ => rfl
    | 10, _ => rfl
    | nx + 11, hjx => omega
  · intro jx hjx S w' hb hd
    match jx, hjx, hd with
    | 0, _, hd =>
      simp only [GH.mkL, List.getD_cons_succ, List.getD_cons_zero]
      clear hd
      refine ⟨fun K hK => ?_⟩
      go_wp2_with fail
      exact hK _ _ (GH.Gr.of ((Below.refl _ _).alloc (Nat.le_refl _) _) hb.below.size) ⟨_, rfl, hb.below.size, Blk.new _ _ _⟩
    | 1, _, hd =>
      simp only [GH.mkL, List.getD_cons_succ, List.getD_cons_zero]
      clear hd
      refine GH.st_eq (by rfl) ?_
      go_simp
      (try with_reducible rfl)
    | 2, _, hd =>
      simp only [GH.mkL, List.getD_cons_succ, List.getD_cons_zero]
      have d1 : S 1 = .pointer (some ⟨g0, 2, none⟩) := (hd 1 (by kernel_rfl)).2
      rw [d1]
      clear d1
      clear hd
      exact GH.st_load _ (by rfl) rfl rfl (((K4.out.below hb.below K4.out.lt)).cell 2) (by kernel_rfl)
    | 3, _, hd =>
      simp only [GH.mkL, List.getD_cons_succ, List.getD_cons_zero]
      obtain ⟨G0, d0, hB0, K0⟩ := (hd 0 (by kernel_rfl)).2
      rw [d0]
      clear d0
      replace K0 := Lib.hid K0
      have d2 : S 2 = .slice A3 m cc3 := (hd 2 (by kernel_rfl)).2
      rw [d2]
      clear d2
      clear hd
      exact GH.st_app0 tEl _ _ (by rfl) rfl rfl rfl K0.out hB0 hb.below.size (R4.out.below hb.below) (tcs_one (rmL L id)) hroom1
    | 4, _, hd =>
      simp only [GH.mkL, List.getD_cons_succ, List.getD_cons_zero]
      clear hd
      refine GH.st_eq (by rfl) ?_
      go_simp
      (try with_reducible rfl)
    | 5, _, hd =>
      simp only [GH.mkL, List.getD_cons_succ, List.getD_cons_zero]
      clear hd
      refine GH.st_eq (by rfl) ?_
      go_simp
      (try with_reducible rfl)
    | 6, _, hd =>
      simp only [GH.mkL, List.getD_cons_succ, List.getD_cons_zero]
      have d5 : S 5 = .pointer (some ⟨g0, 0, none⟩) := (hd 5 (by kernel_rfl)).2
      rw [d5]
      clear d5
      clear hd
      exact GH.st_load _ (by rfl) rfl rfl (((K4.out.below hb.below K4.out.lt)).cell 0) (by kernel_rfl)
    | 7, _, hd =>
      simp only [GH.mkL, List.getD_cons_succ, List.getD_cons_zero]
      clear hd
      refine GH.st_eq (by rfl) ?_
      go_simp
      (try with_reducible rfl)
    | 8, _, hd =>
      simp only [GH.mkL, List.getD_cons_succ, List.getD_cons_zero]
      have d6 : S 6 = .int .i64 (now : Nat) := (hd 6 (by kernel_rfl)).2
      rw [d6]
      clear d6
      have d7 : S 7 = .int .i64 (k : Nat) := (hd 7 (by kernel_rfl)).2
      rw [d7]
      clear d7
      clear hd
      refine GH.st_eq (by rfl) ?_
      go_simp
      (try simp only [hsum, wtt])
      (try with_reducible rfl)
    | 9, _, hd =>
      simp only [GH.mkL, List.getD_cons_succ, List.getD_cons_zero]
      have d4 : S 4 = .int .i64 id := (hd 4 (by kernel_rfl)).2
      rw [d4]
      clear d4
      have d8 : S 8 = .int .i64 (tt : Nat) := (hd 8 (by kernel_rfl)).2
      rw [d8]
      clear d8
      clear hd
      refine GH.st_eq (by rfl) ?_
      go_simp
      (try with_reducible rfl)
    | 10, _, hd =>
      simp only [GH.mkL, List.getD_cons_succ, List.getD_cons_zero]
      have d9 : S 9 = .agg #[.int .i64 id, .int .i64 (tt : Nat)] := (hd 9 (by kernel_rfl)).2
      rw [d9]
      clear d9
      clear hd
      refine ⟨fun K hK => ?_⟩
      go_wp2_with fail
      exact hK _ _ (GH.Gr.of ((Below.refl _ _).alloc (Nat.le_refl _) _) hb.below.size) (GH.rd_lit rfl rfl)
    | nx + 11, hjx, _ => omega
  intro S w' hb hG
  simp only [GH.mkL, List.drop_succ_cons, List.drop_zero]
  have H3 := Lib.hid (show World.ownsRow _ _ _ _ (S 3) _ _ from hG 3 (by omega))
  generalize S 3 = v3 at H3 ⊢
  obtain ⟨A10, c10, d10, e10, H10⟩ := hG 10 (by omega)
  rw [d10]
  clear d10
  replace H10 := Lib.hid H10
  clear hG
  have B9 := Lib.hid (B4.out.trans (hb.below.mono (Nat.le_of_lt K4.out.lt)))
  have K9 := Lib.hid (K4.out.below hb.below K4.out.lt)
  have M9 := Lib.hid (M4.out.below hb.below M4.out.lt)
  have hBz : w4.heap.size ≤ w'.heap.size := hb.below.size
  have HSZ := Nat.le_of_lt K4.out.lt
  have hroom5 : (m + 1) * 16 ≤ room := room_ge (by omega)
  have ONE := Lib.hid (tcs_one [(id, tt)])
  clear hb hroom1 d0 d1 d2
  obtain ⟨A2, c2, hv2, _, _, _⟩ := own_form H3.out
  subst hv2
  have f2 := K9.out.frozen 2
  go_wp2_with (at_builtin; go_must (refine app tEl rfl _ _ rfl rfl H3.out rfl H10.out ONE.out hroom5 hBz ?_))
  intro v5 w5 ho5 hg5 hb5
  have O5 : Hid (w5.ownsRow g0 56 2 v5 (m + 1) (tcs (rmL L id ++ [(id, tt)]))) := Lib.hid (by rw [tcs_append]; exact own_mono ho5 HSZ)
  have K5 := Lib.hid (K9.out.far2 H3.out (by decide) hg5)
  have M5 := Lib.hid (M9.out.far2 H3.out (by decide) hg5)
  have B5 := Lib.hid (B9.out.trans (hb5.mono HSZ))
  clear ho5 hg5 hb5 H3 H10 B9 K9 M9 f2
  obtain ⟨A5, c5, rfl, hnc5, hcm5, _⟩ := own_form O5.out
  have f2 := K5.out.frozen 2
  have z0 := M5.out.frozen 0
  have z1 := M5.out.frozen 1
  have z2 := M5.out.frozen 2
  obtain ⟨d0, d1, d2⟩ := ptc3 K5.out
  obtain ⟨e0, e1, e2⟩ := ptc3 M5.out
  go_wp2_with fail
  have hs6 : Solo g0 w5 (w5.setCell ⟨g0, 2, none⟩ (.slice A5 (m + 1) c5)) := Solo.refl.setCell 2 _
  have M7 := (((hs6.blk M5.out (by omega)).set 0 (.int .i64 (now : Nat))).set 1 (.int .i64 (most : Nat))).set 2 (.slice A5 (m + 1) c5)
  have hs9 := (((Solo.refl (g := g0 + 1) (w := w5.setCell ⟨g0, 2, none⟩ (.slice A5 (m + 1) c5))).setCell 0 (.int .i64 (now : Nat))).setCell 1 (.int .i64 (most : Nat))).setCell 2 (.slice A5 (m + 1) c5)
  have M7 := (show Blk _ (g0 + 1) 27 #[.int .i64 (now : Nat), .int .i64 (most : Nat), .slice A5 (m + 1) c5] from M7)
  have HO9 := own_kept O5.out fun k hk => (hs9.2.2 k (fun e => own_nw O5.out M5.out (by decide) (by rw [← e]; exact hk))).trans (hs6.2.2 k (fun e => own_nw O5.out K5.out (by decide) (by rw [← e]; exact hk)))
  have HB9 := (B5.out.trans hs6.1).trans (hs9.1.mono (Nat.le_succ g0))
  generalize ((((w5.setCell ⟨g0, 2, none⟩ (.slice A5 (m + 1) c5)).setCell ⟨g0 + 1, 0, none⟩ (.int .i64 (now : Nat))).setCell ⟨g0 + 1, 1, none⟩ (.int .i64 (most : Nat))).setCell ⟨g0 + 1, 2, none⟩ (.slice A5 (m + 1) c5)) = w9 at M7 HO9 HB9 ⊢
  obtain ⟨y0, y1, y2⟩ := ptc3 M7
  rw [← HG0.out]
  exact bodyPost_ret (v := .tuple #[.agg #[.int .i64 (now : Nat), .int .i64 (most : Nat), .slice A5 (m + 1) c5], .bool true]) (by simp [results, Try.results13, go_sem, y0, y1, y2]) rfl ⟨_, rfl, by unfold TOwn; rw [List.length_append, ← HM.out, ← HSM.out]; exact HO9, HB9⟩
end Go.Proofs.Ytpeagibompohhaa
