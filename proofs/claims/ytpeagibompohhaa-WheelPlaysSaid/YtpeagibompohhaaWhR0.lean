/- Layer 29 by the document: rows of timers; Cancel. -/
import Derived.Test.YtpeagibompohhaaWhO
import Derived.Test.YtpeagibompohhaaSz3
import Derived.Test.YtpeagibompohhaaStm
namespace Go.Proofs.Ytpeagibompohhaa
open Go.RowKit
set_option linter.unusedVariables false
set_option linter.unusedSimpArgs false
def tmc (x : Tm) : List Value := [.int .i64 x.1, .int .i64 (x.2 : Int)]
def tcs (L : List Tm) : List Value := L.flatMap tmc
theorem tcs_append (l m : List Tm) : tcs (l ++ m) = tcs l ++ tcs m := by simp [tcs]
theorem tcs_len : ∀ l : List Tm, (tcs l).length = l.length * 2
  | [] => rfl
  | x :: l => by
    have := tcs_len l
    unfold tcs at this ⊢
    rw [List.flatMap_cons, List.length_append, this]
    simp [tmc]
    omega
theorem tcs_one (l : List Tm) : ∀ u ∈ tcs l, u.oneCell' = true := by
  intro u hu
  simp only [tcs, List.mem_flatMap, tmc] at hu
  obtain ⟨_, _, hu⟩ := hu
  simp at hu
  rcases hu with rfl | rfl <;> rfl
theorem tcs_get : ∀ {l : List Tm} {i : Nat} {p : Tm}, l[i]? = some p → (tcs l)[i * 2]? = some (.int .i64 p.1) ∧ (tcs l)[i * 2 + 1]? = some (.int .i64 (p.2 : Int))
  | [], i, p, h => by simp at h
  | q :: l, 0, p, h => by simp at h; subst h; exact ⟨rfl, rfl⟩
  | q :: l, i + 1, p, h => by
    have ih := tcs_get (l := l) (i := i) (p := p) (by simpa using h)
    have e0 : (i + 1) * 2 = i * 2 + 1 + 1 := by omega
    have e1 : (i + 1) * 2 + 1 = i * 2 + 1 + 1 + 1 := by omega
    rw [e1, e0]
    exact ih
theorem Rd.tm {w : World} {B n : Nat} {A : Option Addr} {l : List Tm} (h : Rd w B 2 A n (tcs l)) {i : Nat} (hi : i < n) :
    ∃ (b off : Nat) (x : Int) (y : Nat), A = some ⟨b, off, none⟩ ∧ b < B ∧ w.cell? ⟨b, off + i * 2, none⟩ = some (.int .i64 x) ∧ w.cell? ⟨b, off + i * 2 + 1, none⟩ = some (.int .i64 (y : Int)) ∧ Hid (l[i]? = some (x, y)) := by
  obtain ⟨b, off, e, hb, hc⟩ := h.2 (by omega)
  have hl : l.length = n := by have := h.1; rw [tcs_len] at this; omega
  have hg : l[i]? = some l[i] := by rw [List.getElem?_eq_getElem (by omega)]
  obtain ⟨g1, g2⟩ := tcs_get hg
  exact ⟨b, off, _, _, e, hb, (hc (i * 2) (by omega)).trans g1, (Nat.add_assoc off (i * 2) 1 ▸ hc (i * 2 + 1) (by omega)).trans g2, Lib.hid hg⟩
theorem Rd.tmLen {w : World} {B n : Nat} {A : Option Addr} {l : List Tm} (h : Rd w B 2 A n (tcs l)) : l.length = n := by have := h.1; rw [tcs_len] at this; omega
theorem tEl : El Try.prog 25 56 (.agg #[.int .i64 0, .int .i64 0]) 2 16 := ⟨Try.underlying25, by kernel_rfl, rfl, by decide, by decide⟩
theorem iElT : El Try.prog 31 3 (.int .i64 0) 1 8 := ⟨Try.underlying31, by kernel_rfl, rfl, by decide, by decide⟩
theorem rm_take {l : List Tm} {i : Nat} {x : Tm} {id : Int} (h : Hid (l[i]? = some x)) : rmL (l.take (i + 1)) id = rmL (l.take i) id ++ (if x.1 = id then [] else [x]) := by
  rw [nth_take h]
  unfold rmL
  rw [List.filter_append]
  by_cases e : x.1 = id
  · simp [e]
  · simp [e]
theorem hasL_len (L : List Tm) (id : Int) : decide ((rmL L id).length < L.length) = hasL L id := by
  by_cases h : ∃ t, (id, t) ∈ L
  · obtain ⟨t, ht⟩ := h
    rw [hasL_true ht]
    refine decide_eq_true ?_
    unfold rmL
    have := List.length_filter_lt_length_iff_exists (p := fun x : Tm => decide (x.1 ≠ id)) (l := L)
    exact this.2 ⟨_, ht, by simp⟩
  · have hn : ∀ t, (id, t) ∉ L := fun t ht => h ⟨t, ht⟩
    rw [hasL_false hn, rmL_none hn]
    exact decide_eq_false (Nat.lt_irrefl _)
/-- A row of timers of the call's own. -/
def TOwn (w : World) (B : Nat) (v : Value) (L : List Tm) : Prop := w.ownsRow B 56 2 v L.length (tcs L)
set_option maxRecDepth 20000 in
set_option maxHeartbeats 2000000 in
theorem rcancel_any (A : Option Addr) (n c B now most : Nat) (L : List Tm) (id : Int) (w : World) (h : Rd w B 2 A n (tcs L)) (hn : n ≤ 5000) (hB : B ≤ w.heap.size) :
    Calls Try.prog 8 #[.agg #[.int .i64 (now : Nat), .int .i64 (most : Nat), .slice A n c], .int .i64 id] w fun e w' => ∃ v', e = .returned (.tuple #[.agg #[.int .i64 (now : Nat), .int .i64 (most : Nat), v'], .bool (hasL L id)]) ∧ TOwn w' w.heap.size v' (rmL L id) ∧ Below w.heap.size w w' := by
  have HR := Lib.hid h
  have HL := Lib.hid h.tmLen
  clear h
  go_enter Try.func8, Try.ntmps8
  go_wp2_with fail
  obtain ⟨g0, hg0⟩ : ∃ x, x = w.heap.size := ⟨_, rfl⟩
  have HG0 := Lib.hid hg0
  have k0 : Blk ((w.alloc (.cells #[.int .i64 (now : Nat), .int .i64 (most : Nat), .slice A n c] 27)).alloc (.cells #[.int .i64 0, .int .i64 0, .slice none 0 0] 27)) g0 27 #[.int .i64 (now : Nat), .int .i64 (most : Nat), .slice A n c] := by
    rw [hg0]; exact (Blk.new w _ _).alloc _
  have k1 : Blk ((w.alloc (.cells #[.int .i64 (now : Nat), .int .i64 (most : Nat), .slice A n c] 27)).alloc (.cells #[.int .i64 0, .int .i64 0, .slice none 0 0] 27)) (g0 + 1) 27 #[.int .i64 0, .int .i64 0, .slice none 0 0] := by
    rw [hg0]; have := Blk.new (w.alloc (.cells #[.int .i64 (now : Nat), .int .i64 (most : Nat), .slice A n c] 27)) 27 #[.int .i64 0, .int .i64 0, .slice none 0 0]; simpa using this
  have b0 : Below w.heap.size w ((w.alloc (.cells #[.int .i64 (now : Nat), .int .i64 (most : Nat), .slice A n c] 27)).alloc (.cells #[.int .i64 0, .int .i64 0, .slice none 0 0] 27)) := ((Below.refl _ _).alloc (Nat.le_refl _) _).alloc (by simp) _
  have K0 := Lib.hid k0; have K1 := Lib.hid k1; have B0 := Lib.hid b0
  clear k0 k1 b0
  generalize ((w.alloc (.cells #[.int .i64 (now : Nat), .int .i64 (most : Nat), .slice A n c] 27)).alloc (.cells #[.int .i64 0, .int .i64 0, .slice none 0 0] 27)) = w2 at K0 K1 B0 ⊢
  rw [← hg0] at B0 ⊢
  clear hg0
  go_loopw [6, 7] (fun ov iv wr => ∃ (i : Nat), i ≤ n ∧ iv = .int .i64 (i : Nat) ∧ Hid (Blk wr g0 27 #[.int .i64 (now : Nat), .int .i64 (most : Nat), .slice A n c]) ∧ Hid (Blk wr (g0 + 1) 27 #[.int .i64 0, .int .i64 0, .slice none 0 0]) ∧ Hid (TOwn wr g0 ov (rmL (L.take i) id)) ∧ Hid (Below g0 w wr)) (fun _ iv _ => n - (intOf iv).toNat)
  case atStart => exact ⟨0, Nat.zero_le _, rfl, K0, K1, Lib.hid (World.ownsRow_nil _ _ _ _), B0⟩
  case round =>
    clear K0 K1 B0
    obtain ⟨i, hi, rfl, K0, K1, HO, BB⟩ := hrel
    obtain ⟨c0, c1, c2⟩ := ptc3 K0.out
    obtain ⟨A1, cc1, rfl, hnc1, hcm1, _⟩ := own_form HO.out
    obtain ⟨n1, hn1⟩ : ∃ k, k = (rmL (L.take i) id).length := ⟨_, rfl⟩
    have hle1 : n1 ≤ i := by rw [hn1]; exact Nat.le_trans (rmL_le _ _) (by simp; omega)
    have HN1 := Lib.hid hn1
    rw [← hn1] at hnc1 ⊢
    clear hn1
    by_cases hlt : i < n
    · have hlt' : (i : Int) < (n : Int) := by omega
      obtain ⟨b, o, x, y, rfl, hb, q0, q1, hx⟩ := (HR.out.below (BB.out.mono (by rw [HG0.out]; exact hB))).tm hlt
      have hrt := rm_take (id := id) hx
      by_cases he : x = id
      · subst he
        rw [if_pos rfl, List.append_nil] at hrt
        have HRT := Lib.hid hrt
        clear hrt hx
        go_wp2_with fail
        go_roundw
        case rel => exact ⟨i + 1, by omega, by go_num, K0, K1, by rw [HRT.out, HN1.out]; exact HO, BB⟩
        case measure => simp [intOf]; omega
      · rw [if_neg he] at hrt
        have HRT := Lib.hid hrt
        have hsz : g0 ≤ wr.heap.size := Nat.le_of_lt K0.out.lt
        have hroom2 := room_ge (x := (n1 + 1) * 16) (by omega)
        have hone : ∀ u ∈ (#[Value.int .i64 x, .int .i64 (y : Nat)] : Array Value).toList, u.oneCell' = true := tcs_one [(x, y)]
        have HONE := Lib.hid hone
        have O1 : Hid (wr.ownsRow g0 56 2 (.slice A1 n1 cc1) n1 (tcs (rmL (L.take i) id))) := Lib.hid (by have := HO.out; unfold TOwn at this; rw [← HN1.out] at this; exact this)
        clear hone hrt hx HO
        go_wp2_with (at_builtin; go_must (refine appZ tEl _ rfl HONE.out rfl _ _ rfl rfl O1.out rfl rfl hroom2 hsz ?_))
        intro v5 w5 ho5 hg5 hb5
        have O5 : Hid (TOwn w5 g0 v5 (rmL (L.take (i + 1)) id)) := Lib.hid (by unfold TOwn; rw [HRT.out, List.length_append, ← HN1.out, tcs_append]; exact ho5)
        have K5 := Lib.hid (K0.out.far2 O1.out (by decide) hg5)
        have M5 := Lib.hid (K1.out.far2 O1.out (by decide) hg5)
        have B5 := Lib.hid (BB.out.trans hb5)
        obtain ⟨A5, cc5, rfl, _⟩ := own_form O5.out
        clear ho5 hg5 hb5 q0 q1 O1 BB hsz K0 K1 c0 c1 c2
        go_wp2_with fail
        go_roundw
        case rel => exact ⟨i + 1, by omega, by go_num, K5, M5, O5, B5⟩
        case measure => simp [intOf]; omega
    · have hie : i = n := by omega
      subst hie
      have HTK : Hid (L.take i = L) := Lib.hid (List.take_of_length_le (by rw [HL.out]; exact Nat.le_refl _))
      rw [HTK.out] at HO HN1
      have f2 := K0.out.frozen 2
      have z0 := K1.out.frozen 0
      have z1 := K1.out.frozen 1
      have z2 := K1.out.frozen 2
      obtain ⟨d0, d1, d2⟩ := ptc3 K1.out
      obtain ⟨b1, hb1⟩ : ∃ b1, b1 = decide (n1 < i) := ⟨_, rfl⟩
      go_wp2_with fail
      have hs1 : Solo g0 wr (wr.setCell ⟨g0, 2, none⟩ (.slice A1 n1 cc1)) := Solo.refl.setCell 2 _
      have M9 := (((hs1.blk K1.out (by omega)).set 0 (.int .i64 (now : Nat))).set 1 (.int .i64 (most : Nat))).set 2 (.slice A1 n1 cc1)
      have hs2 := (((Solo.refl (g := g0 + 1) (w := wr.setCell ⟨g0, 2, none⟩ (.slice A1 n1 cc1))).setCell 0 (.int .i64 (now : Nat))).setCell 1 (.int .i64 (most : Nat))).setCell 2 (.slice A1 n1 cc1)
      have M9 := (show Blk _ (g0 + 1) 27 #[.int .i64 (now : Nat), .int .i64 (most : Nat), .slice A1 n1 cc1] from M9)
      have HHL := hasL_len L id
      rw [← HN1.out, HL.out] at HHL
      have HO9 := own_kept HO.out fun k hk => (hs2.2.2 k (fun e => own_nw HO.out K1.out (by decide) (by rw [← e]; exact hk))).trans (hs1.2.2 k (fun e => own_nw HO.out K0.out (by decide) (by rw [← e]; exact hk)))
      have HB9 := (BB.out.trans hs1.1).trans (hs2.1.mono (Nat.le_succ g0))
      generalize ((((wr.setCell ⟨g0, 2, none⟩ (.slice A1 n1 cc1)).setCell ⟨g0 + 1, 0, none⟩ (.int .i64 (now : Nat))).setCell ⟨g0 + 1, 1, none⟩ (.int .i64 (most : Nat))).setCell ⟨g0 + 1, 2, none⟩ (.slice A1 n1 cc1)) = w9 at M9 HO9 HB9 ⊢
      obtain ⟨y0, y1, y2⟩ := ptc3 M9
      rw [← HG0.out]
      exact bodyPost_ret (v := .tuple #[.agg #[.int .i64 (now : Nat), .int .i64 (most : Nat), .slice A1 n1 cc1], .bool (decide (n1 < i))]) (by simp [results, Try.results8, go_sem, y0, y1, y2]) rfl ⟨_, by rw [HHL, HN1.out], HO9, HB9⟩
end Go.Proofs.Ytpeagibompohhaa
