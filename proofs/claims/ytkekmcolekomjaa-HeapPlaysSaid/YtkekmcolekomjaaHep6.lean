/- Layer 42 by the document: row, Due. -/
import Derived.Test.YtkekmcolekomjaaHep5
namespace Go.Proofs.Ytkekmcolekomjaa
open Go.RowKit
set_option linter.unusedVariables false
set_option linter.unusedSimpArgs false
abbrev Pr := Int × Int
def prc (p : Pr) : List Value := [.int .i64 p.1, .int .i64 p.2]
def prs (l : List Pr) : List Value := l.flatMap prc
theorem prs_cons (p : Pr) (l : List Pr) : prs (p :: l) = .int .i64 p.1 :: .int .i64 p.2 :: prs l := rfl
theorem prs_append (l m : List Pr) : prs (l ++ m) = prs l ++ prs m := by simp [prs]
theorem prs_len (l : List Pr) : (prs l).length = l.length * 2 := by
  induction l with
  | nil => rfl
  | cons p l ih => rw [prs_cons, List.length_cons, List.length_cons, ih, List.length_cons]; omega
theorem prs_one (l : List Pr) : ∀ u ∈ prs l, u.oneCell' = true := by
  intro u hu
  simp only [prs, List.mem_flatMap, prc] at hu
  obtain ⟨_, _, hu⟩ := hu
  simp at hu
  rcases hu with rfl | rfl <;> rfl
theorem prs_get {l : List Pr} {i : Nat} {p : Pr} (h : l[i]? = some p) : (prs l)[i * 2]? = some (.int .i64 p.1) ∧ (prs l)[i * 2 + 1]? = some (.int .i64 p.2) := by
  induction l generalizing i with
  | nil => simp at h
  | cons q l ih =>
    cases i with
    | zero => simp at h; subst h; exact ⟨rfl, rfl⟩
    | succ i =>
      have e0 : (i + 1) * 2 = i * 2 + 1 + 1 := by omega
      have e1 : (i + 1) * 2 + 1 = i * 2 + 1 + 1 + 1 := by omega
      rw [prs_cons, e1, e0]
      simp only [List.getElem?_cons_succ]
      exact ih (by simpa using h)
theorem prs_drop (l : List Pr) (k : Nat) : (prs l).drop (k * 2) = prs (l.drop k) := by
  induction l generalizing k with
  | nil => simp [prs]
  | cons p l ih =>
    cases k with
    | zero => simp
    | succ k =>
      rw [show (k + 1) * 2 = k * 2 + 1 + 1 by omega, prs_cons]
      simp only [List.drop_succ_cons, ih]
theorem Rd.pr {w : World} {B n : Nat} {A : Option Addr} {l : List Pr} (h : Rd w B 2 A n (prs l)) {i : Nat} (hi : i < n) :
    ∃ (b off : Nat) (x y : Int), A = some ⟨b, off, none⟩ ∧ b < B ∧ w.cell? ⟨b, off + i * 2, none⟩ = some (.int .i64 x) ∧ w.cell? ⟨b, off + i * 2 + 1, none⟩ = some (.int .i64 y) ∧ Hid (l[i]? = some (x, y)) := by
  obtain ⟨b, off, e, hb, hc⟩ := h.2 (by omega)
  have hl : l.length = n := by have := h.1; rw [prs_len] at this; omega
  have hg : l[i]? = some l[i] := by rw [List.getElem?_eq_getElem (by omega)]
  obtain ⟨g1, g2⟩ := prs_get hg
  exact ⟨b, off, _, _, e, hb, (hc (i * 2) (by omega)).trans g1, (Nat.add_assoc off (i * 2) 1 ▸ hc (i * 2 + 1) (by omega)).trans g2, Lib.hid hg⟩
theorem Rd.prLen {w : World} {B n : Nat} {A : Option Addr} {l : List Pr} (h : Rd w B 2 A n (prs l)) : l.length = n := by have := h.1; rw [prs_len] at this; omega
set_option maxRecDepth 20000 in
theorem row42_any (A A2 : Option Addr) (n c n2 c2 B B2 : Nat) (l : List Int) (w : World) (h : Rd w B 1 A n (zs .i64 l)) (h2 : Rd w B2 1 A2 n2 (zs .i64 l)) (hn : n ≤ 1000000) :
    Calls Try.prog 18 #[.slice A n c, .slice A2 n2 c2] w fun e w' => e = .returned (.bool true) ∧ Below w.heap.size w w' := by
  have e1 := h.intLen
  have e2 := h2.intLen
  obtain rfl : n2 = n := by omega
  have HR := Lib.hid h
  have HR2 := Lib.hid h2
  clear h h2 e1 e2
  go_enter Try.func18, Try.ntmps18
  go_wp2_with fail
  go_loopw [5] (fun iv wr => ∃ (i : Nat), i ≤ n2 ∧ iv = .int .i64 (i : Nat) ∧ Hid (∃ q, wr = w.drewN q)) (fun iv _ => n2 - (intOf iv).toNat)
  case atStart => exact ⟨0, Nat.zero_le _, rfl, Lib.hid ⟨0, rfl⟩⟩
  case round =>
    obtain ⟨i, hi, rfl, HQ⟩ := hrel
    by_cases hlt : i < n2
    · have hlt' : (i : Int) < (n2 : Int) := by omega
      obtain ⟨b, o, x, rfl, _, q0, hx⟩ := HR.out.nthz hlt
      obtain ⟨b2, o2, x2, rfl, _, q2, hx2⟩ := HR2.out.nthz hlt
      obtain rfl : x2 = x := Option.some.inj (hx2.out.symm.trans hx.out)
      have p0 : wr.cell? ⟨b, o + i, none⟩ = some (.int .i64 x2) := by obtain ⟨q, rfl⟩ := HQ.out; exact q0
      have p2 : wr.cell? ⟨b2, o2 + i, none⟩ = some (.int .i64 x2) := by obtain ⟨q, rfl⟩ := HQ.out; exact q2
      clear hx hx2 q0 q2
      go_wp2_with fail
      go_quiet (fail)
      go_wp2_with fail
      go_roundw
      case rel => exact ⟨i + 1, by omega, by go_num, Lib.hid (by obtain ⟨q, rfl⟩ := HQ.out; exact ⟨_, World.drewN_drewN _ _ _⟩)⟩
      case measure => simp [intOf]; omega
    · have hlt' : ¬ (i : Int) < (n2 : Int) := by omega
      go_wp2_with fail
      go_ret
      obtain ⟨q, rfl⟩ := HQ.out
      exact ⟨rfl, below_drewN (Below.refl _ _) _⟩
theorem prEl : El Try.prog 38 45 (.agg #[.int .i64 0, .int .i64 0]) 2 16 := ⟨Try.underlying38, by kernel_rfl, rfl, by decide, by decide⟩
theorem own_far {w w' : World} {B B' sz sz' n n' : Nat} {e e' : TypeId} {v v' : Value} {xs xs' : List Value} (h : w.ownsRow B e sz v n xs) (ho : w.ownsRow B' e' sz' v' n' xs') (hne : e ≠ e') (hg : w.grownBy w' v'.ownBlock) : w'.ownsRow B e sz v n xs :=
  own_kept h fun k hk => hg.block k (h.lt k hk).2 fun he => by
    rcases own_open ho with ⟨rfl, _, _⟩ | ⟨rb, c, L, rfl, _, hr, _⟩
    · simp [Value.ownBlock] at he
    · simp [Value.ownBlock] at he
      subst he
      exact own_ne h hr hne hk
set_option maxRecDepth 20000 in
set_option maxHeartbeats 2000000 in
theorem rdue_any (A : Option Addr) (n c B : Nat) (l : List Pr) (now : Int) (w : World) (h : Rd w B 2 A n (prs l)) (hn : n ≤ 100000) (hB : B ≤ w.heap.size) :
    Calls Try.prog 17 #[.slice A n c, .int .i64 now] w fun e w' => (∃ v1 v2, e = .returned (.tuple #[v1, v2]) ∧ w'.ownsRow w.heap.size 45 2 v1 (l.filter fun p => !decide (p.1 ≤ now)).length (prs (l.filter fun p => !decide (p.1 ≤ now))) ∧ Zats w' 3 .i64 w.heap.size v2 ((l.filter fun p => decide (p.1 ≤ now)).map fun p => p.2)) ∧ Below w.heap.size w w' := by
  have HR := Lib.hid h
  have HL := Lib.hid h.prLen
  clear h
  go_enter Try.func17, Try.ntmps17
  go_wp2_with fail
  go_loopw [6, 7, 8] (fun lv ov iv wr => ∃ (i : Nat), i ≤ n ∧ iv = .int .i64 (i : Nat) ∧ Hid (wr.ownsRow w.heap.size 45 2 lv ((l.take i).filter fun p => !decide (p.1 ≤ now)).length (prs ((l.take i).filter fun p => !decide (p.1 ≤ now)))) ∧ Hid (Zats wr 3 .i64 w.heap.size ov (((l.take i).filter fun p => decide (p.1 ≤ now)).map fun p => p.2)) ∧ Hid (Below w.heap.size w wr)) (fun _ _ iv _ => n - (intOf iv).toNat)
  case atStart => exact ⟨0, Nat.zero_le _, rfl, Lib.hid (World.ownsRow_nil _ _ _ _), Lib.hid (Zats.nil _ _ _ _), Lib.hid (Below.refl _ _)⟩
  case round =>
    obtain ⟨i, hi, rfl, HO, HZ, BB⟩ := hrel
    obtain ⟨A1, c1, rfl, hnc1, hcm1, _⟩ := own_form HO.out
    obtain ⟨A2, n2, c2, rfl, hnc2, hl2, _⟩ := HZ.out.out'
    obtain ⟨n1, hn1⟩ : ∃ k, k = ((l.take i).filter fun p => !decide (p.1 ≤ now)).length := ⟨_, rfl⟩
    have hle1 : n1 ≤ i := by rw [hn1]; exact Nat.le_trans (List.length_filter_le _ _) (by simp; omega)
    have hle2 : n2 ≤ i := by rw [← hl2.out, List.length_map]; exact Nat.le_trans (List.length_filter_le _ _) (by simp; omega)
    rw [← hn1] at HO hnc1 ⊢
    have HN1 := Lib.hid hn1
    clear hn1
    have hsz := BB.out.size
    by_cases hlt : i < n
    · have hlt' : (i : Int) < (n : Int) := by omega
      obtain ⟨b, o, x, y, rfl, hb, q0, q1, hx⟩ := (HR.out.below (BB.out.mono hB)).pr hlt
      have ht := nth_take hx
      by_cases hle : x ≤ now
      · have e1 : (l.take (i + 1)).filter (fun p => !decide (p.1 ≤ now)) = (l.take i).filter (fun p => !decide (p.1 ≤ now)) := by rw [ht, List.filter_append]; simp [hle]
        have e2 : (l.take (i + 1)).filter (fun p => decide (p.1 ≤ now)) = (l.take i).filter (fun p => decide (p.1 ≤ now)) ++ [(x, y)] := by rw [ht, List.filter_append]; simp [hle]
        have E1 := Lib.hid e1; have E2 := Lib.hid e2
        clear e1 e2 ht hx
        have hroom : (((l.take i).filter (fun p => decide (p.1 ≤ now))).map (fun p => p.2)).length + 1 ≤ 100001 := by rw [hl2.out]; omega
        have hroom2 := room_ge (x := ((((l.take i).filter (fun p => decide (p.1 ≤ now))).map (fun p => p.2)).length + 1) * 8) (by omega)
        clear hroom
        go_wp2_with (at_builtin; go_must (refine app1z iEl9 y rfl _ _ rfl rfl HZ.out rfl rfl hroom2 hsz ?_))
        intro v5 w5 hz5 hg5 hb5
        have O5 : Hid (w5.ownsRow w.heap.size 45 2 (.slice A1 n1 c1) ((l.take (i + 1)).filter fun p => !decide (p.1 ≤ now)).length (prs ((l.take (i + 1)).filter fun p => !decide (p.1 ≤ now)))) := Lib.hid (by rw [E1.out, ← HN1.out]; exact own_far HO.out HZ.out (by decide) hg5)
        have Z5 : Hid (Zats w5 3 .i64 w.heap.size v5 (((l.take (i + 1)).filter fun p => decide (p.1 ≤ now)).map fun p => p.2)) := Lib.hid (by rw [E2.out, List.map_append]; exact hz5)
        have B5 := Lib.hid (BB.out.trans hb5)
        obtain ⟨A5, n5, c5, rfl, hnc5, hl5, _⟩ := Z5.out.out'
        clear hz5 hg5 hb5 q0 q1 HO HZ BB hsz
        go_wp2_with fail
        go_roundw
        case rel => exact ⟨i + 1, by omega, by go_num, O5, Z5, B5⟩
        case measure => simp [intOf]; omega
      · have e1 : (l.take (i + 1)).filter (fun p => !decide (p.1 ≤ now)) = (l.take i).filter (fun p => !decide (p.1 ≤ now)) ++ [(x, y)] := by rw [ht, List.filter_append]; simp [hle]
        have e2 : (l.take (i + 1)).filter (fun p => decide (p.1 ≤ now)) = (l.take i).filter (fun p => decide (p.1 ≤ now)) := by rw [ht, List.filter_append]; simp [hle]
        have E1 := Lib.hid e1; have E2 := Lib.hid e2
        clear e1 e2 ht hx
        have hroom2 := room_ge (x := (n1 + 1) * 16) (by omega)
        have hone : ∀ u ∈ (#[Value.int .i64 x, .int .i64 y] : Array Value).toList, u.oneCell' = true := prs_one [(x, y)]
        have HONE := Lib.hid hone
        clear hone
        go_wp2_with (at_builtin; go_must (refine appZ prEl _ rfl HONE.out rfl _ _ rfl rfl HO.out rfl rfl hroom2 hsz ?_))
        intro v5 w5 ho5 hg5 hb5
        have O5 : Hid (w5.ownsRow w.heap.size 45 2 v5 ((l.take (i + 1)).filter fun p => !decide (p.1 ≤ now)).length (prs ((l.take (i + 1)).filter fun p => !decide (p.1 ≤ now)))) := Lib.hid (by rw [E1.out, List.length_append, ← HN1.out, prs_append]; exact ho5)
        have Z5 : Hid (Zats w5 3 .i64 w.heap.size (.slice A2 n2 c2) (((l.take (i + 1)).filter fun p => decide (p.1 ≤ now)).map fun p => p.2)) := Lib.hid (by rw [E2.out]; exact own_far HZ.out HO.out (by decide) hg5)
        have B5 := Lib.hid (BB.out.trans hb5)
        obtain ⟨A5, c5, rfl, hnc5, hcm5, _⟩ := own_form O5.out
        clear ho5 hg5 hb5 q0 q1 HO HZ BB hsz
        go_wp2_with fail
        go_roundw
        case rel => exact ⟨i + 1, by omega, by go_num, O5, Z5, B5⟩
        case measure => simp [intOf]; omega
    · obtain rfl : i = n := by omega
      have ht : l.take i = l := List.take_of_length_le (by rw [HL.out]; exact Nat.le_refl _)
      rw [ht] at HO HZ HN1
      rw [HN1.out] at HO
      go_wp2_with fail
      go_ret2
      exact ⟨⟨_, _, rfl, by rw [HN1.out]; exact HO.out, HZ.out⟩, BB.out⟩
end Go.Proofs.Ytkekmcolekomjaa
