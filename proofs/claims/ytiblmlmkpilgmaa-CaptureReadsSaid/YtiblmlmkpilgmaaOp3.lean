/- Layer 8: the numbers of a handshake; which kinds are of word. -/
import Derived.Test.YtiblmlmkpilgmaaOp1
import Derived.Test.YtiblmlmkpilgmaaPk5
import Derived.Test.YtiblmlmkpilgmaaSz
namespace Go.Proofs.Ytiblmlmkpilgmaa
open Go.RowKit
set_option linter.unusedVariables false

theorem pel64i : El Try.prog 154 3 (.int .i64 0) 1 8 := ⟨Try.underlying154, by kernel_rfl, rfl, by omega, by omega⟩
theorem Zats.lit {w : World} {e : TypeId} {k : IntKind} {ss : List Int} {n : Nat} (cs : Array Value) (hc : cs.toList = zs k ss) (hn : ss.length = n) (hm : n ≤ maxLen) : Zats (w.alloc (.cells cs e)) e k w.heap.size (.slice (some ⟨w.heap.size, 0, none⟩) n n) ss := by
  subst hn
  have hl : cs.size = ss.length := by rw [← Array.length_toList, hc, zs_len]
  refine ⟨by rw [zs_len, Nat.mul_one], .inr ⟨w.heap.size, ss.length, cs, rfl, Nat.le_refl _, heap_alloc_new w _, Nat.le_refl _, hm, by rw [hl, Nat.mul_one], ?_⟩⟩
  rw [hc, Nat.mul_one, List.take_of_length_le (by rw [zs_len]; omega)]
/-- A row of numbers of its own, its cells. -/
theorem nats_open {w : World} {e : TypeId} {k : IntKind} {B : Nat} {v : Value} {l : List Nat} (h : Nats w e k B v l) (h0 : 0 < l.length) :
    ∃ g c, v = .slice (some ⟨g, 0, none⟩) l.length c ∧ B ≤ g ∧ g < w.heap.size ∧ l.length ≤ c ∧ ∀ (i x : Nat), l[i]? = some x → w.cell? ⟨g, i, none⟩ = some (.int k (x : Int)) := by
  rcases own_open (show w.ownsRow B e 1 v l.length (ns k l) from h) with ⟨_, h1, _⟩ | ⟨g, c, L, e, hB, hb, hnc, _, _, hx⟩
  · omega
  · refine ⟨g, c, e, hB, hb.lt, hnc, fun i x hi => ?_⟩
    have hil : i < l.length := (List.getElem?_eq_some_iff.1 hi).1
    have h2 : (ns k l)[i]? = some (.int k (x : Int)) := by unfold ns; rw [List.getElem?_map, hi]; rfl
    rw [hb.cell, ← h2, ← hx, List.getElem?_take_of_lt (by omega)]
    simp
/-- What a handshake's numbers are; a the answer. -/
def HsSays (lb : List Nat) (ss : List Int) (xs : List Nat) : Bool → Prop
  | false => ∃ ys, xs = ys ++ [0] ∧ cut lb ss = some (ys, [])
  | true => cut lb (ss ++ [8]) = some (xs, [])
def HsPost (lb : List Nat) (ss : List Int) (B : Nat) (w' : World) (e : Ending) : Prop :=
  (∃ (xs : List Nat) (v : Value) (a : Bool), e = .returned (.tuple #[v, .bool a, .bool true]) ∧ HsSays lb ss xs a ∧ Nats w' 22 .u64 B v xs) ∨
  ((∀ xs, cut lb ss ≠ some (xs, [])) ∧ (∀ xs, cut lb (ss ++ [8]) ≠ some (xs, [])) ∧ e = .returned (.tuple #[.slice none 0 0, .bool false, .bool false]))
set_option maxRecDepth 20000 in
set_option maxHeartbeats 2000000 in
theorem hands_any (A C : Option Addr) (n c m d B : Nat) (lb : List Nat) (ss : List Int) (w : World) (h : Rd w B 1 A n (ns .u8 lb)) (hs : Zats w 3 .i64 B (.slice C m d) ss) (hB : B ≤ w.heap.size) (hnc : n ≤ c) (hb : ∀ x ∈ lb, x < 256) (hn : n ≤ 10000) (hm : m ≤ 10) (hml : ss.length = m) :
    Calls Try.prog 77 #[.slice A n c, .slice C m d] w fun e w' => HsPost lb ss B w' e ∧ Below B w w' := by
  have hrs := hs.rd
  rw [hml] at hrs
  have HP := Lib.hid (pall_any A C n m c d lb ss w (h.mono hB) hrs hnc hb (by omega) (by omega))
  have HR := Lib.hid h
  have HS := Lib.hid hs
  have HB := Lib.hid hb
  clear h hs hb hrs
  go_enter Try.func77, Try.ntmps77
  go_wp2_with fail
  refine HP.out.mono ?_
  rintro e w1 ⟨hb1, hc1⟩
  clear HP
  have B1 := Lib.hid (hb1.mono hB)
  rcases hc1 with ⟨xs, v, hcut, rfl, hN⟩ | ⟨hno, rfl⟩
  · have HC := Lib.hid hcut
    have HN := Lib.hid (hN.mono hB)
    have hxl := (cut_says HB.out hcut).2.1
    have hB1 : B ≤ w1.heap.size := Nat.le_trans hB hb1.size
    clear hcut hN hb1
    go_wp2_with (at_builtin; go_must (refine app1n pel64 0 rfl _ _ rfl rfl HN.out rfl rfl (room_ge (by omega)) hB1 ?_))
    intro v2 w2 hN2 hg2 hb2
    have HN2 := Lib.hid hN2
    have B2 := Lib.hid (B1.out.trans hb2)
    obtain ⟨A2, n2, c2, rfl, _, _, _⟩ := hN2.out
    clear hN2 hg2 hb2
    go_wp2_with fail
    go_ret3
    exact ⟨.inl ⟨_, _, false, rfl, ⟨xs, rfl, HC.out⟩, HN2.out⟩, B2.out⟩
  · have HNO := Lib.hid hno
    have HS1 := Lib.hid (HS.out.below hb1)
    have HR1 := Lib.hid (HR.out.below (hb1.mono hB))
    have hB1 : B ≤ w1.heap.size := Nat.le_trans hB hb1.size
    clear hno hb1 HR HS
    go_wp2_with (at_builtin; go_must (refine app1z pel64i 8 rfl _ _ rfl rfl HS1.out rfl rfl (room_ge (by omega)) hB1 ?_))
    intro v2 w2 hZ2 hg2 hb2
    have B2 := Lib.hid (B1.out.trans hb2)
    have hB2 : B ≤ w2.heap.size := Nat.le_trans hB1 hb2.size
    have hR2 := HR1.out.below hb2
    have hl2 : (ss ++ [8]).length = m + 1 := by rw [List.length_append, hml]; rfl
    obtain ⟨A2, c2, rfl, _⟩ := hZ2.form
    have hr2 := hZ2.rd
    rw [hl2] at hr2
    have HP2 := Lib.hid (pall_any A A2 n (m + 1) c c2 lb (ss ++ [8]) w2 (hR2.mono hB2) hr2 hnc HB.out (by omega) (by omega))
    clear hZ2 hg2 hb2 HS1 HR1 hR2 hr2
    rw [hl2]
    clear hl2
    generalize m + 1 = m2 at *
    go_wp2_with fail
    refine HP2.out.mono ?_
    rintro e w3 ⟨hb3, hc3⟩
    have B3 := Lib.hid (B2.out.trans (hb3.mono hB2))
    clear HP2
    rcases hc3 with ⟨xs, v, hcut, rfl, hN⟩ | ⟨hno2, rfl⟩
    · have HC := Lib.hid hcut
      have HN := Lib.hid (hN.mono hB2)
      clear hcut hN hb3
      go_wp2_with fail
      go_ret3
      exact ⟨.inl ⟨_, _, true, rfl, HC.out, HN.out⟩, B3.out⟩
    · have HN2 := Lib.hid hno2
      clear hno2 hb3
      go_wp2_with fail
      go_ret3
      exact ⟨.inr ⟨HNO.out, HN2.out, rfl⟩, B3.out⟩
def wordK (kd : Nat) : Bool := decide (4 ≤ kd) && decide (kd ≤ 7)
theorem wordK_yes {kd : Nat} (h : 4 ≤ kd ∧ kd ≤ 7) : wordK kd = true := by unfold wordK; simp [h]
theorem wordK_iff (kd : Nat) : wordK kd = true ↔ 4 ≤ kd ∧ kd ≤ 7 := by unfold wordK; simp
set_option maxRecDepth 20000 in
theorem isWord_any (kd : Nat) (w : World) : Calls Try.prog 81 #[.int .u8 (kd : Int)] w fun e w' => e = .returned (.bool (wordK kd)) ∧ w = w' := by
  by_cases h4 : kd = 4
  · subst h4
    go_enter Try.func81, Try.ntmps81
    go_wp2_with fail
    go_ret
    exact ⟨rfl, rfl⟩
  by_cases h5 : kd = 5
  · subst h5
    go_enter Try.func81, Try.ntmps81
    go_wp2_with fail
    go_ret
    exact ⟨rfl, rfl⟩
  by_cases h6 : kd = 6
  · subst h6
    go_enter Try.func81, Try.ntmps81
    go_wp2_with fail
    go_ret
    exact ⟨rfl, rfl⟩
  by_cases h7 : kd = 7
  · subst h7
    go_enter Try.func81, Try.ntmps81
    go_wp2_with fail
    go_ret
    exact ⟨rfl, rfl⟩
  have d4 : ((kd : Int) == 4) = false := beq_eq_false_iff_ne.2 (by omega)
  have d5 : ((kd : Int) == 5) = false := beq_eq_false_iff_ne.2 (by omega)
  have d6 : ((kd : Int) == 6) = false := beq_eq_false_iff_ne.2 (by omega)
  have d7 : ((kd : Int) == 7) = false := beq_eq_false_iff_ne.2 (by omega)
  have HW := Lib.hid (show wordK kd = false by unfold wordK; simp; omega)
  clear h4 h5 h6 h7
  go_enter Try.func81, Try.ntmps81
  go_wp2_with fail
  go_ret
  exact ⟨ret_bool HW.out.symm, rfl⟩
end Go.Proofs.Ytiblmlmkpilgmaa
