/- Layer 34: which records may be a capture. -/
import Derived.Test.YtcgcglngjfijnaaCap2
namespace Go.Proofs.Ytcgcglngjfijnaa
open Go.RowKit
set_option linter.unusedVariables false
/-- A record that may be, behind one of that tick. -/
def recOk (a : Int) (p : Rcd) : Prop := a ≤ p.1 ∧ p.1 < 2147483648 ∧ p.2.2.2.length ≤ 2048 ∧ (p.2.1 = 0 ∨ p.2.1 = 1) ∧ 0 ≤ p.2.2.1 ∧ p.2.2.1 < 4
def rightGo : Int → List Rcd → Prop
  | _, [] => True
  | a, p :: l => recOk a p ∧ rightGo p.1 l
def rightR (l : List Rcd) : Prop := l.length ≤ 1024 ∧ rightGo 0 l
theorem drop_at {α : Type} {l : List α} {k : Nat} {x : α} (h : l[k]? = some x) : l.drop k = x :: l.drop (k + 1) := by
  have hk : k < l.length := (List.getElem?_eq_some_iff.1 h).1
  have := (List.getElem?_eq_some_iff.1 h).2
  rw [← this, List.drop_eq_getElem_cons hk]
/-- What Right answers. -/
def CRPost (l : List Rcd) (e : Ending) : Prop := ∃ b, e = .returned (.bool b) ∧ (b = true ↔ rightR l)
theorem crPost_no {l : List Rcd} (h : ¬ rightR l) : CRPost l (.returned (.bool false)) := ⟨false, rfl, by simp [h]⟩
theorem crPost_yes {l : List Rcd} (h : rightR l) : CRPost l (.returned (.bool true)) := ⟨true, rfl, by simp [h]⟩
set_option maxRecDepth 20000 in
set_option maxHeartbeats 4000000 in
theorem cright_any (A : Option Addr) (n c : Nat) (l : List Rb) (w : World) (h : Rs w A n c l) :
    Calls Try.prog 113 #[.slice A n c] w fun e w' => CRPost (rsay l) e ∧ Below w.heap.size w w' := by
  have HO := Lib.hid h
  have HL := Lib.hid h.len
  clear h
  go_enter Try.func113, Try.ntmps113
  by_cases h10 : 1024 < n
  · have h10' : (1024 : Int) < (n : Int) := by omega
    go_wp2_with fail
    go_ret
    exact ⟨crPost_no fun h => by have := h.1; rw [rsay_len, HL.out] at this; omega, Below.refl _ _⟩
  have h10' : ¬ (1024 : Int) < (n : Int) := by omega
  go_wp2_with fail
  go_loopw [3, 11] (fun av iv wr => ∃ (k : Nat) (a : Int), k ≤ n ∧ iv = .int .i64 k ∧ av = .int .i64 a ∧ Hid (rightGo 0 (rsay l) ↔ rightGo a ((rsay l).drop k)) ∧ Below w.heap.size w wr) (fun _ iv _ => n - (intOf iv).toNat)
  case atStart => exact ⟨0, 0, Nat.zero_le _, rfl, rfl, Lib.hid (by simp), Below.refl _ _⟩
  case round =>
    obtain ⟨k, a, hk, rfl, rfl, hgo, hbw⟩ := hrel
    by_cases hlt : k < n
    · have hlt' : (k : Int) < (n : Int) := by omega
      obtain ⟨b, off, t, sd, p, q, rfl, hbb, p0, p1, p2, p3, hp, hq, hql, hbs⟩ := (HO.out.into hbw).at_ hlt
      obtain ⟨qA, qn, qc, ql⟩ := q
      dsimp only at *
      have hst : rightGo 0 (rsay l) ↔ recOk a (t, sd, p, ql) ∧ rightGo t ((rsay l).drop (k + 1)) := by
        rw [hgo.out, drop_at (rsay_at hp)]
        rfl
      have HST := Lib.hid hst
      have hno : ¬ recOk a (t, sd, p, ql) → ¬ rightR (rsay l) := fun h1 h2 => h1 (HST.out.1 h2.2).1
      have HNO := Lib.hid hno
      clear hgo hst hno hp hq hbs
      by_cases c1 : t < a
      · have HN := Lib.hid (HNO.out fun h => by have := h.1; dsimp only at this; omega)
        go_wp2_with fail
        go_ret
        exact ⟨crPost_no HN.out, hbw.alloc hbw.size _⟩
      by_cases c2 : 2147483648 ≤ t
      · have HN := Lib.hid (HNO.out fun h => by have := h.2.1; dsimp only at this; omega)
        go_wp2_with fail
        go_ret
        exact ⟨crPost_no HN.out, hbw.alloc hbw.size _⟩
      by_cases c3 : 2048 < qn
      · have c3' : (2048 : Int) < (qn : Int) := by omega
        have HN := Lib.hid (HNO.out fun h => by have := h.2.2.1; dsimp only at this; have := hql.out; omega)
        go_wp2_with fail
        go_ret
        exact ⟨crPost_no HN.out, hbw.alloc hbw.size _⟩
      have c3' : ¬ (2048 : Int) < (qn : Int) := by omega
      by_cases c4 : sd = 0 ∨ sd = 1
      · by_cases c5 : p < 0
        · have HN := Lib.hid (HNO.out fun h => by have := h.2.2.2.2.1; dsimp only at this; omega)
          rcases c4 with rfl | rfl
          · go_wp2_with fail
            go_ret
            exact ⟨crPost_no HN.out, hbw.alloc hbw.size _⟩
          · go_wp2_with fail
            go_ret
            exact ⟨crPost_no HN.out, hbw.alloc hbw.size _⟩
        by_cases c6 : 4 ≤ p
        · have HN := Lib.hid (HNO.out fun h => by have := h.2.2.2.2.2; dsimp only at this; omega)
          rcases c4 with rfl | rfl
          · go_wp2_with fail
            go_ret
            exact ⟨crPost_no HN.out, hbw.alloc hbw.size _⟩
          · go_wp2_with fail
            go_ret
            exact ⟨crPost_no HN.out, hbw.alloc hbw.size _⟩
        have HOK := Lib.hid (show recOk a (t, sd, p, ql) from ⟨by dsimp only; omega, by dsimp only; omega, by dsimp only; have := hql.out; omega, c4, by dsimp only; omega, by dsimp only; omega⟩)
        have HGO : Hid (rightGo 0 (rsay l) ↔ rightGo t ((rsay l).drop (k + 1))) := Lib.hid ⟨fun h => (HST.out.1 h).2, fun h => HST.out.2 ⟨HOK.out, h⟩⟩
        rcases c4 with rfl | rfl
        · go_wp2_with fail
          go_roundw
          case rel => exact ⟨k + 1, t, by omega, by go_num, rfl, HGO, hbw.alloc hbw.size _⟩
          case measure => simp [intOf]; omega
        · go_wp2_with fail
          go_roundw
          case rel => exact ⟨k + 1, t, by omega, by go_num, rfl, HGO, hbw.alloc hbw.size _⟩
          case measure => simp [intOf]; omega
      · have HN := Lib.hid (HNO.out fun h => c4 h.2.2.2.1)
        have d1 : (sd == 0) = false := beq_eq_false_iff_ne.2 (fun h => c4 (.inl h))
        have d2 : (sd == 1) = false := beq_eq_false_iff_ne.2 (fun h => c4 (.inr h))
        have d3 : ¬ sd = 0 := fun h => c4 (.inl h)
        have d4 : ¬ sd = 1 := fun h => c4 (.inr h)
        clear c4
        go_wp2_with fail
        go_ret
        exact ⟨crPost_no HN.out, hbw.alloc hbw.size _⟩
    · have hge : ¬ (k : Int) < (n : Int) := by omega
      have hall : (rsay l).drop k = [] := List.drop_eq_nil_of_le (by rw [rsay_len, HL.out]; omega)
      have h1 := hgo.out
      rw [hall] at h1
      have HF := Lib.hid (show rightR (rsay l) from ⟨by rw [rsay_len, HL.out]; omega, h1.2 trivial⟩)
      clear hall h1 hgo
      go_wp2_with fail
      go_ret
      exact ⟨crPost_yes HF.out, hbw⟩
end Go.Proofs.Ytcgcglngjfijnaa
