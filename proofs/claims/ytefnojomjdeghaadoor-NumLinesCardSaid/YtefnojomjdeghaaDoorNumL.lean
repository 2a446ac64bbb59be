/- Layer 1: texts between blanks: the mathematics. No program. -/
import Derived.Test.YtefnojomjdeghaaDoorStr
import Derived.Laws.RangeAny
namespace Go.Proofs.YtefnojomjdeghaaDoor
open Go.RowKit
set_option linter.unusedVariables false

def fl (now : List Nat) : List (List Nat) := if now = [] then [] else [now]
/-- What stands between blanks, ahead of a number sign: what has been read of the piece now, and what is left. -/
def pcs : List Nat → List Nat → List (List Nat)
  | now, [] => fl now
  | now, c :: l => if c = 35 then fl now else if c = 32 then fl now ++ pcs [] l else pcs (now ++ [c]) l
def okc (x : Nat) : Prop := x ≠ 32 ∧ x ≠ 35 ∧ x < 256
def clean (p : List Nat) : Prop := p ≠ [] ∧ ∀ x ∈ p, okc x
def lineN : List (List Nat) → List Nat
  | [] => []
  | p :: r => p ++ r.flatMap (fun q => 32 :: q)
theorem fl_clean {now : List Nat} (h : ∀ x ∈ now, okc x) : ∀ p ∈ fl now, clean p := by
  intro p hp
  unfold fl at hp
  split at hp
  · cases hp
  · rename_i h0
    simp at hp
    subst hp
    exact ⟨h0, h⟩
theorem pcs_clean : ∀ (l now : List Nat), (∀ x ∈ l, x < 256) → (∀ x ∈ now, okc x) → ∀ p ∈ pcs now l, clean p
  | [], now, _, hn => fl_clean hn
  | c :: l, now, hl, hn => by
    intro p hp
    unfold pcs at hp
    split at hp
    · exact fl_clean hn p hp
    · split at hp
      · rcases List.mem_append.1 hp with hp | hp
        · exact fl_clean hn p hp
        · exact pcs_clean l [] (fun x hx => hl x (by simp [hx])) (fun x hx => by cases hx) p hp
      · rename_i h1 h2
        exact pcs_clean l _ (fun x hx => hl x (by simp [hx])) (fun x hx => by
          rcases List.mem_append.1 hx with hx | hx
          · exact hn x hx
          · simp at hx
            subst hx
            exact ⟨h2, h1, hl x (by simp)⟩) p hp
theorem pcs_app : ∀ (p now l : List Nat), (∀ x ∈ p, x ≠ 32 ∧ x ≠ 35) → pcs now (p ++ l) = pcs (now ++ p) l
  | [], now, l, _ => by simp
  | c :: p, now, l, h => by
    have hc := h c (by simp)
    rw [List.cons_append, pcs, if_neg hc.2, if_neg hc.1, pcs_app p _ l (fun x hx => h x (by simp [hx])), List.append_assoc]
    rfl
theorem pcs_rest : ∀ (r : List (List Nat)) (p : List Nat), clean p → (∀ q ∈ r, clean q) → pcs p (r.flatMap (fun q => 32 :: q)) = p :: r
  | [], p, hp, _ => by simp only [List.flatMap_nil, pcs, fl]; rw [if_neg hp.1]
  | q :: r, p, hp, hr => by
    have hq := hr q (by simp)
    rw [List.flatMap_cons, List.cons_append, pcs, if_neg (by omega), if_pos rfl, pcs_app q [] _ (fun x hx => ⟨(hq.2 x hx).1, (hq.2 x hx).2.1⟩), List.nil_append, pcs_rest r q hq (fun x hx => hr x (by simp [hx]))]
    unfold fl
    rw [if_neg hp.1]
    rfl
/-- What is written is read. -/
theorem pcs_line (ps : List (List Nat)) (h : ∀ p ∈ ps, clean p) : pcs [] (lineN ps) = ps := by
  cases ps with
  | nil => rfl
  | cons p r =>
    have hp := h p (by simp)
    unfold lineN
    rw [pcs_app p [] _ (fun x hx => ⟨(hp.2 x hx).1, (hp.2 x hx).2.1⟩), List.nil_append]
    exact pcs_rest r p hp (fun x hx => h x (by simp [hx]))
theorem fl_len (now : List Nat) : (fl now).length ≤ 1 := by unfold fl; split <;> simp
theorem fl_mem {now p : List Nat} (h : p ∈ fl now) : p = now := by
  unfold fl at h
  split at h
  · cases h
  · simpa using h
theorem pcs_len : ∀ (l now : List Nat), (pcs now l).length ≤ l.length + 1
  | [], now => by unfold pcs; have := fl_len now; simp; omega
  | c :: l, now => by
    unfold pcs
    have := fl_len now
    split
    · simp only [List.length_cons]; omega
    · split
      · have := pcs_len l []
        rw [List.length_append]
        simp only [List.length_cons]; omega
      · have := pcs_len l (now ++ [c])
        simp only [List.length_cons]; omega
theorem pcs_piece : ∀ (l now : List Nat), ∀ p ∈ pcs now l, p.length ≤ now.length + l.length
  | [], now => fun p hp => by unfold pcs at hp; rw [fl_mem hp]; simp
  | c :: l, now => by
    intro p hp
    unfold pcs at hp
    split at hp
    · rw [fl_mem hp]; omega
    · split at hp
      · rcases List.mem_append.1 hp with hp | hp
        · rw [fl_mem hp]; omega
        · have := pcs_piece l [] p hp
          simp only [List.length_nil, List.length_cons] at *; omega
      · have := pcs_piece l _ p hp
        simp only [List.length_append, List.length_cons, List.length_nil] at *; omega
theorem line_len (k : Nat) (ps : List (List Nat)) (h : ∀ p ∈ ps, p.length ≤ k) : (lineN ps).length ≤ (k + 1) * ps.length := by
  have hr : ∀ r : List (List Nat), (∀ p ∈ r, p.length ≤ k) → (r.flatMap (fun q => 32 :: q)).length ≤ (k + 1) * r.length := by
    intro r
    induction r with
    | nil => intro _; simp
    | cons q r ih =>
      intro h
      have h1 := h q (by simp)
      have h2 := ih (fun p hp => h p (by simp [hp]))
      rw [List.flatMap_cons, List.length_append, List.length_cons, List.length_cons, Nat.mul_succ]
      omega
  cases ps with
  | nil => simp [lineN]
  | cons p r =>
    have h1 := h p (by simp)
    have h2 := hr r (fun q hq => h q (by simp [hq]))
    unfold lineN
    rw [List.length_append, List.length_cons, Nat.mul_succ]
    omega
theorem get_nats (s : ByteArray) (k : Nat) (h : k < s.size) : (s.get! k).toNat = (nats s).getD k 0 := by
  rw [nats_nth s k h]
  rcases s with ⟨a⟩
  have h' : k < a.size := h
  show (a[k]!).toNat = _
  rw [getElem!_pos a k h']
  rfl
/-- A rune that is no ASCII one: all its bytes are above 127. -/
theorem decode_span (s : ByteArray) (i : Nat) (h : i < s.size) (ha : 128 ≤ (s[i]'h).toNat) : i + (Utf8.decode s i).2 ≤ s.size ∧ 1 ≤ (Utf8.decode s i).2 ∧ ∀ k, i ≤ k → k < i + (Utf8.decode s i).2 → 128 ≤ (nats s).getD k 0 := by
  have h0 : 128 ≤ (nats s).getD i 0 := by rw [nats_nth s i h]; exact ha
  have one : i + 1 ≤ s.size ∧ 1 ≤ 1 ∧ ∀ k, i ≤ k → k < i + 1 → 128 ≤ (nats s).getD k 0 := ⟨by omega, by omega, fun k h1 h2 => by rw [show k = i by omega]; exact h0⟩
  have hc : ∀ k, (decide (i + k < s.size) && (s.get! (i + k)).toNat / 64 == 2) = true → i + k < s.size ∧ 128 ≤ (nats s).getD (i + k) 0 := by
    intro k hk
    simp only [Bool.and_eq_true, decide_eq_true_eq, beq_iff_eq] at hk
    have := get_nats s (i + k) hk.1
    exact ⟨hk.1, by omega⟩
  have hb0 : ¬ (s.get! (i + 0)).toNat < 128 := by
    have := get_nats s (i + 0) (by omega)
    rw [this]
    simpa using h0
  unfold Utf8.decode
  simp only [if_neg hb0]
  split
  · rename_i h1
    rw [Bool.and_eq_true] at h1
    have c1 := hc 1 h1.2
    split
    · exact ⟨by simp only; omega, by simp, fun k k1 k2 => by
        simp only at k2
        rcases (show k = i ∨ k = i + 1 by omega) with rfl | rfl
        · exact h0
        · exact c1.2⟩
    · exact one
  · split
    · rename_i h1
      rw [Bool.and_eq_true, Bool.and_eq_true] at h1
      have c1 := hc 1 h1.1.2
      have c2 := hc 2 h1.2
      split
      · exact ⟨by simp only; omega, by simp, fun k k1 k2 => by
          simp only at k2
          rcases (show k = i ∨ k = i + 1 ∨ k = i + 2 by omega) with rfl | rfl | rfl
          · exact h0
          · exact c1.2
          · exact c2.2⟩
      · exact one
    · split
      · rename_i h1
        rw [Bool.and_eq_true, Bool.and_eq_true, Bool.and_eq_true] at h1
        have c1 := hc 1 h1.1.1.2
        have c2 := hc 2 h1.1.2
        have c3 := hc 3 h1.2
        split
        · exact ⟨by simp only; omega, by simp, fun k k1 k2 => by
            simp only at k2
            rcases (show k = i ∨ k = i + 1 ∨ k = i + 2 ∨ k = i + 3 by omega) with rfl | rfl | rfl | rfl
            · exact h0
            · exact c1.2
            · exact c2.2
            · exact c3.2⟩
        · exact one
      · exact one
end Go.Proofs.YtefnojomjdeghaaDoor
