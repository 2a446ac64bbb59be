/- Layer 34: captures' bytes: mathematics. No program. -/
import Derived.Test.YtcgcglngjfijnaaCap4
import Derived.Test.YtcgcglngjfijnaaOpM
namespace Go.Proofs.Ytcgcglngjfijnaa
set_option linter.unusedVariables false
set_option linter.unusedSimpArgs false
def recB (a : Int) (p : Rcd) : List Nat := be (p.1 - a).toNat 4 ++ ((128 * p.2.1 + p.2.2.1).toNat :: (be p.2.2.2.length 2 ++ p.2.2.2))
def recsB : Int → List Rcd → List Nat
  | _, [] => []
  | a, p :: l => recB a p ++ recsB p.1 l
def lastT : Int → List Rcd → Int
  | a, [] => a
  | _, p :: l => lastT p.1 l
def capH (n : Nat) : List Nat := be 1112690517 4 ++ be n 2
def capB (l : List Rcd) : List Nat := capH l.length ++ recsB 0 l
def capE (l : List Rcd) : List Nat := capB l ++ be (sumS (capB l)) 4
theorem recsB_snoc (l : List Rcd) (a : Int) (p : Rcd) : recsB a (l ++ [p]) = recsB a l ++ recB (lastT a l) p := by
  induction l generalizing a with
  | nil => simp [recsB, lastT]
  | cons q l ih => show recB a q ++ recsB q.1 (l ++ [p]) = (recB a q ++ recsB q.1 l) ++ recB (lastT q.1 l) p; rw [ih, List.append_assoc]
theorem lastT_snoc (l : List Rcd) (a : Int) (p : Rcd) : lastT a (l ++ [p]) = p.1 := by
  induction l generalizing a with
  | nil => rfl
  | cons q l ih => exact ih q.1
theorem rightGo_append (l m : List Rcd) (a : Int) : rightGo a (l ++ m) ↔ rightGo a l ∧ rightGo (lastT a l) m := by
  induction l generalizing a with
  | nil => simp [rightGo, lastT]
  | cons q l ih => show (recOk a q ∧ rightGo q.1 (l ++ m)) ↔ (recOk a q ∧ rightGo q.1 l) ∧ rightGo (lastT q.1 l) m; rw [ih, and_assoc]
theorem rightGo_at {l : List Rcd} {i : Nat} {p : Rcd} (h : rightGo 0 l) (hp : l[i]? = some p) : recOk (lastT 0 (l.take i)) p := by
  rw [← List.take_append_drop i l, rightGo_append, drop_at hp] at h
  exact h.2.1
theorem rightGo_mem {l : List Rcd} {a : Int} (h : rightGo a l) : ∀ p ∈ l, ∃ b, recOk b p := by
  induction l generalizing a with
  | nil => simp
  | cons q l ih =>
    intro p hp
    rcases List.mem_cons.1 hp with rfl | hp
    · exact ⟨a, h.1⟩
    · exact ih h.2 p hp
theorem lastT_nn {l : List Rcd} {a : Int} (h : rightGo a l) (ha : 0 ≤ a) : 0 ≤ lastT a l := by
  induction l generalizing a with
  | nil => exact ha
  | cons q l ih => exact ih h.2 (Int.le_trans ha h.1.1)
theorem rightGo_take {l : List Rcd} (h : rightGo 0 l) (i : Nat) : rightGo 0 (l.take i) := by
  rw [← List.take_append_drop i l, rightGo_append] at h
  exact h.1
theorem recB_len (a : Int) (p : Rcd) : (recB a p).length = 7 + p.2.2.2.length := by
  unfold recB
  simp [be_len]
  omega
theorem recsB_len (l : List Rcd) (a : Int) : (recsB a l).length = 7 * l.length + bsum l := by
  induction l generalizing a with
  | nil => rfl
  | cons q l ih =>
    show (recB a q ++ recsB q.1 l).length = _
    rw [List.length_append, recB_len, ih, List.length_cons]
    have : bsum (q :: l) = q.2.2.2.length + bsum l := by simp [bsum]
    omega
theorem capH_len (n : Nat) : (capH n).length = 6 := by simp [capH, be_len]
theorem capB_len (l : List Rcd) : (capB l).length = 6 + 7 * l.length + bsum l := by
  unfold capB
  rw [List.length_append, capH_len, recsB_len]
  omega
theorem capE_len (l : List Rcd) : (capE l).length = 10 + 7 * l.length + bsum l := by
  unfold capE
  rw [List.length_append, capB_len, be_len]
  omega
theorem bsum_take (l : List Rcd) (k : Nat) : bsum (l.take k) ≤ bsum l := by
  have h : bsum l = bsum (l.take k) + bsum (l.drop k) := by
    have e : bsum (l.take k ++ l.drop k) = bsum (l.take k) + bsum (l.drop k) := by unfold bsum; rw [List.map_append, List.sum_append]
    rwa [List.take_append_drop] at e
  omega
theorem bsum_at {l : List Rcd} {k : Nat} {p : Rcd} (h : l[k]? = some p) : bsum (l.take k) + p.2.2.2.length ≤ bsum l := by
  have := bsum_take l (k + 1)
  rw [nth_take (Lib.hid h), bsum_snoc] at this
  exact this
theorem sumF_lt : ∀ (l : List Nat) (x y : Nat), x < 65535 → y < 65535 → (sumF x y l).1 < 65535 ∧ (sumF x y l).2 < 65535
  | [], x, y, hx, hy => ⟨hx, hy⟩
  | [a], x, y, hx, hy => ⟨Nat.mod_lt _ (by omega), Nat.mod_lt _ (by omega)⟩
  | a :: b :: l, x, y, hx, hy => sumF_lt l _ _ (Nat.mod_lt _ (by omega)) (Nat.mod_lt _ (by omega))
theorem sumS_lt (l : List Nat) : sumS l < 4294967296 := by
  have := sumF_lt l 0 0 (by omega) (by omega)
  unfold sumS
  omega
theorem recB_byte {a : Int} {p : Rcd} (h : recOk a p) (hb : ∀ x ∈ p.2.2.2, x < 256) : ∀ x ∈ recB a p, x < 256 := by
  intro x hx
  obtain ⟨_, _, _, h4, h5, h6⟩ := h
  unfold recB at hx
  simp only [List.mem_append, List.mem_cons] at hx
  rcases hx with hx | hx | hx | hx
  · exact be_byte _ _ x hx
  · omega
  · exact be_byte _ _ x hx
  · exact hb x hx
theorem recsB_byte {l : List Rcd} {a : Int} (h : rightGo a l) (hb : ∀ p ∈ l, ∀ x ∈ p.2.2.2, x < 256) : ∀ x ∈ recsB a l, x < 256 := by
  induction l generalizing a with
  | nil => simp [recsB]
  | cons q l ih =>
    intro x hx
    rcases List.mem_append.1 hx with hx | hx
    · exact recB_byte h.1 (hb q (by simp)) x hx
    · exact ih h.2 (fun p hp => hb p (by simp [hp])) x hx
theorem capB_byte {l : List Rcd} (h : rightR l) (hb : ∀ p ∈ l, ∀ x ∈ p.2.2.2, x < 256) : ∀ x ∈ capB l, x < 256 := by
  intro x hx
  unfold capB capH at hx
  rcases List.mem_append.1 hx with hx | hx
  · rcases List.mem_append.1 hx with hx | hx
    · exact be_byte _ _ x hx
    · exact be_byte _ _ x hx
  · exact recsB_byte h.2 hb x hx
theorem capE_byte {l : List Rcd} (h : rightR l) (hb : ∀ p ∈ l, ∀ x ∈ p.2.2.2, x < 256) : ∀ x ∈ capE l, x < 256 := by
  intro x hx
  unfold capE at hx
  rcases List.mem_append.1 hx with hx | hx
  · exact capB_byte h hb x hx
  · exact be_byte _ _ x hx
/-- What Encode answers. -/
def capA (b : Bool) (l : List Rcd) : List Nat := if b then capE l else []
end Go.Proofs.Ytcgcglngjfijnaa
