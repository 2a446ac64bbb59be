/- Layer 5, ring: the mathematics of bytes that go round. No program. -/
import Derived.Test.YtnngjbieoakanaaLib
namespace Go.Proofs.Ytnngjbieoakanaa
set_option linter.unusedVariables false

/-- Where in the memory a place stands. -/
def rix (size first j : Nat) : Nat := if first + j < size then first + j else first + j - size
/-- The places, from the first one on. -/
def rrow (m : List Nat) (first : Nat) : List Nat := m.drop first ++ m.take first
/-- Some numbers of a row are others. -/
def spl (l : List Nat) (k : Nat) (bs : List Nat) : List Nat := l.take k ++ bs ++ l.drop (k + bs.length)
theorem rix_lt {size first j : Nat} (hf : first < size) (hj : j ≤ size) : rix size first j < size := by unfold rix; split <;> omega
theorem rrow_len {m : List Nat} {first : Nat} (h : first ≤ m.length) : (rrow m first).length = m.length := by
  unfold rrow; simp; omega
theorem rrow_get {m : List Nat} {first : Nat} (h : first ≤ m.length) (j : Nat) : (rrow m first)[j]? = if j < m.length then m[rix m.length first j]? else none := by
  unfold rrow rix
  rw [List.getElem?_append]
  simp only [List.length_drop]
  by_cases h1 : j < m.length - first
  · rw [if_pos h1, List.getElem?_drop, if_pos (by omega), if_pos (by omega)]
  · rw [if_neg h1, List.getElem?_take]
    by_cases h2 : j < m.length
    · rw [if_pos h2, if_pos (by omega), if_neg (by omega)]
      congr 1; omega
    · rw [if_neg h2]
      split
      · rw [List.getElem?_eq_none]; omega
      · rfl
theorem spl_len {l : List Nat} {k : Nat} {bs : List Nat} (h : k + bs.length ≤ l.length) : (spl l k bs).length = l.length := by
  unfold spl; simp; omega
theorem spl_get {l : List Nat} {k : Nat} {bs : List Nat} (h : k + bs.length ≤ l.length) (i : Nat) : (spl l k bs)[i]? = if k ≤ i ∧ i < k + bs.length then bs[i - k]? else l[i]? := by
  unfold spl
  have hk : (l.take k).length = k := by simp; omega
  by_cases h1 : i < k
  · rw [if_neg (by omega), List.append_assoc, List.getElem?_append_left (by omega), List.getElem?_take, if_pos h1]
  · by_cases h2 : i < k + bs.length
    · rw [if_pos ⟨by omega, h2⟩, List.getElem?_append_left (by simp; omega), List.getElem?_append_right (by omega), hk]
    · rw [if_neg (by omega), List.getElem?_append_right (by simp; omega), List.getElem?_drop]
      congr 1
      simp
      omega
theorem spl_lt {l : List Nat} {k : Nat} {bs : List Nat} {B : Nat} (hl : ∀ x ∈ l, x < B) (hb : ∀ x ∈ bs, x < B) : ∀ x ∈ spl l k bs, x < B := by
  unfold spl
  intro x hx
  rcases List.mem_append.1 hx with hx | hx
  · rcases List.mem_append.1 hx with hx | hx
    · exact hl x (List.mem_of_mem_take hx)
    · exact hb x hx
  · exact hl x (List.mem_of_mem_drop hx)
theorem rrow_lt {m : List Nat} {first B : Nat} (h : ∀ x ∈ m, x < B) : ∀ x ∈ rrow m first, x < B := by
  unfold rrow
  intro x hx
  rcases List.mem_append.1 hx with hx | hx
  · exact h x (List.mem_of_mem_drop hx)
  · exact h x (List.mem_of_mem_take hx)
/-- Bytes are put: in two pieces of the memory, as it may go round. -/
theorem rput {m bs : List Nat} {first from_ : Nat} (hf : first < m.length) (h : from_ + bs.length ≤ m.length) (c : Nat) (hc : c = min bs.length (m.length - rix m.length first from_)) :
    rrow (spl (spl m (rix m.length first from_) (bs.take c)) 0 (bs.drop c)) first = spl (rrow m first) from_ bs := by
  have hx := rix_lt (j := from_) hf (by omega)
  have ht : (bs.take c).length = c := by simp; omega
  have hd : (bs.drop c).length = bs.length - c := by simp
  have hl1 : (spl m (rix m.length first from_) (bs.take c)).length = m.length := spl_len (by omega)
  have hw : bs.length - c ≤ m.length := by omega
  have hl2 : (spl (spl m (rix m.length first from_) (bs.take c)) 0 (bs.drop c)).length = m.length := by rw [spl_len (by omega), hl1]
  apply List.ext_getElem?
  intro i
  have hr : (rrow m first).length = m.length := rrow_len (by omega)
  rw [rrow_get (by omega), spl_get (l := rrow m first) (by omega), rrow_get (m := m) (by omega), hl2]
  by_cases hi : i < m.length
  · have hri := rix_lt (j := i) hf (by omega)
    rw [if_pos hi, if_pos hi, spl_get (by omega), spl_get (by omega), hd, ht, List.getElem?_drop, List.getElem?_take]
    generalize hq : rix m.length first i = q at *
    generalize hp : rix m.length first from_ = p at *
    have hq' := hq
    have hp' := hp
    unfold rix at hq' hp'
    by_cases a1 : from_ ≤ i ∧ i < from_ + bs.length
    · rw [if_pos a1]
      by_cases b1 : 0 ≤ q ∧ q < 0 + (bs.length - c)
      · rw [if_pos b1]
        congr 1
        split at hq' <;> split at hp' <;> omega
      · have c1 : p ≤ q ∧ q < p + c := by split at hq' <;> split at hp' <;> omega
        have c2 : q - p < c := by omega
        rw [if_neg b1, if_pos c1, if_pos c2]
        congr 1
        split at hq' <;> split at hp' <;> omega
    · have c1 : ¬ (0 ≤ q ∧ q < 0 + (bs.length - c)) := by split at hq' <;> split at hp' <;> omega
      have c2 : ¬ (p ≤ q ∧ q < p + c) := by split at hq' <;> split at hp' <;> omega
      rw [if_neg a1, if_neg c1, if_neg c2]
  · rw [if_neg hi, if_neg hi, if_neg (by omega)]
/-- Places are read: in two pieces of the memory. -/
theorem rpeek {m : List Nat} {first from_ many : Nat} (hf : first < m.length) (h : from_ + many ≤ m.length) (c : Nat) (hc : c = min many (m.length - rix m.length first from_)) :
    (m.drop (rix m.length first from_)).take c ++ m.take (many - c) = ((rrow m first).drop from_).take many := by
  have hx := rix_lt (j := from_) hf (by omega)
  apply List.ext_getElem?
  intro i
  have hl : ((m.drop (rix m.length first from_)).take c).length = c := by simp; omega
  rw [List.getElem?_append, hl, List.getElem?_take, List.getElem?_take, List.getElem?_take, List.getElem?_drop, List.getElem?_drop, rrow_get (by omega)]
  generalize hp : rix m.length first from_ = p at *
  generalize hq : rix m.length first (from_ + i) = q at *
  have hq' := hq
  have hp' := hp
  unfold rix at hq' hp'
  by_cases h1 : i < many
  · rw [if_pos h1, if_pos (show from_ + i < m.length by omega)]
    by_cases h2 : i < c
    · rw [if_pos h2]
      have c1 : p + i = q := by split at hq' <;> split at hp' <;> omega
      rw [c1, if_pos h2]
    · rw [if_neg h2, if_pos (by omega)]
      congr 1
      split at hq' <;> split at hp' <;> omega
  · rw [if_neg h1, if_neg (by omega), if_neg (by omega)]
/-- Another place is the first one. -/
theorem rrot {m : List Nat} {first k : Nat} (hf : first < m.length) (hk : k ≤ m.length) : rrow m (rix m.length first k) = (rrow m first).drop k ++ (rrow m first).take k := by
  have hx := rix_lt hf hk
  apply List.ext_getElem?
  intro i
  rw [rrow_get (by omega), List.getElem?_append, List.length_drop, rrow_len (by omega), List.getElem?_drop, List.getElem?_take, rrow_get (by omega), rrow_get (by omega)]
  by_cases hi : i < m.length
  · rw [if_pos hi]
    by_cases h1 : i < m.length - k
    · rw [if_pos h1, if_pos (by omega)]
      congr 1
      unfold rix
      (repeat' split) <;> omega
    · rw [if_neg h1, if_pos (by omega), if_pos (by omega)]
      congr 1
      unfold rix
      (repeat' split) <;> omega
  · rw [if_neg hi, if_neg (by omega)]
    split
    · rw [if_neg (by omega)]
    · rfl
/-- Places go, and come back empty behind the others. -/
theorem rskip {m : List Nat} {first k : Nat} (hf : first < m.length) (hk : k ≤ m.length) (c : Nat) (hc : c = min k (m.length - rix m.length first 0)) :
    rrow (spl (spl m (rix m.length first 0) (List.replicate c 0)) 0 (List.replicate (k - c) 0)) (rix m.length first k) = (rrow m first).drop k ++ List.replicate k 0 := by
  have e0 : rix m.length first 0 = first := by unfold rix; rw [if_pos (by omega)]; rfl
  have hb := rput (m := m) (bs := List.replicate k 0) (first := first) (from_ := 0) hf (by simp; exact hk) c (by simpa using hc)
  have e1 : (List.replicate k 0).take c = List.replicate c 0 := by rw [List.take_replicate]; congr 1; omega
  have e2 : (List.replicate k 0).drop c = List.replicate (k - c) 0 := by rw [List.drop_replicate]
  rw [e1, e2] at hb
  have hl1 : (spl m (rix m.length first 0) (List.replicate c 0)).length = m.length := spl_len (by simp; omega)
  have hl2 : (spl (spl m (rix m.length first 0) (List.replicate c 0)) 0 (List.replicate (k - c) 0)).length = m.length := by rw [spl_len (by simp; omega), hl1]
  have hr := rrot (m := spl (spl m (rix m.length first 0) (List.replicate c 0)) 0 (List.replicate (k - c) 0)) (first := first) (k := k) (by omega) (by omega)
  rw [hl2] at hr
  rw [hr, hb]
  unfold spl
  simp only [List.take_zero, List.nil_append, Nat.zero_add, List.length_replicate]
  rw [List.drop_left' (by simp), List.take_left' (by simp)]
end Go.Proofs.Ytnngjbieoakanaa
