/- Segments and their bytes: mathematics. No program. -/
import Derived.Test.YtpnnadnmkiobcaaG9SackBack

namespace Go.Proofs.Ytpnnadnmkiobcaa
set_option linter.unusedVariables false
/-- An option: its kind, its body. -/
abbrev Opn := Nat × List Nat
structure Sg where
  src : Nat
  dst : Nat
  seq : Nat
  ack : Nat
  flags : Nat
  opts : List Opn
  data : List Nat
def oSize (l : List Opn) : Nat := (l.map fun p => 2 + p.2.length).sum
def oBytes (l : List Opn) : List Nat := l.flatMap fun p => p.1 :: p.2.length :: p.2
def oOk (l : List Opn) : Bool := l.all (fun p => p.1 != 0) && decide (oSize l ≤ 200)
def rightS (g : Sg) : Nat := if 7 < g.flags then 70 else if oOk g.opts = false then 71 else if 1024 < g.data.length then 72 else 0
def hdrS (g : Sg) : List Nat := be g.src 2 ++ be g.dst 2 ++ be g.seq 4 ++ be g.ack 4 ++ [g.flags]
def encS (g : Sg) : List Nat := hdrS g ++ oSize g.opts :: (oBytes g.opts ++ g.data)
def zeroS : Sg := ⟨0, 0, 0, 0, 0, [], []⟩
/-- What its types let a segment be. -/
structure Sg.bd (g : Sg) : Prop where
  src : g.src < 65536
  dst : g.dst < 65536
  seq : g.seq < 4294967296
  ack : g.ack < 4294967296
  flags : g.flags < 256
  kinds : ∀ p ∈ g.opts, p.1 < 256
  bodies : ∀ p ∈ g.opts, ∀ x ∈ p.2, x < 256
  data : ∀ x ∈ g.data, x < 256
theorem zeroS_bd : zeroS.bd := ⟨by decide, by decide, by decide, by decide, by decide, by simp [zeroS], by simp [zeroS], by simp [zeroS]⟩
theorem oSize_snoc (l : List Opn) (p : Opn) : oSize (l ++ [p]) = oSize l + (2 + p.2.length) := by simp [oSize]
theorem oSize_cons (p : Opn) (l : List Opn) : oSize (p :: l) = 2 + p.2.length + oSize l := by simp [oSize]
theorem oBytes_cons (p : Opn) (l : List Opn) : oBytes (p :: l) = p.1 :: p.2.length :: (p.2 ++ oBytes l) := by simp [oBytes]
theorem oBytes_append (l m : List Opn) : oBytes (l ++ m) = oBytes l ++ oBytes m := by simp [oBytes]
theorem oBytes_len (l : List Opn) : (oBytes l).length = oSize l := by
  induction l with
  | nil => rfl
  | cons p l ih => rw [oBytes_cons, oSize_cons]; simp [ih]; omega
theorem oSize_take (l : List Opn) (k : Nat) : oSize (l.take k) ≤ oSize l := by
  induction l generalizing k with
  | nil => simp [oSize]
  | cons p l ih =>
    cases k with
    | zero => simp [oSize]
    | succ k => rw [List.take_succ_cons, oSize_cons, oSize_cons]; have := ih k; omega
theorem oOk_iff (l : List Opn) : oOk l = true ↔ (∀ p ∈ l, p.1 ≠ 0) ∧ oSize l ≤ 200 := by simp [oOk]
theorem oOk_false {l : List Opn} {i : Nat} {p : Opn} (hp : l[i]? = some p) (h : p.1 = 0 ∨ 200 < oSize (l.take (i + 1))) : oOk l = false := by
  rw [← Bool.not_eq_true, oOk_iff]
  rintro ⟨h1, h2⟩
  have := oSize_take l (i + 1)
  rcases h with h | h
  · exact h1 p (List.mem_of_getElem? hp) h
  · omega
/-- What begins with the bytes of options begins with these. -/
theorem oBytes_pre {l m : List Opn} {r : List Nat} (h : oBytes m = oBytes l ++ r) : ∃ k, m = l ++ k ∧ oBytes k = r := by
  induction l generalizing m with
  | nil => exact ⟨m, rfl, by simpa [oBytes] using h⟩
  | cons p l ih =>
    rw [oBytes_cons] at h
    cases m with
    | nil => simp [oBytes] at h
    | cons q m =>
      rw [oBytes_cons] at h
      simp only [List.cons_append, List.append_assoc, List.cons.injEq] at h
      obtain ⟨h1, h2, h3⟩ := h
      obtain ⟨h4, h5⟩ := List.append_inj h3 h2
      obtain ⟨k, hk1, hk2⟩ := ih h5
      have e : q = p := Prod.ext h1 h4
      exact ⟨k, by rw [e, hk1]; rfl, hk2⟩
theorem oBytes_inj {l m : List Opn} (h : oBytes m = oBytes l) : m = l := by
  obtain ⟨k, h1, h2⟩ := oBytes_pre (l := l) (m := m) (r := []) (h.trans (List.append_nil _).symm)
  cases k with
  | nil => rw [h1, List.append_nil]
  | cons p k => simp [oBytes_cons] at h2
theorem be_ub2 (l : List Nat) (h : ∀ x ∈ l, x < 256) : be (ub l) l.length = l := by
  -- from behind
  have key : ∀ (k : Nat) (l : List Nat), l.length = k → (∀ x ∈ l, x < 256) → be (ub l) k = l := by
    intro k
    induction k with
    | zero => intro l hl _; rw [List.eq_nil_of_length_eq_zero hl]; rfl
    | succ k ih =>
      intro l hl hb
      have hne : l ≠ [] := by intro e; rw [e] at hl; simp at hl
      obtain ⟨m, x, rfl⟩ : ∃ m x, l = m ++ [x] := ⟨l.dropLast, l.getLast hne, (List.dropLast_concat_getLast hne).symm⟩
      have hx : x < 256 := hb x (by simp)
      have hm : m.length = k := by simpa using hl
      rw [ub_snoc]
      show be ((ub m * 256 + x) / 256) k ++ [(ub m * 256 + x) % 256] = m ++ [x]
      rw [show (ub m * 256 + x) / 256 = ub m by omega, show (ub m * 256 + x) % 256 = x by omega, ih m hm fun y hy => hb y (by simp [hy])]
  exact key l.length l rfl h
/-- Which error the bytes of a segment have; 0: none. -/
def is70 (b : List Nat) : Prop := b.length < 14 ∨ 7 < b.getD 12 0
def isOpts (b : List Nat) (l : List Opn) : Prop := oBytes l = b ∧ ∀ p ∈ l, p.1 ≠ 0
def is71 (b : List Nat) : Prop := 200 < b.getD 13 0 ∨ b.length < 14 + b.getD 13 0 ∨ ¬ ∃ l, isOpts ((b.drop 14).take (b.getD 13 0)) l
def is72 (b : List Nat) : Prop := 14 + b.getD 13 0 + 1024 < b.length
def parC (b : List Nat) (c : Nat) : Prop := (c = 70 ∧ is70 b) ∨ (c = 71 ∧ ¬ is70 b ∧ is71 b) ∨ (c = 72 ∧ ¬ is70 b ∧ ¬ is71 b ∧ is72 b) ∨ (c = 0 ∧ ¬ is70 b ∧ ¬ is71 b ∧ ¬ is72 b)
theorem parC_one {b : List Nat} {c d : Nat} (h : parC b c) (k : parC b d) : c = d := by
  unfold parC at h k
  rcases h with ⟨rfl, h⟩ | ⟨rfl, h1, h2⟩ | ⟨rfl, h1, h2, h3⟩ | ⟨rfl, h1, h2, h3⟩ <;> rcases k with ⟨rfl, k⟩ | ⟨rfl, k1, k2⟩ | ⟨rfl, k1, k2, k3⟩ | ⟨rfl, k1, k2, k3⟩ <;> first | rfl | exact absurd ‹is70 b› ‹¬ is70 b› | exact absurd ‹is71 b› ‹¬ is71 b› | exact absurd ‹is72 b› ‹¬ is72 b›
theorem hdrS_len (g : Sg) : (hdrS g).length = 13 := by simp [hdrS, be_len]
theorem encS_len (g : Sg) : (encS g).length = 14 + oSize g.opts + g.data.length := by
  unfold encS
  rw [List.length_append, hdrS_len, List.length_cons, List.length_append, oBytes_len]
  omega
theorem encS_12 (g : Sg) : (encS g).getD 12 0 = g.flags := by
  have h : (be g.src 2 ++ be g.dst 2 ++ be g.seq 4 ++ be g.ack 4).length = 12 := by simp [be_len]
  unfold encS hdrS
  rw [List.getD_eq_getElem?_getD, List.append_assoc, List.getElem?_append_right (by omega), h]
  rfl
theorem encS_13 (g : Sg) : (encS g).getD 13 0 = oSize g.opts := by
  unfold encS
  rw [List.getD_eq_getElem?_getD, List.getElem?_append_right (by rw [hdrS_len]; omega), hdrS_len]
  rfl
theorem encS_drop (g : Sg) : (encS g).drop 14 = oBytes g.opts ++ g.data := by
  unfold encS
  rw [show 14 = (hdrS g).length + 1 by rw [hdrS_len], ← List.drop_drop, List.drop_left]
  rfl
theorem encS_opts (g : Sg) : ((encS g).drop 14).take ((encS g).getD 13 0) = oBytes g.opts := by
  rw [encS_drop, encS_13, ← oBytes_len, List.take_left]
/-- Of two segments with the same bytes all is the same. -/
theorem encS_inj {g k : Sg} (hg : g.bd) (hk : k.bd) (h : encS g = encS k) : g = k := by
  have ho : g.opts = k.opts := by
    have := encS_opts g
    rw [h, encS_opts] at this
    exact oBytes_inj this.symm
  have hd : g.data = k.data := by
    have h1 := encS_drop g
    rw [h, encS_drop, ho] at h1
    exact (List.append_cancel_left h1).symm
  have hh : hdrS g = hdrS k := by
    have h1 := congrArg (List.take 13) h
    unfold encS at h1
    rwa [show (13 : Nat) = (hdrS g).length by rw [hdrS_len], List.take_left, show (hdrS g).length = (hdrS k).length by rw [hdrS_len, hdrS_len], List.take_left] at h1
  unfold hdrS at hh
  obtain ⟨h1, hf⟩ := List.append_inj' hh rfl
  obtain ⟨h2, ha⟩ := List.append_inj' h1 (by rw [be_len, be_len])
  obtain ⟨h3, hs⟩ := List.append_inj' h2 (by rw [be_len, be_len])
  obtain ⟨hsr, hds⟩ := List.append_inj' h3 (by rw [be_len, be_len])
  have e : ∀ {x y n : Nat}, be x n = be y n → x < 256 ^ n → y < 256 ^ n → x = y := by
    intro x y n h hx hy
    have := congrArg ub h
    rw [ub_be, ub_be, Nat.mod_eq_of_lt hx, Nat.mod_eq_of_lt hy] at this
    exact this
  obtain ⟨a1, a2, a3, a4, a5, a6, a7⟩ := g
  obtain ⟨b1, b2, b3, b4, b5, b6, b7⟩ := k
  simp only at *
  rw [e hsr hg.src hk.src, e hds hg.dst hk.dst, e hs hg.seq hk.seq, e ha hg.ack hk.ack, ho, hd, (List.cons.inj hf).1]
/-- A segment that may be has bytes without an error. -/
theorem parC_enc {g : Sg} (h : rightS g = 0) : parC (encS g) 0 := by
  unfold rightS at h
  by_cases h1 : 7 < g.flags
  · rw [if_pos h1] at h; cases h
  rw [if_neg h1] at h
  by_cases h2 : oOk g.opts = false
  · rw [if_pos h2] at h; cases h
  rw [if_neg h2] at h
  by_cases h3 : 1024 < g.data.length
  · rw [if_pos h3] at h; cases h
  have h2 : oOk g.opts = true := by simpa using h2
  obtain ⟨h4, h5⟩ := (oOk_iff _).1 h2
  have hl := encS_len g
  refine .inr (.inr (.inr ⟨rfl, ?_, ?_, ?_⟩))
  · unfold is70
    rw [encS_12]
    omega
  · unfold is71
    rintro (h | h | h)
    · rw [encS_13] at h; omega
    · rw [encS_13] at h; omega
    · exact h ⟨g.opts, encS_opts g ▸ rfl, h4⟩
  · unfold is72
    rw [encS_13]
    omega
/-- The segment of some bytes. -/
def segOf (b : List Nat) (l : List Opn) : Sg := ⟨ub (b.take 2), ub ((b.drop 2).take 2), ub ((b.drop 4).take 4), ub ((b.drop 8).take 4), b.getD 12 0, l, b.drop (14 + b.getD 13 0)⟩
theorem segOf_ok {b : List Nat} {l : List Opn} (hb : ∀ x ∈ b, x < 256) (h70 : ¬ is70 b) (hl : isOpts ((b.drop 14).take (b.getD 13 0)) l) (hn : 14 + b.getD 13 0 ≤ b.length) (h200 : b.getD 13 0 ≤ 200) (h72 : ¬ is72 b) :
    encS (segOf b l) = b ∧ rightS (segOf b l) = 0 ∧ (segOf b l).bd := by
  unfold is70 at h70
  unfold is72 at h72
  have h14 : 14 ≤ b.length := by omega
  have hsz : oSize l = b.getD 13 0 := by
    rw [← oBytes_len, hl.1, List.length_take, List.length_drop]
    omega
  have ht : ∀ k n, k + n ≤ b.length → be (ub ((b.drop k).take n)) n = (b.drop k).take n := by
    intro k n hk
    have hlen : ((b.drop k).take n).length = n := by rw [List.length_take, List.length_drop]; omega
    have := be_ub2 ((b.drop k).take n) (fun x hx => hb x (List.mem_of_mem_drop (List.mem_of_mem_take hx)))
    rwa [hlen] at this
  have hbd : ∀ k n, ub ((b.drop k).take n) < 256 ^ n := by
    intro k n
    have := ub_lt _ ((b.drop k).take n) rfl (fun x hx => hb x (List.mem_of_mem_drop (List.mem_of_mem_take hx)))
    refine Nat.lt_of_lt_of_le this (Nat.pow_le_pow_right (by omega) ?_)
    exact List.length_take_le _ _
  have d12 : b.drop 12 = b.getD 12 0 :: b.drop 13 := by
    rw [← List.getElem_cons_drop (show 12 < b.length by omega), List.getD_eq_getElem?_getD, List.getElem?_eq_getElem (show 12 < b.length by omega)]
    rfl
  have d13 : b.drop 13 = b.getD 13 0 :: b.drop 14 := by
    rw [← List.getElem_cons_drop (show 13 < b.length by omega), List.getD_eq_getElem?_getD, List.getElem?_eq_getElem (show 13 < b.length by omega)]
    rfl
  refine ⟨?_, ?_, ?_⟩
  · unfold encS hdrS segOf
    dsimp only
    rw [hsz, hl.1]
    have e0 := ht 0 2 (by omega)
    rw [List.drop_zero] at e0
    rw [e0, ht 2 2 (by omega), ht 4 4 (by omega), ht 8 4 (by omega)]
    have j : ∀ k n : Nat, (b.drop k).take n ++ b.drop (k + n) = b.drop k := by
      intro k n
      rw [← List.drop_drop]
      exact List.take_append_drop _ _
    have j14 := j 14 (b.getD 13 0)
    rw [j14]
    simp only [List.append_assoc, List.cons_append, List.nil_append]
    rw [← d13, ← d12, j 8 4, j 4 4, j 2 2]
    exact List.take_append_drop 2 b
  · unfold rightS segOf
    dsimp only
    rw [if_neg (by omega), if_neg, if_neg]
    · rw [List.length_drop]; omega
    · rw [Bool.not_eq_false, oOk_iff]
      exact ⟨hl.2, by omega⟩
  · have hlb : ∀ x ∈ oBytes l, x < 256 := by
      intro x hx
      rw [hl.1] at hx
      exact hb x (List.mem_of_mem_drop (List.mem_of_mem_take hx))
    have hin : ∀ p ∈ l, p.1 ∈ oBytes l ∧ ∀ x ∈ p.2, x ∈ oBytes l := by
      intro p hp
      refine ⟨List.mem_flatMap.2 ⟨p, hp, by simp⟩, fun x hx => List.mem_flatMap.2 ⟨p, hp, by simp [hx]⟩⟩
    refine ⟨by have := hbd 0 2; rw [List.drop_zero] at this; exact this, hbd 2 2, hbd 4 4, hbd 8 4, ?_, fun p hp => hlb _ (hin p hp).1, fun p hp x hx => hlb _ ((hin p hp).2 x hx), fun x hx => hb x (List.mem_of_mem_drop hx)⟩
    show b.getD 12 0 < 256
    omega
end Go.Proofs.Ytpnnadnmkiobcaa
