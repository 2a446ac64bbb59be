/- Pieces: addition with a bound on how many. No program. -/
import Derived.Test.YtnngjbieoakanaaSpm
import Derived.Test.YtnngjbieoakanaaSpm2
import Derived.Test.YtnngjbieoakanaaSpm3
import Derived.Test.YtnngjbieoakanaaG5InletTwice
import Derived.Test.YtnngjbieoakanaaG15InletTwice
import Derived.Test.YtnngjbieoakanaaRgm

namespace Go.Proofs.Ytnngjbieoakanaa
set_option linter.unusedVariables false
theorem runLt {l : List Sp} {b : Nat} (hb : ∀ p ∈ l, p.2 < b) (x : Nat) (hx : x < b) : runL l x < b := by
  unfold runL
  split
  · rename_i p hp
    exact hb p (List.mem_of_find?_eq_some hp)
  · exact hx
theorem addS_okM {most : Nat} {l : List Sp} {f t b : Nat} (h : Rise l) (hl : l.length ≤ most) (hb : ∀ p ∈ l, p.2 < b) (ht : t < b) : Rise (addS most l f t).1 ∧ (∀ p ∈ (addS most l f t).1, p.2 < b) ∧ (addS most l f t).1.length ≤ most := by
  unfold addS
  split
  · exact ⟨h, hb, hl⟩
  · rename_i h0
    split
    · exact ⟨h, hb, hl⟩
    · rename_i h1
      refine ⟨addL_rise h (by omega), addL_bd hb ht, ?_⟩
      rcases mid_zero l f t with h3 | ⟨h3, h4⟩
      · exact Nat.le_trans h3 hl
      · have h5 := mid_nil.2 h4
        have h6 : l.length < most := Nat.lt_of_not_le fun h7 => h1 ⟨h5, h7⟩
        show (addL l f t).length ≤ most
        omega
end Go.Proofs.Ytnngjbieoakanaa

/- An inlet: mathematics. No program. -/
namespace Go.Proofs.Ytnngjbieoakanaa
set_option linter.unusedVariables false
/-- How great a stream's numbers may be here. -/
def iLim : Nat := 1099511627776
/-- An inlet's numbers, its places, its pieces. -/
structure Ist where
  base : Nat
  size : Nat
  there : Nat
  most : Nat
  en : Nat
  kn : Bool
  P : List Sp
  L : List Nat
def Ist.next (s : Ist) : Nat := s.base + s.there
def Ist.bound (s : Ist) : Nat := if s.kn then min (s.base + s.size) s.en else s.base + s.size
def Ist.top (s : Ist) : Nat := match s.P.getLast? with | some p => max s.next p.2 | none => s.next
def Ist.ended (s : Ist) : Bool := s.kn && decide (s.en ≤ s.next)
def Ist.ack (s : Ist) : Nat := if s.ended then s.next + 1 else s.next
/-- Bytes come to some pieces' places. -/
def gapSet (base f : Nat) (bs : List Nat) (L : List Nat) (G : List Sp) : List Nat := G.foldl (fun L g => spl L (g.1 - base) ((bs.drop (g.1 - f)).take (g.2 - g.1))) L
theorem gapSet_snoc (base f : Nat) (bs L : List Nat) (G : List Sp) (g : Sp) : gapSet base f bs L (G ++ [g]) = spl (gapSet base f bs L G) (g.1 - base) ((bs.drop (g.1 - f)).take (g.2 - g.1)) := by
  unfold gapSet
  rw [List.foldl_append]
  rfl
def Ist.setL (s : Ist) (f : Nat) (bs : List Nat) : List Nat := gapSet s.base f bs s.L (gapL s.P f (f + bs.length))
def Ist.come (s : Ist) (f : Nat) (bs : List Nat) : Ist × Bool :=
  if s.next < f then (if (addS s.most s.P f (f + bs.length)).2 then ({ s with P := (addS s.most s.P f (f + bs.length)).1, L := s.setL f bs }, true) else (s, false))
  else ({ s with there := runL s.P (f + bs.length) - s.base, P := cutL s.P (runL s.P (f + bs.length)), L := s.setL f bs }, true)
def Ist.low (s : Ist) (f : Nat) : Nat := max f s.next
def Ist.high (s : Ist) (t : Nat) : Nat := min t s.bound
def Ist.put (s : Ist) (f : Nat) (bs : List Nat) : Ist × Bool :=
  if 18446744073709551616 ≤ f + bs.length then (s, false)
  else if s.low f < s.high (f + bs.length) then
    (if (s.come (s.low f) ((bs.drop (s.low f - f)).take (s.high (f + bs.length) - s.low f))).2 then ((s.come (s.low f) ((bs.drop (s.low f - f)).take (s.high (f + bs.length) - s.low f))).1, decide (f + bs.length ≤ s.bound) || decide (bs.length = 0)) else (s, false))
  else (s, decide (f + bs.length ≤ s.bound) || decide (bs.length = 0))
def Ist.fin (s : Ist) (e : Nat) : Ist × Bool := if s.kn then (s, decide (e = s.en)) else if e < s.top then (s, false) else ({ s with en := e, kn := true }, true)
def Ist.take (s : Ist) (k : Nat) : Ist := { s with base := s.base + k, there := s.there - k, L := s.L.drop k ++ List.replicate k 0 }
/-- What may be. -/
structure Ist.ok (s : Ist) : Prop where
  bl : s.base ≤ iLim
  s0 : 0 < s.size
  s6 : s.size ≤ 65536
  ts : s.there ≤ s.size
  ll : s.L.length = s.size
  rs : Rise s.P
  pb : ∀ p ∈ s.P, p.2 ≤ s.base + s.size
  pl : s.P.length ≤ s.most
theorem gapSet_len {base f : Nat} {bs L : List Nat} {G : List Sp} (hf : base ≤ f) (hL : f + bs.length ≤ base + L.length) (hG : ∀ g ∈ G, f ≤ g.1 ∧ g.1 ≤ g.2 ∧ g.2 ≤ f + bs.length) : (gapSet base f bs L G).length = L.length := by
  induction G generalizing L with
  | nil => rfl
  | cons g G ih =>
    have h1 := hG g (List.mem_cons_self ..)
    have e1 : (spl L (g.1 - base) ((bs.drop (g.1 - f)).take (g.2 - g.1))).length = L.length := spl_len (by simp; omega)
    show (gapSet base f bs (spl L (g.1 - base) ((bs.drop (g.1 - f)).take (g.2 - g.1))) G).length = _
    rw [ih (by omega) fun q hq => hG q (List.mem_cons_of_mem _ hq), e1]
theorem gapSet_get {base f : Nat} {bs L : List Nat} {G : List Sp} (hf : base ≤ f) (hL : f + bs.length ≤ base + L.length) (hG : ∀ g ∈ G, f ≤ g.1 ∧ g.1 ≤ g.2 ∧ g.2 ≤ f + bs.length) (j : Nat) :
    (gapSet base f bs L G)[j]? = if memL G (base + j) = true then bs[base + j - f]? else L[j]? := by
  induction G generalizing L with
  | nil => simp [gapSet, memL]
  | cons g G ih =>
    have h1 := hG g (List.mem_cons_self ..)
    have hl : ((bs.drop (g.1 - f)).take (g.2 - g.1)).length = g.2 - g.1 := by simp; omega
    have e1 : (spl L (g.1 - base) ((bs.drop (g.1 - f)).take (g.2 - g.1))).length = L.length := spl_len (by rw [hl]; omega)
    show (gapSet base f bs (spl L (g.1 - base) ((bs.drop (g.1 - f)).take (g.2 - g.1))) G)[j]? = _
    rw [ih (by omega) fun q hq => hG q (List.mem_cons_of_mem _ hq), memL_cons, spl_get (by rw [hl]; omega), hl]
    by_cases h2 : memL G (base + j) = true
    · simp [h2]
    · have h3 : memL G (base + j) = false := by simpa using h2
      rw [if_neg h2, h3, Bool.or_false]
      by_cases h4 : g.1 ≤ base + j ∧ base + j < g.2
      · rw [if_pos (by omega), if_pos (by simp [h4]), List.getElem?_take, if_pos (by omega), List.getElem?_drop]
        congr 1
        omega
      · rw [if_neg (by omega), if_neg (by simp; omega)]
theorem gapL_in {l : List Sp} {f t : Nat} (h : Rise l) : ∀ g ∈ gapL l f t, f ≤ g.1 ∧ g.1 ≤ g.2 ∧ g.2 ≤ t := by
  have hf := gapL_facts f t h
  intro g hg
  have h1 := hf.2.1 g hg
  have h2 := hf.1.pos g hg
  omega
section
variable {s : Ist} {f : Nat} {bs : List Nat}
theorem Ist.ok.setL_len (h : s.ok) (hf : s.base ≤ f) (ht : f + bs.length ≤ s.base + s.size) : (s.setL f bs).length = s.size := by
  unfold Ist.setL
  rw [gapSet_len hf (by rw [h.ll]; exact ht) (gapL_in h.rs), h.ll]
theorem Ist.ok.setL_get (h : s.ok) (hf : s.base ≤ f) (ht : f + bs.length ≤ s.base + s.size) (j : Nat) : (s.setL f bs)[j]? = if f ≤ s.base + j ∧ s.base + j < f + bs.length ∧ memL s.P (s.base + j) = false then bs[s.base + j - f]? else s.L[j]? := by
  unfold Ist.setL
  rw [gapSet_get hf (by rw [h.ll]; exact ht) (gapL_in h.rs), (gapL_facts f (f + bs.length) h.rs).2.2.2]
  by_cases h1 : f ≤ s.base + j ∧ s.base + j < f + bs.length ∧ memL s.P (s.base + j) = false
  · rw [if_pos h1, if_pos (by simp [h1])]
  · rw [if_neg h1, if_neg (by simp; intro a b; simp at h1; exact h1 a b)]
theorem Ist.ok.run (h : s.ok) {t : Nat} (ht : t ≤ s.base + s.size) : t ≤ runL s.P t ∧ runL s.P t ≤ s.base + s.size := by
  refine ⟨run_ge _ _, ?_⟩
  have := runLt (l := s.P) (b := s.base + s.size + 1) (fun p hp => by have := h.pb p hp; omega) t (by omega)
  omega
theorem Ist.ok.come (h : s.ok) (hf : s.next ≤ f) (ht : f + bs.length ≤ s.base + s.size) : (s.come f bs).1.ok := by
  have hb : s.base ≤ f := by unfold Ist.next at hf; omega
  have hl := h.setL_len hb ht
  have hr := h.run ht
  unfold Ist.come
  by_cases h1 : s.next < f
  · rw [if_pos h1]
    by_cases h2 : (addS s.most s.P f (f + bs.length)).2 = true
    · rw [if_pos h2]
      have h3 := addS_okM h.rs h.pl (b := s.base + s.size + 1) (fun p hp => by have := h.pb p hp; omega) (f := f) (t := f + bs.length) (by omega)
      exact ⟨h.bl, h.s0, h.s6, h.ts, hl, h3.1, fun p hp => by have := h3.2.1 p hp; show p.2 ≤ s.base + s.size; omega, h3.2.2⟩
    · rw [if_neg h2]
      exact h
  · rw [if_neg h1]
    refine ⟨h.bl, h.s0, h.s6, ?_, hl, cutL_rise h.rs, fun p hp => ?_, Nat.le_trans (cutL_len _ _) h.pl⟩
    · show runL s.P (f + bs.length) - s.base ≤ s.size
      omega
    · have := cutL_bd (l := s.P) (b := runL s.P (f + bs.length)) (N := s.base + s.size + 1) (fun p hp => by have := h.pb p hp; omega) p hp
      show p.2 ≤ s.base + s.size
      omega
theorem Ist.come_same : (s.come f bs).1.base = s.base ∧ (s.come f bs).1.size = s.size ∧ (s.come f bs).1.most = s.most ∧ (s.come f bs).1.en = s.en ∧ (s.come f bs).1.kn = s.kn := by
  unfold Ist.come
  split
  · split <;> exact ⟨rfl, rfl, rfl, rfl, rfl⟩
  · exact ⟨rfl, rfl, rfl, rfl, rfl⟩
theorem Ist.bound_le (s : Ist) : s.bound ≤ s.base + s.size := by unfold Ist.bound; split <;> omega
theorem Ist.cut_len {f t : Nat} {bs : List Nat} {a b : Nat} (hab : a ≤ b) (ha : f ≤ a) (hb : b ≤ f + bs.length) : ((bs.drop (a - f)).take (b - a)).length = b - a := by simp; omega
theorem Ist.ok.put (h : s.ok) : (s.put f bs).1.ok := by
  unfold Ist.put
  split
  · exact h
  · split
    · rename_i h2
      split
      · have hb := s.bound_le
        refine h.come (by unfold Ist.low; omega) ?_
        unfold Ist.low Ist.high at *
        rw [Ist.cut_len (t := 0) (by omega) (by omega) (by omega)]
        omega
      · exact h
    · exact h
theorem Ist.put_same : (s.put f bs).1.base = s.base ∧ (s.put f bs).1.size = s.size ∧ (s.put f bs).1.most = s.most ∧ (s.put f bs).1.en = s.en ∧ (s.put f bs).1.kn = s.kn := by
  unfold Ist.put
  split
  · exact ⟨rfl, rfl, rfl, rfl, rfl⟩
  · split
    · split
      · exact Ist.come_same
      · exact ⟨rfl, rfl, rfl, rfl, rfl⟩
    · exact ⟨rfl, rfl, rfl, rfl, rfl⟩
theorem Ist.ok.fin (h : s.ok) (e : Nat) : (s.fin e).1.ok := by
  unfold Ist.fin
  split
  · exact h
  · split
    · exact h
    · exact ⟨h.bl, h.s0, h.s6, h.ts, h.ll, h.rs, h.pb, h.pl⟩
theorem Ist.ok.take (h : s.ok) {k : Nat} (hk : k ≤ s.there) (hl : s.base + k ≤ iLim) : (s.take k).ok := by
  have := h.ts
  refine ⟨hl, h.s0, h.s6, by show s.there - k ≤ s.size; omega, by show (s.L.drop k ++ List.replicate k 0).length = s.size; simp [h.ll]; omega, h.rs, fun p hp => ?_, h.pl⟩
  have := h.pb p hp
  show p.2 ≤ s.base + k + s.size
  omega
end
end Go.Proofs.Ytnngjbieoakanaa
