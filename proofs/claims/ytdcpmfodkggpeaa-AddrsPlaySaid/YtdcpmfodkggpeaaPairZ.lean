/- Rows of pairs of whole numbers (two cells, .i64); numbers brought within bounds; sums and greatest ones. No program. -/
import Derived.Test.YtdcpmfodkggpeaaSz
import Derived.Test.YtdcpmfodkggpeaaRowG
namespace Go.Proofs.Ytdcpmfodkggpeaa
open Go.RowKit
set_option linter.unusedVariables false
/-- The number from lo to hi that is nearest to one. -/
def clN (lo hi : Nat) (n : Int) : Nat := if n < (lo : Int) then lo else if (hi : Int) < n then hi else n.toNat
theorem clN_lo {lo hi : Nat} {n : Int} (h : n < (lo : Int)) : clN lo hi n = lo := by unfold clN; rw [if_pos h]
theorem clN_hi {lo hi : Nat} {n : Int} (h0 : ¬ n < (lo : Int)) (h : (hi : Int) < n) : clN lo hi n = hi := by unfold clN; rw [if_neg h0, if_pos h]
theorem clN_in {lo hi : Nat} {n : Int} (h0 : ¬ n < (lo : Int)) (h : ¬ (hi : Int) < n) : ((clN lo hi n : Nat) : Int) = n := by unfold clN; rw [if_neg h0, if_neg h]; omega
theorem clN_ge {lo hi : Nat} (h : lo ≤ hi) (n : Int) : lo ≤ clN lo hi n := by unfold clN; split <;> (try split) <;> omega
theorem clN_le {lo hi : Nat} (h : lo ≤ hi) (n : Int) : clN lo hi n ≤ hi := by unfold clN; split <;> (try split) <;> omega
theorem clN_of {lo hi n : Nat} (h0 : lo ≤ n) (h : n ≤ hi) : clN lo hi (n : Int) = n := by unfold clN; rw [if_neg (by omega), if_neg (by omega)]; simp
def pzel (p : Int × Int) : List Value := [.int .i64 p.1, .int .i64 p.2]
theorem pzel_len (p : Int × Int) : (pzel p).length = 2 := rfl
def pz (l : List (Int × Int)) : List Value := l.flatMap pzel
theorem pz_append (l m : List (Int × Int)) : pz (l ++ m) = pz l ++ pz m := by simp [pz]
theorem pz_len (l : List (Int × Int)) : (pz l).length = l.length * 2 := fm_len pzel_len l
theorem pz_one (l : List (Int × Int)) : ∀ v ∈ pz l, v.oneCell' = true := by
  intro v hv
  simp only [pz, pzel, List.mem_flatMap] at hv
  obtain ⟨p, _, hv⟩ := hv
  simp at hv
  rcases hv with rfl | rfl <;> rfl
/-- A pair of a row, by a name of its own. -/
theorem Rd.pz {w : World} {B n : Nat} {A : Option Addr} {l : List (Int × Int)} (h : Rd w B 2 A n (pz l)) {i : Nat} (hi : i < n) :
    ∃ (b off : Nat) (x y : Int), A = some ⟨b, off, none⟩ ∧ b < B ∧ w.cell? ⟨b, off + i * 2, none⟩ = some (.int .i64 x) ∧ w.cell? ⟨b, off + i * 2 + 1, none⟩ = some (.int .i64 y) ∧ Hid (l[i]? = some (x, y)) := by
  obtain ⟨b, off, e, hb, hc⟩ := h.2 (by omega)
  have hl : l.length = n := by have := h.1; rw [pz_len] at this; omega
  have hg : l[i]? = some l[i] := by rw [List.getElem?_eq_getElem (by omega)]
  have g1 := fm_get pzel_len hg (r := 0) (by omega)
  have g2 := fm_get pzel_len hg (r := 1) (by omega)
  exact ⟨b, off, _, _, e, hb, (hc (i * 2) (by omega)).trans g1, (Nat.add_assoc off (i * 2) 1 ▸ hc (i * 2 + 1) (by omega)).trans g2, Lib.hid hg⟩
theorem Rd.pzLen {w : World} {B n : Nat} {A : Option Addr} {l : List (Int × Int)} (h : Rd w B 2 A n (Go.Proofs.Ytdcpmfodkggpeaa.pz l)) : l.length = n := by have := h.1; rw [pz_len] at this; omega
/-- Pairs, in a row of the call's own. -/
def Pzs (w : World) (e : TypeId) (B : Nat) (v : Value) (l : List (Int × Int)) : Prop := w.ownsRow B e 2 v l.length (pz l)
theorem Pzs.nil (w : World) (e : TypeId) (B : Nat) : Pzs w e B (.slice none 0 0) [] := World.ownsRow_nil w B e 2
theorem Pzs.below {w w' : World} {e : TypeId} {B : Nat} {v : Value} {l : List (Int × Int)} (h : Pzs w e B v l) (hb : Below w.heap.size w w') : Pzs w' e B v l := own_below h hb fun g hg => (h.lt g hg).2
theorem Pzs.out {w : World} {e : TypeId} {B : Nat} {v : Value} {l : List (Int × Int)} (h : Pzs w e B v l) : ∃ (A : Option Addr) (n c : Nat), v = .slice A n c ∧ n ≤ c ∧ c ≤ maxLen ∧ Hid (l.length = n) ∧ Hid (Rd w w.heap.size 2 A n (pz l)) := by
  obtain ⟨A, c, rfl, h1, h2, h3⟩ := own_form h
  exact ⟨A, _, c, rfl, h1, h2, Lib.hid rfl, Lib.hid h3⟩
section
variable {P : Program} {ops : Array Oper} {rest : List Oper} {o : Oper} {a : Act} {Q : Exit → Act → World → Prop} {t e : TypeId} {z : Value} {bytes : Nat}
theorem app1pz {w0 : World} (el : El P t e z 2 bytes) (x y : Int) (hgd : o.guard = none) (s d : Operand) (ho : o.op = .call { callee := .builtin .append, args := #[s, d], argTypes := #[t, t] })
    {base : Nat} {v : Value} {l : List (Int × Int)} (hs : a.eval s = v) (hown : Pzs w0 e base v l) {gz : Nat} (hx : a.eval d = .slice (some ⟨gz, 0, none⟩) 1 1) (hgz : gz = w0.heap.size) (hroom : (l.length + 1) * bytes ≤ room) (hbase : base ≤ w0.heap.size)
    (h : ∀ v' w', Pzs w' e base v' (l ++ [(x, y)]) → w0.grownBy w' v.ownBlock → Below base w0 w' → wpList P ops Q rest (a.put o.dst v') w') : wpList P ops Q (o :: rest) a (w0.alloc (.cells #[.int .i64 x, .int .i64 y] e)) := by
  subst hgz
  have hr : Rd (w0.alloc (.cells #[.int .i64 x, .int .i64 y] e)) (w0.heap.size + 1) 2 (some ⟨w0.heap.size, 0, none⟩) 1 (pz [(x, y)]) := Rd.made w0 e #[.int .i64 x, .int .i64 y] rfl
  refine app el hgd s d ho hs (World.ownsRow.alloc hown _) hx hr (pz_one _) hroom (by simp; omega) fun v' w' h1 h2 h3 => ?_
  refine h v' w' ?_ ?_ (((Below.refl _ _).alloc hbase _).trans h3)
  · unfold Pzs
    rw [pz_append, List.length_append]
    exact h1
  · have hA := World.grownBy_alloc w0 (.cells #[.int .i64 x, .int .i64 y] e) v.ownBlock
    exact grownBy_trans hA h2
end
/-- The sum over the first ones; the greatest of the first ones. -/
def sumK {α : Type} (f : α → Nat) (l : List α) (k : Nat) : Nat := ((l.take k).map f).sum
def maxK {α : Type} (f : α → Nat) (l : List α) (k : Nat) : Nat := (l.take k).foldl (fun a p => max a (f p)) 0
section
variable {α : Type} {f : α → Nat} {l : List α} {k : Nat} {x : α}
theorem tkSnoc (h : l[k]? = some x) : l.take (k + 1) = l.take k ++ [x] := by rw [List.take_add_one, h]; rfl
theorem sumK_zero : sumK f l 0 = 0 := rfl
theorem maxK_zero : maxK f l 0 = 0 := rfl
theorem sumK_succ (h : l[k]? = some x) : sumK f l (k + 1) = sumK f l k + f x := by unfold sumK; rw [tkSnoc h]; simp
theorem maxK_succ (h : l[k]? = some x) : maxK f l (k + 1) = max (maxK f l k) (f x) := by unfold maxK; rw [tkSnoc h]; simp
theorem sumK_le {c : Nat} (hc : ∀ p ∈ l, f p ≤ c) (k : Nat) : sumK f l k ≤ k * c := by
  induction k with
  | zero => simp [sumK]
  | succ k ih =>
    rcases hk : l[k]? with _ | x
    · have : l.length ≤ k := by simpa using hk
      unfold sumK at *
      rw [List.take_of_length_le (by omega)]
      rw [List.take_of_length_le (by omega)] at ih
      exact Nat.le_trans ih (Nat.mul_le_mul_right c (Nat.le_succ k))
    · rw [sumK_succ hk, Nat.succ_mul]
      have := hc x (List.mem_of_getElem? hk)
      omega
theorem maxK_le {c : Nat} (hc : ∀ p ∈ l, f p ≤ c) (k : Nat) : maxK f l k ≤ c := by
  induction k with
  | zero => simp [maxK]
  | succ k ih =>
    rcases hk : l[k]? with _ | x
    · have : l.length ≤ k := by simpa using hk
      unfold maxK at *
      rw [List.take_of_length_le (by omega)]
      rwa [List.take_of_length_le (by omega)] at ih
    · rw [maxK_succ hk]
      have := hc x (List.mem_of_getElem? hk)
      omega
end
end Go.Proofs.Ytdcpmfodkggpeaa
