/- Package spans: List, Many. -/
import Derived.Test.YtohehnlbknaflaaG17SackPlays
import Derived.Test.YtohehnlbknaflaaSpm2

namespace Go.Proofs.Ytohehnlbknaflaa
open Go.RowKit
set_option linter.unusedVariables false
theorem wrap_u64_sub {x y : Nat} (h : x ≤ y) (hy : y < pmax) : IntKind.u64.wrap ((y : Int) - (x : Int)) = ((y - x : Nat) : Int) := by
  unfold pmax at hy
  rw [IntKind.wrap_u64]
  omega
theorem wrap_u64_lt {x : Nat} (hx : x < pmax) : IntKind.u64.wrap (x : Int) = (x : Int) := by
  unfold pmax at hx
  rw [IntKind.wrap_u64]
  omega
end Go.Proofs.Ytohehnlbknaflaa

/- Package spans: Gaps. -/
namespace Go.Proofs.Ytohehnlbknaflaa
open Go.RowKit
set_option linter.unusedVariables false
/-- Pieces, in a row of the call's own. -/
def Pcs (w : World) (e : TypeId) (B : Nat) (v : Value) (l : List Sp) : Prop := w.ownsRow B e 2 v l.length (cels l)
theorem Pcs.nil (w : World) (e : TypeId) (B : Nat) : Pcs w e B (.slice none 0 0) [] := World.ownsRow_nil w B e 2
theorem Pcs.below {w w' : World} {e : TypeId} {B : Nat} {v : Value} {l : List Sp} (h : Pcs w e B v l) (hb : Below w.heap.size w w') : Pcs w' e B v l := own_below h hb fun g hg => (h.lt g hg).2
theorem Pcs.alloc {w : World} {e : TypeId} {B : Nat} {v : Value} {l : List Sp} (h : Pcs w e B v l) (o : Obj) : Pcs (w.alloc o) e B v l := World.ownsRow.alloc h o
/-- The slice itself. -/
theorem Pcs.out {w : World} {e : TypeId} {B : Nat} {v : Value} {l : List Sp} (h : Pcs w e B v l) : ∃ (A : Option Addr) (n c : Nat), v = .slice A n c ∧ n ≤ c ∧ c ≤ maxLen ∧ Hid (l.length = n) ∧ Hid (Rd w w.heap.size 2 A n (cels l)) := by
  obtain ⟨A, c, rfl, h1, h2, h3⟩ := own_form h
  exact ⟨A, _, c, rfl, h1, h2, Lib.hid rfl, Lib.hid h3⟩
section
variable {P : Program} {ops : Array Oper} {rest : List Oper} {o : Oper} {a : Act} {Q : Exit → Act → World → Prop} {t e : TypeId} {z : Value} {bytes : Nat}
theorem app1p {w0 : World} (el : El P t e z 2 bytes) (x y : Nat) (hgd : o.guard = none) (s d : Operand) (ho : o.op = .call { callee := .builtin .append, args := #[s, d], argTypes := #[t, t] })
    {base : Nat} {v : Value} {l : List Sp} (hs : a.eval s = v) (hown : Pcs w0 e base v l) {gz : Nat} (hx : a.eval d = .slice (some ⟨gz, 0, none⟩) 1 1) (hgz : gz = w0.heap.size) (hroom : (l.length + 1) * bytes ≤ room) (hbase : base ≤ w0.heap.size)
    (h : ∀ v' w', Pcs w' e base v' (l ++ [(x, y)]) → w0.grownBy w' v.ownBlock → Below base w0 w' → wpList P ops Q rest (a.put o.dst v') w') : wpList P ops Q (o :: rest) a (w0.alloc (.cells #[.int .u64 (x : Int), .int .u64 (y : Int)] e)) := by
  subst hgz
  have hr : Rd (w0.alloc (.cells #[.int .u64 (x : Int), .int .u64 (y : Int)] e)) (w0.heap.size + 1) 2 (some ⟨w0.heap.size, 0, none⟩) 1 (cels [(x, y)]) := Rd.made w0 e #[.int .u64 (x : Int), .int .u64 (y : Int)] rfl
  refine app el hgd s d ho hs (hown.alloc _) hx hr (cels_one _) hroom (by simp; omega) fun v' w' h1 h2 h3 => ?_
  refine h v' w' ?_ ?_ (((Below.refl _ _).alloc hbase _).trans h3)
  · unfold Pcs
    rw [cels_append, List.length_append]
    exact h1
  · have hA := World.grownBy_alloc w0 (.cells #[.int .u64 (x : Int), .int .u64 (y : Int)] e) v.ownBlock
    exact grownBy_trans hA h2
end
theorem gap_stop {l : List Sp} {f t : Nat} (h : ∀ p, l.head? = some p → t ≤ p.1) : gapF l f t = if f < t then [(f, t)] else [] := by
  cases l with
  | nil => rfl
  | cons p l =>
    unfold gapF
    rw [if_pos (h p rfl)]
theorem gap_step {l : List Sp} {k x y f t : Nat} (h : l[k]? = some (x, y)) (ht : ¬ t ≤ x) : gapF (l.drop k) f t = (if f < x then [(f, x)] else []) ++ gapF (l.drop (k + 1)) y t := by
  have e : l.drop k = (x, y) :: l.drop (k + 1) := by
    obtain ⟨hl, hx⟩ := List.getElem?_eq_some_iff.1 h
    rw [← List.getElem_cons_drop hl, hx]
  rw [e]
  conv => lhs; unfold gapF
  rw [if_neg ht]
  split <;> rfl
theorem Rd.cut {w : World} {B sz n c k : Nat} {A : Option Addr} {xs : List Value} (h : Rd w B sz A n xs) (hk : k ≤ n) (hc : n ≤ c) : Rd w B sz (cutA A c k sz) (n - k) (xs.drop (k * sz)) := h.drop hk hc
end Go.Proofs.Ytohehnlbknaflaa
