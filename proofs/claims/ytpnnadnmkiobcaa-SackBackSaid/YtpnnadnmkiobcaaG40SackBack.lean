/- A slice of slices of bytes. No program. -/
import Derived.Test.YtpnnadnmkiobcaaLib
import Derived.Test.YtpnnadnmkiobcaaG37SackBack
import Derived.Lib.ConvBytes
import Derived.Test.YtpnnadnmkiobcaaG35SackBack
import Derived.Test.YtpnnadnmkiobcaaSpm2

namespace Go.Proofs.Ytpnnadnmkiobcaa
open Go.RowKit
set_option linter.unusedVariables false

/-- A slice of slices of bytes, below block B. -/
def Pts (w : World) (B : Nat) (A : Option Addr) (n : Nat) (bss : List (List Nat)) : Prop :=
  bss.length = n ∧ ∃ hs : List Value, Rd w B 1 A n hs ∧ ∀ (i : Nat) (bs : List Nat), bss[i]? = some bs → ∃ A' c', hs[i]? = some (.slice A' bs.length c') ∧ bs.length ≤ c' ∧ Rd w B 1 A' bs.length (ns .u8 bs)
section
variable {w w' : World} {B n : Nat} {A : Option Addr} {bss : List (List Nat)}
theorem Pts.keep (h : Pts w B A n bss) (hb : Below B w w') : Pts w' B A n bss := by
  obtain ⟨h1, hs, h2, h3⟩ := h
  refine ⟨h1, hs, h2.below hb, fun i bs hi => ?_⟩
  obtain ⟨A', c', e1, e2, e3⟩ := h3 i bs hi
  exact ⟨A', c', e1, e2, e3.below hb⟩
theorem Pts.mono {B' : Nat} (h : Pts w B A n bss) (hB : B ≤ B') : Pts w B' A n bss := by
  obtain ⟨h1, hs, h2, h3⟩ := h
  refine ⟨h1, hs, h2.mono hB, fun i bs hi => ?_⟩
  obtain ⟨A', c', e1, e2, e3⟩ := h3 i bs hi
  exact ⟨A', c', e1, e2, e3.mono hB⟩
theorem Pts.nil (w : World) (B : Nat) (A : Option Addr) : Pts w B A 0 [] := ⟨rfl, [], Rd.nil _ _ _ _, fun i bs h => by simp at h⟩
theorem Pts.nth (h : Pts w B A n bss) {i : Nat} (hi : i < n) : ∃ (b off : Nat) (A' : Option Addr) (n' c' : Nat) (bs : List Nat), A = some ⟨b, off, none⟩ ∧ b < B ∧ w.cell? ⟨b, off + i, none⟩ = some (.slice A' n' c') ∧ Hid (bss[i]? = some bs) ∧ Hid (bs.length = n') ∧ n' ≤ c' ∧ Hid (Rd w B 1 A' n' (ns .u8 bs)) := by
  obtain ⟨h1, hs, h2, h3⟩ := h
  obtain ⟨b, off, e, hb, hc⟩ := h2.2 (by omega)
  have hl : i < bss.length := by omega
  obtain ⟨A', c', e1, e2, e3⟩ := h3 i bss[i] (by rw [List.getElem?_eq_getElem hl])
  exact ⟨b, off, A', _, c', bss[i], e, hb, (hc i (by omega)).trans e1, Lib.hid (List.getElem?_eq_getElem hl), Lib.hid rfl, e2, Lib.hid e3⟩
end
theorem flat_take {bss : List (List Nat)} {i : Nat} {bs : List Nat} (h : bss[i]? = some bs) : (bss.take (i + 1)).flatten = (bss.take i).flatten ++ bs := by
  rw [List.take_add_one, h]
  simp
theorem flat_le (bss : List (List Nat)) (i : Nat) : (bss.take i).flatten.length ≤ bss.flatten.length := by
  conv => rhs; rw [← List.take_append_drop i bss]
  rw [List.flatten_append, List.length_append]
  omega
end Go.Proofs.Ytpnnadnmkiobcaa

/- More of what may be known of a value: slices of slices; loads out of a block that is known whole. No program. -/
namespace Go.Proofs.Ytpnnadnmkiobcaa
open Go.RowKit
set_option linter.unusedVariables false
theorem Blk.loads {w : World} {g : Nat} {t : TypeId} {cs : Array Value} (h : Blk w g t cs) (off : Nat) (l : List Value) (e : (cs.toList.drop off).take l.length = l) : ∀ j v, l[j]? = some v → w.cell? ⟨g, off + j, none⟩ = some v := by
  intro j v hj
  have hl : j < l.length := (List.getElem?_eq_some_iff.1 hj).1
  rw [h.cell, ← hj, ← e, List.getElem?_take, List.getElem?_drop]
  simp only [hl, if_true]
  simp
theorem Pts.ones {w : World} {B n c : Nat} {A : Option Addr} {bs : List Nat} (t : TypeId) (hr : Rd w B 1 A n (ns .u8 bs)) (hnc : n ≤ c) (hB : B ≤ w.heap.size) :
    Pts (w.alloc (.cells #[.slice A n c] t)) (w.heap.size + 1) (some ⟨w.heap.size, 0, none⟩) 1 [bs] := by
  have hl := hr.natLen
  refine ⟨rfl, [.slice A n c], Rd.one w t _, fun i b hi => ?_⟩
  obtain rfl : i = 0 := by
    rcases i with _ | i
    · rfl
    · simp at hi
  obtain rfl : b = bs := by simpa using hi.symm
  exact ⟨A, c, by rw [hl]; rfl, by omega, by rw [hl]; exact (hr.alloc hB _).mono (by omega)⟩
theorem Pts.gr {M : Bool} {B n : Nat} {w w' : World} {A : Option Addr} {bss : List (List Nat)} (hb : GH.Gr M B w w') (h : Pts w w.heap.size A n bss) : Pts w' w'.heap.size A n bss := by
  obtain ⟨h1, hs, h2, h3⟩ := h
  refine ⟨h1, hs, hb.rd h2, fun i bs hi => ?_⟩
  obtain ⟨A', c', e1, e2, e3⟩ := h3 i bs hi
  exact ⟨A', c', e1, e2, hb.rd e3⟩
namespace GH
section
variable {M : Bool}
/-- A slice of slices of bytes. -/
def SP.pts (bss : List (List Nat)) : SP M := ⟨fun v w => ∃ A n c, v = .slice A n c ∧ n ≤ c ∧ bss.length = n ∧ Pts w w.heap.size A n bss, fun B v w w' h hb => by
  obtain ⟨A, n, c, h1, h2, h3, h4⟩ := h
  exact ⟨A, n, c, h1, h2, h3, h4.gr hb⟩⟩
/-- Bytes, or other numbers, wherever they lie. -/
def SP.ns (k : IntKind) (l : List Nat) : SP M := ⟨fun v w => ∃ A n c, v = .slice A n c ∧ n ≤ c ∧ l.length = n ∧ Rd w w.heap.size 1 A n (Go.Proofs.Ytpnnadnmkiobcaa.ns k l), fun B v w w' h hb => by
  obtain ⟨A, n, c, h1, h2, h3, h4⟩ := h
  exact ⟨A, n, c, h1, h2, h3, hb.rd h4⟩⟩
/-- A row of the call's own, as numbers. -/
def SP.own (e : TypeId) (k : IntKind) (B : Nat) (l : List Nat) : SP false := ⟨fun v w => Nats w e k B v l, fun B v w w' h hb => h.kept fun g hg => hb.block rfl g (h.lt g hg).2⟩
end
section
variable {P : Program} {M : Bool} {B : Nat} {ops : Array Oper} {o : Oper} {a : Act} {w : World}
theorem ns_of_own {e : TypeId} {k : IntKind} {B : Nat} {v : Value} {l : List Nat} (h : Nats w e k B v l) : (SP.ns (M := M) k l).G v w := by
  obtain ⟨A, c, rfl, hc⟩ := h.form
  exact ⟨A, _, c, rfl, hc, rfl, h.rd⟩
theorem ns_of_lit {B : Nat} {k : IntKind} {v : Value} {l : List Nat} (h : (SP.lit (M := M) B k l).G v w) : (SP.ns (M := M) k l).G v w := by
  obtain ⟨g, h1, h2, h3⟩ := h
  exact ⟨_, _, _, h1, Nat.le_refl _, rfl, h3⟩
theorem ns_lit {t : TypeId} {cs : Array Value} (k : IntKind) (l : List Nat) (n : Nat) (hc : cs.toList = Go.Proofs.Ytpnnadnmkiobcaa.ns k l) (hn : l.length = n) : (SP.ns (M := M) k l).G (.slice (some ⟨w.heap.size, 0, none⟩) n n) (w.alloc (.cells cs t)) :=
  ⟨_, _, _, rfl, Nat.le_refl _, hn, Rd.lit l rfl (by simp) hc hn.symm⟩
theorem lit_lit {t : TypeId} {cs : Array Value} (k : IntKind) (l : List Nat) (n : Nat) (hB : B ≤ w.heap.size) (hc : cs.toList = Go.Proofs.Ytpnnadnmkiobcaa.ns k l) (hn : l.length = n) : (SP.lit (M := M) B k l).G (.slice (some ⟨w.heap.size, 0, none⟩) n n) (w.alloc (.cells cs t)) := by
  subst hn
  exact ⟨_, rfl, hB, Rd.lit l rfl (by simp) hc rfl⟩
theorem pts_lit {A : Option Addr} {n c : Nat} {l : List Nat} (t : TypeId) (hr : Rd w w.heap.size 1 A n (Go.Proofs.Ytpnnadnmkiobcaa.ns .u8 l)) (hnc : n ≤ c) : (SP.pts (M := M) [l]).G (.slice (some ⟨w.heap.size, 0, none⟩) 1 1) (w.alloc (.cells #[.slice A n c] t)) :=
  ⟨_, _, _, rfl, Nat.le_refl _, rfl, (Pts.ones t hr hnc (Nat.le_refl _)).mono (by simp)⟩
theorem rd_lit {t : TypeId} {cs : Array Value} {size n : Nat} {xs : List Value} (hs : cs.size = n * size) (hx : cs.toList = xs) : (SP.rd (M := M) size n xs).G (.slice (some ⟨w.heap.size, 0, none⟩) n n) (w.alloc (.cells cs t)) := by
  subst hx
  exact ⟨_, _, rfl, Nat.le_refl _, (Rd.made w t cs hs).mono (by simp)⟩
/-- A text's bytes. -/
theorem st_str {src dst e : TypeId} {u : TypeDesc} {l : List Nat} (x : Operand) (hs : P.underlying src = some u) (hd : P.underlying dst = some (.slice e)) (he : P.underlying e = some (.int .u8)) (hw : Region.wanted o (yielded ops a.tmps) = true) (hB : B ≤ w.heap.size) (ho : o.op = .convert src dst x)
    (hx : a.eval x = .string (strN l)) (hl : ∀ y ∈ l, y < 256) : St P M B ops o a w (SP.ns .u8 l) := by
  have hsz : (strN l).size = l.length := by simp [strN, ByteArray.size]
  have hr := Lib.run_convert_string_bytes w src dst e (strN l) hs hd he
  refine st_do (v := .slice (some ⟨w.heap.size, 0, none⟩) l.length (grownCap w (strN l).size 0 e)) (w' := Lib.bytesWorld w e (strN l)) hw ?_ (Gr.of ⟨rfl, rfl, rfl, by rw [Lib.bytesWorld_size]; omega, fun k hk => Lib.bytesWorld_at_old w e (strN l) k hk⟩ hB) ⟨_, _, _, rfl, ?_, rfl, ?_⟩
  · rw [hsz] at hr ⊢
    simp [execOp, ho, hx, hr, Result.andThen]
  · rw [hsz]; exact grownCap_ge _ _ _ _
  · refine ⟨by simp [Go.Proofs.Ytpnnadnmkiobcaa.ns], fun _ => ⟨_, _, rfl, by rw [Lib.bytesWorld_size]; omega, fun j hj => ?_⟩⟩
    have hj' : j < l.length := by omega
    rw [Nat.zero_add, Lib.bytesWorld_cell w e (strN l) j (by rw [hsz]; exact hj')]
    have := hl l[j] (List.getElem_mem hj')
    simp [strN, Go.Proofs.Ytpnnadnmkiobcaa.ns, hj']
    omega
end
end GH
end Go.Proofs.Ytpnnadnmkiobcaa

/- Package spans: List, Many. -/
namespace Go.Proofs.Ytpnnadnmkiobcaa
open Go.RowKit
set_option linter.unusedVariables false
theorem wrap_u64_sub {x y : Nat} (h : x ≤ y) (hy : y < pmax) : IntKind.u64.wrap ((y : Int) - (x : Int)) = ((y - x : Nat) : Int) := by
  unfold pmax at hy
  rw [IntKind.wrap_u64]
  omega
theorem wrap_u64_lt {x : Nat} (hx : x < pmax) : IntKind.u64.wrap (x : Int) = (x : Int) := by
  unfold pmax at hx
  rw [IntKind.wrap_u64]
  omega
end Go.Proofs.Ytpnnadnmkiobcaa

/- Package spans: Gaps. -/
namespace Go.Proofs.Ytpnnadnmkiobcaa
open Go.RowKit
set_option linter.unusedVariables false
/-- Pieces, in a row of the call's own. -/
def Pcs (w : World) (e : TypeId) (B : Nat) (v : Value) (l : List Sp) : Prop := w.ownsRow B e 2 v l.length (cels l)
theorem Pcs.nil (w : World) (e : TypeId) (B : Nat) : Pcs w e B (.slice none 0 0) [] := World.ownsRow_nil w B e 2
theorem Pcs.below {w w' : World} {e : TypeId} {B : Nat} {v : Value} {l : List Sp} (h : Pcs w e B v l) (hb : Below w.heap.size w w') : Pcs w' e B v l := own_below h hb fun g hg => (h.lt g hg).2
theorem Pcs.alloc {w : World} {e : TypeId} {B : Nat} {v : Value} {l : List Sp} (h : Pcs w e B v l) (o : Obj) : Pcs (w.alloc o) e B v l := World.ownsRow.alloc h o
/-- The slice itself. -/
theorem Pcs.out {w : World} {e : TypeId} {B : Nat} {v : Value} {l : List Sp} (h : Pcs w e B v l) : ∃ (A : Option Addr) (n c : Nat), v = .slice A n c ∧ n ≤ c ∧ c ≤ maxLen ∧ Hid (l.length = n) ∧ Hid (Rd w w.heap.size 2 A n (cels l)) := by
  obtain ⟨A, c, rfl, h1, h2, h3⟩ := own_form h
  exact ⟨A, _, c, rfl, h1, h2, Lib.hid rfl, Lib.hid h3⟩
section
variable {P : Program} {ops : Array Oper} {rest : List Oper} {o : Oper} {a : Act} {Q : Exit → Act → World → Prop} {t e : TypeId} {z : Value} {bytes : Nat}
theorem app1p {w0 : World} (el : El P t e z 2 bytes) (x y : Nat) (hgd : o.guard = none) (s d : Operand) (ho : o.op = .call { callee := .builtin .append, args := #[s, d], argTypes := #[t, t] })
    {base : Nat} {v : Value} {l : List Sp} (hs : a.eval s = v) (hown : Pcs w0 e base v l) {gz : Nat} (hx : a.eval d = .slice (some ⟨gz, 0, none⟩) 1 1) (hgz : gz = w0.heap.size) (hroom : (l.length + 1) * bytes ≤ room) (hbase : base ≤ w0.heap.size)
    (h : ∀ v' w', Pcs w' e base v' (l ++ [(x, y)]) → w0.grownBy w' v.ownBlock → Below base w0 w' → wpList P ops Q rest (a.put o.dst v') w') : wpList P ops Q (o :: rest) a (w0.alloc (.cells #[.int .u64 (x : Int), .int .u64 (y : Int)] e)) := by
  subst hgz
  have hr : Rd (w0.alloc (.cells #[.int .u64 (x : Int), .int .u64 (y : Int)] e)) (w0.heap.size + 1) 2 (some ⟨w0.heap.size, 0, none⟩) 1 (cels [(x, y)]) := Rd.made w0 e #[.int .u64 (x : Int), .int .u64 (y : Int)] rfl
  refine app el hgd s d ho hs (hown.alloc _) hx hr (cels_one _) hroom (by simp; omega) fun v' w' h1 h2 h3 => ?_
  refine h v' w' ?_ ?_ (((Below.refl _ _).alloc hbase _).trans h3)
  · unfold Pcs
    rw [cels_append, List.length_append]
    exact h1
  · have hA := World.grownBy_alloc w0 (.cells #[.int .u64 (x : Int), .int .u64 (y : Int)] e) v.ownBlock
    exact grownBy_trans hA h2
end
theorem gap_stop {l : List Sp} {f t : Nat} (h : ∀ p, l.head? = some p → t ≤ p.1) : gapF l f t = if f < t then [(f, t)] else [] := by
  cases l with
  | nil => rfl
  | cons p l =>
    unfold gapF
    rw [if_pos (h p rfl)]
theorem gap_step {l : List Sp} {k x y f t : Nat} (h : l[k]? = some (x, y)) (ht : ¬ t ≤ x) : gapF (l.drop k) f t = (if f < x then [(f, x)] else []) ++ gapF (l.drop (k + 1)) y t := by
  have e : l.drop k = (x, y) :: l.drop (k + 1) := by
    obtain ⟨hl, hx⟩ := List.getElem?_eq_some_iff.1 h
    rw [← List.getElem_cons_drop hl, hx]
  rw [e]
  conv => lhs; unfold gapF
  rw [if_neg ht]
  split <;> rfl
theorem Rd.cut {w : World} {B sz n c k : Nat} {A : Option Addr} {xs : List Value} (h : Rd w B sz A n xs) (hk : k ≤ n) (hc : n ≤ c) : Rd w B sz (cutA A c k sz) (n - k) (xs.drop (k * sz)) := h.drop hk hc
end Go.Proofs.Ytpnnadnmkiobcaa
