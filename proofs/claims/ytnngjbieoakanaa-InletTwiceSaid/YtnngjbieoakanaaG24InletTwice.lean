/- A slice of slices of bytes. No program. -/
import Derived.Test.YtnngjbieoakanaaLib
import Derived.Test.YtnngjbieoakanaaG23InletTwice
import Derived.Lib.ConvBytes
import Derived.Test.YtnngjbieoakanaaG21InletTwice
import Derived.Test.YtnngjbieoakanaaG22InletTwice
import Derived.Test.YtnngjbieoakanaaG17InletTwice
import Derived.Test.YtnngjbieoakanaaG15InletTwice
import Derived.Test.YtnngjbieoakanaaSpm2

namespace Go.Proofs.Ytnngjbieoakanaa
open Go.RowKit
set_option linter.unusedVariables false

/-- A slice of slices of bytes, below block B. -/
def Pts (w : World) (B : Nat) (A : Option Addr) (n : Nat) (bss : List (List Nat)) : Prop :=
  bss.length = n ∧ ∃ hs : List Value, Rd w B 1 A n hs ∧ ∀ (i : Nat) (bs : List Nat), bss[i]? = some bs → ∃ A' c', hs[i]? = some (.slice A' bs.length c') ∧ bs.length ≤ c' ∧ Rd w B 1 A' bs.length (ns .u8 bs)
section
variable {w w' : World} {B n : Nat} {A : Option Addr} {bss : List (List Nat)}
theorem Pts.keep (h : Pts w B A n bss) (hb : Below B w w') : Pts w' B A n bss := by
  obtain ⟨h1, hs, h2, h3⟩ := h
  refine ⟨h1, hs, h2.below hb, fun i bs hi => ?_⟩
  obtain ⟨A', c', e1, e2, e3⟩ := h3 i bs hi
  exact ⟨A', c', e1, e2, e3.below hb⟩
theorem Pts.mono {B' : Nat} (h : Pts w B A n bss) (hB : B ≤ B') : Pts w B' A n bss := by
  obtain ⟨h1, hs, h2, h3⟩ := h
  refine ⟨h1, hs, h2.mono hB, fun i bs hi => ?_⟩
  obtain ⟨A', c', e1, e2, e3⟩ := h3 i bs hi
  exact ⟨A', c', e1, e2, e3.mono hB⟩
theorem Pts.nil (w : World) (B : Nat) (A : Option Addr) : Pts w B A 0 [] := ⟨rfl, [], Rd.nil _ _ _ _, fun i bs h => by simp at h⟩
theorem Pts.nth (h : Pts w B A n bss) {i : Nat} (hi : i < n) : ∃ (b off : Nat) (A' : Option Addr) (n' c' : Nat) (bs : List Nat), A = some ⟨b, off, none⟩ ∧ b < B ∧ w.cell? ⟨b, off + i, none⟩ = some (.slice A' n' c') ∧ Hid (bss[i]? = some bs) ∧ Hid (bs.length = n') ∧ n' ≤ c' ∧ Hid (Rd w B 1 A' n' (ns .u8 bs)) := by
  obtain ⟨h1, hs, h2, h3⟩ := h
  obtain ⟨b, off, e, hb, hc⟩ := h2.2 (by omega)
  have hl : i < bss.length := by omega
  obtain ⟨A', c', e1, e2, e3⟩ := h3 i bss[i] (by rw [List.getElem?_eq_getElem hl])
  exact ⟨b, off, A', _, c', bss[i], e, hb, (hc i (by omega)).trans e1, Lib.hid (List.getElem?_eq_getElem hl), Lib.hid rfl, e2, Lib.hid e3⟩
end
theorem flat_take {bss : List (List Nat)} {i : Nat} {bs : List Nat} (h : bss[i]? = some bs) : (bss.take (i + 1)).flatten = (bss.take i).flatten ++ bs := by
  rw [List.take_add_one, h]
  simp
theorem flat_le (bss : List (List Nat)) (i : Nat) : (bss.take i).flatten.length ≤ bss.flatten.length := by
  conv => rhs; rw [← List.take_append_drop i bss]
  rw [List.flatten_append, List.length_append]
  omega
end Go.Proofs.Ytnngjbieoakanaa

/- More of what may be known of a value: slices of slices; loads out of a block that is known whole. No program. -/
namespace Go.Proofs.Ytnngjbieoakanaa
open Go.RowKit
set_option linter.unusedVariables false
theorem Blk.loads {w : World} {g : Nat} {t : TypeId} {cs : Array Value} (h : Blk w g t cs) (off : Nat) (l : List Value) (e : (cs.toList.drop off).take l.length = l) : ∀ j v, l[j]? = some v → w.cell? ⟨g, off + j, none⟩ = some v := by
  intro j v hj
  have hl : j < l.length := (List.getElem?_eq_some_iff.1 hj).1
  rw [h.cell, ← hj, ← e, List.getElem?_take, List.getElem?_drop]
  simp only [hl, if_true]
  simp
theorem Pts.ones {w : World} {B n c : Nat} {A : Option Addr} {bs : List Nat} (t : TypeId) (hr : Rd w B 1 A n (ns .u8 bs)) (hnc : n ≤ c) (hB : B ≤ w.heap.size) :
    Pts (w.alloc (.cells #[.slice A n c] t)) (w.heap.size + 1) (some ⟨w.heap.size, 0, none⟩) 1 [bs] := by
  have hl := hr.natLen
  refine ⟨rfl, [.slice A n c], Rd.one w t _, fun i b hi => ?_⟩
  obtain rfl : i = 0 := by
    rcases i with _ | i
    · rfl
    · simp at hi
  obtain rfl : b = bs := by simpa using hi.symm
  exact ⟨A, c, by rw [hl]; rfl, by omega, by rw [hl]; exact (hr.alloc hB _).mono (by omega)⟩
theorem Pts.gr {M : Bool} {B n : Nat} {w w' : World} {A : Option Addr} {bss : List (List Nat)} (hb : GH.Gr M B w w') (h : Pts w w.heap.size A n bss) : Pts w' w'.heap.size A n bss := by
  obtain ⟨h1, hs, h2, h3⟩ := h
  refine ⟨h1, hs, hb.rd h2, fun i bs hi => ?_⟩
  obtain ⟨A', c', e1, e2, e3⟩ := h3 i bs hi
  exact ⟨A', c', e1, e2, hb.rd e3⟩
namespace GH
section
variable {M : Bool}
/-- A slice of slices of bytes. -/
def SP.pts (bss : List (List Nat)) : SP M := ⟨fun v w => ∃ A n c, v = .slice A n c ∧ n ≤ c ∧ bss.length = n ∧ Pts w w.heap.size A n bss, fun B v w w' h hb => by
  obtain ⟨A, n, c, h1, h2, h3, h4⟩ := h
  exact ⟨A, n, c, h1, h2, h3, h4.gr hb⟩⟩
/-- Bytes, or other numbers, wherever they lie. -/
def SP.ns (k : IntKind) (l : List Nat) : SP M := ⟨fun v w => ∃ A n c, v = .slice A n c ∧ n ≤ c ∧ l.length = n ∧ Rd w w.heap.size 1 A n (Go.Proofs.Ytnngjbieoakanaa.ns k l), fun B v w w' h hb => by
  obtain ⟨A, n, c, h1, h2, h3, h4⟩ := h
  exact ⟨A, n, c, h1, h2, h3, hb.rd h4⟩⟩
/-- A row of the call's own, as numbers. -/
def SP.own (e : TypeId) (k : IntKind) (B : Nat) (l : List Nat) : SP false := ⟨fun v w => Nats w e k B v l, fun B v w w' h hb => h.kept fun g hg => hb.block rfl g (h.lt g hg).2⟩
end
section
variable {P : Program} {M : Bool} {B : Nat} {ops : Array Oper} {o : Oper} {a : Act} {w : World}
theorem ns_of_own {e : TypeId} {k : IntKind} {B : Nat} {v : Value} {l : List Nat} (h : Nats w e k B v l) : (SP.ns (M := M) k l).G v w := by
  obtain ⟨A, c, rfl, hc⟩ := h.form
  exact ⟨A, _, c, rfl, hc, rfl, h.rd⟩
theorem ns_of_lit {B : Nat} {k : IntKind} {v : Value} {l : List Nat} (h : (SP.lit (M := M) B k l).G v w) : (SP.ns (M := M) k l).G v w := by
  obtain ⟨g, h1, h2, h3⟩ := h
  exact ⟨_, _, _, h1, Nat.le_refl _, rfl, h3⟩
theorem ns_lit {t : TypeId} {cs : Array Value} (k : IntKind) (l : List Nat) (n : Nat) (hc : cs.toList = Go.Proofs.Ytnngjbieoakanaa.ns k l) (hn : l.length = n) : (SP.ns (M := M) k l).G (.slice (some ⟨w.heap.size, 0, none⟩) n n) (w.alloc (.cells cs t)) :=
  ⟨_, _, _, rfl, Nat.le_refl _, hn, Rd.lit l rfl (by simp) hc hn.symm⟩
theorem lit_lit {t : TypeId} {cs : Array Value} (k : IntKind) (l : List Nat) (n : Nat) (hB : B ≤ w.heap.size) (hc : cs.toList = Go.Proofs.Ytnngjbieoakanaa.ns k l) (hn : l.length = n) : (SP.lit (M := M) B k l).G (.slice (some ⟨w.heap.size, 0, none⟩) n n) (w.alloc (.cells cs t)) := by
  subst hn
  exact ⟨_, rfl, hB, Rd.lit l rfl (by simp) hc rfl⟩
theorem pts_lit {A : Option Addr} {n c : Nat} {l : List Nat} (t : TypeId) (hr : Rd w w.heap.size 1 A n (Go.Proofs.Ytnngjbieoakanaa.ns .u8 l)) (hnc : n ≤ c) : (SP.pts (M := M) [l]).G (.slice (some ⟨w.heap.size, 0, none⟩) 1 1) (w.alloc (.cells #[.slice A n c] t)) :=
  ⟨_, _, _, rfl, Nat.le_refl _, rfl, (Pts.ones t hr hnc (Nat.le_refl _)).mono (by simp)⟩
theorem rd_lit {t : TypeId} {cs : Array Value} {size n : Nat} {xs : List Value} (hs : cs.size = n * size) (hx : cs.toList = xs) : (SP.rd (M := M) size n xs).G (.slice (some ⟨w.heap.size, 0, none⟩) n n) (w.alloc (.cells cs t)) := by
  subst hx
  exact ⟨_, _, rfl, Nat.le_refl _, (Rd.made w t cs hs).mono (by simp)⟩
/-- A text's bytes. -/
theorem st_str {src dst e : TypeId} {u : TypeDesc} {l : List Nat} (x : Operand) (hs : P.underlying src = some u) (hd : P.underlying dst = some (.slice e)) (he : P.underlying e = some (.int .u8)) (hw : Region.wanted o (yielded ops a.tmps) = true) (hB : B ≤ w.heap.size) (ho : o.op = .convert src dst x)
    (hx : a.eval x = .string (strN l)) (hl : ∀ y ∈ l, y < 256) : St P M B ops o a w (SP.ns .u8 l) := by
  have hsz : (strN l).size = l.length := by simp [strN, ByteArray.size]
  have hr := Lib.run_convert_string_bytes w src dst e (strN l) hs hd he
  refine st_do (v := .slice (some ⟨w.heap.size, 0, none⟩) l.length (grownCap w (strN l).size 0 e)) (w' := Lib.bytesWorld w e (strN l)) hw ?_ (Gr.of ⟨rfl, rfl, rfl, by rw [Lib.bytesWorld_size]; omega, fun k hk => Lib.bytesWorld_at_old w e (strN l) k hk⟩ hB) ⟨_, _, _, rfl, ?_, rfl, ?_⟩
  · rw [hsz] at hr ⊢
    simp [execOp, ho, hx, hr, Result.andThen]
  · rw [hsz]; exact grownCap_ge _ _ _ _
  · refine ⟨by simp [Go.Proofs.Ytnngjbieoakanaa.ns], fun _ => ⟨_, _, rfl, by rw [Lib.bytesWorld_size]; omega, fun j hj => ?_⟩⟩
    have hj' : j < l.length := by omega
    rw [Nat.zero_add, Lib.bytesWorld_cell w e (strN l) j (by rw [hsz]; exact hj')]
    have := hl l[j] (List.getElem_mem hj')
    simp [strN, Go.Proofs.Ytnngjbieoakanaa.ns, hj']
    omega
end
end GH
end Go.Proofs.Ytnngjbieoakanaa

/- Package outlet: an outlet in memory; its calls. -/
namespace Go.Proofs.Ytnngjbieoakanaa
open Go.RowKit
set_option linter.unusedVariables false
set_option linter.unusedSimpArgs false
/-- How many bytes a stream may have. -/
def qLim : Nat := 4611686018427387904
/-- Nothing but these three blocks has turned. -/
def Tri (o g p : Nat) (w w' : World) : Prop := Below (min o (min g p)) w w' ∧ w'.heap.size = w.heap.size ∧ ∀ k, k ≠ o → k ≠ g → k ≠ p → w'.heap[k]? = w.heap[k]?
section
variable {w w' w2 : World} {o g p size base : Nat} {cl dn : Bool} {bs : List Nat}
theorem Tri.refl : Tri o g p w w := ⟨Below.refl _ _, rfl, fun _ _ _ _ => rfl⟩
theorem Tri.trans (h : Tri o g p w w') (k : Tri o g p w' w2) : Tri o g p w w2 := ⟨h.1.trans k.1, k.2.1.trans h.2.1, fun i a b c => (k.2.2 i a b c).trans (h.2.2 i a b c)⟩
theorem Tri.of_duo (h : Duo g p w w') : Tri o g p w w' := ⟨h.1.mono (Nat.min_le_right _ _), h.2.1, fun k _ b c => h.2.2 k b c⟩
theorem Tri.of_o (h : Solo o w w') : Tri o g p w w' := ⟨h.1.mono (Nat.min_le_left _ _), h.2.1, fun k a _ _ => h.2.2 k a⟩
theorem Tri.drewN (h : Tri o g p w w') (n : Nat) : Tri o g p w (w'.drewN n) := ⟨below_drewN h.1 n, h.2.1, h.2.2⟩
theorem Tri.drew (h : Tri o g p w w') : Tri o g p w w'.drew := by rw [World.drew_is_drewN]; exact h.drewN 1
theorem Tri.below {B : Nat} (h : Tri o g p w w') (ho : B ≤ o) (hg : B ≤ g) (hp : B ≤ p) : Below B w w' := h.1.mono (by omega)
theorem Tri.nats {e : TypeId} {k : IntKind} {B : Nat} {v : Value} {l : List Nat} (h : Tri o g p w w') (hn : Nats w e k B v l) (ho : o < B) (hg : g < B) (hp : p < B) : Nats w' e k B v l :=
  hn.kept fun i hi => by
    have : B ≤ i := (hn.lt i hi).1
    exact h.2.2 i (by omega) (by omega) (by omega)
end
end Go.Proofs.Ytnngjbieoakanaa

/- Package outlet: At, New, Bytes. -/
namespace Go.Proofs.Ytnngjbieoakanaa
open Go.RowKit
set_option linter.unusedVariables false
set_option linter.unusedSimpArgs false
theorem ring_new_none (size : Int) (w : World) (h : size < 1 ∨ 65536 < size) : Calls Try.prog 15 #[.int .i64 size] w fun e w' => e = .returned (.tuple #[.pointer none, .int .i64 50]) ∧ Below w.heap.size w w' := by
  rcases h with h | h
  · go_enter Try.func15, Try.ntmps15
    go_wp2_with fail
    go_ret2
    exact ⟨rfl, Below.refl _ _⟩
  · by_cases h0 : size < 1
    · omega
    · have h1 : (1 : Int) ≤ size := by omega
      clear h0
      go_enter Try.func15, Try.ntmps15
      go_wp2_with fail
      go_ret2
      exact ⟨rfl, Below.refl _ _⟩
/-- The bytes that Bytes gives. -/
def byL (base : Nat) (bs : List Nat) (from_ : Nat) (many : Int) : List Nat := if from_ < base ∨ base + bs.length < from_ then [] else (bs.drop (from_ - base)).take many.toNat
end Go.Proofs.Ytnngjbieoakanaa

/- Package spans: List, Many. -/
namespace Go.Proofs.Ytnngjbieoakanaa
open Go.RowKit
set_option linter.unusedVariables false
theorem list_any (g B most : Nat) (v : Value) (l : List Sp) (w : World) (h : SetI w g B most v l) :
    Calls Try.prog 25 #[.pointer (some ⟨g, 0, none⟩)] w fun e w' => ∃ v', e = .returned v' ∧ w'.ownsRow w.heap.size 71 2 v' l.length (cels l) ∧ Below w.heap.size w w' := by
  obtain ⟨A, c, rfl, hnc, hcm, hr⟩ := own_form h.own
  have hms := h.ms
  have hl := h.len
  have HC := Lib.hid (spnClone A l.length c w.heap.size (cels l) w hr (Nat.le_refl _) (cels_one l) (by omega))
  have c1 := h.c1
  clear h hr
  generalize l.length = n at *
  go_enter Try.func25, Try.ntmps25
  go_wp2_with fail
  refine HC.out.mono ?_
  rintro e w1 ⟨v', rfl, ho, hb⟩
  have HO := Lib.hid ho
  clear ho HC c1
  go_wp2_with fail
  go_ret
  exact ⟨_, rfl, HO.out, hb⟩
theorem wrap_u64_sub {x y : Nat} (h : x ≤ y) (hy : y < pmax) : IntKind.u64.wrap ((y : Int) - (x : Int)) = ((y - x : Nat) : Int) := by
  unfold pmax at hy
  rw [IntKind.wrap_u64]
  omega
theorem wrap_u64_lt {x : Nat} (hx : x < pmax) : IntKind.u64.wrap (x : Int) = (x : Int) := by
  unfold pmax at hx
  rw [IntKind.wrap_u64]
  omega
end Go.Proofs.Ytnngjbieoakanaa
