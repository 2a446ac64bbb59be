/- More of what may be known of a value: slices of slices; loads out of a block that is known whole. No program. -/
import Derived.Test.YtdcpmfodkggpeaaGho
import Derived.Test.YtdcpmfodkggpeaaPts
import Derived.Lib.ConvBytes
namespace Go.Proofs.Ytdcpmfodkggpeaa
open Go.RowKit
set_option linter.unusedVariables false
theorem Blk.loads {w : World} {g : Nat} {t : TypeId} {cs : Array Value} (h : Blk w g t cs) (off : Nat) (l : List Value) (e : (cs.toList.drop off).take l.length = l) : ∀ j v, l[j]? = some v → w.cell? ⟨g, off + j, none⟩ = some v := by
  intro j v hj
  have hl : j < l.length := (List.getElem?_eq_some_iff.1 hj).1
  rw [h.cell, ← hj, ← e, List.getElem?_take, List.getElem?_drop]
  simp only [hl, if_true]
  simp
theorem Pts.ones {w : World} {B n c : Nat} {A : Option Addr} {bs : List Nat} (t : TypeId) (hr : Rd w B 1 A n (ns .u8 bs)) (hnc : n ≤ c) (hB : B ≤ w.heap.size) :
    Pts (w.alloc (.cells #[.slice A n c] t)) (w.heap.size + 1) (some ⟨w.heap.size, 0, none⟩) 1 [bs] := by
  have hl := hr.natLen
  refine ⟨rfl, [.slice A n c], Rd.one w t _, fun i b hi => ?_⟩
  obtain rfl : i = 0 := by
    rcases i with _ | i
    · rfl
    · simp at hi
  obtain rfl : b = bs := by simpa using hi.symm
  exact ⟨A, c, by rw [hl]; rfl, by omega, by rw [hl]; exact (hr.alloc hB _).mono (by omega)⟩
theorem Pts.gr {M : Bool} {B n : Nat} {w w' : World} {A : Option Addr} {bss : List (List Nat)} (hb : GH.Gr M B w w') (h : Pts w w.heap.size A n bss) : Pts w' w'.heap.size A n bss := by
  obtain ⟨h1, hs, h2, h3⟩ := h
  refine ⟨h1, hs, hb.rd h2, fun i bs hi => ?_⟩
  obtain ⟨A', c', e1, e2, e3⟩ := h3 i bs hi
  exact ⟨A', c', e1, e2, hb.rd e3⟩
namespace GH
section
variable {M : Bool}
/-- A slice of slices of bytes. -/
def SP.pts (bss : List (List Nat)) : SP M := ⟨fun v w => ∃ A n c, v = .slice A n c ∧ n ≤ c ∧ bss.length = n ∧ Pts w w.heap.size A n bss, fun B v w w' h hb => by
  obtain ⟨A, n, c, h1, h2, h3, h4⟩ := h
  exact ⟨A, n, c, h1, h2, h3, h4.gr hb⟩⟩
/-- Bytes, or other numbers, wherever they lie. -/
def SP.ns (k : IntKind) (l : List Nat) : SP M := ⟨fun v w => ∃ A n c, v = .slice A n c ∧ n ≤ c ∧ l.length = n ∧ Rd w w.heap.size 1 A n (Go.Proofs.Ytdcpmfodkggpeaa.ns k l), fun B v w w' h hb => by
  obtain ⟨A, n, c, h1, h2, h3, h4⟩ := h
  exact ⟨A, n, c, h1, h2, h3, hb.rd h4⟩⟩
/-- A row of the call's own, as numbers. -/
def SP.own (e : TypeId) (k : IntKind) (B : Nat) (l : List Nat) : SP false := ⟨fun v w => Nats w e k B v l, fun B v w w' h hb => h.kept fun g hg => hb.block rfl g (h.lt g hg).2⟩
end
section
variable {P : Program} {M : Bool} {B : Nat} {ops : Array Oper} {o : Oper} {a : Act} {w : World}
theorem ns_of_own {e : TypeId} {k : IntKind} {B : Nat} {v : Value} {l : List Nat} (h : Nats w e k B v l) : (SP.ns (M := M) k l).G v w := by
  obtain ⟨A, c, rfl, hc⟩ := h.form
  exact ⟨A, _, c, rfl, hc, rfl, h.rd⟩
theorem ns_of_lit {B : Nat} {k : IntKind} {v : Value} {l : List Nat} (h : (SP.lit (M := M) B k l).G v w) : (SP.ns (M := M) k l).G v w := by
  obtain ⟨g, h1, h2, h3⟩ := h
  exact ⟨_, _, _, h1, Nat.le_refl _, rfl, h3⟩
theorem ns_lit {t : TypeId} {cs : Array Value} (k : IntKind) (l : List Nat) (n : Nat) (hc : cs.toList = Go.Proofs.Ytdcpmfodkggpeaa.ns k l) (hn : l.length = n) : (SP.ns (M := M) k l).G (.slice (some ⟨w.heap.size, 0, none⟩) n n) (w.alloc (.cells cs t)) :=
  ⟨_, _, _, rfl, Nat.le_refl _, hn, Rd.lit l rfl (by simp) hc hn.symm⟩
theorem lit_lit {t : TypeId} {cs : Array Value} (k : IntKind) (l : List Nat) (n : Nat) (hB : B ≤ w.heap.size) (hc : cs.toList = Go.Proofs.Ytdcpmfodkggpeaa.ns k l) (hn : l.length = n) : (SP.lit (M := M) B k l).G (.slice (some ⟨w.heap.size, 0, none⟩) n n) (w.alloc (.cells cs t)) := by
  subst hn
  exact ⟨_, rfl, hB, Rd.lit l rfl (by simp) hc rfl⟩
theorem pts_lit {A : Option Addr} {n c : Nat} {l : List Nat} (t : TypeId) (hr : Rd w w.heap.size 1 A n (Go.Proofs.Ytdcpmfodkggpeaa.ns .u8 l)) (hnc : n ≤ c) : (SP.pts (M := M) [l]).G (.slice (some ⟨w.heap.size, 0, none⟩) 1 1) (w.alloc (.cells #[.slice A n c] t)) :=
  ⟨_, _, _, rfl, Nat.le_refl _, rfl, (Pts.ones t hr hnc (Nat.le_refl _)).mono (by simp)⟩
theorem rd_lit {t : TypeId} {cs : Array Value} {size n : Nat} {xs : List Value} (hs : cs.size = n * size) (hx : cs.toList = xs) : (SP.rd (M := M) size n xs).G (.slice (some ⟨w.heap.size, 0, none⟩) n n) (w.alloc (.cells cs t)) := by
  subst hx
  exact ⟨_, _, rfl, Nat.le_refl _, (Rd.made w t cs hs).mono (by simp)⟩
/-- A text's bytes. -/
theorem st_str {src dst e : TypeId} {u : TypeDesc} {l : List Nat} (x : Operand) (hs : P.underlying src = some u) (hd : P.underlying dst = some (.slice e)) (he : P.underlying e = some (.int .u8)) (hw : Region.wanted o (yielded ops a.tmps) = true) (hB : B ≤ w.heap.size) (ho : o.op = .convert src dst x)
    (hx : a.eval x = .string (strN l)) (hl : ∀ y ∈ l, y < 256) : St P M B ops o a w (SP.ns .u8 l) := by
  have hsz : (strN l).size = l.length := by simp [strN, ByteArray.size]
  have hr := Lib.run_convert_string_bytes w src dst e (strN l) hs hd he
  refine st_do (v := .slice (some ⟨w.heap.size, 0, none⟩) l.length (grownCap w (strN l).size 0 e)) (w' := Lib.bytesWorld w e (strN l)) hw ?_ (Gr.of ⟨rfl, rfl, rfl, by rw [Lib.bytesWorld_size]; omega, fun k hk => Lib.bytesWorld_at_old w e (strN l) k hk⟩ hB) ⟨_, _, _, rfl, ?_, rfl, ?_⟩
  · rw [hsz] at hr ⊢
    simp [execOp, ho, hx, hr, Result.andThen]
  · rw [hsz]; exact grownCap_ge _ _ _ _
  · refine ⟨by simp [Go.Proofs.Ytdcpmfodkggpeaa.ns], fun _ => ⟨_, _, rfl, by rw [Lib.bytesWorld_size]; omega, fun j hj => ?_⟩⟩
    have hj' : j < l.length := by omega
    rw [Nat.zero_add, Lib.bytesWorld_cell w e (strN l) j (by rw [hsz]; exact hj')]
    have := hl l[j] (List.getElem_mem hj')
    simp [strN, Go.Proofs.Ytdcpmfodkggpeaa.ns, hj']
    omega
end
end GH
end Go.Proofs.Ytdcpmfodkggpeaa
