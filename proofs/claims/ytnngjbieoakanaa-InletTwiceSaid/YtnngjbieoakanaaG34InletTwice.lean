/- Arguments of any shape, opened: a slice of structs. No program. -/
import Derived.Test.YtnngjbieoakanaaG32InletTwice
import Derived.Deep.Slices

namespace Go.Proofs.Ytnngjbieoakanaa
open Go.RowKit Go.ChangeShapes Go.WideShapes Go.ChangeAt
set_option linter.unusedVariables false
section
variable {H : Type} (enc : TypeId × Value → H) (P : Program) (w : World) (held : Bool)
/-- What is read at a type is one of these, as these cells. -/
def Opens (t : TypeId) {α : Type} (el : α → List Value) (ok : α → Prop) : Prop :=
  ∀ (fuel : Nat) (cs : List Value) (x : DataW H × List MemPlace), DataW.trod enc P w 0 (fun _ => true) held fuel t cs = some x → ∃ p, cs = el p ∧ ok p
end
/-- A row of bytes as an argument: its slice, and what it holds. -/
structure Body where
  A : Option Addr
  n : Nat
  c : Nat
  l : List Nat
def Body.el (b : Body) : List Value := [.slice b.A b.n b.c]
def Body.ok (w : World) (b : Body) : Prop := Rd w w.heap.size 1 b.A b.n (ns .u8 b.l) ∧ b.n ≤ b.c ∧ b.c ≤ maxLen ∧ ∀ x ∈ b.l, x < 256
section
variable {H : Type} {enc : TypeId × Value → H} {P : Program} {w : World} {held : Bool} {t e : TypeId}
theorem opens_u8 (ht : P.underlying t = some (.int .u8)) : Opens enc P w held t (fun n : Nat => [.int .u8 (n : Int)]) (fun n => n < 256) := by
  intro fuel cs x h
  obtain ⟨n, rfl, _, hw⟩ := DataW.trod_int ht h
  have := bounds_u8 hw
  exact ⟨n.toNat, by dsimp only; rw [Int.toNat_of_nonneg this.1], by omega⟩
theorem opens_u16 (ht : P.underlying t = some (.int .u16)) : Opens enc P w held t (fun n : Nat => [.int .u16 (n : Int)]) (fun n => n < 65536) := by
  intro fuel cs x h
  obtain ⟨n, rfl, _, hw⟩ := DataW.trod_int ht h
  have := bounds_u16 hw
  exact ⟨n.toNat, by dsimp only; rw [Int.toNat_of_nonneg this.1], by omega⟩
theorem opens_u32 (ht : P.underlying t = some (.int .u32)) : Opens enc P w held t (fun n : Nat => [.int .u32 (n : Int)]) (fun n => n < 4294967296) := by
  intro fuel cs x h
  obtain ⟨n, rfl, _, hw⟩ := DataW.trod_int ht h
  have := bounds_u32 hw
  exact ⟨n.toNat, by dsimp only; rw [Int.toNat_of_nonneg this.1], by omega⟩
theorem opens_u64 (ht : P.underlying t = some (.int .u64)) : Opens enc P w held t (fun n : Nat => [.int .u64 (n : Int)]) (fun n => n < 18446744073709551616) := by
  intro fuel cs x h
  obtain ⟨n, rfl, _, hw⟩ := DataW.trod_int ht h
  have := bounds_u64 hw
  exact ⟨n.toNat, by dsimp only; rw [Int.toNat_of_nonneg this.1], by omega⟩
theorem opens_i64 (ht : P.underlying t = some (.int .i64)) : Opens enc P w held t (fun n : Int => [.int .i64 n]) (fun n => -9223372036854775808 ≤ n ∧ n < 9223372036854775808) := by
  intro fuel cs x h
  obtain ⟨n, rfl, _, hw⟩ := DataW.trod_int ht h
  have := bounds_i64 hw
  exact ⟨n, rfl, by omega⟩
theorem len2 {α : Type} {l : List α} (h : l.length = 2) : ∃ a b, l = [a, b] := by
  match l, h with
  | [a, b], _ => exact ⟨a, b, rfl⟩
theorem len3 {α : Type} {l : List α} (h : l.length = 3) : ∃ a b c, l = [a, b, c] := by
  match l, h with
  | [a, b, c], _ => exact ⟨a, b, c, rfl⟩
theorem len4 {α : Type} {l : List α} (h : l.length = 4) : ∃ a b c d, l = [a, b, c, d] := by
  match l, h with
  | [a, b, c, d], _ => exact ⟨a, b, c, d, rfl⟩
theorem len7 {α : Type} {l : List α} (h : l.length = 7) : ∃ a b c d e f g, l = [a, b, c, d, e, f, g] := by
  match l, h with
  | [a, b, c, d, e, f, g], _ => exact ⟨a, b, c, d, e, f, g, rfl⟩
theorem opens_struct2 {f0 f1 : Field} {α0 : Type} {el0 : α0 → List Value} {ok0 : α0 → Prop} {α1 : Type} {el1 : α1 → List Value} {ok1 : α1 → Prop} (ht : P.underlying t = some (.struct #[f0, f1])) (hc : P.cellsOf t = 2) (o0 : f0.offset = 0) (c0 : P.cellsOf f0.type = 1) (h0 : Opens enc P w held f0.type el0 ok0) (o1 : f1.offset = 1) (c1 : P.cellsOf f1.type = 1) (h1 : Opens enc P w held f1.type el1 ok1) :
    Opens enc P w held t (fun p : α0 × α1 => el0 p.1 ++ el1 p.2) (fun p => ok0 p.1 ∧ ok1 p.2) := by
  intro fuel cs x h
  obtain ⟨xs, n, _, _, hl, hxs, hf⟩ := DataW.trod_struct ht h
  have g0 := hf 0 f0 rfl
  have g1 := hf 1 f1 rfl
  rw [hc] at hl
  obtain ⟨x0, x1, rfl⟩ := len2 (show xs.length = 2 from hxs)
  obtain ⟨u0, u1, rfl⟩ := len2 hl
  rw [o0, c0] at g0
  rw [o1, c1] at g1
  obtain ⟨p0, e0, k0⟩ := h0 _ _ _ (show DataW.trod enc P w 0 (fun _ => true) held n f0.type [u0] = some x0 from g0)
  obtain ⟨p1, e1, k1⟩ := h1 _ _ _ (show DataW.trod enc P w 0 (fun _ => true) held n f1.type [u1] = some x1 from g1)
  refine ⟨(p0, p1), ?_, k0, k1⟩
  dsimp only
  rw [← e0, ← e1]
  rfl
theorem opens_struct3 {f0 f1 f2 : Field} {α0 : Type} {el0 : α0 → List Value} {ok0 : α0 → Prop} {α1 : Type} {el1 : α1 → List Value} {ok1 : α1 → Prop} {α2 : Type} {el2 : α2 → List Value} {ok2 : α2 → Prop} (ht : P.underlying t = some (.struct #[f0, f1, f2])) (hc : P.cellsOf t = 3) (o0 : f0.offset = 0) (c0 : P.cellsOf f0.type = 1) (h0 : Opens enc P w held f0.type el0 ok0) (o1 : f1.offset = 1) (c1 : P.cellsOf f1.type = 1) (h1 : Opens enc P w held f1.type el1 ok1) (o2 : f2.offset = 2) (c2 : P.cellsOf f2.type = 1) (h2 : Opens enc P w held f2.type el2 ok2) :
    Opens enc P w held t (fun p : α0 × α1 × α2 => el0 p.1 ++ el1 p.2.1 ++ el2 p.2.2) (fun p => ok0 p.1 ∧ ok1 p.2.1 ∧ ok2 p.2.2) := by
  intro fuel cs x h
  obtain ⟨xs, n, _, _, hl, hxs, hf⟩ := DataW.trod_struct ht h
  have g0 := hf 0 f0 rfl
  have g1 := hf 1 f1 rfl
  have g2 := hf 2 f2 rfl
  rw [hc] at hl
  obtain ⟨x0, x1, x2, rfl⟩ := len3 (show xs.length = 3 from hxs)
  obtain ⟨u0, u1, u2, rfl⟩ := len3 hl
  rw [o0, c0] at g0
  rw [o1, c1] at g1
  rw [o2, c2] at g2
  obtain ⟨p0, e0, k0⟩ := h0 _ _ _ (show DataW.trod enc P w 0 (fun _ => true) held n f0.type [u0] = some x0 from g0)
  obtain ⟨p1, e1, k1⟩ := h1 _ _ _ (show DataW.trod enc P w 0 (fun _ => true) held n f1.type [u1] = some x1 from g1)
  obtain ⟨p2, e2, k2⟩ := h2 _ _ _ (show DataW.trod enc P w 0 (fun _ => true) held n f2.type [u2] = some x2 from g2)
  refine ⟨(p0, p1, p2), ?_, k0, k1, k2⟩
  dsimp only
  rw [← e0, ← e1, ← e2]
  rfl
theorem opens_struct4 {f0 f1 f2 f3 : Field} {α0 : Type} {el0 : α0 → List Value} {ok0 : α0 → Prop} {α1 : Type} {el1 : α1 → List Value} {ok1 : α1 → Prop} {α2 : Type} {el2 : α2 → List Value} {ok2 : α2 → Prop} {α3 : Type} {el3 : α3 → List Value} {ok3 : α3 → Prop} (ht : P.underlying t = some (.struct #[f0, f1, f2, f3])) (hc : P.cellsOf t = 4) (o0 : f0.offset = 0) (c0 : P.cellsOf f0.type = 1) (h0 : Opens enc P w held f0.type el0 ok0) (o1 : f1.offset = 1) (c1 : P.cellsOf f1.type = 1) (h1 : Opens enc P w held f1.type el1 ok1) (o2 : f2.offset = 2) (c2 : P.cellsOf f2.type = 1) (h2 : Opens enc P w held f2.type el2 ok2) (o3 : f3.offset = 3) (c3 : P.cellsOf f3.type = 1) (h3 : Opens enc P w held f3.type el3 ok3) :
    Opens enc P w held t (fun p : α0 × α1 × α2 × α3 => el0 p.1 ++ el1 p.2.1 ++ el2 p.2.2.1 ++ el3 p.2.2.2) (fun p => ok0 p.1 ∧ ok1 p.2.1 ∧ ok2 p.2.2.1 ∧ ok3 p.2.2.2) := by
  intro fuel cs x h
  obtain ⟨xs, n, _, _, hl, hxs, hf⟩ := DataW.trod_struct ht h
  have g0 := hf 0 f0 rfl
  have g1 := hf 1 f1 rfl
  have g2 := hf 2 f2 rfl
  have g3 := hf 3 f3 rfl
  rw [hc] at hl
  obtain ⟨x0, x1, x2, x3, rfl⟩ := len4 (show xs.length = 4 from hxs)
  obtain ⟨u0, u1, u2, u3, rfl⟩ := len4 hl
  rw [o0, c0] at g0
  rw [o1, c1] at g1
  rw [o2, c2] at g2
  rw [o3, c3] at g3
  obtain ⟨p0, e0, k0⟩ := h0 _ _ _ (show DataW.trod enc P w 0 (fun _ => true) held n f0.type [u0] = some x0 from g0)
  obtain ⟨p1, e1, k1⟩ := h1 _ _ _ (show DataW.trod enc P w 0 (fun _ => true) held n f1.type [u1] = some x1 from g1)
  obtain ⟨p2, e2, k2⟩ := h2 _ _ _ (show DataW.trod enc P w 0 (fun _ => true) held n f2.type [u2] = some x2 from g2)
  obtain ⟨p3, e3, k3⟩ := h3 _ _ _ (show DataW.trod enc P w 0 (fun _ => true) held n f3.type [u3] = some x3 from g3)
  refine ⟨(p0, p1, p2, p3), ?_, k0, k1, k2, k3⟩
  dsimp only
  rw [← e0, ← e1, ← e2, ← e3]
  rfl
theorem opens_struct7 {f0 f1 f2 f3 f4 f5 f6 : Field} {α0 : Type} {el0 : α0 → List Value} {ok0 : α0 → Prop} {α1 : Type} {el1 : α1 → List Value} {ok1 : α1 → Prop} {α2 : Type} {el2 : α2 → List Value} {ok2 : α2 → Prop} {α3 : Type} {el3 : α3 → List Value} {ok3 : α3 → Prop} {α4 : Type} {el4 : α4 → List Value} {ok4 : α4 → Prop} {α5 : Type} {el5 : α5 → List Value} {ok5 : α5 → Prop} {α6 : Type} {el6 : α6 → List Value} {ok6 : α6 → Prop} (ht : P.underlying t = some (.struct #[f0, f1, f2, f3, f4, f5, f6])) (hc : P.cellsOf t = 7) (o0 : f0.offset = 0) (c0 : P.cellsOf f0.type = 1) (h0 : Opens enc P w held f0.type el0 ok0) (o1 : f1.offset = 1) (c1 : P.cellsOf f1.type = 1) (h1 : Opens enc P w held f1.type el1 ok1) (o2 : f2.offset = 2) (c2 : P.cellsOf f2.type = 1) (h2 : Opens enc P w held f2.type el2 ok2) (o3 : f3.offset = 3) (c3 : P.cellsOf f3.type = 1) (h3 : Opens enc P w held f3.type el3 ok3) (o4 : f4.offset = 4) (c4 : P.cellsOf f4.type = 1) (h4 : Opens enc P w held f4.type el4 ok4) (o5 : f5.offset = 5) (c5 : P.cellsOf f5.type = 1) (h5 : Opens enc P w held f5.type el5 ok5) (o6 : f6.offset = 6) (c6 : P.cellsOf f6.type = 1) (h6 : Opens enc P w held f6.type el6 ok6) :
    Opens enc P w held t (fun p : α0 × α1 × α2 × α3 × α4 × α5 × α6 => el0 p.1 ++ el1 p.2.1 ++ el2 p.2.2.1 ++ el3 p.2.2.2.1 ++ el4 p.2.2.2.2.1 ++ el5 p.2.2.2.2.2.1 ++ el6 p.2.2.2.2.2.2) (fun p => ok0 p.1 ∧ ok1 p.2.1 ∧ ok2 p.2.2.1 ∧ ok3 p.2.2.2.1 ∧ ok4 p.2.2.2.2.1 ∧ ok5 p.2.2.2.2.2.1 ∧ ok6 p.2.2.2.2.2.2) := by
  intro fuel cs x h
  obtain ⟨xs, n, _, _, hl, hxs, hf⟩ := DataW.trod_struct ht h
  have g0 := hf 0 f0 rfl
  have g1 := hf 1 f1 rfl
  have g2 := hf 2 f2 rfl
  have g3 := hf 3 f3 rfl
  have g4 := hf 4 f4 rfl
  have g5 := hf 5 f5 rfl
  have g6 := hf 6 f6 rfl
  rw [hc] at hl
  obtain ⟨x0, x1, x2, x3, x4, x5, x6, rfl⟩ := len7 (show xs.length = 7 from hxs)
  obtain ⟨u0, u1, u2, u3, u4, u5, u6, rfl⟩ := len7 hl
  rw [o0, c0] at g0
  rw [o1, c1] at g1
  rw [o2, c2] at g2
  rw [o3, c3] at g3
  rw [o4, c4] at g4
  rw [o5, c5] at g5
  rw [o6, c6] at g6
  obtain ⟨p0, e0, k0⟩ := h0 _ _ _ (show DataW.trod enc P w 0 (fun _ => true) held n f0.type [u0] = some x0 from g0)
  obtain ⟨p1, e1, k1⟩ := h1 _ _ _ (show DataW.trod enc P w 0 (fun _ => true) held n f1.type [u1] = some x1 from g1)
  obtain ⟨p2, e2, k2⟩ := h2 _ _ _ (show DataW.trod enc P w 0 (fun _ => true) held n f2.type [u2] = some x2 from g2)
  obtain ⟨p3, e3, k3⟩ := h3 _ _ _ (show DataW.trod enc P w 0 (fun _ => true) held n f3.type [u3] = some x3 from g3)
  obtain ⟨p4, e4, k4⟩ := h4 _ _ _ (show DataW.trod enc P w 0 (fun _ => true) held n f4.type [u4] = some x4 from g4)
  obtain ⟨p5, e5, k5⟩ := h5 _ _ _ (show DataW.trod enc P w 0 (fun _ => true) held n f5.type [u5] = some x5 from g5)
  obtain ⟨p6, e6, k6⟩ := h6 _ _ _ (show DataW.trod enc P w 0 (fun _ => true) held n f6.type [u6] = some x6 from g6)
  refine ⟨(p0, p1, p2, p3, p4, p5, p6), ?_, k0, k1, k2, k3, k4, k5, k6⟩
  dsimp only
  rw [← e0, ← e1, ← e2, ← e3, ← e4, ← e5, ← e6]
  rfl
/-- A slice whose elements are read so. -/
theorem opens_slice {α : Type} {el : α → List Value} {ok : α → Prop} (ht : P.underlying t = some (.slice e)) (hpos : 0 < P.cellsOf e) (hel : Opens enc P w held e el ok) {fuel : Nat} {cs : List Value} {x : DataW H × List MemPlace}
    (h : DataW.trod enc P w 0 (fun _ => true) held fuel t cs = some x) :
    ∃ (A : Option Addr) (n c : Nat) (l : List α), cs = [.slice A n c] ∧ l.length = n ∧ Rd w w.heap.size (P.cellsOf e) A n (l.flatMap el) ∧ n ≤ c ∧ c ≤ maxLen ∧ ∀ p ∈ l, ok p := by
  rcases Go.Deep.open_slice ht h with ⟨rfl, _⟩ | ⟨a, len, cap, m, k, D, Pl, rfl, _, hl, hm, hmm, _, hx⟩
  · exact ⟨none, 0, 0, [], rfl, rfl, Rd.nil _ _ _ _, Nat.le_refl _, Nat.zero_le _, by simp⟩
  · have hmc : m = cap := by simpa using hmm
    subst hmc
    generalize hsz : P.cellsOf e = sz at *
    -- one element after the other
    have hex : ∀ j, j ≤ len → ∃ l : List α, l.length = j ∧ (l.flatMap el).length = j * sz ∧ (∀ p ∈ l, ok p) ∧ ∀ i, i < j * sz → w.cell? (a.add i) = (l.flatMap el)[i]? := by
      intro j
      induction j with
      | zero => exact fun _ => ⟨[], rfl, by simp, by simp, fun i hi => by omega⟩
      | succ j ih =>
        intro hj
        obtain ⟨l, h1, h2, h3, h4⟩ := ih (by omega)
        obtain ⟨cs', hc, htr⟩ := hx j (by omega)
        obtain ⟨_, hlen, hcell⟩ := World.cells?_some hc
        obtain ⟨p, rfl, hok⟩ := hel _ _ _ htr
        have hs : (j + 1) * sz = j * sz + sz := Nat.succ_mul j sz
        refine ⟨l ++ [p], by simp [h1], by simp [h2, hlen, hs], fun q hq => ?_, fun i hi => ?_⟩
        · rcases List.mem_append.1 hq with hq | hq
          · exact h3 q hq
          · simp at hq; subst hq; exact hok
        · rw [List.flatMap_append]
          by_cases hi2 : i < j * sz
          · rw [List.getElem?_append_left (by omega)]
            exact h4 i hi2
          · rw [List.getElem?_append_right (by omega), h2]
            have := hcell (i - j * sz) (by omega)
            have e : (a.add (j * sz)).add (i - j * sz) = a.add i := by rw [Addr.add_add]; congr 1; omega
            rw [e] at this
            simpa using this
    obtain ⟨l, h1, h2, h3, h4⟩ := hex len (Nat.le_refl _)
    refine ⟨some a, len, _, l, rfl, h1, ⟨h2, fun hn => ?_⟩, hl, hm, h3⟩
    have hp : 0 < len * sz := Nat.mul_pos hn hpos
    have h0 := h4 0 hp
    have hne : (l.flatMap el)[0]? = some ((l.flatMap el)[0]'(by omega)) := List.getElem?_eq_getElem _
    rw [hne] at h0
    have hspot : a.spot = none := by
      have := World.cell?_spot h0
      unfold Addr.add at this
      simpa using this
    obtain ⟨b, off, spot⟩ := a
    simp at hspot
    subst hspot
    refine ⟨b, off, rfl, World.block_lt_of_cell? w (a := ⟨b, off, none⟩) (by simpa [addr_add] using h0), fun j hj => ?_⟩
    have := h4 j hj
    rwa [addr_add] at this
theorem opens_bytes (ht : P.underlying t = some (.slice e)) (he : P.underlying e = some (.int .u8)) (hc : P.cellsOf e = 1) : Opens enc P w held t Body.el (Body.ok w) := by
  intro fuel cs x h
  obtain ⟨A, n, c, l, rfl, h1, h2, h3, h4, h5⟩ := opens_slice ht (by omega) (opens_u8 (enc := enc) (w := w) (held := held) he) h
  rw [hc] at h2
  have e : (l.flatMap fun n : Nat => [Value.int .u8 (n : Int)]) = ns .u8 l := by
    unfold ns
    clear h1 h2 h5 h
    induction l with
    | nil => rfl
    | cons a l ih => rw [List.flatMap_cons, ih]; rfl
  rw [e] at h2
  exact ⟨⟨A, n, c, l⟩, rfl, h2, h3, h4, h5⟩
/-- An argument that is a slice. -/
theorem open_slices {α : Type} {el : α → List Value} {ok : α → Prop} {A : Option Addr} {len cap : Nat} {d : DataW H} {ps : List MemPlace} (ht : P.underlying t = some (.slice e)) (hpos : 0 < P.cellsOf e) (hel : Opens enc P w held e el ok)
    (h : DataW.Trod enc P w 0 (fun _ => true) held t (.slice A len cap) d ps) : ∃ l : List α, Rd w w.heap.size (P.cellsOf e) A len (l.flatMap el) ∧ len ≤ cap ∧ cap ≤ maxLen ∧ l.length = len ∧ ∀ p ∈ l, ok p := by
  obtain ⟨fuel, hf⟩ := h
  obtain ⟨A', n, c, l, hcs, h1, h2, h3, h4, h5⟩ := opens_slice ht hpos hel hf
  simp [Value.cells] at hcs
  obtain ⟨rfl, rfl, rfl⟩ := hcs
  exact ⟨l, h2, h3, h4, h1, h5⟩
/-- An argument that is a struct. -/
theorem open_agg {α : Type} {el : α → List Value} {ok : α → Prop} {cs : Array Value} {d : DataW H} {ps : List MemPlace} (hel : Opens enc P w held t el ok)
    (h : DataW.Trod enc P w 0 (fun _ => true) held t (.agg cs) d ps) : ∃ p, cs.toList = el p ∧ ok p := by
  obtain ⟨fuel, hf⟩ := h
  obtain ⟨p, hcs, hok⟩ := hel _ _ _ hf
  exact ⟨p, by simpa [Value.cells] using hcs, hok⟩
end
end Go.Proofs.Ytnngjbieoakanaa
