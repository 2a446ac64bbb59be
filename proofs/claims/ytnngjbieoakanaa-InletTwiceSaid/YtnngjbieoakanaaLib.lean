/- Words for slices in memory, and an append law over them. No program. -/
import Derived.WalkKit
import Derived.ProofKit
import Derived.WalkSpells
import Derived.WalkLawsBesides
import Derived.Outline
import Derived.Lib.Hide
namespace Go.Proofs.Ytnngjbieoakanaa
open Go.RowKit

/-- The slice with this address and n elements, of some cells each, lies below block B and reads as these cells. -/
def Rd (w : World) (B size : Nat) (A : Option Addr) (n : Nat) (xs : List Value) : Prop :=
  xs.length = n * size ∧ (0 < n → ∃ b off, A = some ⟨b, off, none⟩ ∧ b < B ∧ ∀ j, j < n * size → w.cell? ⟨b, off + j, none⟩ = xs[j]?)

theorem addr_add (b off k : Nat) : (⟨b, off, none⟩ : Addr).add k = ⟨b, off + k, none⟩ := by
  unfold Addr.add
  split
  · rename_i h; subst h; rfl
  · rfl

section
variable {w w' : World} {B B' size n : Nat} {A : Option Addr} {xs : List Value}
theorem Rd.len (h : Rd w B size A n xs) : xs.length = n * size := h.1
theorem Rd.re {n' : Nat} (h : Rd w B size A n xs) (e : n = n') : Rd w B size A n' xs := e ▸ h
theorem Rd.nil (w : World) (B size : Nat) (A : Option Addr) : Rd w B size A 0 [] := ⟨by simp, fun h => absurd h (by omega)⟩
theorem Rd.keep (h : Rd w B size A n xs) (hB : B ≤ B') (hk : ∀ b o, b < B → w'.cell? ⟨b, o, none⟩ = w.cell? ⟨b, o, none⟩) : Rd w' B' size A n xs := by
  refine ⟨h.1, fun hn => ?_⟩
  obtain ⟨b, off, e, hb, hc⟩ := h.2 hn
  exact ⟨b, off, e, by omega, fun j hj => (hk _ _ hb).trans (hc j hj)⟩
theorem Rd.mono (h : Rd w B size A n xs) (hB : B ≤ B') : Rd w B' size A n xs := h.keep hB fun _ _ _ => rfl
theorem Rd.below (h : Rd w B size A n xs) (hb : Below B w w') : Rd w' B size A n xs := h.keep (Nat.le_refl _) fun b o hl => hb.cell (p := ⟨b, o, none⟩) hl
theorem Rd.into (h : Rd w w.heap.size size A n xs) (hb : Below w.heap.size w w') : Rd w' w'.heap.size size A n xs := (h.below hb).mono hb.size
theorem Rd.alloc (h : Rd w B size A n xs) (hB : B ≤ w.heap.size) (o : Obj) : Rd (w.alloc o) B size A n xs :=
  h.keep (Nat.le_refl _) fun b off hl => World.cell?_alloc_lt w o ⟨b, off, none⟩ (by simp; omega)
theorem Rd.drew (h : Rd w B size A n xs) : Rd w.drew B size A n xs := h
theorem Rd.drewN (h : Rd w B size A n xs) (k : Nat) : Rd (w.drewN k) B size A n xs := h
theorem Rd.one (w : World) (t : TypeId) (x : Value) : Rd (w.alloc (.cells #[x] t)) (w.heap.size + 1) 1 (some ⟨w.heap.size, 0, none⟩) 1 [x] := by
  refine ⟨rfl, fun _ => ⟨_, _, rfl, by omega, fun j hj => ?_⟩⟩
  obtain rfl : j = 0 := by omega
  rw [cell_of_row _ _ _ _ _ _ (heap_alloc_new w _)]
  rfl
/-- A row made whole: literal cells in a new block. -/
theorem Rd.made (w : World) (t : TypeId) (cs : Array Value) (hs : cs.size = n * size) : Rd (w.alloc (.cells cs t)) (w.heap.size + 1) size (some ⟨w.heap.size, 0, none⟩) n cs.toList := by
  refine ⟨by simpa using hs, fun _ => ⟨_, _, rfl, by omega, fun j hj => ?_⟩⟩
  rw [cell_of_row _ _ _ _ _ _ (heap_alloc_new w _)]
  simp
theorem Rd.of_own {base : Nat} {e : TypeId} {c : Nat} (h : w.ownsRow base e size (.slice A n c) n xs) : Rd w w.heap.size size A n xs := by
  refine ⟨h.1, fun hn => ?_⟩
  rcases h.2 with ⟨hv, h0⟩ | ⟨g, cap, cur, hv, hb, hg, h1, h2, h3, h4⟩
  · omega
  · injection hv with e1 e2 e3
    subst e1
    have hlt : g < w.heap.size := by
      rcases Nat.lt_or_ge g w.heap.size with h | h
      · exact h
      · rw [Array.getElem?_eq_none h] at hg; cases hg
    refine ⟨g, 0, rfl, hlt, fun j hj => ?_⟩
    rw [Nat.zero_add, cell_of_row _ _ _ _ _ _ hg, ← h4, List.getElem?_take, if_pos hj]
    simp
theorem Rd.drop (h : Rd w B size A n xs) {k cap : Nat} (hk : k ≤ n) (hc : n ≤ cap) :
    Rd w B size (if cap = k then A else A.map (·.add (k * size))) (n - k) (xs.drop (k * size)) := by
  refine ⟨by rw [List.length_drop, h.1, Nat.sub_mul], fun hn => ?_⟩
  obtain ⟨b, off, rfl, hb, hcell⟩ := h.2 (by omega)
  rw [if_neg (by omega)]
  refine ⟨b, off + k * size, by simp [addr_add], hb, fun j hj => ?_⟩
  have hm := Nat.sub_mul n k size
  have hle := Nat.mul_le_mul_right size hk
  rw [Nat.add_assoc, hcell _ (by omega), List.getElem?_drop]
theorem Rd.take (h : Rd w B size A n xs) {k : Nat} (hk : k ≤ n) : Rd w B size A k (xs.take (k * size)) := by
  have hle := Nat.mul_le_mul_right size hk
  refine ⟨by rw [List.length_take, h.1]; omega, fun hn => ?_⟩
  obtain ⟨b, off, rfl, hb, hcell⟩ := h.2 (by omega)
  refine ⟨b, off, rfl, hb, fun j hj => ?_⟩
  rw [hcell _ (by omega), List.getElem?_take, if_pos hj]

/-- One element of a row of numbers. -/
theorem Rd.at_ {k : IntKind} {l : List Int} {i : Nat} (h : Rd w B 1 A n (l.map (Value.int k))) (hi : i < n) :
    ∃ b off, A = some ⟨b, off, none⟩ ∧ b < B ∧ w.cell? ⟨b, off + i, none⟩ = some (.int k (l.getD i 0)) := by
  obtain ⟨b, off, e, hb, hc⟩ := h.2 (by omega)
  have hl : i < l.length := by have := h.1; simp at this; omega
  refine ⟨b, off, e, hb, ?_⟩
  rw [hc i (by omega)]
  simp [hl]
end

/-- How many bytes an append may make at most (a name: the walk is not to see the numeral). -/
def room : Nat := 140737488355328
theorem room_ge {x : Nat} (h : x ≤ 100000000000) : x ≤ room := by unfold room; omega
theorem room_le {x : Nat} (h : x ≤ room) : x ≤ 140737488355328 := h
/-- What is known of a slice type and its elements. -/
def El (P : Program) (t e : TypeId) (z : Value) (size bytes : Nat) : Prop :=
  P.underlying t = some (.slice e) ∧ (P.info? e).map (fun i => (i.zero, i.size, i.bytes)) = some (some z, size, bytes) ∧ z.cells.size = size ∧ 0 < size ∧ 1 ≤ bytes

section
variable {P : Program} {w : World} {ops : Array Oper} {rest : List Oper} {o : Oper} {a : Act} {Q : Exit → Act → World → Prop} {t e : TypeId} {z : Value} {size bytes : Nat}
/-- append to a row of the call's own, whatever is appended. -/
theorem app (el : El P t e z size bytes) (hgd : o.guard = none) (s x : Operand) (ho : o.op = .call { callee := .builtin .append, args := #[s, x], argTypes := #[t, t] })
    {base : Nat} {v : Value} {n : Nat} {xs : List Value} (hs : a.eval s = v) (hown : w.ownsRow base e size v n xs)
    {B : Nat} {A : Option Addr} {m c : Nat} {news : List Value} (hx : a.eval x = .slice A m c) (hr : Rd w B size A m news) (h1 : ∀ u ∈ news, u.oneCell' = true)
    (hroom : (n + m) * bytes ≤ room) (hbase : base ≤ w.heap.size)
    (h : ∀ v' w', w'.ownsRow base e size v' (n + m) (xs ++ news) → w.grownBy w' v.ownBlock → Below base w w' → wpList P ops Q rest (a.put o.dst v') w') : wpList P ops Q (o :: rest) a w := by
  obtain ⟨ht, hinf, hzs, hsz, hb1⟩ := el
  have hbytes := room_le hroom
  have h63 : n + m ≤ 140737488355328 := Nat.le_trans (Nat.le_mul_of_pos_right _ hb1) hbytes
  obtain ⟨i, hi, hz, hsize, hby⟩ := info_parts hinf
  have hbel : ∀ w', w.grownBy w' v.ownBlock → Below base w w' := fun w' hg => (Below.refl _ _).grown hg hbase fun k hk => (hown.lt k hk).1
  rcases A with _ | ad
  · have hm : m = 0 := by
      rcases Nat.eq_zero_or_pos m with h0 | h0
      · exact h0
      · obtain ⟨_, _, h, _⟩ := hr.2 h0
        cases h
    subst hm
    have hn : news = [] := List.eq_nil_of_length_eq_zero (by simpa using hr.1)
    subst hn
    refine wpList_plain hgd fun K hK => ?_
    have hrun : (Builtin.append_ #[t, t] o.type #[v, .slice none 0 c]).run P w = .ok v w := by
      rcases hown.2 with ⟨rfl, rfl⟩ | ⟨g, cap, cur, rfl, _, _, hnc, _⟩
      · simp [Builtin.append_, run_underlying ht, sizeOf, typeInfo, hi, Builtin.lenOf, Builtin.firstCells]
      · simp [Builtin.append_, run_underlying ht, sizeOf, typeInfo, hi, Builtin.lenOf, Builtin.firstCells, hnc, storeCells]
    unfold Oper.wp
    simp [execOp, ho, resolve, invoke, builtin, hs, hx, hrun, Result.andThen]
    have hg : w.grownBy w v.ownBlock := World.grownBy.refl _ _
    exact hK _ _ (h v w (by simpa using hown) hg (hbel _ hg))
  · have hcells : ∀ j u, news[j]? = some u → w.cell? (ad.add j) = some u := by
      intro j u hu
      have hj : j < m * size := by
        have hl := (List.getElem?_eq_some_iff.1 hu).1
        have := hr.1
        omega
      have hm : 0 < m := by
        rcases Nat.eq_zero_or_pos m with h0 | h0
        · subst h0; simp at hj
        · exact h0
      obtain ⟨b, off, hA, _, hc⟩ := hr.2 hm
      injection hA with hA
      subst hA
      rw [addr_add, hc j hj, hu]
    exact wpList_append_own w hgd s x t ho base e i z size bytes ht hi hz hsize hby hzs hsz v n xs hs hown ad m c news hx hr.1 hcells h1 (by unfold maxLen; omega) hbytes hbase
      fun v' w' h2 h3 _ => h v' w' h2 h3 (hbel _ h3)
/-- append of one element that is one cell. -/
theorem app1 {w0 : World} {y : Value} (el : El P t e z 1 bytes) (hgd : o.guard = none) (s x : Operand) (ho : o.op = .call { callee := .builtin .append, args := #[s, x], argTypes := #[t, t] })
    {base : Nat} {v : Value} {n : Nat} {xs : List Value} (hs : a.eval s = v) (hown : w0.ownsRow base e 1 v n xs)
    (hx : a.eval x = .slice (some ⟨w0.heap.size, 0, none⟩) 1 1) (hy : y.oneCell' = true) (hroom : (n + 1) * bytes ≤ room) (hbase : base ≤ w0.heap.size)
    (h : ∀ v' w', w'.ownsRow base e 1 v' (n + 1) (xs ++ [y]) → w0.grownBy w' v.ownBlock → Below base w0 w' → wpList P ops Q rest (a.put o.dst v') w') : wpList P ops Q (o :: rest) a (w0.alloc (.cells #[y] e)) := by
  refine app el hgd s x ho hs (hown.alloc _) hx (Rd.one _ _ _) (fun u hu => by simp at hu; subst hu; exact hy) hroom (by simp; omega) fun v' w' h1 h2 h3 => ?_
  refine h v' w' h1 ?_ (((Below.refl _ _).alloc hbase _).trans h3)
  have hA := World.grownBy_alloc w0 (.cells #[y] e) v.ownBlock
  exact ⟨h2.os.trans hA.os, h2.tape.trans hA.tape, h2.output.trans hA.output, Nat.le_trans hA.size h2.size, fun k hk hne => (h2.block k (by simp; omega) hne).trans (hA.block k hk hne)⟩
end

/-- Natural numbers as cells. -/
def ns (k : IntKind) (l : List Nat) : List Value := l.map fun x : Nat => Value.int k (x : Int)
/-- Numbers with signs as cells. -/
def zs (k : IntKind) (l : List Int) : List Value := l.map (Value.int k)
theorem ns_append (k : IntKind) (l m : List Nat) : ns k (l ++ m) = ns k l ++ ns k m := by simp [ns]
theorem ns_len (k : IntKind) (l : List Nat) : (ns k l).length = l.length := by simp [ns]
theorem zs_append (k : IntKind) (l m : List Int) : zs k (l ++ m) = zs k l ++ zs k m := by simp [zs]
theorem zs_len (k : IntKind) (l : List Int) : (zs k l).length = l.length := by simp [zs]
theorem ns_one (k : IntKind) (l : List Nat) : ∀ u ∈ ns k l, u.oneCell' = true := by
  intro u hu
  simp only [ns, List.mem_map] at hu
  obtain ⟨_, _, rfl⟩ := hu
  rfl
theorem zs_one (k : IntKind) (l : List Int) : ∀ u ∈ zs k l, u.oneCell' = true := ints_oneCell k l
section
variable {w : World} {B n : Nat} {A : Option Addr} {k : IntKind}
theorem Rd.nat {l : List Nat} {i : Nat} (h : Rd w B 1 A n (ns k l)) (hi : i < n) :
    ∃ b off, A = some ⟨b, off, none⟩ ∧ b < B ∧ w.cell? ⟨b, off + i, none⟩ = some (.int k ((l.getD i 0 : Nat) : Int)) := by
  obtain ⟨b, off, e, hb, hc⟩ := h.2 (by omega)
  have hl : i < l.length := by have := h.1; simp [ns] at this; omega
  refine ⟨b, off, e, hb, ?_⟩
  rw [hc i (by omega)]
  simp [ns, hl]
/-- The element at a place, by a name of its own. -/
theorem Rd.nth {l : List Nat} {i : Nat} (h : Rd w B 1 A n (ns k l)) (hi : i < n) :
    ∃ (b off x : Nat), A = some ⟨b, off, none⟩ ∧ b < B ∧ w.cell? ⟨b, off + i, none⟩ = some (.int k (x : Int)) ∧ Hid (l[i]? = some x) := by
  obtain ⟨b, off, e, hb, hc⟩ := h.nat hi
  have hl : i < l.length := by have := h.1; simp [ns] at this; omega
  exact ⟨b, off, l.getD i 0, e, hb, hc, Lib.hid (by simp [hl])⟩
theorem Rd.nthz {l : List Int} {i : Nat} (h : Rd w B 1 A n (zs k l)) (hi : i < n) :
    ∃ (b off : Nat) (x : Int), A = some ⟨b, off, none⟩ ∧ b < B ∧ w.cell? ⟨b, off + i, none⟩ = some (.int k x) ∧ Hid (l[i]? = some x) := by
  obtain ⟨b, off, e, hb, hc⟩ := h.at_ hi
  have hl : i < l.length := by have := h.1; simp [zs] at this; omega
  exact ⟨b, off, l.getD i 0, e, hb, hc, Lib.hid (by simp [hl])⟩
/-- A literal, just made. -/
theorem Rd.lit {g : Nat} {t : TypeId} {cs : Array Value} (l : List Nat) (hg : g = w.heap.size) (hB : g < B) (hc : cs.toList = ns k l) (hn : n = l.length) : Rd (w.alloc (.cells cs t)) B 1 (some ⟨g, 0, none⟩) n (ns k l) := by
  subst hg; subst hn
  refine ⟨by simp [ns], fun _ => ⟨_, _, rfl, hB, fun j hj => ?_⟩⟩
  rw [cell_of_row _ _ _ _ _ _ (heap_alloc_new w _), ← hc]
  simp
theorem Rd.litz {g : Nat} {t : TypeId} {cs : Array Value} (l : List Int) (hg : g = w.heap.size) (hB : g < B) (hc : cs.toList = zs k l) (hn : n = l.length) : Rd (w.alloc (.cells cs t)) B 1 (some ⟨g, 0, none⟩) n (zs k l) := by
  subst hg; subst hn
  refine ⟨by simp [zs], fun _ => ⟨_, _, rfl, hB, fun j hj => ?_⟩⟩
  rw [cell_of_row _ _ _ _ _ _ (heap_alloc_new w _), ← hc]
  simp
theorem Rd.takeN {l : List Nat} (h : Rd w B 1 A n (ns k l)) {m : Nat} (hm : m ≤ n) : Rd w B 1 A m (ns k (l.take m)) := by
  have := h.take hm
  rwa [Nat.mul_one, ns, ← List.map_take] at this
theorem Rd.dropN {l : List Nat} (h : Rd w B 1 A n (ns k l)) {m cap : Nat} (hm : m ≤ n) (hc : n ≤ cap) : Rd w B 1 (if cap = m then A else A.map (·.add m)) (n - m) (ns k (l.drop m)) := by
  have := h.drop hm hc
  rwa [Nat.mul_one, ns, ← List.map_drop] at this
theorem Rd.natLen {l : List Nat} (h : Rd w B 1 A n (ns k l)) : l.length = n := by have := h.1; simpa [ns] using this
theorem Rd.intLen {l : List Int} (h : Rd w B 1 A n (zs k l)) : l.length = n := by have := h.1; simpa [zs] using this
end
/-- A row of the call's own that reads as these numbers. -/
def Nats (w : World) (e : TypeId) (k : IntKind) (B : Nat) (v : Value) (l : List Nat) : Prop := w.ownsRow B e 1 v l.length (ns k l)
section
variable {w w' : World} {e : TypeId} {k : IntKind} {B : Nat} {v : Value} {l : List Nat}
theorem Nats.nil (w : World) (e : TypeId) (k : IntKind) (B : Nat) : Nats w e k B (.slice none 0 0) [] := World.ownsRow_nil w B e 1
theorem Nats.rd {A : Option Addr} {n c : Nat} (h : Nats w e k B (.slice A n c) l) : Rd w w.heap.size 1 A l.length (ns k l) := by
  have hn : n = l.length := by
    rcases h.2 with ⟨hv, h0⟩ | ⟨g, cap, cur, hv, _⟩
    · injection hv with _ h1 _; omega
    · injection hv
  subst hn
  exact Rd.of_own h
theorem Nats.form (h : Nats w e k B v l) : ∃ A c, v = .slice A l.length c ∧ l.length ≤ c := by
  rcases h.2 with ⟨hv, h0⟩ | ⟨g, cap, cur, hv, _, _, hc, _⟩
  · exact ⟨none, 0, by rw [hv, h0], by omega⟩
  · exact ⟨_, cap, hv, hc⟩
/-- A literal of one element. -/
theorem Nats.lit1 (w : World) (e : TypeId) (k : IntKind) (x : Nat) (hB : B ≤ w.heap.size) : Nats (w.alloc (.cells #[.int k (x : Int)] e)) e k B (.slice (some ⟨w.heap.size, 0, none⟩) 1 1) [x] :=
  ⟨rfl, .inr ⟨w.heap.size, 1, _, rfl, hB, heap_alloc_new w _, by simp, by simp [maxLen], rfl, rfl⟩⟩
/-- A literal of no element. -/
theorem Nats.lit0 (w : World) (e : TypeId) (k : IntKind) (hB : B ≤ w.heap.size) : Nats (w.alloc (.cells #[] e)) e k B (.slice (some ⟨w.heap.size, 0, none⟩) 0 0) [] :=
  ⟨rfl, .inr ⟨w.heap.size, 0, _, rfl, hB, heap_alloc_new w _, by simp, by simp [maxLen], rfl, rfl⟩⟩
/-- The slice itself, its length by a name of its own. -/
theorem Nats.out (h : Nats w e k B v l) : ∃ (A : Option Addr) (n c : Nat), v = .slice A n c ∧ n ≤ c ∧ Hid (l.length = n) ∧ Hid (Rd w w.heap.size 1 A n (ns k l)) := by
  obtain ⟨A, c, rfl, hc⟩ := h.form
  exact ⟨A, l.length, c, rfl, hc, rfl, h.rd⟩
theorem Nats.alloc (h : Nats w e k B v l) (o : Obj) : Nats (w.alloc o) e k B v l := World.ownsRow.alloc h o
theorem Nats.mono {B' : Nat} (h : Nats w e k B v l) (hB : B' ≤ B) : Nats w e k B' v l := by
  refine ⟨h.1, ?_⟩
  rcases h.2 with h0 | ⟨g, cap, cur, hv, hb, r⟩
  · exact .inl h0
  · exact .inr ⟨g, cap, cur, hv, by omega, r⟩
/-- It stays so where its own block stays as it is. -/
theorem Nats.kept (h : Nats w e k B v l) (hk : ∀ g, v.ownBlock = some g → w'.heap[g]? = w.heap[g]?) : Nats w' e k B v l := by
  refine ⟨h.1, ?_⟩
  rcases h.2 with h0 | ⟨g, cap, cur, hv, hb, hg, r⟩
  · exact .inl h0
  · exact .inr ⟨g, cap, cur, hv, hb, by rw [hk g (by rw [hv]; rfl)]; exact hg, r⟩
theorem Nats.below (h : Nats w e k B v l) (hb : Below w.heap.size w w') : Nats w' e k B v l :=
  h.kept fun g hg => hb.block g (h.lt g hg).2
end
section
variable {P : Program} {ops : Array Oper} {rest : List Oper} {o : Oper} {a : Act} {Q : Exit → Act → World → Prop} {t e : TypeId} {z : Value} {bytes : Nat}
theorem app1n {w0 : World} {y : Value} {k : IntKind} (el : El P t e z 1 bytes) (x : Nat) (hgd : o.guard = none) (s d : Operand) (ho : o.op = .call { callee := .builtin .append, args := #[s, d], argTypes := #[t, t] })
    {base : Nat} {v : Value} {l : List Nat} (hs : a.eval s = v) (hown : Nats w0 e k base v l)
    (hx : a.eval d = .slice (some ⟨w0.heap.size, 0, none⟩) 1 1) (hy : y = .int k (x : Int)) (hroom : (l.length + 1) * bytes ≤ room) (hbase : base ≤ w0.heap.size)
    (h : ∀ v' w', Nats w' e k base v' (l ++ [x]) → w0.grownBy w' v.ownBlock → Below base w0 w' → wpList P ops Q rest (a.put o.dst v') w') : wpList P ops Q (o :: rest) a (w0.alloc (.cells #[y] e)) := by
  subst hy
  refine app1 el hgd s d ho hs hown hx rfl hroom hbase fun v' w' h1 h2 h3 => h v' w' ?_ h2 h3
  unfold Nats
  rw [ns_append, List.length_append]
  exact h1
/-- append of what stands in a slice that is only read. -/
theorem appn {w : World} {k : IntKind} (el : El P t e z 1 bytes) (hgd : o.guard = none) (s d : Operand) (ho : o.op = .call { callee := .builtin .append, args := #[s, d], argTypes := #[t, t] })
    {base : Nat} {v : Value} {l : List Nat} (hs : a.eval s = v) (hown : Nats w e k base v l)
    {B : Nat} {A : Option Addr} {m c : Nat} {news : List Nat} (hx : a.eval d = .slice A m c) (hr : Rd w B 1 A m (ns k news)) (hroom : (l.length + news.length) * bytes ≤ room) (hbase : base ≤ w.heap.size)
    (h : ∀ v' w', Nats w' e k base v' (l ++ news) → w.grownBy w' v.ownBlock → Below base w w' → wpList P ops Q rest (a.put o.dst v') w') : wpList P ops Q (o :: rest) a w := by
  have hm := hr.natLen
  refine app el hgd s d ho hs hown hx hr (ns_one k news) (by rw [← hm]; exact hroom) hbase fun v' w' h1 h2 h3 => h v' w' ?_ h2 h3
  unfold Nats
  rw [ns_append, List.length_append, hm]
  exact h1
end
section
variable {P : Program} {w : World} {ops : Array Oper} {rest : List Oper} {o : Oper} {a : Act} {Q : Exit → Act → World → Prop} {t e : TypeId} {z : Value} {bytes : Nat}
/-- make of an empty slice with room for n. -/
theorem mkn {k kl kc : IntKind} (el : El P t e z 1 bytes) (hgd : o.guard = none) (l c : Operand) (ho : o.op = .makeSlice t l c)
    {base : Nat} (n : Nat) {C : Int} (hl : a.eval l = .int kl 0) (hc : a.eval c = .int kc C) (hC : C = (n : Int)) (hroom : n * bytes ≤ room) (hbase : base ≤ w.heap.size)
    (h : ∀ w', Nats w' e k base (.slice (some ⟨w.heap.size, 0, none⟩) 0 n) [] → Below base w w' → wpList P ops Q rest (a.put o.dst (.slice (some ⟨w.heap.size, 0, none⟩) 0 n)) w') : wpList P ops Q (o :: rest) a w := by
  obtain ⟨ht, hinf, hzs, hsz, hb1⟩ := el
  obtain ⟨i, hi, hz, hsize, hby⟩ := info_parts hinf
  have hbytes := room_le hroom
  have h63 : n ≤ 140737488355328 := Nat.le_trans (Nat.le_mul_of_pos_right _ hb1) hbytes
  refine wpList_make_own w hgd l c t ho base e i z 1 ht hi hz hsize kl kc C n hl hc hC (by rw [hby, Nat.mul_comm]; omega) (by unfold maxLen; omega) hbase fun w' h1 h2 => h w' h1 ?_
  exact (Below.refl _ _).grown h2 hbase fun k hk => by cases hk
end
/-- How many elements: for a measure. -/
def lenOf : Value → Nat | .slice _ n _ => n | _ => 0
theorem ret_bool {a b : Bool} (h : a = b) : Ending.returned (.bool a) = Ending.returned (.bool b) := by rw [h]
theorem ret_int {k : IntKind} {a b : Int} (h : a = b) : Ending.returned (.int k a) = Ending.returned (.int k b) := by rw [h]
theorem take_snoc {α : Type} (l : List α) (d : α) (k : Nat) (h : k < l.length) : l.take (k + 1) = l.take k ++ [l.getD k d] := by
  rw [List.take_succ_eq_append_getElem h]
  simp [h]
theorem nth_take {α : Type} {l : List α} {x : α} {i : Nat} (h : Hid (l[i]? = some x)) : l.take (i + 1) = l.take i ++ [x] := by
  obtain ⟨hl, hx⟩ := List.getElem?_eq_some_iff.1 h.out
  rw [List.take_succ_eq_append_getElem hl, hx]
theorem nth_drop {α : Type} {l : List α} {x : α} {i : Nat} (h : Hid (l[i]? = some x)) : l.drop i = x :: l.drop (i + 1) := by
  obtain ⟨hl, hx⟩ := List.getElem?_eq_some_iff.1 h.out
  rw [← List.getElem_cons_drop hl, hx]
theorem nth_mem {α : Type} {l : List α} {x : α} {i : Nat} (h : Hid (l[i]? = some x)) : x ∈ l := List.mem_of_getElem? h.out
theorem mem_getD {α : Type} (l : List α) (d : α) (k : Nat) (h : k < l.length) : l.getD k d ∈ l := by
  simp [h]
theorem or128_fin : ∀ x : Fin 256, x.val ||| 128 = x.val % 128 + 128 := by decide +kernel
theorem or128 (x : Nat) (h : x < 256) : x ||| 128 = x % 128 + 128 := or128_fin ⟨x, h⟩
theorem or128_u8 (p : Nat) : bits .or .u8 (((p : Nat) : Int) % 256) 128 = ((p % 128 + 128 : Nat) : Int) := by
  have h := u8_or_nat (p % 256) 128 (by omega) (by omega)
  rw [or128 _ (by omega)] at h
  have e : ((p : Nat) : Int) % 256 = ((p % 256 : Nat) : Int) := by omega
  rw [e]
  refine h.trans ?_
  congr 1
  omega
theorem and127_u8 (x : Nat) (h : x < 256) : bits .and .u8 ((x : Nat) : Int) 127 = ((x % 128 : Nat) : Int) := by
  have h := u8_and_nat x 127 h (by omega)
  rw [nat_mask7] at h
  exact h
theorem wrap64_nat (n : Nat) : IntKind.u64.wrap ((n : Nat) : Int) = ((n % 18446744073709551616 : Nat) : Int) := by rw [IntKind.wrap_u64]; omega
/-- Bits above those that are there. -/
theorem or_above (d y i : Nat) (hi : i ≤ 64) (hd : d < 2 ^ i) : d ||| (y * 2 ^ i % 18446744073709551616) = (d + y * 2 ^ i) % 18446744073709551616 := by
  have e : (18446744073709551616 : Nat) = 2 ^ i * 2 ^ (64 - i) := by rw [← Nat.pow_add, show i + (64 - i) = 64 by omega]
  have hz : y * 2 ^ i % 18446744073709551616 % 2 ^ i = 0 := by rw [e, Nat.mod_mul_right_mod, Nat.mul_mod_left]
  rw [Nat.or_comm, nat_join i _ _ hz hd]
  have h1 : y * 2 ^ i % 18446744073709551616 = 2 ^ i * (y % 2 ^ (64 - i)) := by rw [e, Nat.mul_comm y, Nat.mul_mod_mul_left]
  have h2 : y % 2 ^ (64 - i) < 2 ^ (64 - i) := Nat.mod_lt _ (Nat.two_pow_pos _)
  have h3 : 2 ^ i * (y % 2 ^ (64 - i)) + 2 ^ i ≤ 18446744073709551616 := by
    rw [e, ← Nat.mul_succ]
    exact Nat.mul_le_mul_left _ h2
  omega
/-- The text whose bytes these are. -/
def strN (l : List Nat) : ByteArray := ⟨(l.map UInt8.ofNat).toArray⟩
theorem strN_toList (l : List Nat) : (strN l).toList = l.map UInt8.ofNat := by unfold strN; rw [ByteArray.toList_mk]
theorem strN_inj {l m : List Nat} (hl : ∀ x ∈ l, x < 256) (hm : ∀ x ∈ m, x < 256) (h : l.map UInt8.ofNat = m.map UInt8.ofNat) : l = m := by
  have back : ∀ l : List Nat, (∀ x ∈ l, x < 256) → (l.map UInt8.ofNat).map UInt8.toNat = l := by
    intro l hl
    rw [List.map_map]
    refine (List.map_congr_left fun x hx => ?_).trans (List.map_id l)
    have := hl x hx
    simp; omega
  rw [← back l hl, h, back m hm]
theorem strN_beq {l m : List Nat} (hl : ∀ x ∈ l, x < 256) (hm : ∀ x ∈ m, x < 256) : ((strN l).toList == (strN m).toList) = decide (l = m) := by
  rw [strN_toList, strN_toList]
  by_cases h : l = m
  · subst h; simp
  · have : l.map UInt8.ofNat ≠ m.map UInt8.ofNat := fun e => h (strN_inj hl hm e)
    simp [h, this]
theorem strN_self (l : List Nat) : ((strN l).toList == (strN l).toList) = true := by simp
/-- Bytes to a string, wherever they lie. -/
theorem run_conv {P : Program} {src dst e : TypeId} (hs : P.underlying src = some (.slice e)) (he : P.underlying e = some (.int .u8)) (hd : P.underlying dst = some .string)
    {w : World} {B n c : Nat} {A : Option Addr} {l : List Nat} (hr : Rd w B 1 A n (ns .u8 l)) : (convert src dst (.slice A n c)).run P w = .ok (.string (strN l)) w := by
  have e1 : strN l = strOfNums (l.map fun x : Nat => (x : Int)) := by simp [strN, strOfNums, List.map_map, Function.comp_def]
  have hl := hr.natLen
  rcases Nat.eq_zero_or_pos n with h0 | h0
  · subst h0
    have hl : l = [] := List.eq_nil_of_length_eq_zero hl
    subst hl
    rcases A with _ | ⟨b, off, spot⟩
    · exact run_convert_bytes_nil w src e hs he 0 c dst hd
    · rw [run_convert_bytes_string w src dst e _ 0 c hs he hd, run_bytesToString w _ 0 c [] (by simp [loadCells, loadCellsFrom])]
      rfl
  · obtain ⟨b, off, rfl, _, hc⟩ := hr.2 h0
    rw [e1]
    refine run_convert_bytes_arg w src e hs he b off n c _ (by simpa using hl) (fun i hi => ?_) dst hd
    rw [hc i (by omega)]
    simp [ns, show i < l.length by omega]
theorem wpList_conv {P : Program} {ops : Array Oper} {rest : List Oper} {o : Oper} {a : Act} {Q : Exit → Act → World → Prop} {w : World} {src dst e : TypeId} (hs : P.underlying src = some (.slice e)) (he : P.underlying e = some (.int .u8)) (hd : P.underlying dst = some .string)
    (hgd : Region.wanted o (yielded ops a.tmps) = true) (x : Operand) (ho : o.op = .convert src dst x) {B n c : Nat} {A : Option Addr} {l : List Nat} (hx : a.eval x = .slice A n c) (hr : Rd w B 1 A n (ns .u8 l))
    (h : wpList P ops Q rest (a.put o.dst (.string (strN l))) w) : wpList P ops Q (o :: rest) a w := by
  refine wpList_step fun K hK => ?_
  rw [if_pos hgd]
  unfold Oper.wp
  have := run_conv (c := c) hs he hd hr
  simp [execOp, ho, hx, this, Result.andThen]
  exact hK _ _ h
/-- The same for numbers with signs. -/
def Zats (w : World) (e : TypeId) (k : IntKind) (B : Nat) (v : Value) (l : List Int) : Prop := w.ownsRow B e 1 v l.length (zs k l)
section
variable {w w' : World} {e : TypeId} {k : IntKind} {B : Nat} {v : Value} {l : List Int}
theorem Zats.nil (w : World) (e : TypeId) (k : IntKind) (B : Nat) : Zats w e k B (.slice none 0 0) [] := World.ownsRow_nil w B e 1
theorem Zats.rd {A : Option Addr} {n c : Nat} (h : Zats w e k B (.slice A n c) l) : Rd w w.heap.size 1 A l.length (zs k l) := by
  have hn : n = l.length := by
    rcases h.2 with ⟨hv, h0⟩ | ⟨g, cap, cur, hv, _⟩
    · injection hv with _ h1 _; omega
    · injection hv
  subst hn
  exact Rd.of_own h
theorem Zats.form (h : Zats w e k B v l) : ∃ A c, v = .slice A l.length c ∧ l.length ≤ c := by
  rcases h.2 with ⟨hv, h0⟩ | ⟨g, cap, cur, hv, _, _, hc, _⟩
  · exact ⟨none, 0, by rw [hv, h0], by omega⟩
  · exact ⟨_, cap, hv, hc⟩
/-- The slice itself, its length by a name of its own. -/
theorem Zats.out (h : Zats w e k B v l) : ∃ (A : Option Addr) (n c : Nat), v = .slice A n c ∧ n ≤ c ∧ Hid (l.length = n) ∧ Hid (Rd w w.heap.size 1 A n (zs k l)) := by
  obtain ⟨A, c, rfl, hc⟩ := h.form
  exact ⟨A, l.length, c, rfl, hc, rfl, h.rd⟩
theorem Zats.alloc (h : Zats w e k B v l) (o : Obj) : Zats (w.alloc o) e k B v l := World.ownsRow.alloc h o
theorem Zats.mono {B' : Nat} (h : Zats w e k B v l) (hB : B' ≤ B) : Zats w e k B' v l := by
  refine ⟨h.1, ?_⟩
  rcases h.2 with h0 | ⟨g, cap, cur, hv, hb, r⟩
  · exact .inl h0
  · exact .inr ⟨g, cap, cur, hv, by omega, r⟩
/-- It stays so where its own block stays as it is. -/
theorem Zats.kept (h : Zats w e k B v l) (hk : ∀ g, v.ownBlock = some g → w'.heap[g]? = w.heap[g]?) : Zats w' e k B v l := by
  refine ⟨h.1, ?_⟩
  rcases h.2 with h0 | ⟨g, cap, cur, hv, hb, hg, r⟩
  · exact .inl h0
  · exact .inr ⟨g, cap, cur, hv, hb, by rw [hk g (by rw [hv]; rfl)]; exact hg, r⟩
theorem Zats.below (h : Zats w e k B v l) (hb : Below w.heap.size w w') : Zats w' e k B v l :=
  h.kept fun g hg => hb.block g (h.lt g hg).2
end
section
variable {P : Program} {ops : Array Oper} {rest : List Oper} {o : Oper} {a : Act} {Q : Exit → Act → World → Prop} {t e : TypeId} {z : Value} {bytes : Nat}
theorem app1z {w0 : World} {y : Value} {k : IntKind} (el : El P t e z 1 bytes) (x : Int) (hgd : o.guard = none) (s d : Operand) (ho : o.op = .call { callee := .builtin .append, args := #[s, d], argTypes := #[t, t] })
    {base : Nat} {v : Value} {l : List Int} (hs : a.eval s = v) (hown : Zats w0 e k base v l)
    (hx : a.eval d = .slice (some ⟨w0.heap.size, 0, none⟩) 1 1) (hy : y = .int k x) (hroom : (l.length + 1) * bytes ≤ room) (hbase : base ≤ w0.heap.size)
    (h : ∀ v' w', Zats w' e k base v' (l ++ [x]) → w0.grownBy w' v.ownBlock → Below base w0 w' → wpList P ops Q rest (a.put o.dst v') w') : wpList P ops Q (o :: rest) a (w0.alloc (.cells #[y] e)) := by
  subst hy
  refine app1 el hgd s d ho hs hown hx rfl hroom hbase fun v' w' h1 h2 h3 => h v' w' ?_ h2 h3
  unfold Zats
  rw [zs_append, List.length_append]
  exact h1
end
section
variable {P : Program} {w : World} {ops : Array Oper} {rest : List Oper} {o : Oper} {a : Act} {Q : Exit → Act → World → Prop} {t e : TypeId} {z : Value} {bytes : Nat}
theorem mkz {k kl kc : IntKind} (el : El P t e z 1 bytes) (hgd : o.guard = none) (l c : Operand) (ho : o.op = .makeSlice t l c)
    {base : Nat} (n : Nat) {C : Int} (hl : a.eval l = .int kl 0) (hc : a.eval c = .int kc C) (hC : C = (n : Int)) (hroom : n * bytes ≤ room) (hbase : base ≤ w.heap.size)
    (h : ∀ w', Zats w' e k base (.slice (some ⟨w.heap.size, 0, none⟩) 0 n) [] → Below base w w' → wpList P ops Q rest (a.put o.dst (.slice (some ⟨w.heap.size, 0, none⟩) 0 n)) w') : wpList P ops Q (o :: rest) a w :=
  mkn (k := k) (kl := kl) (kc := kc) el hgd l c ho n hl hc hC hroom hbase fun w' h1 h2 => h w' h1 h2
end
/-- A block known whole. -/
def Blk (w : World) (g : Nat) (t : TypeId) (cs : Array Value) : Prop := w.heap[g]? = some (.cells cs t (0, 0))
section
variable {w w' : World} {g : Nat} {t : TypeId} {cs : Array Value}
theorem Blk.new (w : World) (t : TypeId) (cs : Array Value) : Blk (w.alloc (.cells cs t)) w.heap.size t cs := heap_alloc_new w _
theorem Blk.lt (h : Blk w g t cs) : g < w.heap.size := by
  rcases Nat.lt_or_ge g w.heap.size with hl | hl
  · exact hl
  · unfold Blk at h; rw [Array.getElem?_eq_none hl] at h; cases h
theorem Blk.cell (h : Blk w g t cs) (i : Nat) : w.cell? ⟨g, i, none⟩ = cs[i]? := cell_of_row w g i cs t (0, 0) h
theorem Blk.frozen (h : Blk w g t cs) (i : Nat) : w.frozen? ⟨g, i, none⟩ = false := by unfold Blk at h; simp [World.frozen?, h]
theorem Blk.alloc (h : Blk w g t cs) (o : Obj) : Blk (w.alloc o) g t cs := (Below.heap_alloc w o g h.lt).trans h
theorem Blk.below {B : Nat} (h : Blk w g t cs) (hb : Below B w w') (hg : g < B) : Blk w' g t cs := (hb.block g hg).trans h
theorem Blk.drew (h : Blk w g t cs) : Blk w.drew g t cs := h
/-- A row of another element type is another block. -/
theorem Blk.far {e : TypeId} {k : IntKind} {B : Nat} {v : Value} {l : List Nat} (h : Blk w g t cs) (ho : Nats w e k B v l) (hne : e ≠ t) (hg : w.grownBy w' v.ownBlock) : Blk w' g t cs := by
  refine (hg.block g h.lt fun he => ?_).trans h
  rcases ho.2 with ⟨rfl, _⟩ | ⟨g', cap, cur, rfl, _, hh, _⟩
  · simp [Value.ownBlock] at he
  · simp [Value.ownBlock] at he
    subst he
    unfold Blk at h
    rw [h] at hh
    injection hh with hh
    injection hh with _ ht
    exact hne ht.symm
end
theorem shr_byte (x r : Nat) : ((x : Nat) : Int) / 2 ^ (8 * (r + 1) - 8) % 256 = ((x / 256 ^ r % 256 : Nat) : Int) := by
  have e : (2 : Int) ^ (8 * r) = ((256 ^ r : Nat) : Int) := by rw [show (256 : Nat) = 2 ^ 8 from rfl, ← Nat.pow_mul]; push_cast; rfl
  rw [show 8 * (r + 1) - 8 = 8 * r by omega, e, Int.natCast_emod, Int.natCast_ediv]
  rfl
theorem one_ints (k : IntKind) (l : List Int) : ∀ u ∈ l.map (Value.int k), u.oneCell' = true := ints_oneCell k l
end Go.Proofs.Ytnngjbieoakanaa
