/- Rows whose elements are several cells: copy, clear, append in room, append of zeros, over blocks that are known whole. No program. -/
import Derived.Test.YtnngjbieoakanaaLib
import Derived.Test.YtnngjbieoakanaaG5InletTwice
import Derived.Laws.CopyOwn
import Derived.Lib.SliceRun
import Derived.Lib.AppendZerosOnto

namespace Go.Proofs.Ytnngjbieoakanaa
open Go.RowKit
set_option linter.unusedVariables false
set_option linter.unusedSimpArgs false

/-- Cells laid over others. -/
def splv (L : List Value) (o : Nat) (cs : List Value) : List Value := L.take o ++ cs ++ L.drop (o + cs.length)
theorem splv_len {L cs : List Value} {o : Nat} (h : o + cs.length ≤ L.length) : (splv L o cs).length = L.length := by unfold splv; simp; omega
theorem splv_nil (L : List Value) (o : Nat) : splv L o [] = L := by unfold splv; simp
theorem splv_get {L cs : List Value} {o i : Nat} (h : o + cs.length ≤ L.length) : (splv L o cs)[i]? = if o ≤ i ∧ i < o + cs.length then cs[i - o]? else L[i]? := by
  have hl : (L.take o).length = o := by rw [List.length_take]; omega
  unfold splv
  rw [List.append_assoc]
  by_cases h1 : i < o
  · rw [if_neg (by omega), List.getElem?_append_left (by omega), List.getElem?_take_of_lt h1]
  · rw [List.getElem?_append_right (by omega), hl]
    by_cases h2 : i < o + cs.length
    · rw [if_pos (by omega), List.getElem?_append_left (by omega)]
    · rw [if_neg (by omega), List.getElem?_append_right (by omega), List.getElem?_drop]
      congr 1
      omega
theorem Solo.setRow' {g : Nat} {w : World} (cs : Array Value) : Solo g w (w.setRow g cs) :=
  ⟨below_setRow (Below.refl _ _) (Nat.le_refl _) cs, by simp, fun k hk => setRow_other w g k cs hk⟩
theorem Solo.drewN' {g : Nat} {w w' : World} (h : Solo g w w') (n : Nat) : Solo g w (w'.drewN n) := ⟨below_drewN h.1 n, h.2.1, h.2.2⟩
theorem Solo.grownBy {g : Nat} {w w' : World} (h : Solo g w w') : w.grownBy w' (some g) :=
  ⟨h.1.os, h.1.tape, h.1.output, by rw [h.2.1]; exact Nat.le_refl _, fun k _ hk => h.2.2 k fun e => hk (by rw [e])⟩
theorem grownBy_refl (w : World) (r : Option Nat) : w.grownBy w r := ⟨rfl, rfl, rfl, Nat.le_refl _, fun _ _ _ => rfl⟩
theorem grownBy_trans {w w1 w2 : World} {r : Option Nat} (h : w.grownBy w1 r) (k : w1.grownBy w2 r) : w.grownBy w2 r :=
  ⟨k.os.trans h.os, k.tape.trans h.tape, k.output.trans h.output, Nat.le_trans h.size k.size, fun i hi hne => (k.block i (Nat.lt_of_lt_of_le hi h.size) hne).trans (h.block i hi hne)⟩
theorem grownBy_drew {w w1 : World} {r : Option Nat} (h : w.grownBy w1 r) : w.grownBy w1.drew r := ⟨h.os, h.tape, h.output, h.size, h.block⟩
/-- What was written into new blocks is no change of what was. -/
theorem grownBy_new {w w1 w2 : World} {r r' : Option Nat} (h : w.grownBy w1 r) (k : w1.grownBy w2 r') (hr : ∀ i, r' = some i → w.heap.size ≤ i) : w.grownBy w2 r :=
  ⟨k.os.trans h.os, k.tape.trans h.tape, k.output.trans h.output, Nat.le_trans h.size k.size, fun i hi hne =>
    (k.block i (Nat.lt_of_lt_of_le hi h.size) fun e => by have := hr i e.symm; omega).trans (h.block i hi hne)⟩
section
variable {P : Program} {w : World} {t e ty : TypeId} {z : Value} {sz bytes : Nat}
theorem run_copy_blk (el : El P t e z sz bytes) {dp sp : Option Addr} {g off dn dc sn sc : Nat} {L cs : List Value} (hm : Blk w g e L.toArray) (hd : 0 < min sn dn → dp = some ⟨g, off, none⟩)
    (hn : cs.length = min sn dn * sz) (hs : 0 < min sn dn → ∃ ad, sp = some ad ∧ ∀ j v, cs[j]? = some v → w.cell? (ad.add j) = some v) (hfit : off + cs.length ≤ L.length) (h1 : ∀ v ∈ cs, v.oneCell' = true) :
    ∃ w', (Builtin.copy_ #[t, t] ty #[.slice dp dn dc, .slice sp sn sc]).run P w = .ok (.int .i64 ((min sn dn : Nat) : Int)) w' ∧ Blk w' g e (splv L off cs).toArray ∧ Solo g w w' := by
  obtain ⟨ht, hinf, hzs, hsz, hb1⟩ := el
  obtain ⟨i, hi, hz, hsize, hby⟩ := info_parts hinf
  rcases Nat.eq_zero_or_pos (min sn dn) with h0 | h0
  · have hc : cs = [] := List.eq_nil_of_length_eq_zero (by rw [hn, h0, Nat.zero_mul])
    subst hc
    refine ⟨w, ?_, by rw [splv_nil]; exact hm, Solo.refl⟩
    have h0' : Nat.min sn dn = 0 := h0
    cases dp <;> cases sp <;> simp [Builtin.copy_, run_underlying ht, Builtin.lenOf, Builtin.firstCells, sizeOf, typeInfo, hi, h0', h0, storeCells, loadCells, loadCellsFrom, goInt]
  · obtain ⟨ad, rfl, hsrc⟩ := hs h0
    have hd := hd h0
    subst hd
    have hl := run_loadCells_list (P := P) w ad cs hsrc
    have hst := run_storeCells_at P g off e cs 0 L.toArray w hm (by simpa using hfit) h1
    obtain ⟨q, hq⟩ : ∃ q, q = min sn dn := ⟨_, rfl⟩
    have hq1 : Nat.min sn dn = q := hq.symm
    have hq2 : min sn dn = q := hq.symm
    have hn' : q * i.size = cs.length := by rw [hsize, hq]; exact hn.symm
    rw [hq2]
    clear hn hs h0 hd hq
    refine ⟨w.setRow g (L.take off ++ cs ++ L.drop (off + cs.length)).toArray, ?_, setRow_heap w g _ _ e _ hm, Solo.setRow' _⟩
    simp [Builtin.copy_, run_underlying ht, Builtin.lenOf, Builtin.firstCells, sizeOf, typeInfo, hi, hq1, hq2, hn', hl, hst, goInt]
theorem run_clear_blk (el : El P t e z sz bytes) (hz1 : ∀ v ∈ z.cells.toList, v.oneCell' = true) {dp : Option Addr} {g off n c : Nat} {L : List Value} (hm : Blk w g e L.toArray) (hd : 0 < n → dp = some ⟨g, off, none⟩) (hfit : off + n * sz ≤ L.length) :
    ∃ w' zs, (Builtin.clear_ #[t] ty #[.slice dp n c]).run P w = .ok (.tuple #[]) w' ∧ zs.length = n * sz ∧ Blk w' g e (splv L off zs).toArray ∧ Solo g w w' := by
  obtain ⟨ht, hinf, hzs, hsz, hb1⟩ := el
  obtain ⟨i, hi, hz, hsize, hby⟩ := info_parts hinf
  rcases Nat.eq_zero_or_pos n with rfl | hn
  · refine ⟨w, [], ?_, by simp, by rw [splv_nil]; exact hm, Solo.refl⟩
    cases dp <;> simp [Builtin.clear_, run_underlying ht]
  · have hd := hd hn
    subst hd
    have hzl : (Builtin.zeroCells z.cells n).toList.length = n * sz := by rw [Array.length_toList, size_zeroCells, hzs]
    have hz1' : ∀ v ∈ (Builtin.zeroCells z.cells n).toList, v.oneCell' = true := by
      intro v hv
      simp only [Builtin.zeroCells, Array.toList_map, List.mem_map] at hv
      obtain ⟨j, _, rfl⟩ := hv
      have hlt : j % z.cells.size < z.cells.size := Nat.mod_lt _ (by omega)
      rw [getElem!_pos z.cells (j % z.cells.size) hlt]
      exact hz1 _ (by simp)
    have hst := run_storeCells_at P g off e (Builtin.zeroCells z.cells n).toList 0 L.toArray w hm (by simp only [Nat.add_zero, hzl, List.size_toArray]; exact hfit) hz1'
    refine ⟨w.setRow g (L.take off ++ (Builtin.zeroCells z.cells n).toList ++ L.drop (off + (Builtin.zeroCells z.cells n).toList.length)).toArray, (Builtin.zeroCells z.cells n).toList, ?_, hzl, setRow_heap w g _ _ e _ hm, Solo.setRow' _⟩
    obtain ⟨m, rfl⟩ : ∃ m, n = m + 1 := ⟨n - 1, by omega⟩
    simp only [Nat.add_zero] at hst
    simp [Builtin.clear_, run_underlying ht, zeroValue, typeInfo, hi, hz] at hst ⊢
    rw [hst]
    rfl
/-- append where there is room, onto a row's beginning. -/
theorem run_app_blk (el : El P t e z sz bytes) {g n c m mc : Nat} {sp : Option Addr} {L cs : List Value} (hm : Blk w g e L.toArray)
    (hn : cs.length = m * sz) (hs : 0 < m → ∃ ad, sp = some ad ∧ ∀ j v, cs[j]? = some v → w.cell? (ad.add j) = some v) (hroom : n + m ≤ c) (hfit : n * sz + cs.length ≤ L.length) (h1 : ∀ v ∈ cs, v.oneCell' = true) :
    ∃ w', (Builtin.append_ #[t, t] ty #[.slice (some ⟨g, 0, none⟩) n c, .slice sp m mc]).run P w = .ok (.slice (some ⟨g, 0, none⟩) (n + m) c) w' ∧ Blk w' g e (splv L (n * sz) cs).toArray ∧ Solo g w w' := by
  obtain ⟨ht, hinf, hzs, hsz, hb1⟩ := el
  obtain ⟨i, hi, hz, hsize, hby⟩ := info_parts hinf
  subst hsize
  rcases Nat.eq_zero_or_pos m with rfl | h0
  · have hc : cs = [] := List.eq_nil_of_length_eq_zero (by rw [hn, Nat.zero_mul])
    subst hc
    refine ⟨w, ?_, by rw [splv_nil]; exact hm, Solo.refl⟩
    have hroom' : n ≤ c := hroom
    cases sp <;> simp [Builtin.append_, run_underlying ht, sizeOf, typeInfo, hi, Builtin.lenOf, Builtin.firstCells, hroom', storeCells, loadCells, loadCellsFrom]
  · obtain ⟨ad, rfl, hsrc⟩ := hs h0
    exact ⟨_, run_append_room (P := P) w t ty e i ht hi g n c L.toArray hm ad m mc cs hn hsrc h1 hroom (by simpa using hfit), setRow_heap w g _ _ e _ hm, Solo.setRow' _⟩
end
section
variable {P : Program} {t e : TypeId} {z : Value} {sz bytes : Nat}
/-- A slice's part, its address by one name. -/
def cutA (A : Option Addr) (c h sz : Nat) : Option Addr := if c = h then A else A.map (·.add (h * sz))
theorem cutA_pos {g o c h sz : Nat} (hc : h < c) : cutA (some ⟨g, o, none⟩) c h sz = some ⟨g, o + h * sz, none⟩ := by
  unfold cutA
  rw [if_neg (by omega), Option.map_some, addr_add]
theorem cutA_zero (A : Option Addr) (c sz : Nat) : cutA A c 0 sz = A := by
  unfold cutA
  split
  · rfl
  · cases A with
    | none => rfl
    | some a =>
      simp only [Option.map_some, Nat.zero_mul]
      unfold Addr.add
      simp
theorem run_cut_lh (el : El P t e z sz bytes) (A : Option Addr) (n c h k : Nat) (h1 : h ≤ k) (h2 : k ≤ c) (w : World) :
    (Instr.slice t (.slice A n c) (some (.int .i64 (h : Int))) (some (.int .i64 (k : Int))) none).run P w = .ok (.slice (cutA A c h sz) (k - h) (c - h)) w := by
  obtain ⟨ht, hinf, hzs, hsz, hb1⟩ := el
  obtain ⟨i, hi, hz, hsize, hby⟩ := info_parts hinf
  have he : P.elem t = e := by unfold Program.elem; rw [ht]
  have ht' : P.underlying t = some (.slice (P.elem t)) := by rw [he]; exact ht
  rw [run_slice_lh (P := P) w t A n c ht' .i64 .i64 (h : Int) (k : Int) (by omega) (by omega) (by omega)]
  rw [he]
  simp [sizeOf, typeInfo, hi, hsize, sliced, Result.andThen, cutA]
theorem run_cut_l (el : El P t e z sz bytes) (A : Option Addr) (n c h : Nat) (h1 : h ≤ n) (w : World) :
    (Instr.slice t (.slice A n c) (some (.int .i64 (h : Int))) none none).run P w = .ok (.slice (cutA A c h sz) (n - h) (c - h)) w := by
  obtain ⟨ht, hinf, hzs, hsz, hb1⟩ := el
  obtain ⟨i, hi, hz, hsize, hby⟩ := info_parts hinf
  have he : P.elem t = e := by unfold Program.elem; rw [ht]
  have ht' : P.underlying t = some (.slice (P.elem t)) := by rw [he]; exact ht
  rw [run_slice_l (P := P) w t A n c ht' .i64 (h : Int) (by omega) (by omega)]
  rw [he]
  simp [sizeOf, typeInfo, hi, hsize, sliced, Result.andThen, cutA]
theorem run_cut_h (el : El P t e z sz bytes) (A : Option Addr) (n c k : Nat) (h2 : k ≤ c) (w : World) :
    (Instr.slice t (.slice A n c) none (some (.int .i64 (k : Int))) none).run P w = .ok (.slice A k c) w := by
  obtain ⟨ht, hinf, hzs, hsz, hb1⟩ := el
  obtain ⟨i, hi, hz, hsize, hby⟩ := info_parts hinf
  have he : P.elem t = e := by unfold Program.elem; rw [ht]
  have ht' : P.underlying t = some (.slice (P.elem t)) := by rw [he]; exact ht
  rw [run_slice_h (P := P) w t A n c ht' .i64 (k : Int) (by omega) (by omega)]
  rw [he]
  have := cutA_zero A c sz
  unfold cutA at this
  simp only [Nat.zero_mul] at this
  simp [sizeOf, typeInfo, hi, hsize, sliced, Result.andThen]
  intro hc
  cases A with
  | none => rfl
  | some a => simp [Addr.add]
theorem run_cut_lhm (el : El P t e z sz bytes) (A : Option Addr) (n c h k m : Nat) (h1 : h ≤ k) (h2 : k ≤ m) (h3 : m ≤ c) (w : World) :
    (Instr.slice t (.slice A n c) (some (.int .i64 (h : Int))) (some (.int .i64 (k : Int))) (some (.int .i64 (m : Int)))).run P w = .ok (.slice (cutA A m h sz) (k - h) (m - h)) w := by
  obtain ⟨ht, hinf, hzs, hsz, hb1⟩ := el
  obtain ⟨i, hi, hz, hsize, hby⟩ := info_parts hinf
  have he : P.elem t = e := by unfold Program.elem; rw [ht]
  have ht' : P.underlying t = some (.slice (P.elem t)) := by rw [he]; exact ht
  rw [run_slice_lhm (P := P) w t A n c ht' .i64 .i64 .i64 (h : Int) (k : Int) (m : Int) (by omega) (by omega) (by omega) (by omega)]
  rw [he]
  simp [sizeOf, typeInfo, hi, hsize, sliced, Result.andThen, cutA]
end
section
variable {w : World} {B sz n : Nat} {e : TypeId} {v : Value} {xs : List Value}
/-- An owned row, opened: its block known whole. -/
theorem own_open (h : w.ownsRow B e sz v n xs) : (v = .slice none 0 0 ∧ n = 0 ∧ xs = []) ∨
    ∃ (g c : Nat) (L : List Value), v = .slice (some ⟨g, 0, none⟩) n c ∧ B ≤ g ∧ Blk w g e L.toArray ∧ n ≤ c ∧ c ≤ maxLen ∧ L.length = c * sz ∧ L.take (n * sz) = xs := by
  rcases h.2 with ⟨hv, h0⟩ | ⟨g, cap, cur, hv, hb, hg, h1, h2, h3, h4⟩
  · refine .inl ⟨hv, h0, List.eq_nil_of_length_eq_zero (by rw [h.1, h0, Nat.zero_mul])⟩
  · exact .inr ⟨g, cap, cur.toList, hv, hb, hg, h1, h2, by simpa using h3, h4⟩
theorem own_shut {g c : Nat} {L : List Value} (hB : B ≤ g) (hb : Blk w g e L.toArray) (hn : n ≤ c) (hc : c ≤ maxLen) (hl : L.length = c * sz) (hx : L.take (n * sz) = xs) : w.ownsRow B e sz (.slice (some ⟨g, 0, none⟩) n c) n xs := by
  have := Nat.mul_le_mul_right sz hn
  refine ⟨by rw [← hx, List.length_take, hl]; omega, .inr ⟨g, c, L.toArray, rfl, hB, hb, hn, hc, by simpa using hl, by simpa using hx⟩⟩
theorem own_len (h : w.ownsRow B e sz v n xs) : xs.length = n * sz := h.1
theorem own_mono {B' : Nat} (h : w.ownsRow B e sz v n xs) (hB : B' ≤ B) : w.ownsRow B' e sz v n xs := by
  refine ⟨h.1, ?_⟩
  rcases h.2 with h0 | ⟨g, cap, cur, hv, hb, r⟩
  · exact .inl h0
  · exact .inr ⟨g, cap, cur, hv, by omega, r⟩
theorem own_kept {w' : World} (h : w.ownsRow B e sz v n xs) (hk : ∀ g, v.ownBlock = some g → w'.heap[g]? = w.heap[g]?) : w'.ownsRow B e sz v n xs := by
  refine ⟨h.1, ?_⟩
  rcases h.2 with h0 | ⟨g, cap, cur, hv, hb, hg, r⟩
  · exact .inl h0
  · exact .inr ⟨g, cap, cur, hv, hb, by rw [hk g (by rw [hv]; rfl)]; exact hg, r⟩
theorem own_below {w' : World} {B' : Nat} (h : w.ownsRow B e sz v n xs) (hb : Below B' w w') (hv : ∀ g, v.ownBlock = some g → g < B') : w'.ownsRow B e sz v n xs :=
  own_kept h fun g hg => hb.block g (hv g hg)
/-- The cells of a known block, as they read. -/
theorem blk_cells {g o k : Nat} {L : List Value} (h : Blk w g e L.toArray) : ∀ j v, ((L.drop o).take k)[j]? = some v → w.cell? ((⟨g, o, none⟩ : Addr).add j) = some v := by
  intro j v hj
  rw [addr_add, h.cell]
  rw [List.getElem?_take] at hj
  split at hj
  · simpa [List.getElem?_drop] using hj
  · cases hj
end
theorem own_form {w : World} {B sz n : Nat} {e : TypeId} {v : Value} {xs : List Value} (h : w.ownsRow B e sz v n xs) : ∃ A c, v = .slice A n c ∧ n ≤ c ∧ c ≤ maxLen ∧ Rd w w.heap.size sz A n xs := by
  rcases h.2 with ⟨hv, h0⟩ | ⟨g, cap, cur, hv, _, _, hc, hm, _⟩
  · subst h0
    have hx : xs = [] := List.eq_nil_of_length_eq_zero (by rw [h.1, Nat.zero_mul])
    subst hx
    exact ⟨none, 0, hv, by omega, by unfold maxLen; omega, Rd.nil _ _ _ _⟩
  · subst hv
    exact ⟨_, cap, rfl, hc, hm, Rd.of_own h⟩
end Go.Proofs.Ytnngjbieoakanaa
