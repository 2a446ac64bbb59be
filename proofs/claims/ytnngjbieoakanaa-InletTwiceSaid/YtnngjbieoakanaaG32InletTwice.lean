/- Arguments, opened into what the walks ask. No program. -/
import Derived.Test.YtnngjbieoakanaaLib
import Derived.OpenShut
import Derived.ChangeOld
import Derived.Deep.Slices
import Derived.Test.YtnngjbieoakanaaG21InletTwice
import Derived.Lib.SlBytesConst
import Derived.Laws.IdiomStrings

namespace Go.Proofs.Ytnngjbieoakanaa
open Go.RowKit Go.ChangeShapes Go.WideShapes Go.ChangeAt
set_option linter.unusedVariables false

section
variable {H : Type} {enc : TypeId × Value → H} {P : Program} {w : World} {held : Bool} {t e : TypeId} {A : Option Addr} {len cap : Nat} {d : DataW H} {ps : List MemPlace}
theorem open_row {k : IntKind} (ht : P.underlying t = some (.slice e)) (he : P.underlying e = some (.int k)) (hc : P.cellsOf e = 1)
    (h : DataW.Trod enc P w 0 (fun _ => true) held t (.slice A len cap) d ps) :
    ∃ l : List Int, Rd w w.heap.size 1 A len (zs k l) ∧ len ≤ cap ∧ cap ≤ maxLen ∧ ∀ x ∈ l, (Lit.int k x).wf = true := by
  obtain ⟨fuel, hf⟩ := h
  rcases open_ints ht he hc hf with ⟨hcs, _⟩ | ⟨x, n, c, ys, hcs, _, hl, hm, hz, _, hcell, hwz⟩
  · simp [Value.cells] at hcs
    obtain ⟨rfl, rfl, rfl⟩ := hcs
    exact ⟨[], Rd.nil _ _ _ _, Nat.le_refl _, Nat.zero_le _, by simp⟩
  · simp [Value.cells] at hcs
    obtain ⟨rfl, rfl, rfl⟩ := hcs
    have hz : ys.length = cap := by simpa using hz
    refine ⟨ys.take len, ⟨by simp [zs]; omega, fun hn => ?_⟩, hl, hm, fun y hy => hwz y (List.mem_of_mem_take hy)⟩
    have h0 := hcell 0 (by omega)
    have hspot : x.spot = none := by
      have := World.cell?_spot h0
      unfold Addr.add at this
      simpa using this
    obtain ⟨b, off, spot⟩ := x
    simp at hspot
    subst hspot
    refine ⟨b, off, rfl, World.block_lt_of_cell? w (a := ⟨b, off, none⟩) (by simpa [addr_add] using h0), fun j hj => ?_⟩
    have hj' : j < len := by omega
    have h1 := hcell j (by omega)
    rw [addr_add] at h1
    rw [h1]
    simp [zs, hj', show j < ys.length by omega]
theorem zs_nat {k : IntKind} {l : List Int} (h : ∀ x ∈ l, 0 ≤ x) : zs k l = ns k (l.map Int.toNat) := by
  simp only [zs, ns, List.map_map]
  refine List.map_congr_left fun x hx => ?_
  have := h x hx
  simp only [Function.comp_apply]
  rw [Int.toNat_of_nonneg this]
theorem open_u8 (ht : P.underlying t = some (.slice e)) (he : P.underlying e = some (.int .u8)) (hc : P.cellsOf e = 1)
    (h : DataW.Trod enc P w 0 (fun _ => true) held t (.slice A len cap) d ps) :
    ∃ l : List Nat, Rd w w.heap.size 1 A len (ns .u8 l) ∧ len ≤ cap ∧ cap ≤ maxLen ∧ ∀ x ∈ l, x < 256 := by
  obtain ⟨l, h1, h2, h3, h4⟩ := open_row ht he hc h
  refine ⟨l.map Int.toNat, by rw [← zs_nat fun x hx => (bounds_u8 (h4 x hx)).1]; exact h1, h2, h3, fun y hy => ?_⟩
  obtain ⟨x, hx, rfl⟩ := List.mem_map.1 hy
  have := bounds_u8 (h4 x hx)
  omega
theorem open_u64 (ht : P.underlying t = some (.slice e)) (he : P.underlying e = some (.int .u64)) (hc : P.cellsOf e = 1)
    (h : DataW.Trod enc P w 0 (fun _ => true) held t (.slice A len cap) d ps) :
    ∃ l : List Nat, Rd w w.heap.size 1 A len (ns .u64 l) ∧ len ≤ cap ∧ cap ≤ maxLen ∧ ∀ x ∈ l, x < 18446744073709551616 := by
  obtain ⟨l, h1, h2, h3, h4⟩ := open_row ht he hc h
  refine ⟨l.map Int.toNat, by rw [← zs_nat fun x hx => (bounds_u64 (h4 x hx)).1]; exact h1, h2, h3, fun y hy => ?_⟩
  obtain ⟨x, hx, rfl⟩ := List.mem_map.1 hy
  have := bounds_u64 (h4 x hx)
  omega
theorem open_i64 (ht : P.underlying t = some (.slice e)) (he : P.underlying e = some (.int .i64)) (hc : P.cellsOf e = 1)
    (h : DataW.Trod enc P w 0 (fun _ => true) held t (.slice A len cap) d ps) :
    ∃ l : List Int, Rd w w.heap.size 1 A len (zs .i64 l) ∧ len ≤ cap ∧ cap ≤ maxLen ∧ ∀ x ∈ l, -9223372036854775808 ≤ x ∧ x < 9223372036854775808 := by
  obtain ⟨l, h1, h2, h3, h4⟩ := open_row ht he hc h
  refine ⟨l, h1, h2, h3, fun x hx => ?_⟩
  have := bounds_i64 (h4 x hx)
  omega
end
end Go.Proofs.Ytnngjbieoakanaa

/- Layer 5: the chapter's example. -/
namespace Go.Proofs.Ytnngjbieoakanaa
open Go.RowKit
set_option linter.unusedVariables false
/-- A constant as bytes, just made. -/
theorem Rd.litm {w : World} {k : IntKind} {n : Nat} {t : TypeId} {cs : Array Value} {fr : Nat × Nat} (l : List Nat) (hc : cs.toList = ns k l) (hn : n = l.length) : Rd (w.alloc (.cells cs t fr)) (w.heap.size + 1) 1 (some ⟨w.heap.size, 0, none⟩) n (ns k l) := by
  subst hn
  refine ⟨by simp [ns], fun _ => ⟨_, _, rfl, by omega, fun j hj => ?_⟩⟩
  rw [Nat.zero_add, World.cell?_alloc_mark, ← hc]
  simp
end Go.Proofs.Ytnngjbieoakanaa

/- A text's bytes as numbers. No program. -/
namespace Go.Proofs.Ytnngjbieoakanaa
open Go.RowKit
set_option linter.unusedVariables false

def nats (s : ByteArray) : List Nat := s.data.toList.map UInt8.toNat
theorem nats_len (s : ByteArray) : (nats s).length = s.size := by unfold nats; rw [List.length_map, Array.length_toList]; rfl
theorem nats_toList (s : ByteArray) : s.toList.map UInt8.toNat = nats s := by
  rcases s with ⟨a⟩
  rw [ByteArray.toList_mk]
  rfl
theorem nats_nth (s : ByteArray) (i : Nat) (h : i < s.size) : (nats s).getD i 0 = (s[i]'h).toNat := by
  rcases s with ⟨a⟩
  have h' : i < a.size := h
  simp [nats, List.getD_eq_getElem?_getD, h']
  rfl
theorem nats_lt (s : ByteArray) : ∀ x ∈ nats s, x < 256 := by
  intro x hx
  simp only [nats, List.mem_map] at hx
  obtain ⟨y, _, rfl⟩ := hx
  exact y.toNat_lt

theorem strN_size (l : List Nat) : (strN l).size = l.length := by
  unfold strN
  show ((l.map UInt8.ofNat).toArray).size = _
  simp
theorem strN_nats (s : ByteArray) : strN (nats s) = s := by
  rcases s with ⟨a⟩
  unfold strN nats
  congr 1
  rw [List.map_map]
  have : (UInt8.ofNat ∘ UInt8.toNat) = id := by funext x; simp
  rw [this, List.map_id]
theorem nats_strN (l : List Nat) (h : ∀ x ∈ l, x < 256) : nats (strN l) = l := by
  unfold strN nats
  simp only [List.map_map]
  rw [show (l.map (UInt8.toNat ∘ UInt8.ofNat)) = l.map id from List.map_congr_left (fun x hx => by have := h x hx; simp; omega), List.map_id]
theorem nats_inj {a b : ByteArray} (h : nats a = nats b) : a = b := by rw [← strN_nats a, h, strN_nats]
theorem nats_append (a b : ByteArray) : nats (a ++ b) = nats a ++ nats b := by
  unfold nats
  rw [← List.map_append]
  congr 1
theorem strN_append (a b : List Nat) : strN (a ++ b) = strN a ++ strN b := by
  unfold strN
  apply ByteArray.ext
  simp
theorem nats_empty : nats ByteArray.empty = [] := rfl
theorem nats_extract (s : ByteArray) (a b : Nat) : nats (s.extract a b) = ((nats s).drop a).take (b - a) := by
  unfold nats
  rw [← List.map_drop, ← List.map_take]
  congr 1
  simp [List.take_drop]
/-- A text's byte, by its number. -/
theorem run_sidx {P : Program} {t : TypeId} (ht : P.underlying t = some .string) (s : ByteArray) (i : Nat) (hi : i < s.size) (w : World) :
    (Instr.index t (.string s) (.int .i64 (i : Int))).run P w = .ok (.int .u8 (((nats s).getD i 0 : Nat) : Int)) w := by
  rw [run_index_string w t s .i64 (i : Int) ht, dif_pos ⟨by omega, by omega⟩, nats_nth s i hi]
  simp
end Go.Proofs.Ytnngjbieoakanaa
