/- Layer 5: the chapter's example. -/
import Derived.Test.YtflmnhibjgehnaaRng6
import Derived.Test.YtflmnhibjgehnaaOpen
import Derived.Lib.SlBytesConst
import Derived.Laws.IdiomStrings
import Derived.Test.YtflmnhibjgehnaaLib

namespace Go.Proofs.Ytflmnhibjgehnaa
open Go.RowKit
set_option linter.unusedVariables false
/-- A constant as bytes, just made. -/
theorem Rd.litm {w : World} {k : IntKind} {n : Nat} {t : TypeId} {cs : Array Value} {fr : Nat × Nat} (l : List Nat) (hc : cs.toList = ns k l) (hn : n = l.length) : Rd (w.alloc (.cells cs t fr)) (w.heap.size + 1) 1 (some ⟨w.heap.size, 0, none⟩) n (ns k l) := by
  subst hn
  refine ⟨by simp [ns], fun _ => ⟨_, _, rfl, by omega, fun j hj => ?_⟩⟩
  rw [Nat.zero_add, World.cell?_alloc_mark, ← hc]
  simp
end Go.Proofs.Ytflmnhibjgehnaa

/- A text's bytes as numbers. No program. -/
namespace Go.Proofs.Ytflmnhibjgehnaa
open Go.RowKit
set_option linter.unusedVariables false

def nats (s : ByteArray) : List Nat := s.data.toList.map UInt8.toNat
theorem nats_len (s : ByteArray) : (nats s).length = s.size := by unfold nats; rw [List.length_map, Array.length_toList]; rfl
theorem nats_toList (s : ByteArray) : s.toList.map UInt8.toNat = nats s := by
  rcases s with ⟨a⟩
  rw [ByteArray.toList_mk]
  rfl
theorem nats_nth (s : ByteArray) (i : Nat) (h : i < s.size) : (nats s).getD i 0 = (s[i]'h).toNat := by
  rcases s with ⟨a⟩
  have h' : i < a.size := h
  simp [nats, List.getD_eq_getElem?_getD, h']
  rfl
theorem nats_lt (s : ByteArray) : ∀ x ∈ nats s, x < 256 := by
  intro x hx
  simp only [nats, List.mem_map] at hx
  obtain ⟨y, _, rfl⟩ := hx
  exact y.toNat_lt

theorem strN_size (l : List Nat) : (strN l).size = l.length := by
  unfold strN
  show ((l.map UInt8.ofNat).toArray).size = _
  simp
theorem strN_nats (s : ByteArray) : strN (nats s) = s := by
  rcases s with ⟨a⟩
  unfold strN nats
  congr 1
  rw [List.map_map]
  have : (UInt8.ofNat ∘ UInt8.toNat) = id := by funext x; simp
  rw [this, List.map_id]
theorem nats_strN (l : List Nat) (h : ∀ x ∈ l, x < 256) : nats (strN l) = l := by
  unfold strN nats
  simp only [List.map_map]
  rw [show (l.map (UInt8.toNat ∘ UInt8.ofNat)) = l.map id from List.map_congr_left (fun x hx => by have := h x hx; simp; omega), List.map_id]
theorem nats_inj {a b : ByteArray} (h : nats a = nats b) : a = b := by rw [← strN_nats a, h, strN_nats]
theorem nats_append (a b : ByteArray) : nats (a ++ b) = nats a ++ nats b := by
  unfold nats
  rw [← List.map_append]
  congr 1
theorem strN_append (a b : List Nat) : strN (a ++ b) = strN a ++ strN b := by
  unfold strN
  apply ByteArray.ext
  simp
theorem nats_empty : nats ByteArray.empty = [] := rfl
theorem nats_extract (s : ByteArray) (a b : Nat) : nats (s.extract a b) = ((nats s).drop a).take (b - a) := by
  unfold nats
  rw [← List.map_drop, ← List.map_take]
  congr 1
  simp [List.take_drop]
/-- A text's byte, by its number. -/
theorem run_sidx {P : Program} {t : TypeId} (ht : P.underlying t = some .string) (s : ByteArray) (i : Nat) (hi : i < s.size) (w : World) :
    (Instr.index t (.string s) (.int .i64 (i : Int))).run P w = .ok (.int .u8 (((nats s).getD i 0 : Nat) : Int)) w := by
  rw [run_index_string w t s .i64 (i : Int) ht, dif_pos ⟨by omega, by omega⟩, nats_nth s i hi]
  simp
end Go.Proofs.Ytflmnhibjgehnaa
