/- A text's bytes as numbers. No program. -/
import Derived.Test.YtohehnlbknaflaaLib
import Derived.Test.YtohehnlbknaflaaG34SackPlays
import Derived.Test.YtohehnlbknaflaaG42SackPlays
import Derived.Test.YtohehnlbknaflaaG44SackPlays
import Derived.Test.YtohehnlbknaflaaOrdF
import Derived.StillTailTactics
import Derived.Deep.Cut

namespace Go.Proofs.Ytohehnlbknaflaa
open Go.RowKit
set_option linter.unusedVariables false

def nats (s : ByteArray) : List Nat := s.data.toList.map UInt8.toNat
theorem nats_len (s : ByteArray) : (nats s).length = s.size := by unfold nats; rw [List.length_map, Array.length_toList]; rfl
theorem nats_toList (s : ByteArray) : s.toList.map UInt8.toNat = nats s := by
  rcases s with ⟨a⟩
  rw [ByteArray.toList_mk]
  rfl
theorem nats_nth (s : ByteArray) (i : Nat) (h : i < s.size) : (nats s).getD i 0 = (s[i]'h).toNat := by
  rcases s with ⟨a⟩
  have h' : i < a.size := h
  simp [nats, List.getD_eq_getElem?_getD, h']
  rfl
theorem nats_lt (s : ByteArray) : ∀ x ∈ nats s, x < 256 := by
  intro x hx
  simp only [nats, List.mem_map] at hx
  obtain ⟨y, _, rfl⟩ := hx
  exact y.toNat_lt

theorem strN_size (l : List Nat) : (strN l).size = l.length := by
  unfold strN
  show ((l.map UInt8.ofNat).toArray).size = _
  simp
theorem strN_nats (s : ByteArray) : strN (nats s) = s := by
  rcases s with ⟨a⟩
  unfold strN nats
  congr 1
  rw [List.map_map]
  have : (UInt8.ofNat ∘ UInt8.toNat) = id := by funext x; simp
  rw [this, List.map_id]
theorem nats_strN (l : List Nat) (h : ∀ x ∈ l, x < 256) : nats (strN l) = l := by
  unfold strN nats
  simp only [List.map_map]
  rw [show (l.map (UInt8.toNat ∘ UInt8.ofNat)) = l.map id from List.map_congr_left (fun x hx => by have := h x hx; simp; omega), List.map_id]
theorem nats_inj {a b : ByteArray} (h : nats a = nats b) : a = b := by rw [← strN_nats a, h, strN_nats]
theorem nats_append (a b : ByteArray) : nats (a ++ b) = nats a ++ nats b := by
  unfold nats
  rw [← List.map_append]
  congr 1
theorem strN_append (a b : List Nat) : strN (a ++ b) = strN a ++ strN b := by
  unfold strN
  apply ByteArray.ext
  simp
theorem nats_empty : nats ByteArray.empty = [] := rfl
theorem nats_extract (s : ByteArray) (a b : Nat) : nats (s.extract a b) = ((nats s).drop a).take (b - a) := by
  unfold nats
  rw [← List.map_drop, ← List.map_take]
  congr 1
  simp [List.take_drop]
/-- A text's byte, by its number. -/
theorem run_sidx {P : Program} {t : TypeId} (ht : P.underlying t = some .string) (s : ByteArray) (i : Nat) (hi : i < s.size) (w : World) :
    (Instr.index t (.string s) (.int .i64 (i : Int))).run P w = .ok (.int .u8 (((nats s).getD i 0 : Nat) : Int)) w := by
  rw [run_index_string w t s .i64 (i : Int) ht, dif_pos ⟨by omega, by omega⟩, nats_nth s i hi]
  simp
end Go.Proofs.Ytohehnlbknaflaa

/- Layer 31: the law SackPlays answers true, and nothing that was there has turned. -/
namespace Go.Proofs.Ytohehnlbknaflaa
open Go.RowKit
set_option linter.unusedVariables false
set_option linter.unusedSimpArgs false
def cmel (p : Nat × Int) : List Value := [.int .u32 (p.1 : Int), .int .i64 p.2]
def cms (l : List (Nat × Int)) : List Value := l.flatMap cmel
theorem cms_cons (p : Nat × Int) (l : List (Nat × Int)) : cms (p :: l) = .int .u32 (p.1 : Int) :: .int .i64 p.2 :: cms l := rfl
theorem cms_len (l : List (Nat × Int)) : (cms l).length = l.length * 2 := by
  induction l with
  | nil => rfl
  | cons p l ih => rw [cms_cons, List.length_cons, List.length_cons, ih, List.length_cons]; omega
theorem cms_get {l : List (Nat × Int)} {i : Nat} {p : Nat × Int} (h : l[i]? = some p) : (cms l)[i * 2]? = some (.int .u32 (p.1 : Int)) ∧ (cms l)[i * 2 + 1]? = some (.int .i64 p.2) := by
  induction l generalizing i with
  | nil => simp at h
  | cons q l ih =>
    cases i with
    | zero => simp at h; subst h; exact ⟨rfl, rfl⟩
    | succ i =>
      have e0 : (i + 1) * 2 = i * 2 + 1 + 1 := by omega
      have e1 : (i + 1) * 2 + 1 = i * 2 + 1 + 1 + 1 := by omega
      rw [cms_cons, e1, e0]
      simp only [List.getElem?_cons_succ]
      exact ih (by simpa using h)
theorem Rd.cm {w : World} {B n : Nat} {A : Option Addr} {l : List (Nat × Int)} (h : Rd w B 2 A n (cms l)) {i : Nat} (hi : i < n) :
    ∃ (b off : Nat) (x : Nat) (y : Int), A = some ⟨b, off, none⟩ ∧ b < B ∧ w.cell? ⟨b, off + i * 2, none⟩ = some (.int .u32 (x : Int)) ∧ w.cell? ⟨b, off + i * 2 + 1, none⟩ = some (.int .i64 y) ∧ Hid (l[i]? = some (x, y)) := by
  obtain ⟨b, off, e, hb, hc⟩ := h.2 (by omega)
  have hl : l.length = n := by have := h.1; rw [cms_len] at this; omega
  have hg : l[i]? = some l[i] := by rw [List.getElem?_eq_getElem (by omega)]
  obtain ⟨g1, g2⟩ := cms_get hg
  exact ⟨b, off, _, _, e, hb, (hc (i * 2) (by omega)).trans g1, (Nat.add_assoc off (i * 2) 1 ▸ hc (i * 2 + 1) (by omega)).trans g2, Lib.hid hg⟩
theorem Rd.keepA {w w' : World} {B sz n : Nat} {A : Option Addr} {xs : List Value} (h : Rd w B sz A n xs) (hB : B ≤ w'.heap.size) (hc : 0 < n → ∀ a, A = some a → a.block < B → w'.heap[a.block]? = w.heap[a.block]?) : Rd w' w'.heap.size sz A n xs :=
  ⟨h.1, fun hn => by
    obtain ⟨b, off, e, hb, hcell⟩ := h.2 hn
    have h0 := hc (by omega) ⟨b, off, none⟩ e hb
    exact ⟨b, off, e, Nat.lt_of_lt_of_le hb hB, fun j hj => (World.cell?_of_block (a := ⟨b, off + j, none⟩) h0).trans (hcell j hj)⟩⟩
theorem Rd.blk_lt {w : World} {B sz n : Nat} {A : Option Addr} {xs : List Value} (h : Rd w B sz A n xs) (hn : 0 < n) {a : Addr} (ha : A = some a) : a.block < B := by
  obtain ⟨b, off, e, hb, _⟩ := h.2 (by omega)
  rw [e] at ha
  injection ha with ha
  rw [← ha]
  exact hb
theorem Solo.keep' {g : Nat} {w w' : World} (h : Solo g w w') {k : Nat} (hk : k ≠ g) : w'.heap[k]? = w.heap[k]? := h.2.2 k hk
end Go.Proofs.Ytohehnlbknaflaa
