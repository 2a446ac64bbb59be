/- Package num: digit, Hex. -/
import Derived.Test.YtefnojomjdeghaaDoorBld
import Derived.Test.YtefnojomjdeghaaDoorLib
import Derived.Laws.BitsAll
namespace Go.Proofs.YtefnojomjdeghaaDoor
open Go.RowKit
set_option linter.unusedVariables false

/-- The digit of a number below 16. -/
def dg (k : Nat) : Nat := if k < 10 then 48 + k else 87 + k
def hexN : List Nat → List Nat
  | [] => []
  | x :: l => dg (x / 16) :: dg (x % 16) :: hexN l
theorem dg_lt {k : Nat} (h : k < 16) : dg k < 128 := by unfold dg; split <;> omega
theorem hexN_append (l m : List Nat) : hexN (l ++ m) = hexN l ++ hexN m := by
  induction l with
  | nil => rfl
  | cons x l ih => simp [hexN, ih]
theorem hexN_len (l : List Nat) : (hexN l).length = 2 * l.length := by
  induction l with
  | nil => rfl
  | cons x l ih => simp [hexN, ih]; omega
theorem hexN_lt {l : List Nat} (h : ∀ x ∈ l, x < 256) : ∀ y ∈ hexN l, y < 256 := by
  induction l with
  | nil => intro y hy; cases hy
  | cons x l ih =>
    intro y hy
    have hx := h x (by simp)
    simp only [hexN, List.mem_cons] at hy
    rcases hy with rfl | rfl | hy
    · have := dg_lt (k := x / 16) (by omega); omega
    · have := dg_lt (k := x % 16) (by omega); omega
    · exact ih (fun z hz => h z (by simp [hz])) y hy
/-- The text of bytes. -/
def hexT (l : List Nat) : List Nat := if l = [] then [45] else hexN l

def bytesOf (l : List Nat) : List UInt8 := l.map UInt8.ofNat
theorem bc_ns {l : List Nat} (h : ∀ x ∈ l, x < 256) : Lib.byteCells (bytesOf l) = ns .u8 l := by
  unfold Lib.byteCells bytesOf ns
  rw [List.map_map]
  apply List.map_congr_left
  intro x hx
  have := h x hx
  show Value.int .u8 _ = _
  congr 1
  simp only [UInt8.toNat_ofNat']
  omega

theorem dgAt : ∀ (k : Nat) (h : k < (⟨#[48, 49, 50, 51, 52, 53, 54, 55, 56, 57, 97, 98, 99, 100, 101, 102]⟩ : ByteArray).size), ((⟨#[48, 49, 50, 51, 52, 53, 54, 55, 56, 57, 97, 98, 99, 100, 101, 102]⟩ : ByteArray)[k]'h).toNat = dg k := by
  intro k h
  have hk : k < 16 := h
  rcases (show k = 0 ∨ k = 1 ∨ k = 2 ∨ k = 3 ∨ k = 4 ∨ k = 5 ∨ k = 6 ∨ k = 7 ∨ k = 8 ∨ k = 9 ∨ k = 10 ∨ k = 11 ∨ k = 12 ∨ k = 13 ∨ k = 14 ∨ k = 15 by omega) with rfl | rfl | rfl | rfl | rfl | rfl | rfl | rfl | rfl | rfl | rfl | rfl | rfl | rfl | rfl | rfl <;> rfl
theorem and15_fin : ∀ x : Fin 256, x.val &&& 15 = x.val % 16 := by decide +kernel
theorem and15 (x : Nat) (h : x < 256) : bits .and .u8 ((x : Nat) : Int) 15 = ((x % 16 : Nat) : Int) := by
  have h1 : bits .and .u8 ((x : Nat) : Int) ((15 : Nat) : Int) = ((x &&& 15 : Nat) : Int) := u8_and_nat x 15 h (by omega)
  rw [and15_fin ⟨x, h⟩] at h1
  exact h1

set_option maxRecDepth 20000 in
/-- Hex at any bytes. -/
theorem hex_any (A : Option Addr) (n c : Nat) (l : List Nat) (w : World) (hr : Rd w w.heap.size 1 A n (ns .u8 l)) (hb : ∀ x ∈ l, x < 256) (hn : n ≤ 1000000) :
    Calls Tryd.prog 13 #[.slice A n c] w fun e w' => e = .returned (.string (strN (hexT l))) ∧ Below w.heap.size w w' := by
  have hlen := hr.natLen
  have HR := Lib.hid hr
  have HB := Lib.hid hb
  have HL := Lib.hid hlen
  clear hr hb hlen
  by_cases h0 : n = 0
  · subst h0
    go_enter Tryd.func13, Tryd.ntmps13
    go_wp2_with fail
    go_ret
    refine ⟨?_, Below.refl _ _⟩
    have : l = [] := List.eq_nil_of_length_eq_zero HL.out
    subst this
    rfl
  go_enter Tryd.func13, Tryd.ntmps13
  go_wp2_with fail
  have hg := Tryd.Builder_Grow_fresh w.heap.size w.heap.size (2 * n) (w.alloc (.cells #[.pointer none, .slice none 0 0] 49)) (Nat.le_refl _) (Blk.new w _ _) (by simp) (by omega)
  have e2 : (((2 * n : Nat) : Int)) = 2 * (n : Int) := by omega
  rw [e2] at hg
  refine hg.mono ?_
  rintro e w1 ⟨rfl, hB1, hb1⟩
  have HK1 := Lib.hid (Lib.IsBuilderF.of (Or.inr hB1))
  have hbw1 : Below w.heap.size w w1 := ((Below.refl _ w).alloc (Nat.le_refl _) _).trans hb1
  clear hg hB1 hb1
  go_wp2_with fail
  go_loopw [5, 15] (fun _ iv wr => ∃ i : Nat, i ≤ n ∧ iv = .int .i64 i ∧ Hid (Lib.IsBuilderF 49 5 w.heap.size w.heap.size (Lib.byteCells (bytesOf (hexN (l.take i)))) wr) ∧ Below w.heap.size w wr) (fun _ iv _ => n - (intOf iv).toNat)
  case atStart => exact ⟨0, by omega, rfl, HK1, hbw1⟩
  case round =>
    obtain ⟨i, hi, rfl, HK, hbw⟩ := hrel
    clear HK1 hbw1 w1
    have hsz := hbw.size
    by_cases hin : i < n
    · obtain ⟨bb, off, x, rfl, hbb, hc, hx⟩ := (HR.out.below hbw).nth hin
      have hx' : x < 256 := HB.out x (nth_mem hx)
      have h15 := and15 x hx'
      have hlb : (Lib.byteCells (bytesOf (hexN (l.take i)))).length ≤ 2 * i := by
        rw [Lib.byteCells_length, bytesOf, List.length_map, hexN_len, List.length_take]
        omega
      go_wp2_with fail
      refine (wbyte w.heap.size w.heap.size _ _ _ HK.out (by omega) hsz).mono ?_
      rintro e w2 ⟨rfl, k2, b2, _⟩
      have HK2 := Lib.hid (show Lib.IsBuilderF _ _ _ _ _ w2 from Or.inr k2)
      have hbw2 := hbw.trans b2
      clear k2 b2
      go_wp2_with fail
      refine (wbyte w.heap.size w.heap.size _ _ _ HK2.out (by simp only [List.length_append, List.length_cons, List.length_nil]; omega) hbw2.size).mono ?_
      rintro e w3 ⟨rfl, k3, b3, _⟩
      have hk : i < l.length := by rw [HL.out]; exact hin
      have hxl : hexN (l.take (i + 1)) = hexN (l.take i) ++ [dg (x / 16), dg (x % 16)] := by
        rw [nth_take hx, hexN_append]
        rfl
      have hdd : Lib.byteCells (bytesOf [dg (x / 16), dg (x % 16)]) = [Value.int .u8 ((dg (x / 16) : Nat) : Int), Value.int .u8 ((dg (x % 16) : Nat) : Int)] :=
        bc_ns (l := [dg (x / 16), dg (x % 16)]) (by
          intro y hy
          have h1 := dg_lt (k := x / 16) (by omega)
          have h2 := dg_lt (k := x % 16) (by omega)
          simp only [List.mem_cons, List.not_mem_nil, or_false] at hy
          omega)
      have HK3 : Hid (Lib.IsBuilderF 49 5 w.heap.size w.heap.size (Lib.byteCells (bytesOf (hexN (l.take (i + 1))))) w3) := by
        refine Lib.hid (Or.inr ?_)
        rw [hxl]
        show Lib.BuilderAtF _ _ _ _ _ (Lib.byteCells ((hexN (l.take i) ++ [dg (x / 16), dg (x % 16)]).map UInt8.ofNat)) w3
        rw [List.map_append, Lib.byteCells_append]
        change Lib.BuilderAtF _ _ _ _ _ (_ ++ Lib.byteCells (bytesOf [dg (x / 16), dg (x % 16)])) w3
        rw [hdd]
        rw [dgAt, dgAt, List.append_assoc] at k3
        exact k3
      have hbw3 := hbw2.trans b3
      clear k3 b3 hdd hxl
      go_wp2_with fail
      exact ⟨⟨i + 1, by omega, congrArg (Value.int .i64) (by omega), HK3, hbw3⟩, by simp [intOf]; omega⟩
    · have hie : i = n := by omega
      subst hie
      go_wp2_with fail
      refine (Tryd.Builder_String_any_k w.heap.size w.heap.size _ _ HK.out hsz).mono ?_
      rintro e w2 ⟨rfl, _, hb2, _⟩
      go_wp2_with fail
      go_ret
      refine ⟨?_, hbw.trans hb2⟩
      have h1 : l.take i = l := by rw [← HL.out]; exact List.take_length
      have h2 : l ≠ [] := by intro h; rw [h] at HL; exact h0 HL.out.symm
      rw [h1]
      unfold hexT
      rw [if_neg h2]
      rfl
end Go.Proofs.YtefnojomjdeghaaDoor
