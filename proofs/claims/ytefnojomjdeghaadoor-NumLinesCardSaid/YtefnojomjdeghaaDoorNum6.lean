/- Package num: Line. -/
import Derived.Test.YtefnojomjdeghaaDoorNum5
namespace Go.Proofs.YtefnojomjdeghaaDoor
open Go.RowKit
set_option linter.unusedVariables false
def ss (l : List ByteArray) : List Value := l.map Value.string
theorem Rd.str {w : World} {B n : Nat} {A : Option Addr} {l : List ByteArray} {i : Nat} (h : Rd w B 1 A n (ss l)) (hi : i < n) :
    ∃ (b off : Nat) (x : ByteArray), A = some ⟨b, off, none⟩ ∧ b < B ∧ w.cell? ⟨b, off + i, none⟩ = some (.string x) ∧ Hid (l[i]? = some x) := by
  obtain ⟨b, off, e, hb, hc⟩ := h.2 (by omega)
  have hl : i < l.length := by have := h.1; simp [ss] at this; omega
  refine ⟨b, off, l[i], e, hb, ?_, Lib.hid (by simp [hl])⟩
  rw [hc i (by omega)]
  simp [ss, hl]
theorem Rd.strLen {w : World} {B n : Nat} {A : Option Addr} {l : List ByteArray} (h : Rd w B 1 A n (ss l)) : l.length = n := by have := h.1; simpa [ss] using this
/-- One text more. -/
def jn (acc : List UInt8) (s : ByteArray) : List UInt8 := if s.size = 0 then acc else if acc = [] then s.data.toList else acc ++ (32 :: s.data.toList)
def lineU (l : List ByteArray) : List UInt8 := l.foldl jn []
theorem jn_len (acc : List UInt8) (s : ByteArray) : (jn acc s).length ≤ acc.length + 1 + s.size := by
  have h : s.data.toList.length = s.size := Array.length_toList
  unfold jn
  split
  · omega
  · split
    · omega
    · simp only [List.length_append, List.length_cons]; omega

set_option maxRecDepth 20000 in
theorem line_any (A : Option Addr) (n c : Nat) (l : List ByteArray) (w : World) (hr : Rd w w.heap.size 1 A n (ss l)) (hn : n ≤ 1000) (hb : ∀ x ∈ l, x.size ≤ 100000) :
    Calls Tryd.prog 16 #[.slice A n c] w fun e w' => e = .returned (.string ⟨(lineU l).toArray⟩) ∧ Below w.heap.size w w' := by
  have hlen := hr.strLen
  have HR := Lib.hid hr
  have HB := Lib.hid hb
  have HL := Lib.hid hlen
  clear hr hb hlen
  have HK0 := Lib.hid (Lib.IsBuilderF.of (Lib.fresh_isBuilder 49 5 w))
  go_enter Tryd.func16, Tryd.ntmps16
  go_wp2_with fail
  go_loopw [5, 8] (fun _ iv wr => ∃ (i : Nat) (acc : List UInt8), i ≤ n ∧ iv = .int .i64 i ∧ acc.length ≤ 100001 * i ∧ Hid (acc = (l.take i).foldl jn []) ∧ Hid (Lib.IsBuilderF 49 5 w.heap.size w.heap.size (Lib.byteCells acc) wr) ∧ Below w.heap.size w wr) (fun _ iv _ => n - (intOf iv).toNat)
  case atStart => exact ⟨0, [], by omega, rfl, by simp, Lib.hid (by simp), HK0, (Below.refl _ w).alloc (Nat.le_refl _) _⟩
  case round =>
    obtain ⟨i, acc, hi, rfl, hal, HAC, HK, hbw⟩ := hrel
    clear HK0
    have hsz := hbw.size
    by_cases hin : i < n
    · obtain ⟨bb, off, x, rfl, hbb, hc, hx⟩ := (HR.out.below hbw).str hin
      have hxm : x ∈ l := List.mem_of_getElem? hx.out
      have hx' : x.size ≤ 100000 := HB.out x hxm
      have htk : (l.take (i + 1)).foldl jn [] = jn acc x := by
        rw [nth_take hx, List.foldl_append, ← HAC.out]
        rfl
      have HT := Lib.hid htk
      have hjl := jn_len acc x
      have hxl : x.toList.length = x.size := by rcases x with ⟨a⟩; rw [ByteArray.toList_mk]; rfl
      have hbl := Lib.byteCells_length acc
      clear htk hxm
      by_cases h0 : x.size = 0
      · have g0 : x.toList.isEmpty = true := by rw [List.isEmpty_iff]; exact List.eq_nil_of_length_eq_zero (by omega)
        have hj : jn acc x = acc := by unfold jn; rw [if_pos h0]
        rw [hj] at HT
        have HX := Lib.hid hxl
        clear hj hjl hxl
        go_wp2_with fail
        exact ⟨⟨i + 1, acc, by omega, congrArg (Value.int .i64) (by omega), by omega, Lib.hid HT.out.symm, HK, hbw⟩, by simp [intOf]; omega⟩
      have g0 : x.toList.isEmpty = false := by
        cases h : x.toList with
        | nil => rw [h] at hxl; exact absurd hxl.symm h0
        | cons _ _ => rfl
      have HX := Lib.hid hxl
      clear hxl
      have hcx : Lib.strCells x = Lib.byteCells x.data.toList := Lib.strCells_eq x
      by_cases ha : acc = []
      · have hj : jn acc x = acc ++ x.data.toList := by unfold jn; rw [if_neg h0, if_pos ha, ha, List.nil_append]
        rw [hj] at HT hjl
        have hal0 : (Lib.byteCells acc).length = 0 := by rw [hbl, ha]; rfl
        go_wp2_with fail
        refine (Tryd.Builder_Len_f w.heap.size w.heap.size _ wr HK.out).mono ?_
        rintro e w2 ⟨rfl, rfl⟩
        rw [hal0]
        go_wp2_with fail
        refine (wstr w.heap.size w.heap.size _ x _ HK.out (by omega) hsz).mono ?_
        rintro e w3 ⟨rfl, k3, b3, _⟩
        rw [hcx, ← Lib.byteCells_append] at k3
        have HK3 := Lib.hid (show Lib.IsBuilderF _ _ _ _ _ w3 from Or.inr k3)
        have hb3 := hbw.trans b3
        clear k3 b3
        go_wp2_with fail
        exact ⟨⟨i + 1, acc ++ x.data.toList, by omega, congrArg (Value.int .i64) (by omega), by omega, Lib.hid HT.out.symm, HK3, hb3⟩, by simp [intOf]; omega⟩
      · have hj : jn acc x = (acc ++ [32]) ++ x.data.toList := by unfold jn; rw [if_neg h0, if_neg ha, List.append_assoc]; rfl
        rw [hj] at HT hjl
        have hal0 : 0 < (Lib.byteCells acc).length := by rw [hbl]; exact List.length_pos_iff.2 ha
        go_wp2_with fail
        refine (Tryd.Builder_Len_f w.heap.size w.heap.size _ wr HK.out).mono ?_
        rintro e w2 ⟨rfl, rfl⟩
        generalize hq : (Lib.byteCells acc).length = q at hal0 hbl
        go_wp2_with fail
        refine (wbyte w.heap.size w.heap.size _ 32 _ HK.out (by omega) hsz).mono ?_
        rintro e w3 ⟨rfl, k3, b3, _⟩
        have h32 : Lib.byteCells [32] = [Value.int .u8 32] := rfl
        rw [← h32, ← Lib.byteCells_append] at k3
        have HK3 := Lib.hid (show Lib.IsBuilderF _ _ _ _ _ w3 from Or.inr k3)
        have hb3 := hbw.trans b3
        clear k3 b3
        go_wp2_with fail
        refine (wstr w.heap.size w.heap.size _ x _ HK3.out (by rw [Lib.byteCells_length, List.length_append]; simp only [List.length_cons, List.length_nil]; omega) hb3.size).mono ?_
        rintro e w4 ⟨rfl, k4, b4, _⟩
        rw [hcx, ← Lib.byteCells_append] at k4
        have HK4 := Lib.hid (show Lib.IsBuilderF _ _ _ _ _ w4 from Or.inr k4)
        have hb4 := hb3.trans b4
        clear k4 b4
        go_wp2_with fail
        exact ⟨⟨i + 1, (acc ++ [32]) ++ x.data.toList, by omega, congrArg (Value.int .i64) (by omega), by omega, Lib.hid HT.out.symm, HK4, hb4⟩, by simp [intOf]; omega⟩
    · have hie : i = n := by omega
      subst hie
      go_wp2_with fail
      refine (Tryd.Builder_String_any_k w.heap.size w.heap.size acc _ HK.out hsz).mono ?_
      rintro e w2 ⟨rfl, _, hb2, _⟩
      go_wp2_with fail
      go_ret
      refine ⟨?_, hbw.trans hb2⟩
      have h1 : l.take i = l := by rw [← HL.out]; exact List.take_length
      have h2 := HAC.out
      rw [h1] at h2
      rw [h2]
      rfl
end Go.Proofs.YtefnojomjdeghaaDoor
