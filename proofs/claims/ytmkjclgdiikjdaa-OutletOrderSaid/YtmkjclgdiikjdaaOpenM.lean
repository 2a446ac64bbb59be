/- A slice of slices of bytes as an argument. -/
import Derived.Test.YtmkjclgdiikjdaaPts
import Derived.Test.YtmkjclgdiikjdaaRows
import Derived.Test.YtmkjclgdiikjdaaOpen
import Derived.Deep.Matrix
import Derived.ChangeSame
namespace Go.Proofs.Ytmkjclgdiikjdaa
open Go.RowKit Go.ChangeShapes Go.WideShapes Go.ChangeAt
set_option linter.unusedVariables false
section
variable {H : Type} {enc : TypeId × Value → H} {P : Program} {w : World} {held : Bool} {t e q : TypeId} {A : Option Addr} {len cap : Nat} {d : DataW H} {ps : List MemPlace}
theorem open_rows8 (ht : P.underlying t = some (.slice e)) (he : P.underlying e = some (.slice q)) (hq : P.underlying q = some (.int .u8)) (ce : P.cellsOf e = 1) (cq : P.cellsOf q = 1)
    (h : DataW.Trod enc P w 0 (fun _ => true) held t (.slice A len cap) d ps) :
    ∃ bss : List (List Nat), Pts w w.heap.size A len bss ∧ len ≤ cap ∧ cap ≤ maxLen ∧ (∀ bs ∈ bss, ∀ x ∈ bs, x < 256) ∧ ∀ bs ∈ bss, bs.length ≤ maxLen := by
  obtain ⟨fuel, hf⟩ := h
  rcases Go.Deep.open_int_rows ht he hq ce cq hf with ⟨hcs, _⟩ | ⟨a, n, c, A', L, C, Z, hcs, _, hl, hm, _, hx⟩
  · simp [Value.cells] at hcs
    obtain ⟨rfl, rfl, rfl⟩ := hcs
    exact ⟨[], Pts.nil _ _ _, Nat.le_refl _, Nat.zero_le _, by simp, by simp⟩
  · simp [Value.cells] at hcs
    obtain ⟨rfl, rfl, rfl⟩ := hcs
    refine ⟨(List.range len).map fun r => ((Z r).take (L r)).map Int.toNat, ⟨by simp, (List.range len).map fun r => .slice (A' r) (L r) (C r), ⟨by simp, fun hn => ?_⟩, fun i bs hi => ?_⟩, hl, hm, fun bs hbs x hx' => ?_, fun bs hbs => ?_⟩
    · have h0 := (hx 0 (by omega)).1
      have hspot : a.spot = none := by
        have := World.cell?_spot h0
        unfold Addr.add at this
        simpa using this
      obtain ⟨b, off, spot⟩ := a
      simp at hspot
      subst hspot
      refine ⟨b, off, rfl, World.block_lt_of_cell? w (a := ⟨b, off, none⟩) (by simpa [addr_add] using h0), fun j hj => ?_⟩
      have hj' : j < len := by omega
      have h1 := (hx j (by omega)).1
      rw [addr_add] at h1
      rw [h1]
      simp [hj']
    · obtain ⟨hi1, hi2⟩ := List.getElem?_eq_some_iff.1 hi
      simp at hi1
      have hi2 : ((Z i).take (L i)).map Int.toNat = bs := by simpa using hi2
      subst hi2
      obtain ⟨x1, x2, x3, x4, x5, x6, x7⟩ := hx i (by omega)
      have hlen : (((Z i).take (L i)).map Int.toNat).length = L i := by simp; omega
      refine ⟨A' i, C i, by rw [hlen]; simp [hi1], by rw [hlen]; exact x2, ⟨by simp [ns], fun hn => ?_⟩⟩
      rw [hlen] at hn
      cases hA : A' i with
      | none => have := x6 hA; omega
      | some a' =>
        obtain ⟨_, hcell⟩ := x7 a' hA
        have h0 := hcell 0 (by omega)
        have hspot : a'.spot = none := by
          have := World.cell?_spot h0
          unfold Addr.add at this
          simpa using this
        obtain ⟨b, off, spot⟩ := a'
        simp at hspot
        subst hspot
        refine ⟨b, off, rfl, World.block_lt_of_cell? w (a := ⟨b, off, none⟩) (by simpa [addr_add] using h0), fun j hj => ?_⟩
        rw [hlen] at hj
        have h1 := hcell j (by omega)
        rw [addr_add] at h1
        rw [h1]
        have hj2 : j < (Z i).length := by omega
        have hwf := bounds_u8 (x5 ((Z i)[j]) (List.getElem_mem _))
        simp [ns, show j < L i by omega, hj2]
        omega
    · obtain ⟨r, hr, rfl⟩ := List.mem_map.1 hbs
      obtain ⟨y, hy, rfl⟩ := List.mem_map.1 hx'
      have := bounds_u8 ((hx r (by have := List.mem_range.1 hr; omega)).2.2.2.2.1 y (List.mem_of_mem_take hy))
      omega
    · obtain ⟨r, hr, rfl⟩ := List.mem_map.1 hbs
      obtain ⟨_, x2, x3, x4, _⟩ := hx r (by have := List.mem_range.1 hr; omega)
      simp
      omega
end
theorem open_parts {H : Type} {enc : TypeId × Value → H} {w : World} {held : Bool} {A : Option Addr} {len cap : Nat} {d : DataW H} {ps : List MemPlace} (ht : Try.prog.underlying 46 = some (.slice 29))
    (h : DataW.Trod enc Try.prog w 0 (fun _ => true) held 46 (.slice A len cap) d ps) :
    ∃ bss : List (List Nat), Pts w w.heap.size A len bss ∧ len ≤ cap ∧ cap ≤ maxLen ∧ (∀ bs ∈ bss, ∀ x ∈ bs, x < 256) ∧ ∀ bs ∈ bss, bs.length ≤ maxLen :=
  open_rows8 ht Try.underlying29 Try.underlying5 (by kernel_rfl) (by kernel_rfl) h
end Go.Proofs.Ytmkjclgdiikjdaa
