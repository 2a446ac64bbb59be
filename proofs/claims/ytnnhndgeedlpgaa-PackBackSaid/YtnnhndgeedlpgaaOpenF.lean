/- A slice of fields (an int, a uint64) as an argument. No program. -/
import Derived.Test.YtnnhndgeedlpgaaPk
import Derived.Test.YtnnhndgeedlpgaaOpen
import Derived.DataElems
namespace Go.Proofs.Ytnnhndgeedlpgaa
open Go.RowKit Go.ChangeShapes Go.WideShapes Go.ChangeAt
set_option linter.unusedVariables false
section
variable {H : Type} {enc : TypeId × Value → H} {P : Program} {w : World} {held : Bool} {t e : TypeId} {A : Option Addr} {len cap : Nat} {d : DataW H} {ps : List MemPlace}
theorem open_fields {f0 f1 : Field} (ht : P.underlying t = some (.slice e)) (he : P.underlying e = some (.struct #[f0, f1])) (hc : P.cellsOf e = 2)
    (h0 : P.underlying f0.type = some (.int .i64)) (h1 : P.underlying f1.type = some (.int .u64)) (o0 : f0.offset = 0) (o1 : f1.offset = 1) (c0 : P.cellsOf f0.type = 1) (c1 : P.cellsOf f1.type = 1)
    (h : DataW.Trod enc P w 0 (fun _ => true) held t (.slice A len cap) d ps) :
    ∃ l : List (Int × Nat), Rd w w.heap.size 2 A len (fs l) ∧ len ≤ cap ∧ cap ≤ maxLen ∧ ∀ p ∈ l, (-9223372036854775808 ≤ p.1 ∧ p.1 < 9223372036854775808) ∧ p.2 < 18446744073709551616 := by
  obtain ⟨fuel, hf⟩ := h
  rcases Go.Deep.open_slice ht hf with ⟨hcs, _⟩ | ⟨x, n, c, m, k, D, Pl, hcs, _, hl, hm, hmm, _, hx⟩
  · simp [Value.cells] at hcs
    obtain ⟨rfl, rfl, rfl⟩ := hcs
    exact ⟨[], Rd.nil _ _ _ _, Nat.le_refl _, Nat.zero_le _, by simp⟩
  · simp [Value.cells] at hcs
    obtain ⟨rfl, rfl, rfl⟩ := hcs
    obtain rfl : m = cap := by simpa using hmm
    have each : ∀ i, i < m → ∃ p : Int × Nat, w.cell? (x.add (i * 2)) = some (.int .i64 p.1) ∧ w.cell? (x.add (i * 2 + 1)) = some (.int .u64 (p.2 : Int)) ∧ (-9223372036854775808 ≤ p.1 ∧ p.1 < 9223372036854775808) ∧ p.2 < 18446744073709551616 := by
      intro i hi
      obtain ⟨cs', h2, h3⟩ := hx i hi
      rw [hc] at h2
      obtain ⟨_, hlen, hcell⟩ := World.cells?_some h2
      obtain ⟨y0, y1, k', _, _, h4, h5⟩ := trod_struct2 he h3
      rw [o0, c0] at h4
      rw [o1, c1] at h5
      obtain ⟨a, ha, _, wa⟩ := DataW.trod_int h0 h4
      obtain ⟨b, hb, _, wb⟩ := DataW.trod_int h1 h5
      have ba := bounds_i64 wa
      have bb := bounds_u64 wb
      have q0 := hcell 0 (by omega)
      have q1 := hcell 1 (by omega)
      match cs', hlen with
      | [u, v], _ =>
        simp at ha hb
        subst ha hb
        refine ⟨(a, b.toNat), ?_, ?_, by omega, by simp only []; omega⟩
        · rw [show (x.add (i * 2)).add 0 = x.add (i * 2) by simp [Addr.add]] at q0
          rw [q0]
          rfl
        · rw [Addr.add_add] at q1
          rw [q1, show ((b.toNat : Nat) : Int) = b by omega]
          rfl
    obtain ⟨f, hfn⟩ := Go.Deep.choose_lt each
    have hlen : ((List.range len).map f).length = len := by simp
    refine ⟨(List.range len).map f, ⟨by rw [fs_len, hlen], fun hn => ?_⟩, hl, hm, fun p hp => ?_⟩
    · have h0 := (hfn 0 (by omega)).1
      have hspot : x.spot = none := by
        have := World.cell?_spot h0
        unfold Addr.add at this
        simpa using this
      obtain ⟨b, off, spot⟩ := x
      simp at hspot
      subst hspot
      refine ⟨b, off, rfl, World.block_lt_of_cell? w (a := ⟨b, off, none⟩) (by simpa [addr_add] using h0), fun j hj => ?_⟩
      obtain ⟨g1, g2, _⟩ := hfn (j / 2) (by omega)
      rw [addr_add] at g1 g2
      obtain ⟨s1, s2⟩ := fs_at ((List.range len).map f) (j / 2) (by rw [hlen]; omega)
      have ef : ((List.range len).map f)[j / 2]'(by rw [hlen]; omega) = f (j / 2) := by simp
      rw [ef] at s1 s2
      rcases Nat.mod_two_eq_zero_or_one j with hj2 | hj2
      · have : j / 2 * 2 = j := by omega
        rw [this] at g1 s1
        rw [g1, s1]
      · have : j / 2 * 2 + 1 = j := by omega
        rw [this] at g2 s2
        rw [g2, s2]
    · obtain ⟨i, hi, rfl⟩ := List.mem_map.1 hp
      have := hfn i (by have := List.mem_range.1 hi; omega)
      exact this.2.2
end
theorem open_fld {H : Type} {enc : TypeId × Value → H} {w : World} {held : Bool} {A : Option Addr} {len cap : Nat} {d : DataW H} {ps : List MemPlace} (ht : Try.prog.underlying 23 = some (.slice 26))
    (h : DataW.Trod enc Try.prog w 0 (fun _ => true) held 23 (.slice A len cap) d ps) :
    ∃ l : List (Int × Nat), Rd w w.heap.size 2 A len (fs l) ∧ len ≤ cap ∧ cap ≤ maxLen ∧ ∀ p ∈ l, (-9223372036854775808 ≤ p.1 ∧ p.1 < 9223372036854775808) ∧ p.2 < 18446744073709551616 :=
  open_fields ht Try.underlying26 (by kernel_rfl) Try.underlying3 Try.underlying24 rfl rfl (by kernel_rfl) (by kernel_rfl) h
end Go.Proofs.Ytnnhndgeedlpgaa
