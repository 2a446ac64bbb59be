/- Layer 6's calls as arguments. -/
import Derived.Test.YtiabafnfiedlcaaOpenG
import Derived.Test.YtiabafnfiedlcaaLawSpF
import Derived.Test.YtiabafnfiedlcaaRows
import Derived.ChangeSame
namespace Go.Proofs.Ytiabafnfiedlcaa
open Go.RowKit Go.ChangeShapes Go.WideShapes Go.ChangeAt
set_option linter.unusedVariables false
section
variable {H : Type} {enc : TypeId × Value → H} {w : World} {held : Bool}
theorem opens_op : Opens enc Try.prog w held 25 (fun p : Int × Nat × Nat => [.int .i64 p.1, .int .u64 (p.2.1 : Int), .int .u64 (p.2.2 : Int)]) (fun p => (-9223372036854775808 ≤ p.1 ∧ p.1 < 9223372036854775808) ∧ p.2.1 < pmax ∧ p.2.2 < pmax) := by
  have h := opens_struct3 (enc := enc) (w := w) (held := held) Try.underlying25 (by kernel_rfl) rfl (by kernel_rfl) (opens_i64 Try.underlying3) rfl (by kernel_rfl) (opens_u64 Try.underlying23) rfl (by kernel_rfl) (opens_u64 Try.underlying23)
  intro fuel cs x hx
  obtain ⟨p, hp, h1, h2, h3⟩ := h fuel cs x hx
  exact ⟨p, hp, h1, h2, h3⟩
theorem open_ops {A : Option Addr} {len cap : Nat} {d : DataW H} {ps : List MemPlace} (ht : Try.prog.underlying 22 = some (.slice 25))
    (h : DataW.Trod enc Try.prog w 0 (fun _ => true) held 22 (.slice A len cap) d ps) :
    ∃ l : List (Int × Nat × Nat), Rd w w.heap.size 3 A len (ocel l) ∧ len ≤ cap ∧ cap ≤ maxLen ∧ ∀ p ∈ l, (-9223372036854775808 ≤ p.1 ∧ p.1 < 9223372036854775808) ∧ p.2.1 < pmax ∧ p.2.2 < pmax := by
  obtain ⟨l, h1, h2, h3, _, h5⟩ := open_slices ht (by rw [show Try.prog.cellsOf 25 = 3 by kernel_rfl]; omega) opens_op h
  rw [show Try.prog.cellsOf 25 = 3 by kernel_rfl] at h1
  exact ⟨l, h1, h2, h3, h5⟩
end
theorem spansFill_any (A : Option Addr) (n c : Nat) (lo : List (Int × Nat × Nat)) (f t : Int) (w : World) (h : Rd w w.heap.size 3 A n (ocel lo)) (hnc : n ≤ c) (hmax : c ≤ maxLen) (hb : ∀ p ∈ lo, (-9223372036854775808 ≤ p.1 ∧ p.1 < 9223372036854775808) ∧ p.2.1 < pmax ∧ p.2.2 < pmax) (hf : (Lit.int .u64 f).wf = true) (ht : (Lit.int .u64 t).wf = true) :
    Calls Try.prog 4 #[.slice A n c, .int .u64 f, .int .u64 t] w fun e w' => e = .returned (.bool true) ∧ Below w.heap.size w w' := by
  have b1 := bounds_u64 hf
  have b2 := bounds_u64 ht
  obtain ⟨f, rfl⟩ : ∃ k : Nat, f = (k : Int) := ⟨f.toNat, by omega⟩
  obtain ⟨t, rfl⟩ : ∃ k : Nat, t = (k : Int) := ⟨t.toNat, by omega⟩
  exact spansFill_walk A n c lo f t w h hnc hmax (fun p hp => (hb p hp).2) (by unfold pmax; omega) (by unfold pmax; omega)
end Go.Proofs.Ytiabafnfiedlcaa
