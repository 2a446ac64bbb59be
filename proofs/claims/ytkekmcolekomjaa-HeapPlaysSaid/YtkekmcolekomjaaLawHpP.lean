/- Layer 42: the law HeapPlays answers true, and nothing that was there has turned; a row of calls as an argument. -/
import Derived.Test.YtkekmcolekomjaaLawHpA
import Derived.Test.YtkekmcolekomjaaLawHpB
import Derived.Test.YtkekmcolekomjaaLawHpC
import Derived.Test.YtkekmcolekomjaaOpenG
import Derived.ChangeSame
namespace Go.Proofs.Ytkekmcolekomjaa
open Go.RowKit Go.ChangeShapes Go.WideShapes Go.ChangeAt
set_option linter.unusedVariables false
section
variable {H : Type} {enc : TypeId × Value → H} {w : World} {held : Bool}
def okTr (p : Tr) : Prop := (-9223372036854775808 ≤ p.1 ∧ p.1 < 9223372036854775808) ∧ (-9223372036854775808 ≤ p.2.1 ∧ p.2.1 < 9223372036854775808) ∧ (-9223372036854775808 ≤ p.2.2 ∧ p.2.2 < 9223372036854775808)
theorem opens_tr : Opens enc Try.prog w held 40 trc okTr := by
  have h := opens_struct3 (enc := enc) (w := w) (held := held) Try.underlying40 (by kernel_rfl) rfl (by kernel_rfl) (opens_i64 Try.underlying3) rfl (by kernel_rfl) (opens_i64 Try.underlying3) rfl (by kernel_rfl) (opens_i64 Try.underlying3)
  intro fuel cs x hx
  obtain ⟨p, hp, h1, h2, h3⟩ := h fuel cs x hx
  exact ⟨p, hp, h1, h2, h3⟩
theorem open_trs {A : Option Addr} {len cap : Nat} {d : DataW H} {ps : List MemPlace} (ht : Try.prog.underlying 35 = some (.slice 40))
    (h : DataW.Trod enc Try.prog w 0 (fun _ => true) held 35 (.slice A len cap) d ps) :
    ∃ l : List Tr, Rd w w.heap.size 3 A len (trs l) ∧ len ≤ cap ∧ cap ≤ maxLen ∧ ∀ p ∈ l, okTr p := by
  obtain ⟨l, h1, h2, h3, _, h5⟩ := open_slices ht (by rw [show Try.prog.cellsOf 40 = 3 by kernel_rfl]; omega) opens_tr h
  rw [show Try.prog.cellsOf 40 = 3 by kernel_rfl] at h1
  exact ⟨l, h1, h2, h3, h5⟩
end
set_option maxRecDepth 20000 in
theorem heapPlays_walk (most : Int) (A : Option Addr) (n c : Nat) (l : List Tr) (w : World) (hm : (Lit.int .i64 most).wf = true) (hr : Rd w w.heap.size 3 A n (trs l)) (hnc : n ≤ c) (hmax : c ≤ maxLen) (hb : ∀ p ∈ l, okTr p) :
    Calls Try.prog 5 #[.int .i64 most, .slice A n c] w fun e w' => e = .returned (.bool true) ∧ Below w.heap.size w w' := by
  clear hb
  by_cases hn : 150 < n
  · have hn2 : (150 : Int) < (n : Int) := by omega
    unfold maxLen at hmax
    clear hr hm
    go_enter Try.func5, Try.ntmps5
    go_wp2_with fail
    go_ret
    exact ⟨rfl, Below.refl _ _⟩
  by_cases h0 : most < 0
  · exact heapPlays_a most _ A n c l w hm h0 rfl hr hnc hmax (by omega)
  by_cases h1 : 65536 < most
  · exact heapPlays_b most _ A n c l w hm h1 rfl hr hnc hmax (by omega)
  obtain ⟨k, rfl⟩ : ∃ k : Nat, most = (k : Int) := ⟨most.toNat, by omega⟩
  exact heapPlays_c k _ A n c l w hm (by omega) rfl hr hnc hmax (by omega)
end Go.Proofs.Ytkekmcolekomjaa
