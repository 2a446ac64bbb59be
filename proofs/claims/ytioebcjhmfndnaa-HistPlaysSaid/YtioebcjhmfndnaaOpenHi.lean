/- Layer 44: rows of numbers and how often as arguments. -/
import Derived.Test.YtioebcjhmfndnaaHi8
import Derived.Test.YtioebcjhmfndnaaOpenG
import Derived.ChangeSame
namespace Go.Proofs.Ytioebcjhmfndnaa
open Go.RowKit Go.ChangeShapes Go.WideShapes Go.ChangeAt
set_option linter.unusedVariables false
set_option linter.unusedSimpArgs false
def I64 (x : Int) : Prop := -9223372036854775808 ≤ x ∧ x < 9223372036854775808
section
variable {H : Type} {enc : TypeId × Value → H} {w : World} {held : Bool}
theorem opens_his : Opens enc Try.prog w held 31 pzel (fun p => I64 p.1 ∧ I64 p.2) := by
  have h := opens_struct2 (enc := enc) (w := w) (held := held) Try.underlying31 (by kernel_rfl) rfl (by kernel_rfl) (opens_i64 Try.underlying3) rfl (by kernel_rfl) (opens_i64 Try.underlying3)
  intro fuel cs x hx
  obtain ⟨p, hp, h1, h2⟩ := h fuel cs x hx
  exact ⟨p, hp, h1, h2⟩
theorem open_his {A : Option Addr} {len cap : Nat} {d : DataW H} {ps : List MemPlace} (ht : Try.prog.underlying 25 = some (.slice 31))
    (h : DataW.Trod enc Try.prog w 0 (fun _ => true) held 25 (.slice A len cap) d ps) :
    ∃ l : List (Int × Int), Rd w w.heap.size 2 A len (pz l) ∧ len ≤ cap ∧ cap ≤ maxLen ∧ ∀ p ∈ l, I64 p.1 ∧ I64 p.2 := by
  obtain ⟨l, h1, h2, h3, _, h5⟩ := open_slices ht (by rw [show Try.prog.cellsOf 31 = 2 by kernel_rfl]; omega) opens_his h
  rw [show Try.prog.cellsOf 31 = 2 by kernel_rfl] at h1
  exact ⟨l, h1, h2, h3, h5⟩
end
theorem i64_wf {x : Int} (h : I64 x) : (Lit.int .i64 x).wf = true := WalkArith.wf_i64 ⟨h.1, by have := h.2; omega⟩
theorem histPlays_any (A : Option Addr) (n c : Nat) (l : List (Int × Int)) (A2 : Option Addr) (n2 c2 : Nat) (l2 : List (Int × Int)) (part : Int) (w : World) (h : Rd w w.heap.size 2 A n (pz l)) (hnc : n ≤ c) (hc : c ≤ maxLen) (hl : ∀ p ∈ l, I64 p.1 ∧ I64 p.2) (h2 : Rd w w.heap.size 2 A2 n2 (pz l2)) (hnc2 : n2 ≤ c2) (hc2 : c2 ≤ maxLen) (hl2 : ∀ p ∈ l2, I64 p.1 ∧ I64 p.2) (hpw : (Lit.int .i64 part).wf = true) :
    Calls Try.prog 4 #[.slice A n c, .slice A2 n2 c2, .int .i64 part] w fun e w' => e = .returned (.bool true) ∧ Below w.heap.size w w' :=
  histPlays_walk A n c l A2 n2 c2 l2 part w h hnc hc (fun p hp => ⟨i64_wf (hl p hp).1, i64_wf (hl p hp).2⟩) h2 hnc2 hc2 (fun p hp => ⟨i64_wf (hl2 p hp).1, i64_wf (hl2 p hp).2⟩) hpw
end Go.Proofs.Ytioebcjhmfndnaa
