/- Layer 31: a row of pieces, an option as arguments; SackSays. -/
import Derived.Test.YtpnnadnmkiobcaaG48SackBack
import Derived.Test.YtpnnadnmkiobcaaOpenG
import Derived.ChangeSame
import Derived.Test.YtpnnadnmkiobcaaG50SackBack

namespace Go.Proofs.Ytpnnadnmkiobcaa
open Go.RowKit Go.ChangeShapes Go.WideShapes Go.ChangeAt
set_option linter.unusedVariables false
section
variable {H : Type} {enc : TypeId × Value → H} {w : World} {held : Bool}
def nkI (p : Nat × Nat) : Bk := ((p.1 : Int), (p.2 : Int))
def nkel (p : Nat × Nat) : List Value := [.int .u32 (p.1 : Int), .int .u32 (p.2 : Int)]
theorem opens_piece : Opens enc Try.prog w held 44 nkel (fun p => p.1 < 4294967296 ∧ p.2 < 4294967296) := by
  have h := opens_struct2 (enc := enc) (w := w) (held := held) Try.underlying44 (by kernel_rfl) rfl (by kernel_rfl) (opens_u32 Try.underlying22) rfl (by kernel_rfl) (opens_u32 Try.underlying22)
  intro fuel cs x hx
  obtain ⟨p, hp, h1, h2⟩ := h fuel cs x hx
  exact ⟨p, hp, h1, h2⟩
theorem bks_nk (l : List (Nat × Nat)) : l.flatMap nkel = bks (l.map nkI) := by
  induction l with
  | nil => rfl
  | cons p l ih =>
    show nkel p ++ l.flatMap nkel = _
    rw [ih]
    rfl
theorem open_pieces {A : Option Addr} {len cap : Nat} {d : DataW H} {ps : List MemPlace} (ht : Try.prog.underlying 23 = some (.slice 44))
    (h : DataW.Trod enc Try.prog w 0 (fun _ => true) held 23 (.slice A len cap) d ps) :
    ∃ l : List Bk, Rd w w.heap.size 2 A len (bks l) ∧ len ≤ cap ∧ cap ≤ maxLen ∧ U32s l := by
  obtain ⟨l, h1, h2, h3, _, h5⟩ := open_slices ht (by rw [show Try.prog.cellsOf 44 = 2 by kernel_rfl]; omega) opens_piece h
  rw [show Try.prog.cellsOf 44 = 2 by kernel_rfl] at h1
  refine ⟨l.map nkI, by rw [← bks_nk]; exact h1, h2, h3, ?_⟩
  intro p hp
  obtain ⟨q, hq, rfl⟩ := List.mem_map.1 hp
  have := h5 q hq
  unfold nkI
  exact ⟨by unfold U32; dsimp only; omega, by unfold U32; dsimp only; omega⟩
def obel (p : Nat × Body) : List Value := [.int .u8 (p.1 : Int), .slice p.2.A p.2.n p.2.c]
theorem open_sopt {cs : Array Value} {d : DataW H} {ps : List MemPlace} (h : DataW.Trod enc Try.prog w 0 (fun _ => true) held 26 (.agg cs) d ps) :
    ∃ q : Nat × Body, cs = #[.int .u8 (q.1 : Int), .slice q.2.A q.2.n q.2.c] ∧ q.1 < 256 ∧ Body.ok w q.2 := by
  obtain ⟨p, h1, k0, k1⟩ := open_agg (opens_struct2 (enc := enc) (w := w) (held := held) Try.underlying26 (by kernel_rfl) rfl (by kernel_rfl) (opens_u8 Try.underlying5) rfl (by kernel_rfl) (opens_bytes Try.underlying24 Try.underlying5 (by kernel_rfl))) h
  refine ⟨p, ?_, k0, k1⟩
  rw [← Array.toArray_toList (xs := cs), h1]
  rfl
end
theorem sackSays_any (wait : Int) (A : Option Addr) (n c : Nat) (l : List Bk) (q : Nat × Body) (w : World) (hw : (Lit.int .u32 wait).wf = true) (h : Rd w w.heap.size 2 A n (bks l)) (hnc : n ≤ c) (hmax : c ≤ maxLen) (hu : U32s l) (hq : q.1 < 256 ∧ Body.ok w q.2) :
    Calls Try.prog 3 #[.int .u32 wait, .slice A n c, .agg #[.int .u8 (q.1 : Int), .slice q.2.A q.2.n q.2.c]] w fun e w' => e = .returned (.bool true) ∧ Below w.heap.size w w' :=
  sackSays_core wait q.1 A q.2.A n c q.2.n q.2.c l q.2.l w h hu (by have := bounds_u32 hw; unfold U32; omega) hq.2.1 hq.2.2.1 hq.2.2.2.2
end Go.Proofs.Ytpnnadnmkiobcaa

/- Layer 31: SackBack, its arguments as they are opened. -/
namespace Go.Proofs.Ytpnnadnmkiobcaa
open Go.RowKit
theorem sackBack_any (wait : Int) (A : Option Addr) (n c : Nat) (l : List Bk) (q : Nat × Body) (w : World) (hw : (Lit.int .u32 wait).wf = true) (h : Rd w w.heap.size 2 A n (bks l)) (_ : n ≤ c) (_ : c ≤ maxLen) (hu : U32s l) (hq : q.1 < 256 ∧ Body.ok w q.2) :
    Calls Try.prog 4 #[.int .u32 wait, .slice A n c, .agg #[.int .u8 (q.1 : Int), .slice q.2.A q.2.n q.2.c]] w fun e w' => e = .returned (.bool true) ∧ Below w.heap.size w w' :=
  sackBack_core wait q.1 A q.2.A n c q.2.n q.2.c l q.2.l w h hu (by have := bounds_u32 hw; unfold U32; omega) hq.2.1 hq.2.2.1 hq.2.2.2.2
end Go.Proofs.Ytpnnadnmkiobcaa
