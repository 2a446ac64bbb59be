/- Package inlet: New, Put. -/
import Derived.Test.YtflmnhibjgehnaaG40InletOrder

namespace Go.Proofs.Ytflmnhibjgehnaa
open Go.RowKit
set_option linter.unusedVariables false
set_option linter.unusedSimpArgs false
/-- A new inlet. -/
def ist0 (size most : Nat) : Ist := ⟨0, size, 0, most, 0, false, [], List.replicate size 0⟩
theorem ist0_ok {size most : Nat} (h1 : 1 ≤ size) (h2 : size ≤ 65536) : (ist0 size most).ok :=
  ⟨Nat.zero_le _, h1, h2, Nat.zero_le _, by simp [ist0], trivial, by simp [ist0], Nat.zero_le _⟩
/-- What New gives. -/
def InR (size most : Nat) (w : World) (e : Ending) (w' : World) : Prop := ∃ x g p s, e = .returned (.tuple #[.pointer (some ⟨x, 0, none⟩), .int .i64 0]) ∧ IN w' w.heap.size x g p s (ist0 size most) ∧ Below w.heap.size w w'
set_option maxRecDepth 20000 in
theorem in_new (size : Nat) (m : Int) (w : World) (h1 : 1 ≤ size) (h2 : size ≤ 65536) (hm : -9223372036854775808 ≤ m ∧ m < 9223372036854775808) :
    Calls Try.prog 6 #[.int .i64 (size : Int), .int .i64 m] w fun e w' => InR size (mostN m) w e w' := by
  have NR := Lib.hid (new_any size w h1 h2)
  have HM := Sh.mk fun w => snew_any m w hm
  have H1 := Sh.mk (And.intro h1 h2)
  clear h1 h2 hm
  go_enter Try.func6, Try.ntmps6
  go_wp2_with fail
  refine NR.out.mono ?_
  rintro e w1 ⟨g, p, rfl, hg, hp, hb, hr⟩
  have HR := Sh.mk hr
  have HB := Sh.mk hb
  have HG := Sh.mk (And.intro hg hp)
  have hbl := Sh.mk hr.bl
  clear hr hb hg hp
  go_wp2_with fail
  refine (HM.out _).mono ?_
  rintro e w2 ⟨rfl, hS, hb2⟩
  have HS := Sh.mk hS
  have HB2 := Sh.mk hb2
  have hlt := hS.lt
  generalize hsp : w1.heap.size = s at HS hlt ⊢
  have HSP := Sh.mk hsp
  clear hS hb2 hsp
  go_wp2_with fail
  go_ret2
  have hal : Below w2.heap.size w2 (w2.alloc (.cells (inC g s (ist0 size (mostN m))) 33)) := (Below.refl _ _).alloc (Nat.le_refl _) _
  have hb12 : Below w1.heap.size w1 (w2.alloc (.cells (inC g s (ist0 size (mostN m))) 33)) := HB2.out.alloc (by exact HB2.out.size) _
  have hws := HB.out.size
  have hg2 := HB2.out.size
  refine ⟨w2.heap.size, g, p, s, rfl, ⟨Blk.new _ _ _, HR.out.below hb12 hbl.out.1 hbl.out.2, ⟨.slice none 0 0, ?_⟩, ist0_ok H1.out.1 H1.out.2, Nat.le_trans hws hg2, HG.out.1, HG.out.2, by show (0 : Nat) < 18446744073709551616; decide⟩, HB.out.trans (hb12.mono hws)⟩
  exact ⟨HS.out.blk.below hal HS.out.lt, World.ownsRow_nil _ _ _ _, trivial, by simp [ist0], Nat.zero_le _, HS.out.ms, by rw [← HSP.out]; exact hws⟩
set_option maxRecDepth 20000 in
theorem in_new_none (size m : Int) (w : World) (h : size < 1 ∨ 65536 < size) : Calls Try.prog 6 #[.int .i64 size, .int .i64 m] w fun e w' => e = .returned (.tuple #[.pointer none, .int .i64 50]) ∧ Below w.heap.size w w' := by
  have NR := Lib.hid (ring_new_none size w h)
  clear h
  go_enter Try.func6, Try.ntmps6
  go_wp2_with fail
  refine NR.out.mono ?_
  rintro e w1 ⟨rfl, hb⟩
  go_wp2_with fail
  go_ret2
  exact ⟨rfl, hb⟩
end Go.Proofs.Ytflmnhibjgehnaa
