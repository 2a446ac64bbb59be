/- Layer 3: the law SipSums answers true, and nothing that was there has turned. -/
import Derived.Test.YtahdfginmkcgfaaLawSSb
namespace Go.Proofs.Ytahdfginmkcgfaa
open Go.RowKit Go.ChangeShapes Go.WideShapes Go.ChangeAt
set_option linter.unusedVariables false
set_option maxRecDepth 20000 in
set_option maxHeartbeats 1000000 in
theorem sipSums_walk (k0 k1 : Nat) (A : Option Addr) (n c : Nat) (fl : List Nat) (w : World) (h0 : k0 < 18446744073709551616) (h1 : k1 < 18446744073709551616) (hr : Rd w w.heap.size 1 A n (ns .u8 fl)) (hnc : n ≤ c) (hmax : c ≤ maxLen) (hb : ∀ x ∈ fl, x < 256) :
    Calls Try.prog 3 #[.agg #[.int .u64 k0, .int .u64 k1], .slice A n c] w fun e w' => e = .returned (.bool true) ∧ Below w.heap.size w w' := by
  have hlen := hr.natLen
  have HR := Lib.hid hr; have HBB := Lib.hid hb
  clear hr hb
  unfold maxLen at hmax
  by_cases hn : 4096 < n
  · go_enter Try.func3, Try.ntmps3
    go_wp2_with fail
    go_ret
    exact ⟨rfl, (Below.refl _ _).alloc (Nat.le_refl _) _⟩
  have hn2 : n ≤ 4096 := by omega
  clear hn
  go_enter Try.func3, Try.ntmps3
  go_wp2_with fail
  have hbk : Blk (w.alloc (Obj.cells #[Value.int IntKind.u64 k0, Value.int IntKind.u64 k1] 24)) w.heap.size 24 #[Value.int IntKind.u64 k0, Value.int IntKind.u64 k1] := Blk.new w _ _
  have hb0 : Below w.heap.size w (w.alloc (Obj.cells #[Value.int IntKind.u64 k0, Value.int IntKind.u64 k1] 24)) := (Below.refl _ _).alloc (Nat.le_refl _) _
  generalize (w.alloc (Obj.cells #[Value.int IntKind.u64 k0, Value.int IntKind.u64 k1] 24)) = wr at hbk hb0 ⊢
  have HF : Hid (∀ wx, Below wr.heap.size wr wx → Rd wx wx.heap.size 1 A n (ns .u8 fl) ∧ wx.cell? ⟨w.heap.size, 0, none⟩ = some (.int .u64 (k0 : Nat)) ∧ wx.cell? ⟨w.heap.size, 1, none⟩ = some (.int .u64 (k1 : Nat))) := Lib.hid fun wx hx => by
    have hbx := hb0.trans (hx.mono hb0.size)
    have hkx := hbk.below hx hbk.lt
    exact ⟨HR.out.into hbx, hkx.cell 0, hkx.cell 1⟩
  have HBR := Lib.hid hb0
  clear hbk hb0
  refine wp_inv (L := ssOps) (ssI w wr k0 k1 n c A fl) (by kernel_rfl) (by kernel_rfl) ?_ ?_ ?_
  · exact ⟨fun j => if j = 21 then .bool false else undef, rfl, fun j hj h => by
      have : (Array.replicate 22 false).getD j true = false := by simp [Array.getD, hj]
      exact absurd (h.symm.trans this) (by decide), Lib.hid (Below.refl _ _).drew⟩
  · intro l a wl o hls hinv ho hli hdep K hK
    exact ss_step w wr k0 k1 n c A fl h0 h1 hnc hn2 HBB (by omega) HF l a wl o hls hinv ho hdep K hK
  · rintro l a wl hls hall ⟨S, rfl, hgd, hbl⟩
    have h21 : S 21 = .bool true := hgd 21 (by omega) (hall 21 (by show 21 < 22; omega))
    rw [h21]
    have HEND := HBR.out.trans (hbl.out.mono HBR.out.size)
    clear hgd hall hbl
    go_wp2_with fail
    go_ret
    exact ⟨rfl, HEND⟩
end Go.Proofs.Ytahdfginmkcgfaa
