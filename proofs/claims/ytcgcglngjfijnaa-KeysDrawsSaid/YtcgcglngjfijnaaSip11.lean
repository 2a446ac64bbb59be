/- Contract of the reference's Pair, layer 3: whole. -/
import Derived.Test.YtcgcglngjfijnaaSip10
namespace Go.Proofs.Ytcgcglngjfijnaa
open Go.RowKit
set_option linter.unusedVariables false
set_option maxRecDepth 20000 in
theorem rpair_any (k0 k1 n c : Nat) (A : Option Addr) (bs : List Nat) (w : World) (h0 : k0 < 18446744073709551616) (h1 : k1 < 18446744073709551616) (hr : Rd w w.heap.size 1 A n (ns .u8 bs)) (hnc : n ≤ c) (hn : n ≤ 10000) (hb : ∀ x ∈ bs, x < 256) :
    Calls Try.prog 67 #[.agg #[.int .u64 k0, .int .u64 k1], .slice A n c] w fun e w' => e = .returned (.agg #[.int .u64 ((sumB k0 k1 (1 :: bs) : Nat) : Int), .int .u64 ((sumB k0 k1 (2 :: bs) : Nat) : Int)]) ∧ Below w.heap.size w w' := by
  obtain ⟨p1, ep1⟩ : ∃ p1, p1 = sumB k0 k1 (1 :: bs) := ⟨_, rfl⟩
  obtain ⟨p2, ep2⟩ : ∃ p2, p2 = sumB k0 k1 (2 :: bs) := ⟨_, rfl⟩
  rw [← ep1, ← ep2]
  have hp1 := Lib.hid ep1; have hp2 := Lib.hid ep2
  have hbl0 := hr.natLen
  have HR := Lib.hid hr; have HBB := Lib.hid hb
  clear ep1 ep2 hr hb
  go_enter Try.func67, Try.ntmps67
  go_wp2_with fail
  have hbk : Blk ((w.alloc (Obj.cells #[Value.int IntKind.u64 k0, Value.int IntKind.u64 k1] 27)).alloc (Obj.cells #[Value.int IntKind.u64 0, Value.int IntKind.u64 0] 27)) w.heap.size 27 #[Value.int IntKind.u64 k0, Value.int IntKind.u64 k1] := (Blk.new w _ _).alloc _
  have hbr : Blk ((w.alloc (Obj.cells #[Value.int IntKind.u64 k0, Value.int IntKind.u64 k1] 27)).alloc (Obj.cells #[Value.int IntKind.u64 0, Value.int IntKind.u64 0] 27)) (w.heap.size + 1) 27 #[Value.int IntKind.u64 0, Value.int IntKind.u64 0] := by
    have := Blk.new (w.alloc (Obj.cells #[Value.int IntKind.u64 k0, Value.int IntKind.u64 k1] 27)) 27 #[Value.int IntKind.u64 0, Value.int IntKind.u64 0]
    simpa using this
  have hb0 : Below w.heap.size w ((w.alloc (Obj.cells #[Value.int IntKind.u64 k0, Value.int IntKind.u64 k1] 27)).alloc (Obj.cells #[Value.int IntKind.u64 0, Value.int IntKind.u64 0] 27)) := ((Below.refl _ _).alloc (Nat.le_refl _) _).alloc (by simp) _
  have hz : ((w.alloc (Obj.cells #[Value.int IntKind.u64 k0, Value.int IntKind.u64 k1] 27)).alloc (Obj.cells #[Value.int IntKind.u64 0, Value.int IntKind.u64 0] 27)).heap.size = w.heap.size + 2 := by simp
  generalize ((w.alloc (Obj.cells #[Value.int IntKind.u64 k0, Value.int IntKind.u64 k1] 27)).alloc (Obj.cells #[Value.int IntKind.u64 0, Value.int IntKind.u64 0] 27)) = w1 at hbk hbr hb0 hz ⊢
  obtain ⟨hk, ehk⟩ : ∃ hk, hk = w.heap.size := ⟨_, rfl⟩
  rw [← ehk] at hbk hbr hb0 hz HR ⊢
  have HHK := Lib.hid ehk
  clear ehk
  have HF : Hid (∀ wx, Below (hk + 1) w1 wx → wx.cell? ⟨hk, 0, none⟩ = some (.int .u64 (k0 : Nat)) ∧ wx.cell? ⟨hk, 1, none⟩ = some (.int .u64 (k1 : Nat)) ∧ Rd wx hk 1 A n (ns .u8 bs)) := Lib.hid fun wx hx => by
    have hkx := hbk.below hx (by omega)
    exact ⟨hkx.cell 0, hkx.cell 1, HR.out.below (hb0.trans (hx.mono (by omega)))⟩
  have HB0 := Lib.hid hb0
  clear hb0
  refine wp_inv (L := rpOps) (fun l a w' => ∃ b0 b1 b2 b3 b4 b5 b6 b7 b8 b9 b10 b11, l = #[b0, b1, b2, b3, b4, b5, b6, b7, b8, b9, b10, b11] ∧ PR w1 (.agg #[.int .u64 (k0 : Nat), .int .u64 (k1 : Nat)]) (.slice A n c) hk bs p1 p2 b0 b1 b2 b3 b4 b5 b6 b7 b8 b9 b10 b11 a w') (by kernel_rfl) (by kernel_rfl) ?_ ?_ ?_
  · exact ⟨false, false, false, false, false, false, false, false, false, false, false, false, rfl, undef, undef, undef, undef, undef, undef, undef, undef, undef, undef, undef, rfl, by simp, by simp, by simp, by simp, by simp, by simp, by simp, by simp, by simp, by simp, by simp, by simp, by simp, by simp, fun _ => hbr, by simp, (Below.refl _ _).drew, Nat.le_of_eq hz.symm⟩
  · intro l a wl o hls hinv ho hli hdep K hK
    have ho : o < 12 := ho
    rcases (show o = 0 ∨ o = 1 ∨ o = 2 ∨ o = 3 ∨ o = 4 ∨ o = 5 ∨ o = 6 ∨ o = 7 ∨ o = 8 ∨ o = 9 ∨ o = 10 ∨ o = 11 by omega) with rfl | rfl | rfl | rfl | rfl | rfl | rfl | rfl | rfl | rfl | rfl | rfl
    · exact rp_step0 w1 k0 k1 hk n c A (.slice A n c) bs p1 p2 h0 h1 rfl hnc hn HBB hbl0 hp1 hp2 HF l a wl hinv hli hdep K hK
    · exact rp_step1 w1 k0 k1 hk n c A (.slice A n c) bs p1 p2 h0 h1 rfl hnc hn HBB hbl0 hp1 hp2 HF l a wl hinv hli hdep K hK
    · exact rp_step2 w1 k0 k1 hk n c A (.slice A n c) bs p1 p2 h0 h1 rfl hnc hn HBB hbl0 hp1 hp2 HF l a wl hinv hli hdep K hK
    · exact rp_step3 w1 k0 k1 hk n c A (.slice A n c) bs p1 p2 h0 h1 rfl hnc hn HBB hbl0 hp1 hp2 HF l a wl hinv hli hdep K hK
    · exact rp_step4 w1 k0 k1 hk n c A (.slice A n c) bs p1 p2 h0 h1 rfl hnc hn HBB hbl0 hp1 hp2 HF l a wl hinv hli hdep K hK
    · exact rp_step5 w1 k0 k1 hk n c A (.slice A n c) bs p1 p2 h0 h1 rfl hnc hn HBB hbl0 hp1 hp2 HF l a wl hinv hli hdep K hK
    · exact rp_step6 w1 k0 k1 hk n c A (.slice A n c) bs p1 p2 h0 h1 rfl hnc hn HBB hbl0 hp1 hp2 HF l a wl hinv hli hdep K hK
    · exact rp_step7 w1 k0 k1 hk n c A (.slice A n c) bs p1 p2 h0 h1 rfl hnc hn HBB hbl0 hp1 hp2 HF l a wl hinv hli hdep K hK
    · exact rp_step8 w1 k0 k1 hk n c A (.slice A n c) bs p1 p2 h0 h1 rfl hnc hn HBB hbl0 hp1 hp2 HF l a wl hinv hli hdep K hK
    · exact rp_step9 w1 k0 k1 hk n c A (.slice A n c) bs p1 p2 h0 h1 rfl hnc hn HBB hbl0 hp1 hp2 HF l a wl hinv hli hdep K hK
    · exact rp_step10 w1 k0 k1 hk n c A (.slice A n c) bs p1 p2 h0 h1 rfl hnc hn HBB hbl0 hp1 hp2 HF l a wl hinv hli hdep K hK
    · exact rp_step11 w1 k0 k1 hk n c A (.slice A n c) bs p1 p2 h0 h1 rfl hnc hn HBB hbl0 hp1 hp2 HF l a wl hinv hli hdep K hK
  · rintro l a wl hls hall ⟨b0, b1, b2, b3, b4, b5, b6, b7, b8, b9, b10, b11, rfl, s5, s6, s7, s8, s9, s10, s11, s12, s13, s14, s15, rfl, q0, q1, q2, q3, q4, q5, q6, q7, q8, q9, q10, q11, q12, q13, q14, q15, hbl, hzl⟩
    have t11 : b11 = true := by simpa [Array.getD] using hall 11 (by show 11 < 12; omega)
    have hf := q15 t11
    have r0 : wl.cell? ⟨hk + 1, 0, none⟩ = some (.int .u64 (p1 : Nat)) := hf.cell 0
    have r1 : wl.cell? ⟨hk + 1, 1, none⟩ = some (.int .u64 (p2 : Nat)) := hf.cell 1
    have hend := HB0.out.trans (hbl.mono (show hk ≤ hk + 1 by omega))
    rw [HHK.out] at hend
    have HEND := Lib.hid hend
    clear q0 q1 q2 q3 q4 q5 q6 q7 q8 q9 q10 q11 q12 q13 q14 q15 hf hbl hall hend
    go_wp2_with fail
    exact bodyPost_ret (v := .agg #[.int .u64 (p1 : Nat), .int .u64 (p2 : Nat)]) (by simp [results, Try.results67, go_sem, r0, r1]) rfl ⟨rfl, HEND.out⟩
end Go.Proofs.Ytcgcglngjfijnaa
