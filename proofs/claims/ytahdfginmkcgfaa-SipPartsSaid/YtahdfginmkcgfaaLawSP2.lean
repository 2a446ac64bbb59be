/- Layer 3: the law SipParts answers true, and nothing that was there has turned. -/
import Derived.Test.YtahdfginmkcgfaaLawSPb
namespace Go.Proofs.Ytahdfginmkcgfaa
open Go.RowKit Go.ChangeShapes Go.WideShapes Go.ChangeAt
set_option linter.unusedVariables false
set_option maxRecDepth 20000 in
set_option maxHeartbeats 1000000 in
theorem sipParts_walk (k0 k1 : Nat) (A : Option Addr) (n c : Nat) (bss : List (List Nat)) (w : World) (h0 : k0 < 18446744073709551616) (h1 : k1 < 18446744073709551616) (hp : Pts w w.heap.size A n bss) (hnc : n ≤ c) (hmax : c ≤ maxLen) (hb : ∀ bs ∈ bss, ∀ x ∈ bs, x < 256) (hmx : ∀ bs ∈ bss, bs.length ≤ maxLen) :
    Calls Try.prog 4 #[.agg #[.int .u64 k0, .int .u64 k1], .slice A n c] w fun e w' => e = .returned (.bool true) ∧ Below w.heap.size w w' := by
  have HP := Lib.hid hp; have HB := Lib.hid hb; have HMX := Lib.hid hmx
  clear hp hb hmx
  unfold maxLen at hmax
  by_cases hn : 60 < n
  · go_enter Try.func4, Try.ntmps4
    go_wp2_with fail
    go_ret
    exact ⟨rfl, (Below.refl _ _).alloc (Nat.le_refl _) _⟩
  have HM := Lib.hid hmax; clear hmax
  have hn2 : n ≤ 60 := by omega
  clear hn
  go_enter Try.func4, Try.ntmps4
  go_wp2_with fail
  have hbk : Blk (w.alloc (Obj.cells #[Value.int IntKind.u64 k0, Value.int IntKind.u64 k1] 24)) w.heap.size 24 #[Value.int IntKind.u64 k0, Value.int IntKind.u64 k1] := Blk.new w _ _
  have hb0 : Below w.heap.size w (w.alloc (Obj.cells #[Value.int IntKind.u64 k0, Value.int IntKind.u64 k1] 24)) := (Below.refl _ _).alloc (Nat.le_refl _) _
  generalize (w.alloc (Obj.cells #[Value.int IntKind.u64 k0, Value.int IntKind.u64 k1] 24)) = wa at hbk hb0 ⊢
  have HK0 : Hid (Blk wa w.heap.size 24 #[Value.int IntKind.u64 k0, Value.int IntKind.u64 k1]) := hbk
  have HB0 : Hid (Below w.heap.size w wa) := hb0
  clear hbk hb0
  go_loopw [5, 6] (fun av iv wr => ∃ i : Nat, i ≤ n ∧ iv = .int .i64 i ∧ (bss.take i).flatten.length ≤ 300 * i ∧ Hid (Nats wr 5 .u8 w.heap.size av (bss.take i).flatten) ∧ Hid (Blk wr w.heap.size 24 #[Value.int IntKind.u64 k0, Value.int IntKind.u64 k1]) ∧ Hid (Below w.heap.size w wr)) (fun _ iv _ => n - (intOf iv).toNat)
  case atStart => exact ⟨0, Nat.zero_le _, rfl, by simp, Lib.hid (Nats.nil _ _ _ _), HK0, HB0⟩
  case round =>
    obtain ⟨i, hi, rfl, hlen, hown, hkr, hbr⟩ := hrel
    by_cases hlt : i < n
    · obtain ⟨bb, off, A1, n1, c1, bs, rfl, hbb, hcell0, hbs, hl1, hc1, hr1⟩ := HP.out.nth hlt
      have hcell := (hbr.out.cell (p := ⟨bb, off + i, none⟩) hbb).trans hcell0
      clear hcell0
      have hmx := HMX.out bs (nth_mem hbs)
      unfold maxLen at hmx
      rw [hl1.out] at hmx
      by_cases hx : 300 < n1
      · go_wp2_with fail
        go_ret
        exact ⟨rfl, hbr.out⟩
      · have hz := hbr.out.size
        have HN : Hid ((bss.take (i + 1)).flatten = (bss.take i).flatten ++ bs) := Lib.hid (flat_take hbs.out)
        obtain ⟨fl, hfl⟩ : ∃ fl, fl = (bss.take i).flatten := ⟨_, rfl⟩
        rw [← hfl] at HN hown hlen
        clear hfl
        go_wp2_with (at_builtin; go_must (refine appn el8 rfl _ _ rfl rfl hown.out rfl (hr1.out.below hbr.out) ?_ ?_ ?_))
        · rw [hl1.out]; exact room_ge (by omega)
        · exact hz
        · intro v1 w1 ho1 hg1 hb1
          go_wp2
          go_roundw
          case rel => exact ⟨i + 1, by omega, by go_num, by rw [HN.out, List.length_append, hl1.out]; omega, Lib.hid (by rw [HN.out]; exact ho1), Lib.hid (Blk.far hkr.out hown.out (by decide) hg1), Lib.hid (hbr.out.trans hb1)⟩
          case measure => simp [intOf]; omega
    · obtain rfl : i = n := by omega
      go_wp2_with fail
      have hall : (bss.take i).flatten = bss.flatten := by rw [List.take_of_length_le (Nat.le_of_eq HP.out.1)]
      rw [hall] at hown hlen
      clear hall
      obtain ⟨A5, n5, c5, rfl, hc5, hl5, hrd5⟩ := hown.out.out
      have HF : Hid (∀ wx, Below wr.heap.size wr wx → Pts wx wx.heap.size A i bss ∧ Rd wx wx.heap.size 1 A5 n5 (ns .u8 bss.flatten) ∧ wx.cell? ⟨w.heap.size, 0, none⟩ = some (.int .u64 (k0 : Nat)) ∧ wx.cell? ⟨w.heap.size, 1, none⟩ = some (.int .u64 (k1 : Nat))) := Lib.hid fun wx hx => by
        have hbx := hbr.out.trans (hx.mono hbr.out.size)
        have hkx := hkr.out.below hx hkr.out.lt
        exact ⟨(HP.out.keep hbx).mono hbx.size, (hrd5.out.below hx).mono hx.size, hkx.cell 0, hkx.cell 1⟩
      have HBB : Hid (∀ x ∈ bss.flatten, x < 256) := Lib.hid fun x hx => by
        obtain ⟨bs, h1, h2⟩ := List.mem_flatten.1 hx
        exact HB.out bs h1 x h2
      have HN5 : Hid (bss.flatten.length ≤ 18000) := Lib.hid (by omega)
      obtain ⟨fl, hfl⟩ : ∃ fl, fl = bss.flatten := ⟨_, rfl⟩
      rw [← hfl] at HF HBB HN5 hl5
      have HFL := Lib.hid hfl
      have HBR := hbr
      clear hown hlen hrd5 hkr HK0 HB0 hfl hbr hi hlt HP
      go_wp2_with fail
      refine wp_inv (L := spOps) (spI w wr k0 k1 i c n5 c5 A A5 fl u14 u15 u16 u17 u18 u19 u20 u21 u22 u23 u24 u25 u26 u27) (by kernel_rfl) (by kernel_rfl) ?_ ?_ ?_
      · exact ⟨fun j => if j = 21 then u4 else undef, rfl, fun j hj h => by
          have : (Array.replicate 22 false).getD j true = false := by simp [Array.getD, hj]
          exact absurd (h.symm.trans this) (by decide), Lib.hid (Below.refl _ _).drew⟩
      · intro l a wl o hls hinv ho hli hdep K hK
        exact sp_step w wr k0 k1 i c n5 c5 A A5 fl u14 u15 u16 u17 u18 u19 u20 u21 u22 u23 u24 u25 u26 u27 bss h0 h1 hnc hn2 hc5 HB HBB HN5.out HFL HF l a wl o hls hinv ho hdep K hK
      · rintro l a wl hls hall ⟨S, rfl, hgd, hbl⟩
        have h21 : S 21 = .bool true := hgd 21 (by omega) (hall 21 (by show 21 < 22; omega))
        rw [h21]
        have HEND := HBR.out.trans (hbl.out.mono HBR.out.size)
        clear hgd hall hbl
        go_wp2_with fail
        go_ret
        exact ⟨rfl, HEND⟩
end Go.Proofs.Ytahdfginmkcgfaa
