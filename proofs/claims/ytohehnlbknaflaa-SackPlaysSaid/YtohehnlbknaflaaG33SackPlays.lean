/- Layer 31: the document's Came. -/
import Derived.Test.YtohehnlbknaflaaG26SackPlays
import Derived.Test.YtohehnlbknaflaaG28SackPlays
import Derived.Test.YtohehnlbknaflaaG1SackPlays
import Derived.Test.YtohehnlbknaflaaG30SackPlays
import Derived.Test.YtohehnlbknaflaaG29SackPlays
import Derived.Test.YtohehnlbknaflaaG21SackPlays
import Derived.Test.YtohehnlbknaflaaG23SackPlays
import Derived.Test.YtohehnlbknaflaaOrdF
import Derived.StillTailTactics
import Derived.Deep.Cut

namespace Go.Proofs.Ytohehnlbknaflaa
open Go.RowKit
set_option linter.unusedVariables false
set_option linter.unusedSimpArgs false
theorem cam_far {W x many : Int} {l : List Sp} {most : Nat} (hW : U32 W) (hx : U32 x) (h1 : 0 < many) (h2 : many ≤ 1024) (hb : sd ((x + many) % 4294967296) W ≤ 0) : cameB W l most x many = (0, l, wi x W 1048576 || wi W x 1048576) := by
  unfold cameB
  rw [if_neg (by omega), if_neg (by omega)]
  by_cases h : sd x W ≤ -many
  · rw [if_pos h]
  · have hs : 2147483648 ≤ sd x W + many := by unfold sd at *; omega
    rw [if_neg h, if_pos (by omega)]
    have e1 : wi x W 1048576 = false := by unfold wi; exact decide_eq_false (by unfold rd sd U32 at *; omega)
    have e2 : wi W x 1048576 = false := by unfold wi; exact decide_eq_false (by unfold rd sd U32 at *; omega)
    rw [e1, e2]
    rfl
theorem cam_near {W x many : Int} {l : List Sp} {most : Nat} (h1 : 0 < many) (h2 : many ≤ 1024) (hb : 0 < sd ((x + many) % 4294967296) W) : sd x W + many = sd ((x + many) % 4294967296) W ∧ cameB W l most x many = if 1048576 - many < sd x W then (0, l, false) else putB l most (max (sd x W) 0).toNat (sd x W + many).toNat := by
  have e : sd x W + many = sd ((x + many) % 4294967296) W := by unfold sd at *; omega
  refine ⟨e, ?_⟩
  unfold cameB
  rw [if_neg (by omega), if_neg (by omega), if_neg (by omega)]
theorem addL_head {l : List Sp} {f t x0 y0 : Nat} (h : BOk l) (hft : f < t) (e : (addL l f t)[0]? = some (x0, y0)) : (x0 = 0 ↔ (joinX l f t).1 = 0) ∧ (x0 = 0 → y0 = (joinX l f t).2 ∧ (addL l f t).drop 1 = l.drop (midN l f t)) := by
  rw [addL_eq] at e ⊢
  by_cases ha : spAt l f = 0
  · rw [ha] at e ⊢
    simp only [List.take_zero, List.nil_append, Nat.zero_add, List.getElem?_cons_zero, Option.some.injEq] at e
    rw [e]
    exact ⟨Iff.rfl, fun _ => ⟨rfl, by simp⟩⟩
  · have hj : (joinX l f t).1 ≠ 0 := fun h0 => ha (joinX_zero h hft h0)
    have hle := spAt_le l f
    have hl : 0 < (l.take (spAt l f)).length := by rw [List.length_take]; omega
    rw [List.getElem?_append_left hl] at e
    have hm : (x0, y0) ∈ l := List.mem_of_mem_take (List.mem_of_getElem? e)
    have := h.pos _ hm
    dsimp only at this
    exact ⟨⟨fun h0 => by omega, fun h0 => absurd h0 hj⟩, fun h0 => by omega⟩
theorem shL_zero (l : List Sp) : shL 0 l = l := by simp [shL]
theorem shL_snoc {d : Nat} {l : List Sp} {i x y : Nat} (h : l[i]? = some (x, y)) : shL d (l.take (i + 1)) = shL d (l.take i) ++ [(x - d, y - d)] := by
  unfold shL
  rw [List.take_add_one, h]
  simp
theorem cels_drop1 (l : List Sp) : (cels l).drop (1 * 2) = cels (l.drop 1) := cels_drop l 1
/-- What Came answers: the board, whether they are taken. -/
def RCP (W : Int) (most : Nat) (A : Option Addr) (n0 S : Nat) (q : Nat × List Sp × Bool) (e : Ending) (w' : World) : Prop :=
  ∃ A' n' c', e = .returned (.tuple #[.agg #[.int .u32 (pl W q.1), .int .i64 (most : Int), .slice A' n' c'], .bool q.2.2]) ∧ Rd w' w'.heap.size 2 A' n' (cels q.2.1) ∧ ∀ a, A' = some a → (A = some a ∧ n' = n0) ∨ S ≤ a.block
theorem rdiff2 (a b s : Int) (w : World) (ha : U32 a) (hb : U32 b) (hs : sd a b = s) : Calls Try.prog 31 #[.int .u32 a, .int .u32 b] w fun e w' => e = .returned (.int .i64 s) ∧ w' = w := by
  rw [← hs]
  exact rdiff_any a b w ha hb
set_option maxRecDepth 20000 in
set_option maxHeartbeats 16000000 in
theorem rcame_any (W : Int) (most : Nat) (A : Option Addr) (n c : Nat) (l : List Sp) (x many : Int) (w : World) (hR : Rd w w.heap.size 2 A n (cels l)) (hok : BOk l) (hlen : l.length ≤ most) (hms : most ≤ 64) (hW : U32 W) (hx : U32 x) (hm0 : -9223372036854775808 ≤ many) (hm1 : many < 9223372036854775808) :
    Calls Try.prog 17 #[.agg #[.int .u32 W, .int .i64 (most : Int), .slice A n c], .int .u32 x, .int .i64 many] w fun e w' => RCP W most A n w.heap.size (cameB W l most x many) e w' ∧ Below w.heap.size w w' := by
  have HR := Lib.hid hR
  have HOK := Lib.hid hok
  have HLE := Lib.hid hlen
  have HU := Lib.hid hW
  have HX := Lib.hid hx
  have hnl : l.length = n := hR.pcLen
  have HNL := Lib.hid hnl
  have hn64 : n ≤ 64 := by omega
  have SAME : Hid (∀ (b : Bool) (w' : World), cameB W l most x many = (0, l, b) → Below w.heap.size w w' → RCP W most A n w.heap.size (cameB W l most x many) (.returned (.tuple #[.agg #[.int .u32 W, .int .i64 (most : Int), .slice A n c], .bool b])) w') := Lib.hid fun b w' e hb => by
    rw [e]
    exact ⟨A, n, c, by rw [pl_zero HU.out], HR.out.into hb, fun a ha => .inl ⟨ha, rfl⟩⟩
  clear hR hok hlen hnl
  go_enter Try.func17, Try.ntmps17
  go_upto_region 1 with fail
  have hk0 : Hid (Blk (w.alloc (.cells #[.int .u32 W, .int .i64 (most : Int), .slice A n c] 48)) (w.heap.size) 48 #[.int .u32 W, .int .i64 (most : Int), .slice A n c]) := Lib.hid ((Blk.new w 48 #[.int .u32 W, .int .i64 (most : Int), .slice A n c]))
  replace hk0 : Hid (Blk ((w.alloc (.cells #[.int .u32 W, .int .i64 (most : Int), .slice A n c] 48)).alloc (.cells #[.int .u32 0, .int .i64 0, .slice none 0 0] 48)) (w.heap.size) 48 #[.int .u32 W, .int .i64 (most : Int), .slice A n c]) := Lib.hid (hk0.out.alloc _)
  have hk1 : Hid (Blk ((w.alloc (.cells #[.int .u32 W, .int .i64 (most : Int), .slice A n c] 48)).alloc (.cells #[.int .u32 0, .int .i64 0, .slice none 0 0] 48)) (w.heap.size + 1) 48 #[.int .u32 0, .int .i64 0, .slice none 0 0]) := Lib.hid ((Blk.new (w.alloc (.cells #[.int .u32 W, .int .i64 (most : Int), .slice A n c] 48)) 48 #[.int .u32 0, .int .i64 0, .slice none 0 0]) |> fun h => by simpa using h)
  have b1 : Hid (Below w.heap.size w ((w.alloc (.cells #[.int .u32 W, .int .i64 (most : Int), .slice A n c] 48)).alloc (.cells #[.int .u32 0, .int .i64 0, .slice none 0 0] 48))) := Lib.hid (((Below.refl w.heap.size w).alloc (Nat.le_refl _) (.cells #[.int .u32 W, .int .i64 (most : Int), .slice A n c] 48)).alloc (by simp <;> omega) (.cells #[.int .u32 0, .int .i64 0, .slice none 0 0] 48))
  have hz : ((w.alloc (.cells #[.int .u32 W, .int .i64 (most : Int), .slice A n c] 48)).alloc (.cells #[.int .u32 0, .int .i64 0, .slice none 0 0] 48)).heap.size = w.heap.size + 2 := by simp
  generalize ((w.alloc (.cells #[.int .u32 W, .int .i64 (most : Int), .slice A n c] 48)).alloc (.cells #[.int .u32 0, .int .i64 0, .slice none 0 0] 48)) = w2 at hk0 hk1 b1 hz ⊢
  have HZ := Lib.hid hz
  clear hz
  have KX := hk0
  have KR := hk1
  have BT := b1
  clear hk0 hk1 b1 HZ
  obtain ⟨x0, x1, x2⟩ := ptc3 KX.out
  obtain ⟨q0, q1, q2⟩ := ptc3 KR.out
  have fq0 := KR.out.frozen 0
  have fq1 := KR.out.frozen 1
  have fq2 := KR.out.frozen 2
  by_cases hz : many = 0
  · have HE := Lib.hid (show cameB W l most x many = (0, l, true) from by unfold cameB; rw [if_pos hz])
    subst hz
    go_wp2_with fail
    have hkz := Lib.hid (((KR.out.set 0 (.int .u32 W)).set 1 (.int .i64 (most : Int))).set 2 (.slice A n c))
    have hbz : Below w.heap.size w (((w2.setCell ⟨w.heap.size + 1, 0, none⟩ (.int .u32 W)).setCell ⟨w.heap.size + 1, 1, none⟩ (.int .i64 (most : Int))).setCell ⟨w.heap.size + 1, 2, none⟩ (.slice A n c)) := ((BT.out.setCell (p := ⟨w.heap.size + 1, 0, none⟩) (Nat.le_succ _) _).setCell (p := ⟨w.heap.size + 1, 1, none⟩) (Nat.le_succ _) _).setCell (p := ⟨w.heap.size + 1, 2, none⟩) (Nat.le_succ _) _
    obtain ⟨z0, z1, z2⟩ := ptc3 hkz.out
    exact bodyPost_ret (v := .tuple #[.agg #[.int .u32 W, .int .i64 (most : Int), .slice A n c], .bool true]) (by simp [results, Try.results17, go_sem, z0, z1, z2]) rfl ⟨SAME.out true _ HE.out hbz, hbz⟩

  by_cases hneg : many < 0
  · have hneg1 : many < 1 := by omega
    have hzb : (many == 0) = false := by simp [hz]
    have HE := Lib.hid (show cameB W l most x many = (0, l, false) from by unfold cameB; rw [if_neg hz, if_pos (.inl hneg)])
    go_wp2_with fail
    have hkz := Lib.hid (((KR.out.set 0 (.int .u32 W)).set 1 (.int .i64 (most : Int))).set 2 (.slice A n c))
    have hbz : Below w.heap.size w (((w2.setCell ⟨w.heap.size + 1, 0, none⟩ (.int .u32 W)).setCell ⟨w.heap.size + 1, 1, none⟩ (.int .i64 (most : Int))).setCell ⟨w.heap.size + 1, 2, none⟩ (.slice A n c)) := ((BT.out.setCell (p := ⟨w.heap.size + 1, 0, none⟩) (Nat.le_succ _) _).setCell (p := ⟨w.heap.size + 1, 1, none⟩) (Nat.le_succ _) _).setCell (p := ⟨w.heap.size + 1, 2, none⟩) (Nat.le_succ _) _
    obtain ⟨z0, z1, z2⟩ := ptc3 hkz.out
    exact bodyPost_ret (v := .tuple #[.agg #[.int .u32 W, .int .i64 (most : Int), .slice A n c], .bool false]) (by simp [results, Try.results17, go_sem, z0, z1, z2]) rfl ⟨SAME.out false _ HE.out hbz, hbz⟩

  have hneg1 : ¬ many < 1 := by omega
  by_cases hbig : 1024 < many
  · have hzb : (many == 0) = false := by simp [hz]
    have HE := Lib.hid (show cameB W l most x many = (0, l, false) from by unfold cameB; rw [if_neg hz, if_pos (.inr hbig)])
    go_wp2_with fail
    have hkz := Lib.hid (((KR.out.set 0 (.int .u32 W)).set 1 (.int .i64 (most : Int))).set 2 (.slice A n c))
    have hbz : Below w.heap.size w (((w2.setCell ⟨w.heap.size + 1, 0, none⟩ (.int .u32 W)).setCell ⟨w.heap.size + 1, 1, none⟩ (.int .i64 (most : Int))).setCell ⟨w.heap.size + 1, 2, none⟩ (.slice A n c)) := ((BT.out.setCell (p := ⟨w.heap.size + 1, 0, none⟩) (Nat.le_succ _) _).setCell (p := ⟨w.heap.size + 1, 1, none⟩) (Nat.le_succ _) _).setCell (p := ⟨w.heap.size + 1, 2, none⟩) (Nat.le_succ _) _
    obtain ⟨z0, z1, z2⟩ := ptc3 hkz.out
    exact bodyPost_ret (v := .tuple #[.agg #[.int .u32 W, .int .i64 (most : Int), .slice A n c], .bool false]) (by simp [results, Try.results17, go_sem, z0, z1, z2]) rfl ⟨SAME.out false _ HE.out hbz, hbz⟩

  have hp : 0 < many := by omega
  have hle : many ≤ 1024 := by omega
  obtain ⟨s, hs⟩ : ∃ s, s = sd x W := ⟨_, rfl⟩
  obtain ⟨b, hb⟩ : ∃ b, b = sd ((x + many) % 4294967296) W := ⟨_, rfl⟩
  have HS := Lib.hid hs.symm
  have HB := Lib.hid hb.symm
  have HXM := Lib.hid (show U32 ((x + many) % 4294967296) from by unfold U32; omega)
  have hsl := sd_lt x W
  have hbl := sd_lt ((x + many) % 4294967296) W
  rw [← hs] at hsl
  rw [← hb] at hbl
  clear hs hb hz hneg
  go_wp2_with fail
  refine (rdiff2 x W s w2 HX.out HU.out HS.out).mono ?_
  rintro e w3 ⟨rfl, rfl⟩
  go_wp2_with fail
  refine (rdiff2 _ W b w3 HXM.out HU.out HB.out).mono ?_
  rintro e w4 ⟨rfl, rfl⟩
  by_cases hb0 : b ≤ 0
  · have HE := Lib.hid (show cameB W l most x many = (0, l, wi x W 1048576 || wi W x 1048576) from cam_far HU.out HX.out hp hle (by rw [HB.out]; exact hb0))
    obtain ⟨r1, hr1⟩ : ∃ r, r = wi x W 1048576 := ⟨_, rfl⟩
    obtain ⟨r2, hr2⟩ : ∃ r, r = wi W x 1048576 := ⟨_, rfl⟩
    have HW1 : Hid (∀ w', Calls Try.prog 32 #[.int .u32 x, .int .u32 W, .int .u32 1048576] w' fun e w'' => e = .returned (.bool r1) ∧ w'' = w') := Lib.hid fun w' => by rw [hr1]; exact rwithin_any x W 1048576 w' HX.out HU.out (by unfold U32; omega)
    have HW2 : Hid (∀ w', Calls Try.prog 32 #[.int .u32 W, .int .u32 x, .int .u32 1048576] w' fun e w'' => e = .returned (.bool r2) ∧ w'' = w') := Lib.hid fun w' => by rw [hr2]; exact rwithin_any W x 1048576 w' HU.out HX.out (by unfold U32; omega)
    rw [← hr1, ← hr2] at HE
    clear hr1 hr2
    cases r1 with
    | true =>
      go_wp2_with fail
      have KX2 := KX
      have KR2 := KR
      refine wp_ord [(0, .read), (1, .pure), (2, .pure), (3, .read), (4, .sole), (5, .pure), (6, .pure), (7, .read), (8, .pure), (9, .sole), (10, .pure), (11, .sole), (12, .pure)] [11] (by kernel_rfl) (by kernel_rfl) (fun QQ hQ wd hwd => ?_); simp only [List.map_cons, List.map_nil, List.getD_cons_zero, List.getD_cons_succ]
      have BD : Below w.heap.size w wd := BT.out.trans (by rw [hwd.out]; exact ((Below.refl _ _).drew))
      have KXD : Blk wd w.heap.size 48 #[.int .u32 W, .int .i64 (most : Int), .slice A n c] := by rw [hwd.out]; exact KX.out.drew
      have KRD : Blk wd (w.heap.size + 1) 48 #[.int .u32 0, .int .i64 0, .slice none 0 0] := by rw [hwd.out]; exact KR.out.drew
      have BT := Lib.hid BD
      have KX := Lib.hid KXD
      have KR := Lib.hid KRD
      clear BD KXD KRD hwd KX2 KR2
      obtain ⟨x0, x1, x2⟩ := ptc3 KX.out
      obtain ⟨q0, q1, q2⟩ := ptc3 KR.out
      have fq0 := KR.out.frozen 0
      have fq1 := KR.out.frozen 1
      have fq2 := KR.out.frozen 2
      (refine o_loads _ [.int .u32 W, .int .i64 (most : Int), .slice A n c] (by rfl) rfl rfl (KX.out.loads 0 [.int .u32 W, .int .i64 (most : Int), .slice A n c] rfl) (Nat.succ_pos _) (by kernel_rfl) (by kernel_rfl) ?_; simp only [Act.put, List.setIfInBounds_toArray, List.set_cons_zero, List.set_cons_succ])
      (refine o_pure (v := ?_) (by rfl) (fun w' => ?_) ?_; rotate_left; (focus (go_simp; (try with_reducible rfl); (try (rw [if_pos (by omega)]; (try with_reducible rfl))))); (try simp only [Act.put, List.setIfInBounds_toArray, List.set_cons_zero, List.set_cons_succ]))
      (refine o_pure (v := ?_) (by rfl) (fun w' => ?_) ?_; rotate_left; (focus (go_simp; (try with_reducible rfl); (try (rw [if_pos (by omega)]; (try with_reducible rfl))))); (try simp only [Act.put, List.setIfInBounds_toArray, List.set_cons_zero, List.set_cons_succ]))
      (refine o_load _ (by rfl) rfl rfl (by assumption) (by kernel_rfl) ?_; simp only [Act.put, List.setIfInBounds_toArray, List.set_cons_zero, List.set_cons_succ])
      refine o_sole (fun K hK => ?_)
      go_wp2_with fail
      refine (HW1.out wd).mono ?_
      rintro e w5 ⟨rfl, rfl⟩
      go_wp2_with fail
      refine hK _ _ (fun _ => Ext.of (Below.refl _ _)) ?_; clear hK K
      (refine o_pure (v := ?_) (by rfl) (fun w' => ?_) ?_; rotate_left; (focus (go_simp; (try with_reducible rfl); (try (rw [if_pos (by omega)]; (try with_reducible rfl))))); (try simp only [Act.put, List.setIfInBounds_toArray, List.set_cons_zero, List.set_cons_succ]))
      (refine o_skip (by intro h; cases h) (by rfl) ?_; simp only [Act.put, List.setIfInBounds_toArray, List.set_cons_zero, List.set_cons_succ])
      (refine o_skip (by intro h; cases h) (by rfl) ?_; simp only [Act.put, List.setIfInBounds_toArray, List.set_cons_zero, List.set_cons_succ])
      (refine o_skip (by intro h; cases h) (by rfl) ?_; simp only [Act.put, List.setIfInBounds_toArray, List.set_cons_zero, List.set_cons_succ])
      (refine o_pass (by rfl) ?_; simp only [Act.put, List.setIfInBounds_toArray, List.set_cons_zero, List.set_cons_succ])
      (refine o_pure (v := ?_) (by rfl) (fun w' => ?_) ?_; rotate_left; (focus (go_simp; (try with_reducible rfl); (try (rw [if_pos (by omega)]; (try with_reducible rfl))))); (try simp only [Act.put, List.setIfInBounds_toArray, List.set_cons_zero, List.set_cons_succ]))
      refine o_sole (fun K hK => ?_)
      go_wp2_with fail
      refine hK _ _ (fun h => by cases h) ?_; clear hK K
      (refine o_pure (v := ?_) (by rfl) (fun w' => ?_) ?_; rotate_left; (focus (go_simp; (try with_reducible rfl); (try (rw [if_pos (by omega)]; (try with_reducible rfl))))); (try simp only [Act.put, List.setIfInBounds_toArray, List.set_cons_zero, List.set_cons_succ]))
      refine o_nil (hQ.out _ _ ?_); clear hQ QQ
      go_wp2
      have hkz := Lib.hid (((KR.out.set 0 (.int .u32 W)).set 1 (.int .i64 (most : Int))).set 2 (.slice A n c))
      have hbz : Below w.heap.size w (((w5.setCell ⟨w.heap.size + 1, 0, none⟩ (.int .u32 W)).setCell ⟨w.heap.size + 1, 1, none⟩ (.int .i64 (most : Int))).setCell ⟨w.heap.size + 1, 2, none⟩ (.slice A n c)) := ((BT.out.setCell (p := ⟨w.heap.size + 1, 0, none⟩) (Nat.le_succ _) _).setCell (p := ⟨w.heap.size + 1, 1, none⟩) (Nat.le_succ _) _).setCell (p := ⟨w.heap.size + 1, 2, none⟩) (Nat.le_succ _) _
      obtain ⟨z0, z1, z2⟩ := ptc3 hkz.out
      exact bodyPost_ret (v := .tuple #[.agg #[.int .u32 W, .int .i64 (most : Int), .slice A n c], .bool true]) (by simp [results, Try.results17, go_sem, z0, z1, z2]) rfl ⟨SAME.out true _ HE.out hbz, hbz⟩

    | false =>
      go_wp2_with fail
      have KX2 := KX
      have KR2 := KR
      refine wp_ord [(0, .read), (1, .pure), (2, .pure), (3, .read), (4, .sole), (5, .pure), (6, .pure), (7, .read), (8, .pure), (9, .sole), (10, .pure), (11, .sole), (12, .pure)] [11] (by kernel_rfl) (by kernel_rfl) (fun QQ hQ wd hwd => ?_); simp only [List.map_cons, List.map_nil, List.getD_cons_zero, List.getD_cons_succ]
      have BD : Below w.heap.size w wd := BT.out.trans (by rw [hwd.out]; exact ((Below.refl _ _).drew))
      have KXD : Blk wd w.heap.size 48 #[.int .u32 W, .int .i64 (most : Int), .slice A n c] := by rw [hwd.out]; exact KX.out.drew
      have KRD : Blk wd (w.heap.size + 1) 48 #[.int .u32 0, .int .i64 0, .slice none 0 0] := by rw [hwd.out]; exact KR.out.drew
      have BT := Lib.hid BD
      have KX := Lib.hid KXD
      have KR := Lib.hid KRD
      clear BD KXD KRD hwd KX2 KR2
      obtain ⟨x0, x1, x2⟩ := ptc3 KX.out
      obtain ⟨q0, q1, q2⟩ := ptc3 KR.out
      have fq0 := KR.out.frozen 0
      have fq1 := KR.out.frozen 1
      have fq2 := KR.out.frozen 2
      (refine o_loads _ [.int .u32 W, .int .i64 (most : Int), .slice A n c] (by rfl) rfl rfl (KX.out.loads 0 [.int .u32 W, .int .i64 (most : Int), .slice A n c] rfl) (Nat.succ_pos _) (by kernel_rfl) (by kernel_rfl) ?_; simp only [Act.put, List.setIfInBounds_toArray, List.set_cons_zero, List.set_cons_succ])
      (refine o_pure (v := ?_) (by rfl) (fun w' => ?_) ?_; rotate_left; (focus (go_simp; (try with_reducible rfl); (try (rw [if_pos (by omega)]; (try with_reducible rfl))))); (try simp only [Act.put, List.setIfInBounds_toArray, List.set_cons_zero, List.set_cons_succ]))
      (refine o_pure (v := ?_) (by rfl) (fun w' => ?_) ?_; rotate_left; (focus (go_simp; (try with_reducible rfl); (try (rw [if_pos (by omega)]; (try with_reducible rfl))))); (try simp only [Act.put, List.setIfInBounds_toArray, List.set_cons_zero, List.set_cons_succ]))
      (refine o_load _ (by rfl) rfl rfl (by assumption) (by kernel_rfl) ?_; simp only [Act.put, List.setIfInBounds_toArray, List.set_cons_zero, List.set_cons_succ])
      refine o_sole (fun K hK => ?_)
      go_wp2_with fail
      refine (HW1.out wd).mono ?_
      rintro e w5 ⟨rfl, rfl⟩
      go_wp2_with fail
      refine hK _ _ (fun _ => Ext.of (Below.refl _ _)) ?_; clear hK K
      (refine o_pure (v := ?_) (by rfl) (fun w' => ?_) ?_; rotate_left; (focus (go_simp; (try with_reducible rfl); (try (rw [if_pos (by omega)]; (try with_reducible rfl))))); (try simp only [Act.put, List.setIfInBounds_toArray, List.set_cons_zero, List.set_cons_succ]))
      (refine o_pure (v := ?_) (by rfl) (fun w' => ?_) ?_; rotate_left; (focus (go_simp; (try with_reducible rfl); (try (rw [if_pos (by omega)]; (try with_reducible rfl))))); (try simp only [Act.put, List.setIfInBounds_toArray, List.set_cons_zero, List.set_cons_succ]))
      (refine o_load _ (by rfl) rfl rfl (by assumption) (by kernel_rfl) ?_; simp only [Act.put, List.setIfInBounds_toArray, List.set_cons_zero, List.set_cons_succ])
      (refine o_pure (v := ?_) (by rfl) (fun w' => ?_) ?_; rotate_left; (focus (go_simp; (try with_reducible rfl); (try (rw [if_pos (by omega)]; (try with_reducible rfl))))); (try simp only [Act.put, List.setIfInBounds_toArray, List.set_cons_zero, List.set_cons_succ]))
      refine o_sole (fun K hK => ?_)
      go_wp2_with fail
      refine (HW2.out w5).mono ?_
      rintro e w6 ⟨rfl, rfl⟩
      go_wp2_with fail
      refine hK _ _ (fun _ => Ext.of (Below.refl _ _)) ?_; clear hK K
      (refine o_pure (v := ?_) (by rfl) (fun w' => ?_) ?_; rotate_left; (focus (go_simp; (try with_reducible rfl); (try (rw [if_pos (by omega)]; (try with_reducible rfl))))); (try simp only [Act.put, List.setIfInBounds_toArray, List.set_cons_zero, List.set_cons_succ]))
      refine o_sole (fun K hK => ?_)
      go_wp2_with fail
      refine hK _ _ (fun h => by cases h) ?_; clear hK K
      (refine o_pure (v := ?_) (by rfl) (fun w' => ?_) ?_; rotate_left; (focus (go_simp; (try with_reducible rfl); (try (rw [if_pos (by omega)]; (try with_reducible rfl))))); (try simp only [Act.put, List.setIfInBounds_toArray, List.set_cons_zero, List.set_cons_succ]))
      refine o_nil (hQ.out _ _ ?_); clear hQ QQ
      go_wp2
      have hkz := Lib.hid (((KR.out.set 0 (.int .u32 W)).set 1 (.int .i64 (most : Int))).set 2 (.slice A n c))
      have hbz : Below w.heap.size w (((w6.setCell ⟨w.heap.size + 1, 0, none⟩ (.int .u32 W)).setCell ⟨w.heap.size + 1, 1, none⟩ (.int .i64 (most : Int))).setCell ⟨w.heap.size + 1, 2, none⟩ (.slice A n c)) := ((BT.out.setCell (p := ⟨w.heap.size + 1, 0, none⟩) (Nat.le_succ _) _).setCell (p := ⟨w.heap.size + 1, 1, none⟩) (Nat.le_succ _) _).setCell (p := ⟨w.heap.size + 1, 2, none⟩) (Nat.le_succ _) _
      obtain ⟨z0, z1, z2⟩ := ptc3 hkz.out
      exact bodyPost_ret (v := .tuple #[.agg #[.int .u32 W, .int .i64 (most : Int), .slice A n c], .bool r2]) (by simp [results, Try.results17, go_sem, z0, z1, z2]) rfl ⟨SAME.out r2 _ HE.out hbz, hbz⟩

  · obtain ⟨hsum, hcam⟩ := cam_near (l := l) (most := most) hp hle (show 0 < sd ((x + many) % 4294967296) W from by rw [HB.out]; omega)
    rw [HS.out, HB.out] at hsum
    rw [HS.out] at hcam
    have HSUM := Lib.hid hsum
    have HC := Lib.hid hcam
    obtain ⟨t, rfl⟩ : ∃ t : Nat, b = (t : Int) := ⟨b.toNat, by omega⟩
    clear hsum hcam
    by_cases hs0 : s < 0
    · by_cases htb : (1048576 : Int) < (t : Int)
      · have HE := Lib.hid (HC.out.trans (if_pos (by have := HSUM.out; omega)))
        go_wp2_with fail
        have hkz := Lib.hid (((KR.out.set 0 (.int .u32 W)).set 1 (.int .i64 (most : Int))).set 2 (.slice A n c))
        have hbz : Below w.heap.size w (((w4.setCell ⟨w.heap.size + 1, 0, none⟩ (.int .u32 W)).setCell ⟨w.heap.size + 1, 1, none⟩ (.int .i64 (most : Int))).setCell ⟨w.heap.size + 1, 2, none⟩ (.slice A n c)) := ((BT.out.setCell (p := ⟨w.heap.size + 1, 0, none⟩) (Nat.le_succ _) _).setCell (p := ⟨w.heap.size + 1, 1, none⟩) (Nat.le_succ _) _).setCell (p := ⟨w.heap.size + 1, 2, none⟩) (Nat.le_succ _) _
        obtain ⟨z0, z1, z2⟩ := ptc3 hkz.out
        exact bodyPost_ret (v := .tuple #[.agg #[.int .u32 W, .int .i64 (most : Int), .slice A n c], .bool false]) (by simp [results, Try.results17, go_sem, z0, z1, z2]) rfl ⟨SAME.out false _ HE.out hbz, hbz⟩

      · have HE := Lib.hid (HC.out.trans (if_neg (by have := HSUM.out; omega)))
        rw [show (max s 0).toNat = 0 by omega, show (s + many).toNat = t by have := HSUM.out; omega] at HE
        have hft : 0 < t := by omega
        clear HC
        have ht20 : t ≤ 1048576 := by omega
        have HFT := Lib.hid (show 0 < t from hft)
        have HPO := Lib.hid (putB_ok (most := most) HOK.out HLE.out hft ht20)
        have hal := addL_len2 l 0 t
        have hml := midN_le l 0 t
        have hjl := joinX_le HOK.out hft ht20
        have HJL := Lib.hid hjl
        have hwf : IntKind.u64.wrap ((0 : Nat) : Int) = ((0 : Nat) : Int) := wrap_u64_lt (by unfold pmax; omega)
        have hwt : IntKind.u64.wrap (t : Int) = (t : Int) := wrap_u64_lt (by unfold pmax; omega)
        go_wp2_with fail
        refine (join_any A n c w4.heap.size l 0 t w4 (HR.out.into BT.out) (Nat.le_refl _) HOK.out.rise hft (by omega)).mono ?_
        rintro e w5 ⟨v5, rfl, hv5, hb5⟩
        obtain ⟨A5, n5, c5, rfl, hn5c, hc5m, hl5, hr5⟩ := hv5.out
        have hn5 : 0 < n5 := by have := hl5.out; omega
        have hn5b : n5 ≤ 70 := by have := hl5.out; have := HNL.out; omega
        obtain ⟨ab, ao, e0, y0, eA, hab, q0, q1, hp⟩ := hr5.out.pc hn5
        simp only [Nat.zero_mul, Nat.add_zero] at q0 q1
        have hhd := addL_head HOK.out hft hp.out
        have HHD := Lib.hid hhd
        have hmem := HPO.out
        replace KX := Lib.hid (KX.out.below hb5 KX.out.lt)
        replace KR := Lib.hid (KR.out.below hb5 KR.out.lt)
        replace BT := Lib.hid (BT.out.trans (hb5.mono BT.out.size))
        have HW5 := Lib.hid BT.out.size
        have HAL := Lib.hid hal
        have HML := Lib.hid hml
        have HR5 := hr5
        have HL5 := hl5
        subst eA
        clear hv5 hb5 hp hhd hmem hwf hwt hal hml hjl
        obtain ⟨x0, x1, x2⟩ := ptc3 KX.out
        obtain ⟨q0, q1, q2⟩ := ptc3 KR.out
        have fq0 := KR.out.frozen 0
        have fq1 := KR.out.frozen 1
        have fq2 := KR.out.frozen 2
        by_cases he0 : e0 = 0
        · have HJ0 := Lib.hid (HHD.out.1.1 he0)
          obtain ⟨hy0, hdr⟩ := HHD.out.2 he0
          have HY0 := Lib.hid hy0
          have HDR := Lib.hid hdr
          have ep := putB_zero (l := l) (most := most) (f := 0) (t := t) (j1 := (joinX l 0 t).1) (j2 := (joinX l 0 t).2) rfl HJ0.out
          rw [← hy0] at ep
          rw [ep] at HE
          have HDL : Hid (∀ p ∈ l.drop (midN l 0 t), y0 ≤ p.1 ∧ p.1 ≤ p.2 ∧ p.2 ≤ 1048576) := Lib.hid fun p hp => by
            have h1 := post_gt (l := l) (f := 0) (t := t) HOK.out p (by rw [joinX_zero HOK.out HFT.out HJ0.out, Nat.zero_add]; exact hp)
            obtain ⟨i, hi⟩ := List.getElem?_of_mem (List.mem_of_mem_drop hp)
            have h2 := HOK.out.at_ hi
            rw [← HY0.out] at h1
            omega
          subst he0
          obtain ⟨n7, hn7⟩ : ∃ n7, n7 = n5 - 1 := ⟨_, rfl⟩
          obtain ⟨c7, hc7⟩ : ∃ c7, c7 = c5 - 1 := ⟨_, rfl⟩
          have HUT := Lib.hid (show Try.prog.underlying 46 = some (.slice (Try.prog.elem 46)) by unfold Program.elem; rw [Try.underlying46])
          have hs3 : ∀ w, (Instr.slice 46 (.slice (some ⟨ab, ao, none⟩) n5 c5) (some (.int .i64 1)) none none).run Try.prog w = .ok (.slice (cutA (some ⟨ab, ao, none⟩) c5 1 2) n7 c7) w := fun w => by
            have := run_cut_l prfEl (some ⟨ab, ao, none⟩) n5 c5 1 (by omega) w
            rw [← hn7, ← hc7] at this
            exact this
          have hs4 : ∀ w, (Instr.sliceAt 46 (.slice (some ⟨ab, ao, none⟩) n5 c5) (some (.int .i64 1)) none none).run Try.prog w = .ok (.slice (cutA (some ⟨ab, ao, none⟩) c5 1 2) n7 c7) w := fun w => (run_sliceAt_slice w _ _ _ _ _ HUT.out).trans (hs3 w)
          have hrZ := HR5.out.drop (k := 1) (cap := c5) (by omega) (by omega)
          rw [cels_drop1, HDR.out, ← hn7] at hrZ
          have HRW := Lib.hid (show Rd w5 w5.heap.size 2 (cutA (some ⟨ab, ao, none⟩) c5 1 2) n7 (cels (l.drop (midN l 0 t))) from hrZ)
          generalize cutA (some ⟨ab, ao, none⟩) c5 1 2 = A7 at *
          have hn7m : n7 ≤ most := by have := HRW.out.pcLen; rw [List.length_drop] at this; have := HLE.out; omega
          have hn7m' : ¬ (most : Int) < (n7 : Int) := by omega
          have hn7N : ¬ most < n7 := by omega
          have hn7b : n7 ≤ 70 := by omega
          clear hrZ hn7 hc7 hy0 hdr ep
          go_wp2_with fail
          clear q0 q1 hs3 hs4
          clear x0 x1 x2 q0 q1 q2 fq0 fq1 fq2
          go_loopw [12, 13] (fun ov iv wr => ∃ i : Nat, i ≤ n7 ∧ iv = .int .i64 (i : Nat) ∧ Hid (Pcs wr 85 w5.heap.size ov (shL y0 ((l.drop (midN l 0 t)).take i))) ∧ Hid (Below w5.heap.size w5 wr)) (fun _ iv _ => n7 - (intOf iv).toNat)
          case atStart => exact ⟨0, Nat.zero_le _, rfl, Lib.hid (Pcs.nil _ _ _), Lib.hid (Below.refl _ _)⟩
          case round =>
            obtain ⟨i, hi, rfl, hown, hbw⟩ := hrel
            by_cases hlt : i < n7
            · have HLT := Lib.hid hlt
              have hlt' : (i : Int) < (n7 : Int) := by omega
              obtain ⟨ab, ao, px, py, eA, hab, q0, q1, hp⟩ := (HRW.out.into hbw.out).pc hlt
              have hpd := HDL.out _ (List.mem_of_getElem? hp.out)
              dsimp only at hpd
              obtain ⟨xd, hxd⟩ : ∃ xd, xd = px - y0 := ⟨_, rfl⟩
              obtain ⟨yd, hyd⟩ : ∃ yd, yd = py - y0 := ⟨_, rfl⟩
              have HXD := Lib.hid (show IntKind.u64.wrap ((px : Int) - (y0 : Nat)) = ((xd : Nat) : Int) from by rw [hxd]; exact wrap_u64_sub (by omega) (by unfold pmax; omega))
              have HYD := Lib.hid (show IntKind.u64.wrap ((py : Int) - (y0 : Nat)) = ((yd : Nat) : Int) from by rw [hyd]; exact wrap_u64_sub (by omega) (by unfold pmax; omega))
              have HSN := Lib.hid (show shL y0 ((l.drop (midN l 0 t)).take (i + 1)) = shL y0 ((l.drop (midN l 0 t)).take i) ++ [(xd, yd)] from by rw [hxd, hyd]; exact shL_snoc hp.out)
              obtain ⟨A8, n8, c8, rfl, hn8, hc8, hl8, _⟩ := hown.out.out
              have hn8b := Lib.hid (show n8 ≤ 100 from by rw [← hl8.out, shL_len, List.length_take]; have := hi; omega)
              have EA := Lib.hid eA
              have C0 := Lib.hid q0
              have C1 := Lib.hid q1
              have O6 := hown
              have B6 := hbw
              clear eA q0 q1 hp hpd hxd hyd hown hbw hlt
              go_wp2_with fail
              refine GH.wp_ghl2 (M := false) 17 ((GH.SP.eq (.slice A8 n8 c8)) :: (GH.SP.eq (.slice A7 n7 c7)) :: (GH.SP.eq (.int .i64 (i : Nat))) :: (GH.SP.eq (.pointer (some ⟨ab, ao + i * 2, none⟩))) :: (GH.SP.eq (.pointer (some ⟨ab, ao + i * 2, none⟩))) :: (GH.SP.eq (.int .u64 (px : Nat))) :: (GH.SP.eq (.int .u64 (y0 : Nat))) :: (GH.SP.eq (.int .u64 (xd : Nat))) :: (GH.SP.eq (.slice A7 n7 c7)) :: (GH.SP.eq (.int .i64 (i : Nat))) :: (GH.SP.eq (.pointer (some ⟨ab, ao + i * 2, none⟩))) :: (GH.SP.eq (.pointer (some ⟨ab, ao + i * 2 + 1, none⟩))) :: (GH.SP.eq (.int .u64 (py : Nat))) :: (GH.SP.eq (.int .u64 (y0 : Nat))) :: (GH.SP.eq (.int .u64 (yd : Nat))) :: (GH.SP.eq (.agg #[.int .u64 (xd : Nat), .int .u64 (yd : Nat)])) :: (GH.SP.rd 2 1 ([.int .u64 (xd : Nat), .int .u64 (yd : Nat)])) :: []) (none :: none :: none :: none :: none :: none :: none :: none :: none :: none :: none :: none :: none :: none :: none :: none :: none :: none :: none :: none :: none :: none :: none :: none :: none :: none :: none :: none :: none :: none :: none :: none :: none :: none :: none :: none :: none :: none :: none :: none :: none :: none :: none :: none :: none :: none :: none :: none :: none :: none :: none :: none :: none :: none :: none :: none :: none :: none :: none :: none :: none :: none :: none :: none :: none :: none :: none :: none :: none :: none :: none :: none :: none :: none :: none :: none :: none :: none :: none :: none :: none :: none :: none :: none :: none :: none :: none :: (some 0) :: (some 1) :: (some 2) :: (some 3) :: (some 4) :: (some 5) :: (some 6) :: (some 7) :: (some 8) :: (some 9) :: (some 10) :: (some 11) :: (some 12) :: (some 13) :: (some 14) :: (some 15) :: (some 16) :: none :: none :: none :: none :: none :: none :: none :: none :: none :: none :: []) [87, 88, 89, 90, 91, 92, 93, 94, 95, 96, 97, 98, 99, 100, 101, 102, 103] (by rfl) (by kernel_rfl) (by kernel_rfl) ?_ ?_ ?_
              · intro S jx v hjx
                match jx, hjx with
                | 0, _ => rfl
                | 1, _ => rfl
                | 2, _ => rfl
                | 3, _ => rfl
                | 4, _ => rfl
                | 5, _ => rfl
                | 6, _ => rfl
                | 7, _ => rfl
                | 8, _ => rfl
                | 9, _ => rfl
                | 10, _ => rfl
                | 11, _ => rfl
                | 12, _ => rfl
                | 13, _ => rfl
                | 14, _ => rfl
                | 15, _ => rfl
                | 16, _ => rfl
                | nx + 17, hjx => omega
              · intro jx hjx S w' hb hd
                match jx, hjx, hd with
                | 0, _, hd =>
                  simp only [GH.mkL, List.getD_cons_succ, List.getD_cons_zero]
                  clear hd
                  refine GH.st_eq (by rfl) ?_
                  go_simp
                  (try with_reducible rfl)
                | 1, _, hd =>
                  simp only [GH.mkL, List.getD_cons_succ, List.getD_cons_zero]
                  clear hd
                  refine GH.st_eq (by rfl) ?_
                  go_simp
                  (try with_reducible rfl)
                | 2, _, hd =>
                  simp only [GH.mkL, List.getD_cons_succ, List.getD_cons_zero]
                  clear hd
                  refine GH.st_eq (by rfl) ?_
                  go_simp
                  (try with_reducible rfl)
                | 3, _, hd =>
                  simp only [GH.mkL, List.getD_cons_succ, List.getD_cons_zero]
                  have d1 : S 1 = .slice A7 n7 c7 := (hd 1 (by kernel_rfl)).2
                  rw [d1]
                  clear d1
                  have d2 : S 2 = .int .i64 (i : Nat) := (hd 2 (by kernel_rfl)).2
                  rw [d2]
                  clear d2
                  clear hd
                  refine GH.st_eq (by rfl) ?_
                  rw [EA.out]
                  go_simp
                  (try with_reducible rfl)
                | 4, _, hd =>
                  simp only [GH.mkL, List.getD_cons_succ, List.getD_cons_zero]
                  have d3 : S 3 = .pointer (some ⟨ab, ao + i * 2, none⟩) := (hd 3 (by kernel_rfl)).2
                  rw [d3]
                  clear d3
                  clear hd
                  refine GH.st_eq (by rfl) ?_
                  go_simp
                  (try with_reducible rfl)
                | 5, _, hd =>
                  simp only [GH.mkL, List.getD_cons_succ, List.getD_cons_zero]
                  have d4 : S 4 = .pointer (some ⟨ab, ao + i * 2, none⟩) := (hd 4 (by kernel_rfl)).2
                  rw [d4]
                  clear d4
                  clear hd
                  exact GH.st_load _ (by rfl) rfl rfl (hb.at_ hab C0.out) (by kernel_rfl)
                | 6, _, hd =>
                  simp only [GH.mkL, List.getD_cons_succ, List.getD_cons_zero]
                  clear hd
                  refine GH.st_eq (by rfl) ?_
                  go_simp
                  (try with_reducible rfl)
                | 7, _, hd =>
                  simp only [GH.mkL, List.getD_cons_succ, List.getD_cons_zero]
                  have d5 : S 5 = .int .u64 (px : Nat) := (hd 5 (by kernel_rfl)).2
                  rw [d5]
                  clear d5
                  have d6 : S 6 = .int .u64 (y0 : Nat) := (hd 6 (by kernel_rfl)).2
                  rw [d6]
                  clear d6
                  clear hd
                  refine GH.st_eq (by rfl) ?_
                  have hqd := HXD.out
                  go_simp
                  (try with_reducible rfl)
                | 8, _, hd =>
                  simp only [GH.mkL, List.getD_cons_succ, List.getD_cons_zero]
                  clear hd
                  refine GH.st_eq (by rfl) ?_
                  go_simp
                  (try with_reducible rfl)
                | 9, _, hd =>
                  simp only [GH.mkL, List.getD_cons_succ, List.getD_cons_zero]
                  clear hd
                  refine GH.st_eq (by rfl) ?_
                  go_simp
                  (try with_reducible rfl)
                | 10, _, hd =>
                  simp only [GH.mkL, List.getD_cons_succ, List.getD_cons_zero]
                  have d8 : S 8 = .slice A7 n7 c7 := (hd 8 (by kernel_rfl)).2
                  rw [d8]
                  clear d8
                  have d9 : S 9 = .int .i64 (i : Nat) := (hd 9 (by kernel_rfl)).2
                  rw [d9]
                  clear d9
                  clear hd
                  refine GH.st_eq (by rfl) ?_
                  rw [EA.out]
                  go_simp
                  (try with_reducible rfl)
                | 11, _, hd =>
                  simp only [GH.mkL, List.getD_cons_succ, List.getD_cons_zero]
                  have d10 : S 10 = .pointer (some ⟨ab, ao + i * 2, none⟩) := (hd 10 (by kernel_rfl)).2
                  rw [d10]
                  clear d10
                  clear hd
                  refine GH.st_eq (by rfl) ?_
                  go_simp
                  (try with_reducible rfl)
                | 12, _, hd =>
                  simp only [GH.mkL, List.getD_cons_succ, List.getD_cons_zero]
                  have d11 : S 11 = .pointer (some ⟨ab, ao + i * 2 + 1, none⟩) := (hd 11 (by kernel_rfl)).2
                  rw [d11]
                  clear d11
                  clear hd
                  exact GH.st_load _ (by rfl) rfl rfl (hb.at_ hab C1.out) (by kernel_rfl)
                | 13, _, hd =>
                  simp only [GH.mkL, List.getD_cons_succ, List.getD_cons_zero]
                  clear hd
                  refine GH.st_eq (by rfl) ?_
                  go_simp
                  (try with_reducible rfl)
                | 14, _, hd =>
                  simp only [GH.mkL, List.getD_cons_succ, List.getD_cons_zero]
                  have d12 : S 12 = .int .u64 (py : Nat) := (hd 12 (by kernel_rfl)).2
                  rw [d12]
                  clear d12
                  have d13 : S 13 = .int .u64 (y0 : Nat) := (hd 13 (by kernel_rfl)).2
                  rw [d13]
                  clear d13
                  clear hd
                  refine GH.st_eq (by rfl) ?_
                  have hqd := HYD.out
                  go_simp
                  (try with_reducible rfl)
                | 15, _, hd =>
                  simp only [GH.mkL, List.getD_cons_succ, List.getD_cons_zero]
                  have d7 : S 7 = .int .u64 (xd : Nat) := (hd 7 (by kernel_rfl)).2
                  rw [d7]
                  clear d7
                  have d14 : S 14 = .int .u64 (yd : Nat) := (hd 14 (by kernel_rfl)).2
                  rw [d14]
                  clear d14
                  clear hd
                  refine GH.st_eq (by rfl) ?_
                  go_simp
                  (try with_reducible rfl)
                | 16, _, hd =>
                  simp only [GH.mkL, List.getD_cons_succ, List.getD_cons_zero]
                  have d15 : S 15 = .agg #[.int .u64 (xd : Nat), .int .u64 (yd : Nat)] := (hd 15 (by kernel_rfl)).2
                  rw [d15]
                  clear d15
                  clear hd
                  refine ⟨fun K hK => ?_⟩
                  go_wp2_with fail
                  exact hK _ _ (GH.Gr.of ((Below.refl _ _).alloc (Nat.le_refl _) _) hb.below.size) (GH.rd_lit rfl rfl)
                | nx + 17, hjx, _ => omega
              intro S w' hb hG
              simp only [GH.mkL, List.drop_succ_cons, List.drop_zero]
              have d0 : S 0 = .slice A8 n8 c8 := hG 0 (by omega)
              rw [d0]
              clear d0
              obtain ⟨A16, c16, d16, e16, H16⟩ := hG 16 (by omega)
              rw [d16]
              clear d16
              replace H16 := Lib.hid H16
              clear hG
              have O7 := Lib.hid (O6.out.below hb.below)
              have B7 := Lib.hid (B6.out.trans (hb.below.mono B6.out.size))
              clear hb O6 B6 EA C0 C1 HXD HYD
              generalize w' = w6 at *
              go_wp2_with (at_builtin; refine app prfEl rfl (.tmp 87) (.tmp 103) rfl rfl (show w6.ownsRow w5.heap.size 85 2 (.slice A8 n8 c8) n8 (cels (shL y0 ((l.drop (midN l 0 t)).take i))) from by have h := O7.out; unfold Pcs at h; rwa [hl8.out] at h) rfl H16.out (by intro u hu; simp at hu; rcases hu with rfl | rfl <;> rfl) (room_ge (by have := hn8b.out; omega)) B7.out.size ?_)
              intro v8 w8 ho8 _ hb8
              have O8 := Lib.hid (show Pcs w8 85 w5.heap.size v8 (shL y0 ((l.drop (midN l 0 t)).take (i + 1))) from by
                unfold Pcs
                rw [HSN.out, List.length_append, hl8.out, cels_append]
                exact ho8)
              have B8 := Lib.hid (B7.out.trans hb8)
              clear O7 B7 ho8 hb8 H16 HSN
              go_wp2_with fail
              go_roundw
              case rel => exact ⟨i + 1, by have := HLT.out; omega, by go_num, O8, B8⟩
              case measure => have := HLT.out; simp [intOf]; omega
            · obtain rfl : n7 = i := by omega
              have hall : (l.drop (midN l 0 t)).take n7 = (l.drop (midN l 0 t)) := List.take_of_length_le (by rw [HRW.out.pcLen]; exact Nat.le_refl _)
              rw [hall] at hown
              have OW := hown
              obtain ⟨A8, n8, c8, rfl, hn8, hc8, hl8, hr8⟩ := OW.out.out
              replace KX := Lib.hid (KX.out.below hbw.out KX.out.lt)
              replace KR := Lib.hid (KR.out.below hbw.out KR.out.lt)
              replace BT := Lib.hid (BT.out.trans (hbw.out.mono BT.out.size))
              clear hown hall hlt hi hbw
              have hpl : (W + (y0 : Nat)) % 4294967296 = pl W y0 := rfl
              have hW0 : W % 4294967296 = W := by have := HU.out; unfold U32 at this; omega
              obtain ⟨x0, x1, x2⟩ := ptc3 KX.out
              obtain ⟨q0, q1, q2⟩ := ptc3 KR.out
              have fq0 := KR.out.frozen 0
              have fq1 := KR.out.frozen 1
              have fq2 := KR.out.frozen 2
              go_wp2_with fail
              have hO3 := own_set (i := 2) (u := .slice A8 n8 c8) (own_set (i := 1) (u := .int .i64 (most : Int)) (own_set (i := 0) (u := .int .u32 (pl W y0)) OW.out KR.out (by decide)) (KR.out.set 0 _) (by decide)) ((KR.out.set 0 _).set 1 _) (by decide)
              have hkz := Lib.hid (((KR.out.set 0 (.int .u32 (pl W y0))).set 1 (.int .i64 (most : Int))).set 2 (.slice A8 n8 c8))
              have hbz : Below w.heap.size w (((wr.setCell ⟨w.heap.size + 1, 0, none⟩ (.int .u32 (pl W y0))).setCell ⟨w.heap.size + 1, 1, none⟩ (.int .i64 (most : Int))).setCell ⟨w.heap.size + 1, 2, none⟩ (.slice A8 n8 c8)) := ((BT.out.setCell (p := ⟨w.heap.size + 1, 0, none⟩) (Nat.le_succ _) _).setCell (p := ⟨w.heap.size + 1, 1, none⟩) (Nat.le_succ _) _).setCell (p := ⟨w.heap.size + 1, 2, none⟩) (Nat.le_succ _) _
              obtain ⟨z0, z1, z2⟩ := ptc3 hkz.out
              exact bodyPost_ret (v := .tuple #[.agg #[.int .u32 (pl W y0), .int .i64 (most : Int), .slice A8 n8 c8], .bool true]) (by simp [results, Try.results17, go_sem, z0, z1, z2]) rfl ⟨by rw [HE.out]; exact ⟨A8, n8, c8, rfl, (by obtain ⟨A9, c9, e9, _, _, hr9⟩ := own_form hO3; injection e9 with i1 i2 i3; subst i1 i3; rw [← i2] at hr9; exact hr9), fun a ha => .inr (Nat.le_trans HW5.out (World.ownsRow.lt hO3 a.block (by rw [ha]; rfl)).1)⟩, hbz⟩

        · have HJ0 := Lib.hid (show (joinX l 0 t).1 ≠ 0 from fun h => he0 (HHD.out.1.2 h))
          have he0' : ((e0 : Int) == 0) = false := by simp; omega
          by_cases hful : (most : Int) < (n5 : Int)
          · have ep := putB_full (l := l) (most := most) (f := 0) (t := t) (j1 := (joinX l 0 t).1) (j2 := (joinX l 0 t).2) rfl HJ0.out (by rw [HL5.out]; omega)
            rw [ep] at HE
            have hfulN : most < n5 := by omega
            clear ep
            go_wp2_with fail
            have hkz := Lib.hid (((KR.out.set 0 (.int .u32 W)).set 1 (.int .i64 (most : Int))).set 2 (.slice A n c))
            have hbz : Below w.heap.size w (((w5.setCell ⟨w.heap.size + 1, 0, none⟩ (.int .u32 W)).setCell ⟨w.heap.size + 1, 1, none⟩ (.int .i64 (most : Int))).setCell ⟨w.heap.size + 1, 2, none⟩ (.slice A n c)) := ((BT.out.setCell (p := ⟨w.heap.size + 1, 0, none⟩) (Nat.le_succ _) _).setCell (p := ⟨w.heap.size + 1, 1, none⟩) (Nat.le_succ _) _).setCell (p := ⟨w.heap.size + 1, 2, none⟩) (Nat.le_succ _) _
            obtain ⟨z0, z1, z2⟩ := ptc3 hkz.out
            exact bodyPost_ret (v := .tuple #[.agg #[.int .u32 W, .int .i64 (most : Int), .slice A n c], .bool false]) (by simp [results, Try.results17, go_sem, z0, z1, z2]) rfl ⟨SAME.out false _ HE.out hbz, hbz⟩

          · have ep := putB_add (l := l) (most := most) (f := 0) (t := t) (j1 := (joinX l 0 t).1) (j2 := (joinX l 0 t).2) rfl HJ0.out (by rw [HL5.out]; omega)
            rw [ep] at HE
            have HDL : Hid (∀ p ∈ addL l 0 t, 0 ≤ p.1 ∧ p.1 ≤ p.2 ∧ p.2 ≤ 1048576) := Lib.hid fun p hp => by
              have h1 := HPO.out.1
              rw [ep] at h1
              obtain ⟨i, hi⟩ := List.getElem?_of_mem hp
              have h2 := h1.at_ hi
              omega
            have HRW := HR5
            have hfulN : ¬ most < n5 := by omega
            clear ep
            go_wp2_with fail
            clear q0 q1
            clear x0 x1 x2 q0 q1 q2 fq0 fq1 fq2
            go_loopw [12, 13] (fun ov iv wr => ∃ i : Nat, i ≤ n5 ∧ iv = .int .i64 (i : Nat) ∧ Hid (Pcs wr 85 w5.heap.size ov (shL 0 ((addL l 0 t).take i))) ∧ Hid (Below w5.heap.size w5 wr)) (fun _ iv _ => n5 - (intOf iv).toNat)
            case atStart => exact ⟨0, Nat.zero_le _, rfl, Lib.hid (Pcs.nil _ _ _), Lib.hid (Below.refl _ _)⟩
            case round =>
              obtain ⟨i, hi, rfl, hown, hbw⟩ := hrel
              by_cases hlt : i < n5
              · have HLT := Lib.hid hlt
                have hlt' : (i : Int) < (n5 : Int) := by omega
                obtain ⟨ab2, ao2, px, py, eA, hab, q0, q1, hp⟩ := (HRW.out.into hbw.out).pc hlt
                injection eA with eA
                injection eA with eA1 eA2
                subst eA1 eA2
                have eA := trivial
                have hpd := HDL.out _ (List.mem_of_getElem? hp.out)
                dsimp only at hpd
                obtain ⟨xd, hxd⟩ : ∃ xd, xd = px - 0 := ⟨_, rfl⟩
                obtain ⟨yd, hyd⟩ : ∃ yd, yd = py - 0 := ⟨_, rfl⟩
                have HXD := Lib.hid (show IntKind.u64.wrap ((px : Int)) = ((xd : Nat) : Int) from by rw [hxd]; exact wrap_u64_lt (by unfold pmax; omega))
                have HYD := Lib.hid (show IntKind.u64.wrap ((py : Int)) = ((yd : Nat) : Int) from by rw [hyd]; exact wrap_u64_lt (by unfold pmax; omega))
                have HSN := Lib.hid (show shL 0 ((addL l 0 t).take (i + 1)) = shL 0 ((addL l 0 t).take i) ++ [(xd, yd)] from by rw [hxd, hyd]; exact shL_snoc hp.out)
                obtain ⟨A8, n8, c8, rfl, hn8, hc8, hl8, _⟩ := hown.out.out
                have hn8b := Lib.hid (show n8 ≤ 100 from by rw [← hl8.out, shL_len, List.length_take]; have := hi; omega)
                have EA := Lib.hid eA
                have C0 := Lib.hid q0
                have C1 := Lib.hid q1
                have O6 := hown
                have B6 := hbw
                clear eA q0 q1 hp hpd hxd hyd hown hbw hlt
                go_wp2_with fail
                refine GH.wp_ghl2 (M := false) 17 ((GH.SP.eq (.slice A8 n8 c8)) :: (GH.SP.eq (.slice (some ⟨ab, ao, none⟩) n5 c5)) :: (GH.SP.eq (.int .i64 (i : Nat))) :: (GH.SP.eq (.pointer (some ⟨ab, ao + i * 2, none⟩))) :: (GH.SP.eq (.pointer (some ⟨ab, ao + i * 2, none⟩))) :: (GH.SP.eq (.int .u64 (px : Nat))) :: (GH.SP.eq (.int .u64 0)) :: (GH.SP.eq (.int .u64 (xd : Nat))) :: (GH.SP.eq (.slice (some ⟨ab, ao, none⟩) n5 c5)) :: (GH.SP.eq (.int .i64 (i : Nat))) :: (GH.SP.eq (.pointer (some ⟨ab, ao + i * 2, none⟩))) :: (GH.SP.eq (.pointer (some ⟨ab, ao + i * 2 + 1, none⟩))) :: (GH.SP.eq (.int .u64 (py : Nat))) :: (GH.SP.eq (.int .u64 0)) :: (GH.SP.eq (.int .u64 (yd : Nat))) :: (GH.SP.eq (.agg #[.int .u64 (xd : Nat), .int .u64 (yd : Nat)])) :: (GH.SP.rd 2 1 ([.int .u64 (xd : Nat), .int .u64 (yd : Nat)])) :: []) (none :: none :: none :: none :: none :: none :: none :: none :: none :: none :: none :: none :: none :: none :: none :: none :: none :: none :: none :: none :: none :: none :: none :: none :: none :: none :: none :: none :: none :: none :: none :: none :: none :: none :: none :: none :: none :: none :: none :: none :: none :: none :: none :: none :: none :: none :: none :: none :: none :: none :: none :: none :: none :: none :: none :: none :: none :: none :: none :: none :: none :: none :: none :: none :: none :: none :: none :: none :: none :: none :: none :: none :: none :: none :: none :: none :: none :: none :: none :: none :: none :: none :: none :: none :: none :: none :: none :: (some 0) :: (some 1) :: (some 2) :: (some 3) :: (some 4) :: (some 5) :: (some 6) :: (some 7) :: (some 8) :: (some 9) :: (some 10) :: (some 11) :: (some 12) :: (some 13) :: (some 14) :: (some 15) :: (some 16) :: none :: none :: none :: none :: none :: none :: none :: none :: none :: none :: []) [87, 88, 89, 90, 91, 92, 93, 94, 95, 96, 97, 98, 99, 100, 101, 102, 103] (by rfl) (by kernel_rfl) (by kernel_rfl) ?_ ?_ ?_
                · intro S jx v hjx
                  match jx, hjx with
                  | 0, _ => rfl
                  | 1, _ => rfl
                  | 2, _ => rfl
                  | 3, _ => rfl
                  | 4, _ => rfl
                  | 5, _ => rfl
                  | 6, _ => rfl
                  | 7, _ => rfl
                  | 8, _ => rfl
                  | 9, _ => rfl
                  | 10, _ => rfl
                  | 11, _ => rfl
                  | 12, _ => rfl
                  | 13, _ => rfl
                  | 14, _ => rfl
                  | 15, _ => rfl
                  | 16, _ => rfl
                  | nx + 17, hjx => omega
                · intro jx hjx S w' hb hd
                  match jx, hjx, hd with
                  | 0, _, hd =>
                    simp only [GH.mkL, List.getD_cons_succ, List.getD_cons_zero]
                    clear hd
                    refine GH.st_eq (by rfl) ?_
                    go_simp
                    (try with_reducible rfl)
                  | 1, _, hd =>
                    simp only [GH.mkL, List.getD_cons_succ, List.getD_cons_zero]
                    clear hd
                    refine GH.st_eq (by rfl) ?_
                    go_simp
                    (try with_reducible rfl)
                  | 2, _, hd =>
                    simp only [GH.mkL, List.getD_cons_succ, List.getD_cons_zero]
                    clear hd
                    refine GH.st_eq (by rfl) ?_
                    go_simp
                    (try with_reducible rfl)
                  | 3, _, hd =>
                    simp only [GH.mkL, List.getD_cons_succ, List.getD_cons_zero]
                    have d1 : S 1 = .slice (some ⟨ab, ao, none⟩) n5 c5 := (hd 1 (by kernel_rfl)).2
                    rw [d1]
                    clear d1
                    have d2 : S 2 = .int .i64 (i : Nat) := (hd 2 (by kernel_rfl)).2
                    rw [d2]
                    clear d2
                    clear hd
                    refine GH.st_eq (by rfl) ?_
                    go_simp
                    (try with_reducible rfl)
                  | 4, _, hd =>
                    simp only [GH.mkL, List.getD_cons_succ, List.getD_cons_zero]
                    have d3 : S 3 = .pointer (some ⟨ab, ao + i * 2, none⟩) := (hd 3 (by kernel_rfl)).2
                    rw [d3]
                    clear d3
                    clear hd
                    refine GH.st_eq (by rfl) ?_
                    go_simp
                    (try with_reducible rfl)
                  | 5, _, hd =>
                    simp only [GH.mkL, List.getD_cons_succ, List.getD_cons_zero]
                    have d4 : S 4 = .pointer (some ⟨ab, ao + i * 2, none⟩) := (hd 4 (by kernel_rfl)).2
                    rw [d4]
                    clear d4
                    clear hd
                    exact GH.st_load _ (by rfl) rfl rfl (hb.at_ hab C0.out) (by kernel_rfl)
                  | 6, _, hd =>
                    simp only [GH.mkL, List.getD_cons_succ, List.getD_cons_zero]
                    clear hd
                    refine GH.st_eq (by rfl) ?_
                    go_simp
                    (try with_reducible rfl)
                  | 7, _, hd =>
                    simp only [GH.mkL, List.getD_cons_succ, List.getD_cons_zero]
                    have d5 : S 5 = .int .u64 (px : Nat) := (hd 5 (by kernel_rfl)).2
                    rw [d5]
                    clear d5
                    have d6 : S 6 = .int .u64 0 := (hd 6 (by kernel_rfl)).2
                    rw [d6]
                    clear d6
                    clear hd
                    refine GH.st_eq (by rfl) ?_
                    have hqd := HXD.out
                    go_simp
                    (try with_reducible rfl)
                  | 8, _, hd =>
                    simp only [GH.mkL, List.getD_cons_succ, List.getD_cons_zero]
                    clear hd
                    refine GH.st_eq (by rfl) ?_
                    go_simp
                    (try with_reducible rfl)
                  | 9, _, hd =>
                    simp only [GH.mkL, List.getD_cons_succ, List.getD_cons_zero]
                    clear hd
                    refine GH.st_eq (by rfl) ?_
                    go_simp
                    (try with_reducible rfl)
                  | 10, _, hd =>
                    simp only [GH.mkL, List.getD_cons_succ, List.getD_cons_zero]
                    have d8 : S 8 = .slice (some ⟨ab, ao, none⟩) n5 c5 := (hd 8 (by kernel_rfl)).2
                    rw [d8]
                    clear d8
                    have d9 : S 9 = .int .i64 (i : Nat) := (hd 9 (by kernel_rfl)).2
                    rw [d9]
                    clear d9
                    clear hd
                    refine GH.st_eq (by rfl) ?_
                    go_simp
                    (try with_reducible rfl)
                  | 11, _, hd =>
                    simp only [GH.mkL, List.getD_cons_succ, List.getD_cons_zero]
                    have d10 : S 10 = .pointer (some ⟨ab, ao + i * 2, none⟩) := (hd 10 (by kernel_rfl)).2
                    rw [d10]
                    clear d10
                    clear hd
                    refine GH.st_eq (by rfl) ?_
                    go_simp
                    (try with_reducible rfl)
                  | 12, _, hd =>
                    simp only [GH.mkL, List.getD_cons_succ, List.getD_cons_zero]
                    have d11 : S 11 = .pointer (some ⟨ab, ao + i * 2 + 1, none⟩) := (hd 11 (by kernel_rfl)).2
                    rw [d11]
                    clear d11
                    clear hd
                    exact GH.st_load _ (by rfl) rfl rfl (hb.at_ hab C1.out) (by kernel_rfl)
                  | 13, _, hd =>
                    simp only [GH.mkL, List.getD_cons_succ, List.getD_cons_zero]
                    clear hd
                    refine GH.st_eq (by rfl) ?_
                    go_simp
                    (try with_reducible rfl)
                  | 14, _, hd =>
                    simp only [GH.mkL, List.getD_cons_succ, List.getD_cons_zero]
                    have d12 : S 12 = .int .u64 (py : Nat) := (hd 12 (by kernel_rfl)).2
                    rw [d12]
                    clear d12
                    have d13 : S 13 = .int .u64 0 := (hd 13 (by kernel_rfl)).2
                    rw [d13]
                    clear d13
                    clear hd
                    refine GH.st_eq (by rfl) ?_
                    have hqd := HYD.out
                    go_simp
                    (try with_reducible rfl)
                  | 15, _, hd =>
                    simp only [GH.mkL, List.getD_cons_succ, List.getD_cons_zero]
                    have d7 : S 7 = .int .u64 (xd : Nat) := (hd 7 (by kernel_rfl)).2
                    rw [d7]
                    clear d7
                    have d14 : S 14 = .int .u64 (yd : Nat) := (hd 14 (by kernel_rfl)).2
                    rw [d14]
                    clear d14
                    clear hd
                    refine GH.st_eq (by rfl) ?_
                    go_simp
                    (try with_reducible rfl)
                  | 16, _, hd =>
                    simp only [GH.mkL, List.getD_cons_succ, List.getD_cons_zero]
                    have d15 : S 15 = .agg #[.int .u64 (xd : Nat), .int .u64 (yd : Nat)] := (hd 15 (by kernel_rfl)).2
                    rw [d15]
                    clear d15
                    clear hd
                    refine ⟨fun K hK => ?_⟩
                    go_wp2_with fail
                    exact hK _ _ (GH.Gr.of ((Below.refl _ _).alloc (Nat.le_refl _) _) hb.below.size) (GH.rd_lit rfl rfl)
                  | nx + 17, hjx, _ => omega
                intro S w' hb hG
                simp only [GH.mkL, List.drop_succ_cons, List.drop_zero]
                have d0 : S 0 = .slice A8 n8 c8 := hG 0 (by omega)
                rw [d0]
                clear d0
                obtain ⟨A16, c16, d16, e16, H16⟩ := hG 16 (by omega)
                rw [d16]
                clear d16
                replace H16 := Lib.hid H16
                clear hG
                have O7 := Lib.hid (O6.out.below hb.below)
                have B7 := Lib.hid (B6.out.trans (hb.below.mono B6.out.size))
                clear hb O6 B6 EA C0 C1 HXD HYD
                generalize w' = w6 at *
                go_wp2_with (at_builtin; refine app prfEl rfl (.tmp 87) (.tmp 103) rfl rfl (show w6.ownsRow w5.heap.size 85 2 (.slice A8 n8 c8) n8 (cels (shL 0 ((addL l 0 t).take i))) from by have h := O7.out; unfold Pcs at h; rwa [hl8.out] at h) rfl H16.out (by intro u hu; simp at hu; rcases hu with rfl | rfl <;> rfl) (room_ge (by have := hn8b.out; omega)) B7.out.size ?_)
                intro v8 w8 ho8 _ hb8
                have O8 := Lib.hid (show Pcs w8 85 w5.heap.size v8 (shL 0 ((addL l 0 t).take (i + 1))) from by
                  unfold Pcs
                  rw [HSN.out, List.length_append, hl8.out, cels_append]
                  exact ho8)
                have B8 := Lib.hid (B7.out.trans hb8)
                clear O7 B7 ho8 hb8 H16 HSN
                go_wp2_with fail
                go_roundw
                case rel => exact ⟨i + 1, by have := HLT.out; omega, by go_num, O8, B8⟩
                case measure => have := HLT.out; simp [intOf]; omega
              · obtain rfl : n5 = i := by omega
                have hall : (addL l 0 t).take n5 = (addL l 0 t) := List.take_of_length_le (by rw [HRW.out.pcLen]; exact Nat.le_refl _)
                rw [hall] at hown
                have OW := hown
                obtain ⟨A8, n8, c8, rfl, hn8, hc8, hl8, hr8⟩ := OW.out.out
                replace KX := Lib.hid (KX.out.below hbw.out KX.out.lt)
                replace KR := Lib.hid (KR.out.below hbw.out KR.out.lt)
                replace BT := Lib.hid (BT.out.trans (hbw.out.mono BT.out.size))
                clear hown hall hlt hi hbw
                have hpl : (W + (0 : Nat)) % 4294967296 = pl W 0 := rfl
                have hW0 : W % 4294967296 = W := by have := HU.out; unfold U32 at this; omega
                obtain ⟨x0, x1, x2⟩ := ptc3 KX.out
                obtain ⟨q0, q1, q2⟩ := ptc3 KR.out
                have fq0 := KR.out.frozen 0
                have fq1 := KR.out.frozen 1
                have fq2 := KR.out.frozen 2
                go_wp2_with fail
                have hO3 := own_set (i := 2) (u := .slice A8 n8 c8) (own_set (i := 1) (u := .int .i64 (most : Int)) (own_set (i := 0) (u := .int .u32 W) OW.out KR.out (by decide)) (KR.out.set 0 _) (by decide)) ((KR.out.set 0 _).set 1 _) (by decide)
                have hkz := Lib.hid (((KR.out.set 0 (.int .u32 W)).set 1 (.int .i64 (most : Int))).set 2 (.slice A8 n8 c8))
                have hbz : Below w.heap.size w (((wr.setCell ⟨w.heap.size + 1, 0, none⟩ (.int .u32 W)).setCell ⟨w.heap.size + 1, 1, none⟩ (.int .i64 (most : Int))).setCell ⟨w.heap.size + 1, 2, none⟩ (.slice A8 n8 c8)) := ((BT.out.setCell (p := ⟨w.heap.size + 1, 0, none⟩) (Nat.le_succ _) _).setCell (p := ⟨w.heap.size + 1, 1, none⟩) (Nat.le_succ _) _).setCell (p := ⟨w.heap.size + 1, 2, none⟩) (Nat.le_succ _) _
                obtain ⟨z0, z1, z2⟩ := ptc3 hkz.out
                exact bodyPost_ret (v := .tuple #[.agg #[.int .u32 W, .int .i64 (most : Int), .slice A8 n8 c8], .bool true]) (by simp [results, Try.results17, go_sem, z0, z1, z2]) rfl ⟨by rw [HE.out]; exact ⟨A8, n8, c8, by rw [pl_zero HU.out], (by obtain ⟨A9, c9, e9, _, _, hr9⟩ := own_form hO3; injection e9 with i1 i2 i3; subst i1 i3; rw [← i2] at hr9; rw [shL_zero] at hr9; exact hr9), fun a ha => .inr (Nat.le_trans HW5.out (World.ownsRow.lt hO3 a.block (by rw [ha]; rfl)).1)⟩, hbz⟩


    · obtain ⟨f, rfl⟩ : ∃ f : Nat, s = (f : Int) := ⟨s.toNat, by omega⟩
      have hft : f < t := by have := HSUM.out; omega
      by_cases htb : (1048576 : Int) < (t : Int)
      · have HE := Lib.hid (HC.out.trans (if_pos (by have := HSUM.out; omega)))
        by_cases hfb : (1048576 : Int) < (f : Int)
        · go_wp2_with fail
          have hkz := Lib.hid (((KR.out.set 0 (.int .u32 W)).set 1 (.int .i64 (most : Int))).set 2 (.slice A n c))
          have hbz : Below w.heap.size w (((w4.setCell ⟨w.heap.size + 1, 0, none⟩ (.int .u32 W)).setCell ⟨w.heap.size + 1, 1, none⟩ (.int .i64 (most : Int))).setCell ⟨w.heap.size + 1, 2, none⟩ (.slice A n c)) := ((BT.out.setCell (p := ⟨w.heap.size + 1, 0, none⟩) (Nat.le_succ _) _).setCell (p := ⟨w.heap.size + 1, 1, none⟩) (Nat.le_succ _) _).setCell (p := ⟨w.heap.size + 1, 2, none⟩) (Nat.le_succ _) _
          obtain ⟨z0, z1, z2⟩ := ptc3 hkz.out
          exact bodyPost_ret (v := .tuple #[.agg #[.int .u32 W, .int .i64 (most : Int), .slice A n c], .bool false]) (by simp [results, Try.results17, go_sem, z0, z1, z2]) rfl ⟨SAME.out false _ HE.out hbz, hbz⟩

        · go_wp2_with fail
          have hkz := Lib.hid (((KR.out.set 0 (.int .u32 W)).set 1 (.int .i64 (most : Int))).set 2 (.slice A n c))
          have hbz : Below w.heap.size w (((w4.setCell ⟨w.heap.size + 1, 0, none⟩ (.int .u32 W)).setCell ⟨w.heap.size + 1, 1, none⟩ (.int .i64 (most : Int))).setCell ⟨w.heap.size + 1, 2, none⟩ (.slice A n c)) := ((BT.out.setCell (p := ⟨w.heap.size + 1, 0, none⟩) (Nat.le_succ _) _).setCell (p := ⟨w.heap.size + 1, 1, none⟩) (Nat.le_succ _) _).setCell (p := ⟨w.heap.size + 1, 2, none⟩) (Nat.le_succ _) _
          obtain ⟨z0, z1, z2⟩ := ptc3 hkz.out
          exact bodyPost_ret (v := .tuple #[.agg #[.int .u32 W, .int .i64 (most : Int), .slice A n c], .bool false]) (by simp [results, Try.results17, go_sem, z0, z1, z2]) rfl ⟨SAME.out false _ HE.out hbz, hbz⟩

      · have hfb : ¬ (1048576 : Int) < (f : Int) := by omega
        have HE := Lib.hid (HC.out.trans (if_neg (by have := HSUM.out; omega)))
        rw [show (max (f : Int) 0).toNat = f by omega, show ((f : Int) + many).toNat = t by have := HSUM.out; omega] at HE
        clear HC
        have ht20 : t ≤ 1048576 := by omega
        have HFT := Lib.hid (show f < t from hft)
        have HPO := Lib.hid (putB_ok (most := most) HOK.out HLE.out hft ht20)
        have hal := addL_len2 l f t
        have hml := midN_le l f t
        have hjl := joinX_le HOK.out hft ht20
        have HJL := Lib.hid hjl
        have hwf : IntKind.u64.wrap ((f : Nat) : Int) = ((f : Nat) : Int) := wrap_u64_lt (by unfold pmax; omega)
        have hwt : IntKind.u64.wrap (t : Int) = (t : Int) := wrap_u64_lt (by unfold pmax; omega)
        go_wp2_with fail
        refine (join_any A n c w4.heap.size l f t w4 (HR.out.into BT.out) (Nat.le_refl _) HOK.out.rise hft (by omega)).mono ?_
        rintro e w5 ⟨v5, rfl, hv5, hb5⟩
        obtain ⟨A5, n5, c5, rfl, hn5c, hc5m, hl5, hr5⟩ := hv5.out
        have hn5 : 0 < n5 := by have := hl5.out; omega
        have hn5b : n5 ≤ 70 := by have := hl5.out; have := HNL.out; omega
        obtain ⟨ab, ao, e0, y0, eA, hab, q0, q1, hp⟩ := hr5.out.pc hn5
        simp only [Nat.zero_mul, Nat.add_zero] at q0 q1
        have hhd := addL_head HOK.out hft hp.out
        have HHD := Lib.hid hhd
        have hmem := HPO.out
        replace KX := Lib.hid (KX.out.below hb5 KX.out.lt)
        replace KR := Lib.hid (KR.out.below hb5 KR.out.lt)
        replace BT := Lib.hid (BT.out.trans (hb5.mono BT.out.size))
        have HW5 := Lib.hid BT.out.size
        have HAL := Lib.hid hal
        have HML := Lib.hid hml
        have HR5 := hr5
        have HL5 := hl5
        subst eA
        clear hv5 hb5 hp hhd hmem hwf hwt hal hml hjl
        obtain ⟨x0, x1, x2⟩ := ptc3 KX.out
        obtain ⟨q0, q1, q2⟩ := ptc3 KR.out
        have fq0 := KR.out.frozen 0
        have fq1 := KR.out.frozen 1
        have fq2 := KR.out.frozen 2
        by_cases he0 : e0 = 0
        · have HJ0 := Lib.hid (HHD.out.1.1 he0)
          obtain ⟨hy0, hdr⟩ := HHD.out.2 he0
          have HY0 := Lib.hid hy0
          have HDR := Lib.hid hdr
          have ep := putB_zero (l := l) (most := most) (f := f) (t := t) (j1 := (joinX l f t).1) (j2 := (joinX l f t).2) rfl HJ0.out
          rw [← hy0] at ep
          rw [ep] at HE
          have HDL : Hid (∀ p ∈ l.drop (midN l f t), y0 ≤ p.1 ∧ p.1 ≤ p.2 ∧ p.2 ≤ 1048576) := Lib.hid fun p hp => by
            have h1 := post_gt (l := l) (f := f) (t := t) HOK.out p (by rw [joinX_zero HOK.out HFT.out HJ0.out, Nat.zero_add]; exact hp)
            obtain ⟨i, hi⟩ := List.getElem?_of_mem (List.mem_of_mem_drop hp)
            have h2 := HOK.out.at_ hi
            rw [← HY0.out] at h1
            omega
          subst he0
          obtain ⟨n7, hn7⟩ : ∃ n7, n7 = n5 - 1 := ⟨_, rfl⟩
          obtain ⟨c7, hc7⟩ : ∃ c7, c7 = c5 - 1 := ⟨_, rfl⟩
          have HUT := Lib.hid (show Try.prog.underlying 46 = some (.slice (Try.prog.elem 46)) by unfold Program.elem; rw [Try.underlying46])
          have hs3 : ∀ w, (Instr.slice 46 (.slice (some ⟨ab, ao, none⟩) n5 c5) (some (.int .i64 1)) none none).run Try.prog w = .ok (.slice (cutA (some ⟨ab, ao, none⟩) c5 1 2) n7 c7) w := fun w => by
            have := run_cut_l prfEl (some ⟨ab, ao, none⟩) n5 c5 1 (by omega) w
            rw [← hn7, ← hc7] at this
            exact this
          have hs4 : ∀ w, (Instr.sliceAt 46 (.slice (some ⟨ab, ao, none⟩) n5 c5) (some (.int .i64 1)) none none).run Try.prog w = .ok (.slice (cutA (some ⟨ab, ao, none⟩) c5 1 2) n7 c7) w := fun w => (run_sliceAt_slice w _ _ _ _ _ HUT.out).trans (hs3 w)
          have hrZ := HR5.out.drop (k := 1) (cap := c5) (by omega) (by omega)
          rw [cels_drop1, HDR.out, ← hn7] at hrZ
          have HRW := Lib.hid (show Rd w5 w5.heap.size 2 (cutA (some ⟨ab, ao, none⟩) c5 1 2) n7 (cels (l.drop (midN l f t))) from hrZ)
          generalize cutA (some ⟨ab, ao, none⟩) c5 1 2 = A7 at *
          have hn7m : n7 ≤ most := by have := HRW.out.pcLen; rw [List.length_drop] at this; have := HLE.out; omega
          have hn7m' : ¬ (most : Int) < (n7 : Int) := by omega
          have hn7N : ¬ most < n7 := by omega
          have hn7b : n7 ≤ 70 := by omega
          clear hrZ hn7 hc7 hy0 hdr ep
          go_wp2_with fail
          clear q0 q1 hs3 hs4
          clear x0 x1 x2 q0 q1 q2 fq0 fq1 fq2
          go_loopw [12, 13] (fun ov iv wr => ∃ i : Nat, i ≤ n7 ∧ iv = .int .i64 (i : Nat) ∧ Hid (Pcs wr 85 w5.heap.size ov (shL y0 ((l.drop (midN l f t)).take i))) ∧ Hid (Below w5.heap.size w5 wr)) (fun _ iv _ => n7 - (intOf iv).toNat)
          case atStart => exact ⟨0, Nat.zero_le _, rfl, Lib.hid (Pcs.nil _ _ _), Lib.hid (Below.refl _ _)⟩
          case round =>
            obtain ⟨i, hi, rfl, hown, hbw⟩ := hrel
            by_cases hlt : i < n7
            · have HLT := Lib.hid hlt
              have hlt' : (i : Int) < (n7 : Int) := by omega
              obtain ⟨ab, ao, px, py, eA, hab, q0, q1, hp⟩ := (HRW.out.into hbw.out).pc hlt
              have hpd := HDL.out _ (List.mem_of_getElem? hp.out)
              dsimp only at hpd
              obtain ⟨xd, hxd⟩ : ∃ xd, xd = px - y0 := ⟨_, rfl⟩
              obtain ⟨yd, hyd⟩ : ∃ yd, yd = py - y0 := ⟨_, rfl⟩
              have HXD := Lib.hid (show IntKind.u64.wrap ((px : Int) - (y0 : Nat)) = ((xd : Nat) : Int) from by rw [hxd]; exact wrap_u64_sub (by omega) (by unfold pmax; omega))
              have HYD := Lib.hid (show IntKind.u64.wrap ((py : Int) - (y0 : Nat)) = ((yd : Nat) : Int) from by rw [hyd]; exact wrap_u64_sub (by omega) (by unfold pmax; omega))
              have HSN := Lib.hid (show shL y0 ((l.drop (midN l f t)).take (i + 1)) = shL y0 ((l.drop (midN l f t)).take i) ++ [(xd, yd)] from by rw [hxd, hyd]; exact shL_snoc hp.out)
              obtain ⟨A8, n8, c8, rfl, hn8, hc8, hl8, _⟩ := hown.out.out
              have hn8b := Lib.hid (show n8 ≤ 100 from by rw [← hl8.out, shL_len, List.length_take]; have := hi; omega)
              have EA := Lib.hid eA
              have C0 := Lib.hid q0
              have C1 := Lib.hid q1
              have O6 := hown
              have B6 := hbw
              clear eA q0 q1 hp hpd hxd hyd hown hbw hlt
              go_wp2_with fail
              refine GH.wp_ghl2 (M := false) 17 ((GH.SP.eq (.slice A8 n8 c8)) :: (GH.SP.eq (.slice A7 n7 c7)) :: (GH.SP.eq (.int .i64 (i : Nat))) :: (GH.SP.eq (.pointer (some ⟨ab, ao + i * 2, none⟩))) :: (GH.SP.eq (.pointer (some ⟨ab, ao + i * 2, none⟩))) :: (GH.SP.eq (.int .u64 (px : Nat))) :: (GH.SP.eq (.int .u64 (y0 : Nat))) :: (GH.SP.eq (.int .u64 (xd : Nat))) :: (GH.SP.eq (.slice A7 n7 c7)) :: (GH.SP.eq (.int .i64 (i : Nat))) :: (GH.SP.eq (.pointer (some ⟨ab, ao + i * 2, none⟩))) :: (GH.SP.eq (.pointer (some ⟨ab, ao + i * 2 + 1, none⟩))) :: (GH.SP.eq (.int .u64 (py : Nat))) :: (GH.SP.eq (.int .u64 (y0 : Nat))) :: (GH.SP.eq (.int .u64 (yd : Nat))) :: (GH.SP.eq (.agg #[.int .u64 (xd : Nat), .int .u64 (yd : Nat)])) :: (GH.SP.rd 2 1 ([.int .u64 (xd : Nat), .int .u64 (yd : Nat)])) :: []) (none :: none :: none :: none :: none :: none :: none :: none :: none :: none :: none :: none :: none :: none :: none :: none :: none :: none :: none :: none :: none :: none :: none :: none :: none :: none :: none :: none :: none :: none :: none :: none :: none :: none :: none :: none :: none :: none :: none :: none :: none :: none :: none :: none :: none :: none :: none :: none :: none :: none :: none :: none :: none :: none :: none :: none :: none :: none :: none :: none :: none :: none :: none :: none :: none :: none :: none :: none :: none :: none :: none :: none :: none :: none :: none :: none :: none :: none :: none :: none :: none :: none :: none :: none :: none :: none :: none :: (some 0) :: (some 1) :: (some 2) :: (some 3) :: (some 4) :: (some 5) :: (some 6) :: (some 7) :: (some 8) :: (some 9) :: (some 10) :: (some 11) :: (some 12) :: (some 13) :: (some 14) :: (some 15) :: (some 16) :: none :: none :: none :: none :: none :: none :: none :: none :: none :: none :: []) [87, 88, 89, 90, 91, 92, 93, 94, 95, 96, 97, 98, 99, 100, 101, 102, 103] (by rfl) (by kernel_rfl) (by kernel_rfl) ?_ ?_ ?_
              · intro S jx v hjx
                match jx, hjx with
                | 0, _ => rfl
                | 1, _ => rfl
                | 2, _ => rfl
                | 3, _ => rfl
                | 4, _ => rfl
                | 5, _ => rfl
                | 6, _ => rfl
                | 7, _ => rfl
                | 8, _ => rfl
                | 9, _ => rfl
                | 10, _ => rfl
                | 11, _ => rfl
                | 12, _ => rfl
                | 13, _ => rfl
                | 14, _ => rfl
                | 15, _ => rfl
                | 16, _ => rfl
                | nx + 17, hjx => omega
              · intro jx hjx S w' hb hd
                match jx, hjx, hd with
                | 0, _, hd =>
                  simp only [GH.mkL, List.getD_cons_succ, List.getD_cons_zero]
                  clear hd
                  refine GH.st_eq (by rfl) ?_
                  go_simp
                  (try with_reducible rfl)
                | 1, _, hd =>
                  simp only [GH.mkL, List.getD_cons_succ, List.getD_cons_zero]
                  clear hd
                  refine GH.st_eq (by rfl) ?_
                  go_simp
                  (try with_reducible rfl)
                | 2, _, hd =>
                  simp only [GH.mkL, List.getD_cons_succ, List.getD_cons_zero]
                  clear hd
                  refine GH.st_eq (by rfl) ?_
                  go_simp
                  (try with_reducible rfl)
                | 3, _, hd =>
                  simp only [GH.mkL, List.getD_cons_succ, List.getD_cons_zero]
                  have d1 : S 1 = .slice A7 n7 c7 := (hd 1 (by kernel_rfl)).2
                  rw [d1]
                  clear d1
                  have d2 : S 2 = .int .i64 (i : Nat) := (hd 2 (by kernel_rfl)).2
                  rw [d2]
                  clear d2
                  clear hd
                  refine GH.st_eq (by rfl) ?_
                  rw [EA.out]
                  go_simp
                  (try with_reducible rfl)
                | 4, _, hd =>
                  simp only [GH.mkL, List.getD_cons_succ, List.getD_cons_zero]
                  have d3 : S 3 = .pointer (some ⟨ab, ao + i * 2, none⟩) := (hd 3 (by kernel_rfl)).2
                  rw [d3]
                  clear d3
                  clear hd
                  refine GH.st_eq (by rfl) ?_
                  go_simp
                  (try with_reducible rfl)
                | 5, _, hd =>
                  simp only [GH.mkL, List.getD_cons_succ, List.getD_cons_zero]
                  have d4 : S 4 = .pointer (some ⟨ab, ao + i * 2, none⟩) := (hd 4 (by kernel_rfl)).2
                  rw [d4]
                  clear d4
                  clear hd
                  exact GH.st_load _ (by rfl) rfl rfl (hb.at_ hab C0.out) (by kernel_rfl)
                | 6, _, hd =>
                  simp only [GH.mkL, List.getD_cons_succ, List.getD_cons_zero]
                  clear hd
                  refine GH.st_eq (by rfl) ?_
                  go_simp
                  (try with_reducible rfl)
                | 7, _, hd =>
                  simp only [GH.mkL, List.getD_cons_succ, List.getD_cons_zero]
                  have d5 : S 5 = .int .u64 (px : Nat) := (hd 5 (by kernel_rfl)).2
                  rw [d5]
                  clear d5
                  have d6 : S 6 = .int .u64 (y0 : Nat) := (hd 6 (by kernel_rfl)).2
                  rw [d6]
                  clear d6
                  clear hd
                  refine GH.st_eq (by rfl) ?_
                  have hqd := HXD.out
                  go_simp
                  (try with_reducible rfl)
                | 8, _, hd =>
                  simp only [GH.mkL, List.getD_cons_succ, List.getD_cons_zero]
                  clear hd
                  refine GH.st_eq (by rfl) ?_
                  go_simp
                  (try with_reducible rfl)
                | 9, _, hd =>
                  simp only [GH.mkL, List.getD_cons_succ, List.getD_cons_zero]
                  clear hd
                  refine GH.st_eq (by rfl) ?_
                  go_simp
                  (try with_reducible rfl)
                | 10, _, hd =>
                  simp only [GH.mkL, List.getD_cons_succ, List.getD_cons_zero]
                  have d8 : S 8 = .slice A7 n7 c7 := (hd 8 (by kernel_rfl)).2
                  rw [d8]
                  clear d8
                  have d9 : S 9 = .int .i64 (i : Nat) := (hd 9 (by kernel_rfl)).2
                  rw [d9]
                  clear d9
                  clear hd
                  refine GH.st_eq (by rfl) ?_
                  rw [EA.out]
                  go_simp
                  (try with_reducible rfl)
                | 11, _, hd =>
                  simp only [GH.mkL, List.getD_cons_succ, List.getD_cons_zero]
                  have d10 : S 10 = .pointer (some ⟨ab, ao + i * 2, none⟩) := (hd 10 (by kernel_rfl)).2
                  rw [d10]
                  clear d10
                  clear hd
                  refine GH.st_eq (by rfl) ?_
                  go_simp
                  (try with_reducible rfl)
                | 12, _, hd =>
                  simp only [GH.mkL, List.getD_cons_succ, List.getD_cons_zero]
                  have d11 : S 11 = .pointer (some ⟨ab, ao + i * 2 + 1, none⟩) := (hd 11 (by kernel_rfl)).2
                  rw [d11]
                  clear d11
                  clear hd
                  exact GH.st_load _ (by rfl) rfl rfl (hb.at_ hab C1.out) (by kernel_rfl)
                | 13, _, hd =>
                  simp only [GH.mkL, List.getD_cons_succ, List.getD_cons_zero]
                  clear hd
                  refine GH.st_eq (by rfl) ?_
                  go_simp
                  (try with_reducible rfl)
                | 14, _, hd =>
                  simp only [GH.mkL, List.getD_cons_succ, List.getD_cons_zero]
                  have d12 : S 12 = .int .u64 (py : Nat) := (hd 12 (by kernel_rfl)).2
                  rw [d12]
                  clear d12
                  have d13 : S 13 = .int .u64 (y0 : Nat) := (hd 13 (by kernel_rfl)).2
                  rw [d13]
                  clear d13
                  clear hd
                  refine GH.st_eq (by rfl) ?_
                  have hqd := HYD.out
                  go_simp
                  (try with_reducible rfl)
                | 15, _, hd =>
                  simp only [GH.mkL, List.getD_cons_succ, List.getD_cons_zero]
                  have d7 : S 7 = .int .u64 (xd : Nat) := (hd 7 (by kernel_rfl)).2
                  rw [d7]
                  clear d7
                  have d14 : S 14 = .int .u64 (yd : Nat) := (hd 14 (by kernel_rfl)).2
                  rw [d14]
                  clear d14
                  clear hd
                  refine GH.st_eq (by rfl) ?_
                  go_simp
                  (try with_reducible rfl)
                | 16, _, hd =>
                  simp only [GH.mkL, List.getD_cons_succ, List.getD_cons_zero]
                  have d15 : S 15 = .agg #[.int .u64 (xd : Nat), .int .u64 (yd : Nat)] := (hd 15 (by kernel_rfl)).2
                  rw [d15]
                  clear d15
                  clear hd
                  refine ⟨fun K hK => ?_⟩
                  go_wp2_with fail
                  exact hK _ _ (GH.Gr.of ((Below.refl _ _).alloc (Nat.le_refl _) _) hb.below.size) (GH.rd_lit rfl rfl)
                | nx + 17, hjx, _ => omega
              intro S w' hb hG
              simp only [GH.mkL, List.drop_succ_cons, List.drop_zero]
              have d0 : S 0 = .slice A8 n8 c8 := hG 0 (by omega)
              rw [d0]
              clear d0
              obtain ⟨A16, c16, d16, e16, H16⟩ := hG 16 (by omega)
              rw [d16]
              clear d16
              replace H16 := Lib.hid H16
              clear hG
              have O7 := Lib.hid (O6.out.below hb.below)
              have B7 := Lib.hid (B6.out.trans (hb.below.mono B6.out.size))
              clear hb O6 B6 EA C0 C1 HXD HYD
              generalize w' = w6 at *
              go_wp2_with (at_builtin; refine app prfEl rfl (.tmp 87) (.tmp 103) rfl rfl (show w6.ownsRow w5.heap.size 85 2 (.slice A8 n8 c8) n8 (cels (shL y0 ((l.drop (midN l f t)).take i))) from by have h := O7.out; unfold Pcs at h; rwa [hl8.out] at h) rfl H16.out (by intro u hu; simp at hu; rcases hu with rfl | rfl <;> rfl) (room_ge (by have := hn8b.out; omega)) B7.out.size ?_)
              intro v8 w8 ho8 _ hb8
              have O8 := Lib.hid (show Pcs w8 85 w5.heap.size v8 (shL y0 ((l.drop (midN l f t)).take (i + 1))) from by
                unfold Pcs
                rw [HSN.out, List.length_append, hl8.out, cels_append]
                exact ho8)
              have B8 := Lib.hid (B7.out.trans hb8)
              clear O7 B7 ho8 hb8 H16 HSN
              go_wp2_with fail
              go_roundw
              case rel => exact ⟨i + 1, by have := HLT.out; omega, by go_num, O8, B8⟩
              case measure => have := HLT.out; simp [intOf]; omega
            · obtain rfl : n7 = i := by omega
              have hall : (l.drop (midN l f t)).take n7 = (l.drop (midN l f t)) := List.take_of_length_le (by rw [HRW.out.pcLen]; exact Nat.le_refl _)
              rw [hall] at hown
              have OW := hown
              obtain ⟨A8, n8, c8, rfl, hn8, hc8, hl8, hr8⟩ := OW.out.out
              replace KX := Lib.hid (KX.out.below hbw.out KX.out.lt)
              replace KR := Lib.hid (KR.out.below hbw.out KR.out.lt)
              replace BT := Lib.hid (BT.out.trans (hbw.out.mono BT.out.size))
              clear hown hall hlt hi hbw
              have hpl : (W + (y0 : Nat)) % 4294967296 = pl W y0 := rfl
              have hW0 : W % 4294967296 = W := by have := HU.out; unfold U32 at this; omega
              obtain ⟨x0, x1, x2⟩ := ptc3 KX.out
              obtain ⟨q0, q1, q2⟩ := ptc3 KR.out
              have fq0 := KR.out.frozen 0
              have fq1 := KR.out.frozen 1
              have fq2 := KR.out.frozen 2
              go_wp2_with fail
              have hO3 := own_set (i := 2) (u := .slice A8 n8 c8) (own_set (i := 1) (u := .int .i64 (most : Int)) (own_set (i := 0) (u := .int .u32 (pl W y0)) OW.out KR.out (by decide)) (KR.out.set 0 _) (by decide)) ((KR.out.set 0 _).set 1 _) (by decide)
              have hkz := Lib.hid (((KR.out.set 0 (.int .u32 (pl W y0))).set 1 (.int .i64 (most : Int))).set 2 (.slice A8 n8 c8))
              have hbz : Below w.heap.size w (((wr.setCell ⟨w.heap.size + 1, 0, none⟩ (.int .u32 (pl W y0))).setCell ⟨w.heap.size + 1, 1, none⟩ (.int .i64 (most : Int))).setCell ⟨w.heap.size + 1, 2, none⟩ (.slice A8 n8 c8)) := ((BT.out.setCell (p := ⟨w.heap.size + 1, 0, none⟩) (Nat.le_succ _) _).setCell (p := ⟨w.heap.size + 1, 1, none⟩) (Nat.le_succ _) _).setCell (p := ⟨w.heap.size + 1, 2, none⟩) (Nat.le_succ _) _
              obtain ⟨z0, z1, z2⟩ := ptc3 hkz.out
              exact bodyPost_ret (v := .tuple #[.agg #[.int .u32 (pl W y0), .int .i64 (most : Int), .slice A8 n8 c8], .bool true]) (by simp [results, Try.results17, go_sem, z0, z1, z2]) rfl ⟨by rw [HE.out]; exact ⟨A8, n8, c8, rfl, (by obtain ⟨A9, c9, e9, _, _, hr9⟩ := own_form hO3; injection e9 with i1 i2 i3; subst i1 i3; rw [← i2] at hr9; exact hr9), fun a ha => .inr (Nat.le_trans HW5.out (World.ownsRow.lt hO3 a.block (by rw [ha]; rfl)).1)⟩, hbz⟩

        · have HJ0 := Lib.hid (show (joinX l f t).1 ≠ 0 from fun h => he0 (HHD.out.1.2 h))
          have he0' : ((e0 : Int) == 0) = false := by simp; omega
          by_cases hful : (most : Int) < (n5 : Int)
          · have ep := putB_full (l := l) (most := most) (f := f) (t := t) (j1 := (joinX l f t).1) (j2 := (joinX l f t).2) rfl HJ0.out (by rw [HL5.out]; omega)
            rw [ep] at HE
            have hfulN : most < n5 := by omega
            clear ep
            go_wp2_with fail
            have hkz := Lib.hid (((KR.out.set 0 (.int .u32 W)).set 1 (.int .i64 (most : Int))).set 2 (.slice A n c))
            have hbz : Below w.heap.size w (((w5.setCell ⟨w.heap.size + 1, 0, none⟩ (.int .u32 W)).setCell ⟨w.heap.size + 1, 1, none⟩ (.int .i64 (most : Int))).setCell ⟨w.heap.size + 1, 2, none⟩ (.slice A n c)) := ((BT.out.setCell (p := ⟨w.heap.size + 1, 0, none⟩) (Nat.le_succ _) _).setCell (p := ⟨w.heap.size + 1, 1, none⟩) (Nat.le_succ _) _).setCell (p := ⟨w.heap.size + 1, 2, none⟩) (Nat.le_succ _) _
            obtain ⟨z0, z1, z2⟩ := ptc3 hkz.out
            exact bodyPost_ret (v := .tuple #[.agg #[.int .u32 W, .int .i64 (most : Int), .slice A n c], .bool false]) (by simp [results, Try.results17, go_sem, z0, z1, z2]) rfl ⟨SAME.out false _ HE.out hbz, hbz⟩

          · have ep := putB_add (l := l) (most := most) (f := f) (t := t) (j1 := (joinX l f t).1) (j2 := (joinX l f t).2) rfl HJ0.out (by rw [HL5.out]; omega)
            rw [ep] at HE
            have HDL : Hid (∀ p ∈ addL l f t, 0 ≤ p.1 ∧ p.1 ≤ p.2 ∧ p.2 ≤ 1048576) := Lib.hid fun p hp => by
              have h1 := HPO.out.1
              rw [ep] at h1
              obtain ⟨i, hi⟩ := List.getElem?_of_mem hp
              have h2 := h1.at_ hi
              omega
            have HRW := HR5
            have hfulN : ¬ most < n5 := by omega
            clear ep
            go_wp2_with fail
            clear q0 q1
            clear x0 x1 x2 q0 q1 q2 fq0 fq1 fq2
            go_loopw [12, 13] (fun ov iv wr => ∃ i : Nat, i ≤ n5 ∧ iv = .int .i64 (i : Nat) ∧ Hid (Pcs wr 85 w5.heap.size ov (shL 0 ((addL l f t).take i))) ∧ Hid (Below w5.heap.size w5 wr)) (fun _ iv _ => n5 - (intOf iv).toNat)
            case atStart => exact ⟨0, Nat.zero_le _, rfl, Lib.hid (Pcs.nil _ _ _), Lib.hid (Below.refl _ _)⟩
            case round =>
              obtain ⟨i, hi, rfl, hown, hbw⟩ := hrel
              by_cases hlt : i < n5
              · have HLT := Lib.hid hlt
                have hlt' : (i : Int) < (n5 : Int) := by omega
                obtain ⟨ab2, ao2, px, py, eA, hab, q0, q1, hp⟩ := (HRW.out.into hbw.out).pc hlt
                injection eA with eA
                injection eA with eA1 eA2
                subst eA1 eA2
                have eA := trivial
                have hpd := HDL.out _ (List.mem_of_getElem? hp.out)
                dsimp only at hpd
                obtain ⟨xd, hxd⟩ : ∃ xd, xd = px - 0 := ⟨_, rfl⟩
                obtain ⟨yd, hyd⟩ : ∃ yd, yd = py - 0 := ⟨_, rfl⟩
                have HXD := Lib.hid (show IntKind.u64.wrap ((px : Int)) = ((xd : Nat) : Int) from by rw [hxd]; exact wrap_u64_lt (by unfold pmax; omega))
                have HYD := Lib.hid (show IntKind.u64.wrap ((py : Int)) = ((yd : Nat) : Int) from by rw [hyd]; exact wrap_u64_lt (by unfold pmax; omega))
                have HSN := Lib.hid (show shL 0 ((addL l f t).take (i + 1)) = shL 0 ((addL l f t).take i) ++ [(xd, yd)] from by rw [hxd, hyd]; exact shL_snoc hp.out)
                obtain ⟨A8, n8, c8, rfl, hn8, hc8, hl8, _⟩ := hown.out.out
                have hn8b := Lib.hid (show n8 ≤ 100 from by rw [← hl8.out, shL_len, List.length_take]; have := hi; omega)
                have EA := Lib.hid eA
                have C0 := Lib.hid q0
                have C1 := Lib.hid q1
                have O6 := hown
                have B6 := hbw
                clear eA q0 q1 hp hpd hxd hyd hown hbw hlt
                go_wp2_with fail
                refine GH.wp_ghl2 (M := false) 17 ((GH.SP.eq (.slice A8 n8 c8)) :: (GH.SP.eq (.slice (some ⟨ab, ao, none⟩) n5 c5)) :: (GH.SP.eq (.int .i64 (i : Nat))) :: (GH.SP.eq (.pointer (some ⟨ab, ao + i * 2, none⟩))) :: (GH.SP.eq (.pointer (some ⟨ab, ao + i * 2, none⟩))) :: (GH.SP.eq (.int .u64 (px : Nat))) :: (GH.SP.eq (.int .u64 0)) :: (GH.SP.eq (.int .u64 (xd : Nat))) :: (GH.SP.eq (.slice (some ⟨ab, ao, none⟩) n5 c5)) :: (GH.SP.eq (.int .i64 (i : Nat))) :: (GH.SP.eq (.pointer (some ⟨ab, ao + i * 2, none⟩))) :: (GH.SP.eq (.pointer (some ⟨ab, ao + i * 2 + 1, none⟩))) :: (GH.SP.eq (.int .u64 (py : Nat))) :: (GH.SP.eq (.int .u64 0)) :: (GH.SP.eq (.int .u64 (yd : Nat))) :: (GH.SP.eq (.agg #[.int .u64 (xd : Nat), .int .u64 (yd : Nat)])) :: (GH.SP.rd 2 1 ([.int .u64 (xd : Nat), .int .u64 (yd : Nat)])) :: []) (none :: none :: none :: none :: none :: none :: none :: none :: none :: none :: none :: none :: none :: none :: none :: none :: none :: none :: none :: none :: none :: none :: none :: none :: none :: none :: none :: none :: none :: none :: none :: none :: none :: none :: none :: none :: none :: none :: none :: none :: none :: none :: none :: none :: none :: none :: none :: none :: none :: none :: none :: none :: none :: none :: none :: none :: none :: none :: none :: none :: none :: none :: none :: none :: none :: none :: none :: none :: none :: none :: none :: none :: none :: none :: none :: none :: none :: none :: none :: none :: none :: none :: none :: none :: none :: none :: none :: (some 0) :: (some 1) :: (some 2) :: (some 3) :: (some 4) :: (some 5) :: (some 6) :: (some 7) :: (some 8) :: (some 9) :: (some 10) :: (some 11) :: (some 12) :: (some 13) :: (some 14) :: (some 15) :: (some 16) :: none :: none :: none :: none :: none :: none :: none :: none :: none :: none :: []) [87, 88, 89, 90, 91, 92, 93, 94, 95, 96, 97, 98, 99, 100, 101, 102, 103] (by rfl) (by kernel_rfl) (by kernel_rfl) ?_ ?_ ?_
                · intro S jx v hjx
                  match jx, hjx with
                  | 0, _ => rfl
                  | 1, _ => rfl
                  | 2, _ => rfl
                  | 3, _ => rfl
                  | 4, _ => rfl
                  | 5, _ => rfl
                  | 6, _ => rfl
                  | 7, _ => rfl
                  | 8, _ => rfl
                  | 9, _ => rfl
                  | 10, _ => rfl
                  | 11, _ => rfl
                  | 12, _ => rfl
                  | 13, _ => rfl
                  | 14, _ => rfl
                  | 15, _ => rfl
                  | 16, _ => rfl
                  | nx + 17, hjx => omega
                · intro jx hjx S w' hb hd
                  match jx, hjx, hd with
                  | 0, _, hd =>
                    simp only [GH.mkL, List.getD_cons_succ, List.getD_cons_zero]
                    clear hd
                    refine GH.st_eq (by rfl) ?_
                    go_simp
                    (try with_reducible rfl)
                  | 1, _, hd =>
                    simp only [GH.mkL, List.getD_cons_succ, List.getD_cons_zero]
                    clear hd
                    refine GH.st_eq (by rfl) ?_
                    go_simp
                    (try with_reducible rfl)
                  | 2, _, hd =>
                    simp only [GH.mkL, List.getD_cons_succ, List.getD_cons_zero]
                    clear hd
                    refine GH.st_eq (by rfl) ?_
                    go_simp
                    (try with_reducible rfl)
                  | 3, _, hd =>
                    simp only [GH.mkL, List.getD_cons_succ, List.getD_cons_zero]
                    have d1 : S 1 = .slice (some ⟨ab, ao, none⟩) n5 c5 := (hd 1 (by kernel_rfl)).2
                    rw [d1]
                    clear d1
                    have d2 : S 2 = .int .i64 (i : Nat) := (hd 2 (by kernel_rfl)).2
                    rw [d2]
                    clear d2
                    clear hd
                    refine GH.st_eq (by rfl) ?_
                    go_simp
                    (try with_reducible rfl)
                  | 4, _, hd =>
                    simp only [GH.mkL, List.getD_cons_succ, List.getD_cons_zero]
                    have d3 : S 3 = .pointer (some ⟨ab, ao + i * 2, none⟩) := (hd 3 (by kernel_rfl)).2
                    rw [d3]
                    clear d3
                    clear hd
                    refine GH.st_eq (by rfl) ?_
                    go_simp
                    (try with_reducible rfl)
                  | 5, _, hd =>
                    simp only [GH.mkL, List.getD_cons_succ, List.getD_cons_zero]
                    have d4 : S 4 = .pointer (some ⟨ab, ao + i * 2, none⟩) := (hd 4 (by kernel_rfl)).2
                    rw [d4]
                    clear d4
                    clear hd
                    exact GH.st_load _ (by rfl) rfl rfl (hb.at_ hab C0.out) (by kernel_rfl)
                  | 6, _, hd =>
                    simp only [GH.mkL, List.getD_cons_succ, List.getD_cons_zero]
                    clear hd
                    refine GH.st_eq (by rfl) ?_
                    go_simp
                    (try with_reducible rfl)
                  | 7, _, hd =>
                    simp only [GH.mkL, List.getD_cons_succ, List.getD_cons_zero]
                    have d5 : S 5 = .int .u64 (px : Nat) := (hd 5 (by kernel_rfl)).2
                    rw [d5]
                    clear d5
                    have d6 : S 6 = .int .u64 0 := (hd 6 (by kernel_rfl)).2
                    rw [d6]
                    clear d6
                    clear hd
                    refine GH.st_eq (by rfl) ?_
                    have hqd := HXD.out
                    go_simp
                    (try with_reducible rfl)
                  | 8, _, hd =>
                    simp only [GH.mkL, List.getD_cons_succ, List.getD_cons_zero]
                    clear hd
                    refine GH.st_eq (by rfl) ?_
                    go_simp
                    (try with_reducible rfl)
                  | 9, _, hd =>
                    simp only [GH.mkL, List.getD_cons_succ, List.getD_cons_zero]
                    clear hd
                    refine GH.st_eq (by rfl) ?_
                    go_simp
                    (try with_reducible rfl)
                  | 10, _, hd =>
                    simp only [GH.mkL, List.getD_cons_succ, List.getD_cons_zero]
                    have d8 : S 8 = .slice (some ⟨ab, ao, none⟩) n5 c5 := (hd 8 (by kernel_rfl)).2
                    rw [d8]
                    clear d8
                    have d9 : S 9 = .int .i64 (i : Nat) := (hd 9 (by kernel_rfl)).2
                    rw [d9]
                    clear d9
                    clear hd
                    refine GH.st_eq (by rfl) ?_
                    go_simp
                    (try with_reducible rfl)
                  | 11, _, hd =>
                    simp only [GH.mkL, List.getD_cons_succ, List.getD_cons_zero]
                    have d10 : S 10 = .pointer (some ⟨ab, ao + i * 2, none⟩) := (hd 10 (by kernel_rfl)).2
                    rw [d10]
                    clear d10
                    clear hd
                    refine GH.st_eq (by rfl) ?_
                    go_simp
                    (try with_reducible rfl)
                  | 12, _, hd =>
                    simp only [GH.mkL, List.getD_cons_succ, List.getD_cons_zero]
                    have d11 : S 11 = .pointer (some ⟨ab, ao + i * 2 + 1, none⟩) := (hd 11 (by kernel_rfl)).2
                    rw [d11]
                    clear d11
                    clear hd
                    exact GH.st_load _ (by rfl) rfl rfl (hb.at_ hab C1.out) (by kernel_rfl)
                  | 13, _, hd =>
                    simp only [GH.mkL, List.getD_cons_succ, List.getD_cons_zero]
                    clear hd
                    refine GH.st_eq (by rfl) ?_
                    go_simp
                    (try with_reducible rfl)
                  | 14, _, hd =>
                    simp only [GH.mkL, List.getD_cons_succ, List.getD_cons_zero]
                    have d12 : S 12 = .int .u64 (py : Nat) := (hd 12 (by kernel_rfl)).2
                    rw [d12]
                    clear d12
                    have d13 : S 13 = .int .u64 0 := (hd 13 (by kernel_rfl)).2
                    rw [d13]
                    clear d13
                    clear hd
                    refine GH.st_eq (by rfl) ?_
                    have hqd := HYD.out
                    go_simp
                    (try with_reducible rfl)
                  | 15, _, hd =>
                    simp only [GH.mkL, List.getD_cons_succ, List.getD_cons_zero]
                    have d7 : S 7 = .int .u64 (xd : Nat) := (hd 7 (by kernel_rfl)).2
                    rw [d7]
                    clear d7
                    have d14 : S 14 = .int .u64 (yd : Nat) := (hd 14 (by kernel_rfl)).2
                    rw [d14]
                    clear d14
                    clear hd
                    refine GH.st_eq (by rfl) ?_
                    go_simp
                    (try with_reducible rfl)
                  | 16, _, hd =>
                    simp only [GH.mkL, List.getD_cons_succ, List.getD_cons_zero]
                    have d15 : S 15 = .agg #[.int .u64 (xd : Nat), .int .u64 (yd : Nat)] := (hd 15 (by kernel_rfl)).2
                    rw [d15]
                    clear d15
                    clear hd
                    refine ⟨fun K hK => ?_⟩
                    go_wp2_with fail
                    exact hK _ _ (GH.Gr.of ((Below.refl _ _).alloc (Nat.le_refl _) _) hb.below.size) (GH.rd_lit rfl rfl)
                  | nx + 17, hjx, _ => omega
                intro S w' hb hG
                simp only [GH.mkL, List.drop_succ_cons, List.drop_zero]
                have d0 : S 0 = .slice A8 n8 c8 := hG 0 (by omega)
                rw [d0]
                clear d0
                obtain ⟨A16, c16, d16, e16, H16⟩ := hG 16 (by omega)
                rw [d16]
                clear d16
                replace H16 := Lib.hid H16
                clear hG
                have O7 := Lib.hid (O6.out.below hb.below)
                have B7 := Lib.hid (B6.out.trans (hb.below.mono B6.out.size))
                clear hb O6 B6 EA C0 C1 HXD HYD
                generalize w' = w6 at *
                go_wp2_with (at_builtin; refine app prfEl rfl (.tmp 87) (.tmp 103) rfl rfl (show w6.ownsRow w5.heap.size 85 2 (.slice A8 n8 c8) n8 (cels (shL 0 ((addL l f t).take i))) from by have h := O7.out; unfold Pcs at h; rwa [hl8.out] at h) rfl H16.out (by intro u hu; simp at hu; rcases hu with rfl | rfl <;> rfl) (room_ge (by have := hn8b.out; omega)) B7.out.size ?_)
                intro v8 w8 ho8 _ hb8
                have O8 := Lib.hid (show Pcs w8 85 w5.heap.size v8 (shL 0 ((addL l f t).take (i + 1))) from by
                  unfold Pcs
                  rw [HSN.out, List.length_append, hl8.out, cels_append]
                  exact ho8)
                have B8 := Lib.hid (B7.out.trans hb8)
                clear O7 B7 ho8 hb8 H16 HSN
                go_wp2_with fail
                go_roundw
                case rel => exact ⟨i + 1, by have := HLT.out; omega, by go_num, O8, B8⟩
                case measure => have := HLT.out; simp [intOf]; omega
              · obtain rfl : n5 = i := by omega
                have hall : (addL l f t).take n5 = (addL l f t) := List.take_of_length_le (by rw [HRW.out.pcLen]; exact Nat.le_refl _)
                rw [hall] at hown
                have OW := hown
                obtain ⟨A8, n8, c8, rfl, hn8, hc8, hl8, hr8⟩ := OW.out.out
                replace KX := Lib.hid (KX.out.below hbw.out KX.out.lt)
                replace KR := Lib.hid (KR.out.below hbw.out KR.out.lt)
                replace BT := Lib.hid (BT.out.trans (hbw.out.mono BT.out.size))
                clear hown hall hlt hi hbw
                have hpl : (W + (0 : Nat)) % 4294967296 = pl W 0 := rfl
                have hW0 : W % 4294967296 = W := by have := HU.out; unfold U32 at this; omega
                obtain ⟨x0, x1, x2⟩ := ptc3 KX.out
                obtain ⟨q0, q1, q2⟩ := ptc3 KR.out
                have fq0 := KR.out.frozen 0
                have fq1 := KR.out.frozen 1
                have fq2 := KR.out.frozen 2
                go_wp2_with fail
                have hO3 := own_set (i := 2) (u := .slice A8 n8 c8) (own_set (i := 1) (u := .int .i64 (most : Int)) (own_set (i := 0) (u := .int .u32 W) OW.out KR.out (by decide)) (KR.out.set 0 _) (by decide)) ((KR.out.set 0 _).set 1 _) (by decide)
                have hkz := Lib.hid (((KR.out.set 0 (.int .u32 W)).set 1 (.int .i64 (most : Int))).set 2 (.slice A8 n8 c8))
                have hbz : Below w.heap.size w (((wr.setCell ⟨w.heap.size + 1, 0, none⟩ (.int .u32 W)).setCell ⟨w.heap.size + 1, 1, none⟩ (.int .i64 (most : Int))).setCell ⟨w.heap.size + 1, 2, none⟩ (.slice A8 n8 c8)) := ((BT.out.setCell (p := ⟨w.heap.size + 1, 0, none⟩) (Nat.le_succ _) _).setCell (p := ⟨w.heap.size + 1, 1, none⟩) (Nat.le_succ _) _).setCell (p := ⟨w.heap.size + 1, 2, none⟩) (Nat.le_succ _) _
                obtain ⟨z0, z1, z2⟩ := ptc3 hkz.out
                exact bodyPost_ret (v := .tuple #[.agg #[.int .u32 W, .int .i64 (most : Int), .slice A8 n8 c8], .bool true]) (by simp [results, Try.results17, go_sem, z0, z1, z2]) rfl ⟨by rw [HE.out]; exact ⟨A8, n8, c8, by rw [pl_zero HU.out], (by obtain ⟨A9, c9, e9, _, _, hr9⟩ := own_form hO3; injection e9 with i1 i2 i3; subst i1 i3; rw [← i2] at hr9; rw [shL_zero] at hr9; exact hr9), fun a ha => .inr (Nat.le_trans HW5.out (World.ownsRow.lt hO3 a.block (by rw [ha]; rfl)).1)⟩, hbz⟩


end Go.Proofs.Ytohehnlbknaflaa
