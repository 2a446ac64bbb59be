/- Layer 18: the document's inlet: pieces. -/
import Derived.Test.YtnngjbieoakanaaG38InletTwice
import Derived.Test.YtnngjbieoakanaaG37InletTwice
import Derived.Test.YtnngjbieoakanaaG5InletTwice

namespace Go.Proofs.Ytnngjbieoakanaa
open Go.RowKit
set_option linter.unusedVariables false
set_option linter.unusedSimpArgs false
set_option maxRecDepth 20000 in
set_option maxHeartbeats 4000000 in
theorem r18_pieces (base most en n : Nat) (kn : Bool) (A1 A2 : Option Addr) (c1 c2 B1 : Nat) (w : World) (hX : XR w B1 n A1 c1 A2 c2) (hn : n ≤ 200) (hb : base ≤ 100000) :
    Calls Try.prog 33 #[.agg #[.int .u64 (base : Int), .slice A1 n c1, .slice A2 n c2, .int .i64 (most : Int), .int .u64 (en : Int), .bool kn]] w fun e w' => ∃ v, e = .returned v ∧ (∃ l, Pcs w' 79 w.heap.size v l) ∧ Below w.heap.size w w' := by
  have RN := Sh.mk fun w' (hb' : Below w.heap.size w w') => r18_next base most en n kn A1 A2 c1 c2 B1 w' (hX.into hb') hn hb
  obtain ⟨hl, hr, hc, hm⟩ := hX.rdH
  have HR := Sh.mk hr
  clear hX hr
  go_enter Try.func33, Try.ntmps33
  go_upto_region 1 with fail
  have KX : Hid (Blk (w.alloc (.cells #[.int .u64 (base : Int), .slice A1 n c1, .slice A2 n c2, .int .i64 (most : Int), .int .u64 (en : Int), .bool kn] 38)) (w.heap.size) 38 #[.int .u64 (base : Int), .slice A1 n c1, .slice A2 n c2, .int .i64 (most : Int), .int .u64 (en : Int), .bool kn]) := Lib.hid ((Blk.new w 38 #[.int .u64 (base : Int), .slice A1 n c1, .slice A2 n c2, .int .i64 (most : Int), .int .u64 (en : Int), .bool kn]))
  have b1 : Hid (Below w.heap.size w (w.alloc (.cells #[.int .u64 (base : Int), .slice A1 n c1, .slice A2 n c2, .int .i64 (most : Int), .int .u64 (en : Int), .bool kn] 38))) := Lib.hid ((Below.refl w.heap.size w).alloc (Nat.le_refl _) (.cells #[.int .u64 (base : Int), .slice A1 n c1, .slice A2 n c2, .int .i64 (most : Int), .int .u64 (en : Int), .bool kn] 38))
  have hz : (w.alloc (.cells #[.int .u64 (base : Int), .slice A1 n c1, .slice A2 n c2, .int .i64 (most : Int), .int .u64 (en : Int), .bool kn] 38)).heap.size = w.heap.size + 1 := by simp
  generalize (w.alloc (.cells #[.int .u64 (base : Int), .slice A1 n c1, .slice A2 n c2, .int .i64 (most : Int), .int .u64 (en : Int), .bool kn] 38)) = w2 at KX b1 hz ⊢
  have HZ := Lib.hid hz
  clear hz
  have f0 : w2.cell? ⟨w.heap.size, 0, none⟩ = some (.int .u64 (base : Int)) := by rw [KX.out.cell]; rfl
  have f1 : w2.cell? ⟨w.heap.size, 1, none⟩ = some (.slice A1 n c1) := by rw [KX.out.cell]; rfl
  have f2 : w2.cell? ⟨w.heap.size, 2, none⟩ = some (.slice A2 n c2) := by rw [KX.out.cell]; rfl
  have f3 : w2.cell? ⟨w.heap.size, 3, none⟩ = some (.int .i64 (most : Int)) := by rw [KX.out.cell]; rfl
  have f4 : w2.cell? ⟨w.heap.size, 4, none⟩ = some (.int .u64 (en : Int)) := by rw [KX.out.cell]; rfl
  have f5 : w2.cell? ⟨w.heap.size, 5, none⟩ = some (.bool kn) := by rw [KX.out.cell]; rfl
  go_wp2_with fail
  refine wp_ord [(0, .read), (2, .pure), (3, .read), (1, .sole), (4, .pure), (5, .pure), (6, .pure)] [] (by kernel_rfl) (by kernel_rfl) (fun QQ hQ wd hwd => ?_); simp only [List.map_cons, List.map_nil, List.getD_cons_zero, List.getD_cons_succ]
  have hD : Below w2.heap.size w2 wd := by rw [hwd.out]; exact (Below.refl _ _).drew
  replace KX := Sh.mk (KX.out.below hD KX.out.lt)
  have BB := Sh.mk (b1.out.trans (hD.mono (by have := HZ.out; omega)))
  clear hD hwd f0 f1 f2 f3 f4 f5
  have f0 : wd.cell? ⟨w.heap.size, 0, none⟩ = some (.int .u64 (base : Int)) := by rw [KX.out.cell]; rfl
  have f1 : wd.cell? ⟨w.heap.size, 1, none⟩ = some (.slice A1 n c1) := by rw [KX.out.cell]; rfl
  have f2 : wd.cell? ⟨w.heap.size, 2, none⟩ = some (.slice A2 n c2) := by rw [KX.out.cell]; rfl
  have f3 : wd.cell? ⟨w.heap.size, 3, none⟩ = some (.int .i64 (most : Int)) := by rw [KX.out.cell]; rfl
  have f4 : wd.cell? ⟨w.heap.size, 4, none⟩ = some (.int .u64 (en : Int)) := by rw [KX.out.cell]; rfl
  have f5 : wd.cell? ⟨w.heap.size, 5, none⟩ = some (.bool kn) := by rw [KX.out.cell]; rfl
  have HLD := Sh.mk (KX.out.loads 0 [.int .u64 (base : Int), .slice A1 n c1, .slice A2 n c2, .int .i64 (most : Int), .int .u64 (en : Int), .bool kn] rfl)
  (refine o_loads _ [.int .u64 (base : Int), .slice A1 n c1, .slice A2 n c2, .int .i64 (most : Int), .int .u64 (en : Int), .bool kn] (by rfl) rfl rfl (HLD.out) (Nat.succ_pos _) (by kernel_rfl) (by kernel_rfl) ?_; simp only [Act.put, List.setIfInBounds_toArray, List.set_cons_zero, List.set_cons_succ])
  (refine o_pure (v := ?_) (by rfl) (fun w' => ?_) ?_; rotate_left; (focus (go_simp; (try with_reducible rfl); (try (rw [if_pos (by omega)]; (try with_reducible rfl))))); (try simp only [Act.put, List.setIfInBounds_toArray, List.set_cons_zero, List.set_cons_succ]))
  (refine o_load _ (by rfl) rfl rfl (by assumption) (by kernel_rfl) ?_; simp only [Act.put, List.setIfInBounds_toArray, List.set_cons_zero, List.set_cons_succ])
  refine o_sole (fun K hK => ?_)
  go_wp2_with fail
  refine (RN.out wd BB.out).mono ?_
  rintro e' w3 ⟨k, hk, rfl, hb3⟩
  have hw1 : ((base + k : Nat) : Int) - (base : Int) = (k : Nat) := by omega
  have hw2 : IntKind.u64.wrap (k : Int) = (k : Nat) := by rw [IntKind.wrap_u64]; omega
  have hw3 : IntKind.i64.wrap (k : Int) = (k : Nat) := by rw [IntKind.wrap_i64]; omega
  obtain ⟨e0, he0⟩ : ∃ e0, e0 = base + k := ⟨_, rfl⟩
  rw [← he0] at hw1 ⊢
  clear he0
  go_wp2_with fail
  refine hK _ _ (fun _ => Ext.of hb3) ?_; clear hK K
  (refine o_pure (v := ?_) (by rfl) (fun w' => ?_) ?_; rotate_left; (focus (go_simp; (try with_reducible rfl); (try (rw [if_pos (by omega)]; (try with_reducible rfl))))); (try simp only [Act.put, List.setIfInBounds_toArray, List.set_cons_zero, List.set_cons_succ]))
  (refine o_pure (v := ?_) (by rfl) (fun w' => ?_) ?_; rotate_left; (focus (go_simp; (try with_reducible rfl); (try (rw [if_pos (by omega)]; (try with_reducible rfl))))); (try simp only [Act.put, List.setIfInBounds_toArray, List.set_cons_zero, List.set_cons_succ]))
  (refine o_pure (v := ?_) (by rfl) (fun w' => ?_) ?_; rotate_left; (focus (go_simp; (try with_reducible rfl); (try (rw [if_pos (by omega)]; (try with_reducible rfl))))); (try simp only [Act.put, List.setIfInBounds_toArray, List.set_cons_zero, List.set_cons_succ]))
  refine o_nil (hQ.out _ _ ?_); clear hQ QQ
  replace KX := Sh.mk (KX.out.below hb3 KX.out.lt)
  replace BB := Sh.mk (BB.out.trans (hb3.mono (by have := HZ.out; have := BB.out.size; omega)))
  have HS := Sh.mk KX.out.lt
  replace HR := Sh.mk (HR.out.below BB.out)
  clear f0 f1 f2 f3 f4 f5 HLD hb3 hw1 hw2 hw3 RN
  have f0 : w3.cell? ⟨w.heap.size, 0, none⟩ = some (.int .u64 (base : Int)) := by rw [KX.out.cell]; rfl
  have f1 : w3.cell? ⟨w.heap.size, 1, none⟩ = some (.slice A1 n c1) := by rw [KX.out.cell]; rfl
  have f2 : w3.cell? ⟨w.heap.size, 2, none⟩ = some (.slice A2 n c2) := by rw [KX.out.cell]; rfl
  have f3 : w3.cell? ⟨w.heap.size, 3, none⟩ = some (.int .i64 (most : Int)) := by rw [KX.out.cell]; rfl
  have f4 : w3.cell? ⟨w.heap.size, 4, none⟩ = some (.int .u64 (en : Int)) := by rw [KX.out.cell]; rfl
  have f5 : w3.cell? ⟨w.heap.size, 5, none⟩ = some (.bool kn) := by rw [KX.out.cell]; rfl
  go_wp2_with fail
  go_loopw [3, 4] (fun ov iv wr => ∃ (i : Nat) (l : List Sp), i ≤ n ∧ iv = .int .i64 (i : Int) ∧ Sh (Pcs wr 79 (w.heap.size + 1) ov l ∧ Rise l ∧ l.length ≤ i) ∧ Sh (Below (w.heap.size + 1) w3 wr)) (fun _ iv _ => n - (intOf iv).toNat)
  case atStart => exact ⟨k, [], hk, rfl, Sh.mk ⟨Pcs.nil _ _ _, trivial, Nat.zero_le _⟩, Sh.mk (Below.refl _ _)⟩
  case round =>
    clear f0 f1 f2 f3 f4 f5
    obtain ⟨i, l, hi, rfl, hl', hbr⟩ := hrel
    have KXr := Sh.mk (KX.out.below hbr.out (by omega))
    have HRr := Sh.mk (HR.out.below (hbr.out.mono (Nat.le_succ _)))
    have f0 : wr.cell? ⟨w.heap.size, 0, none⟩ = some (.int .u64 (base : Int)) := by rw [KXr.out.cell]; rfl
    have f1 : wr.cell? ⟨w.heap.size, 1, none⟩ = some (.slice A1 n c1) := by rw [KXr.out.cell]; rfl
    have f2 : wr.cell? ⟨w.heap.size, 2, none⟩ = some (.slice A2 n c2) := by rw [KXr.out.cell]; rfl
    have f3 : wr.cell? ⟨w.heap.size, 3, none⟩ = some (.int .i64 (most : Int)) := by rw [KXr.out.cell]; rfl
    have f4 : wr.cell? ⟨w.heap.size, 4, none⟩ = some (.int .u64 (en : Int)) := by rw [KXr.out.cell]; rfl
    have f5 : wr.cell? ⟨w.heap.size, 5, none⟩ = some (.bool kn) := by rw [KXr.out.cell]; rfl
    by_cases hlt : i < n
    · have hlt' : (i : Int) < (n : Int) := by omega
      obtain ⟨b, off, v, rfl, hbb, hv⟩ := HRr.out.bl hlt
      cases v
      · go_wp2_with fail
        go_roundw
        case rel => exact ⟨i + 1, l, by omega, by go_num, Sh.mk ⟨hl'.out.1, hl'.out.2.1, by have := hl'.out.2.2; omega⟩, hbr⟩
        case measure => simp [intOf]; omega
      · have hw1 : IntKind.u64.wrap (i : Int) = (i : Nat) := by rw [IntKind.wrap_u64]; omega
        obtain ⟨e1, he1⟩ : ∃ e1, e1 = base + i := ⟨_, rfl⟩
        have hw2 : IntKind.u64.wrap ((base : Int) + (i : Int)) = (e1 : Nat) := by rw [IntKind.wrap_u64]; omega
        have hw3 : IntKind.u64.wrap ((e1 : Int) + 1) = ((e1 + 1 : Nat) : Int) := by rw [IntKind.wrap_u64]; omega
        obtain ⟨Aq, m, cq, rfl, _, _, hln, hrd⟩ := Pcs.out hl'.out.1
        have hm200 : m ≤ 200 := by have := hl'.out.2.2; have := hln.out; omega
        have HJ := Sh.mk (join_any Aq m cq wr.heap.size l e1 (e1 + 1) wr hrd.out (Nat.le_refl _) hl'.out.2.1 (Nat.lt_succ_self _) (by omega))
        obtain ⟨e2, he2⟩ : ∃ e2, e2 = e1 + 1 := ⟨_, rfl⟩
        rw [← he2] at hw3 HJ
        have HW := Sh.mk (show w.heap.size + 1 ≤ wr.heap.size by have := hbr.out.size; have := HS.out; omega)
        have HE2 := Sh.mk (show e1 < e2 by omega)
        clear he1 hrd hln he2
        go_wp2_with fail
        refine HJ.out.mono ?_
        rintro e' w5 ⟨v5, rfl, hp5, hb5⟩
        have HP5 := Sh.mk (show Pcs w5 79 (w.heap.size + 1) v5 (addL l e1 e2) from own_mono hp5 HW.out)
        have HB5 := Sh.mk (hbr.out.trans (hb5.mono HW.out))
        have HAL := Sh.mk (show (addL l e1 e2).length ≤ i + 1 by have := addL_len l e1 e2; have := hl'.out.2.2; omega)
        have HAR := Sh.mk (addL_rise hl'.out.2.1 HE2.out)
        clear hp5 hb5 HJ hw1 hw2 hw3
        go_wp2_with fail
        go_roundw
        case rel => exact ⟨i + 1, addL l e1 e2, by omega, by go_num, Sh.mk ⟨HP5.out, HAR.out, HAL.out⟩, HB5⟩
        case measure => simp [intOf]; omega
    · have hge : ¬ (i : Int) < (n : Int) := by omega
      obtain ⟨Aq, m, cq, rfl, _, _, _, _⟩ := Pcs.out hl'.out.1
      go_wp2_with fail
      go_ret
      exact ⟨_, rfl, ⟨l, own_mono hl'.out.1 (Nat.le_succ _)⟩, BB.out.trans (hbr.out.mono (Nat.le_succ _))⟩

end Go.Proofs.Ytnngjbieoakanaa

/- Of what was there nothing has turned but one block. No program. -/
namespace Go.Proofs.Ytnngjbieoakanaa
open Go.RowKit
set_option linter.unusedVariables false
/-- Of what was there nothing has turned but this block. -/
def Tou (g : Nat) (w w' : World) : Prop := Below g w w' ∧ ∀ k, k < w.heap.size → k ≠ g → w'.heap[k]? = w.heap[k]?
theorem Tou.of {g : Nat} {w w' : World} (h : Below w.heap.size w w') (hg : g ≤ w.heap.size) : Tou g w w' := ⟨h.mono hg, fun k hk _ => h.block k hk⟩
theorem Tou.solo {g : Nat} {w w' w2 : World} (h : Tou g w w') (k : Solo g w' w2) : Tou g w w2 :=
  ⟨h.1.trans k.1, fun i hi hne => (k.2.2 i hne).trans (h.2 i hi hne)⟩
theorem Tou.below {g B : Nat} {w0 w w' : World} (h0 : Below B w0 w) (h : Tou g w w') (hB : B ≤ g) : Below B w0 w' := h0.trans (h.1.mono hB)
theorem Tou.blk {g k : Nat} {t : TypeId} {cs : Array Value} {w w' : World} (h : Tou g w w') (hb : Blk w k t cs) (hk : k ≠ g) : Blk w' k t cs := (h.2 k hb.lt hk).trans hb
theorem Tou.refl (g : Nat) (w : World) : Tou g w w := ⟨Below.refl _ _, fun _ _ _ => rfl⟩
theorem Tou.grow {g : Nat} {w w1 w2 : World} (h : Tou g w w1) (hb : Below w1.heap.size w1 w2) (hg : g ≤ w1.heap.size) : Tou g w w2 :=
  ⟨h.1.trans (hb.mono hg), fun k hk hne => (hb.block k (Nat.lt_of_lt_of_le hk h.1.size)).trans (h.2 k hk hne)⟩
theorem Tou.tou {g : Nat} {w w1 w2 : World} (h : Tou g w w1) (k : Tou g w1 w2) : Tou g w w2 :=
  ⟨h.1.trans k.1, fun i hi hne => (k.2 i (Nat.lt_of_lt_of_le hi h.1.size) hne).trans (h.2 i hi hne)⟩
theorem Tou.soloAt {g r : Nat} {w w1 w2 : World} (h : Tou g w w1) (hs : Solo r w1 w2) (hr : w.heap.size ≤ r) (hg : g ≤ r) : Tou g w w2 :=
  ⟨h.1.trans (hs.1.mono hg), fun k hk hne => (hs.2.2 k (by omega)).trans (h.2 k hk hne)⟩
end Go.Proofs.Ytnngjbieoakanaa
