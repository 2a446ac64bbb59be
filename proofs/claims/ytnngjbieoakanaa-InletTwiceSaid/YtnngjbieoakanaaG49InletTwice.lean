/- broughamlaw18.one: the program's inlet and the document's, one call each. -/
import Derived.Test.YtnngjbieoakanaaG48InletTwice
import Derived.Test.YtnngjbieoakanaaG40InletTwice

namespace Go.Proofs.Ytnngjbieoakanaa
open Go.RowKit
set_option linter.unusedVariables false
set_option linter.unusedSimpArgs false
section
variable {w w' w2 : World} {B x g p s r : Nat} {st : Ist} {t : TypeId} {cs : Array Value}
theorem IN.aside (h : IN w B x g p s st) (hr : Blk w r t cs) (h1 : 35 ≠ t) (h2 : 71 ≠ t) (hx : x < r ∧ g < r ∧ p < r ∧ s < r) (hs : Solo r w w') : IN w' B x g p s st := by
  obtain ⟨v, hv⟩ := h.sp
  exact ⟨hs.blk h.blk (by omega), h.rg.below hs.1 hx.2.1 hx.2.2.1, ⟨v, hv.solo hs (by omega) fun k hk e => own_nt hv.own hr h2 (by rw [hk, e])⟩, h.ok, h.bx, h.bg, h.bp, h.en⟩
theorem IK.aside (h : IK B x g p s w w') (hs : Solo r w' w2) (hr : w.heap.size ≤ r) : IK B x g p s w w2 :=
  ⟨hs.1.os.trans h.os, hs.1.tape.trans h.tape, hs.1.output.trans h.output, by rw [hs.2.1]; exact h.size, fun k hk a b c d e => (hs.2.2 k (by omega)).trans (h.same k hk a b c d e)⟩
theorem IK.blk (h : IK B x g p s w w') (hb : Blk w r t cs) (hr : r ≠ x ∧ r ≠ g ∧ r ≠ p ∧ r ≠ s) (ht : t ≠ 71) : Blk w' r t cs := by
  refine (h.same r hb.lt hr.1 hr.2.1 hr.2.2.1 hr.2.2.2 (.inr fun ds m e => ?_)).trans hb
  unfold Blk at hb
  rw [hb] at e
  injection e with e
  injection e with _ e
  exact ht e
theorem XR.solo {B1 n c1 c2 : Nat} {A1 A2 : Option Addr} (h : XR w B1 n A1 c1 A2 c2) (hr : Blk w r t cs) (h1 : 4 ≠ t) (h2 : 5 ≠ t) (hs : Solo r w w') : XR w' B1 n A1 c1 A2 c2 := by
  obtain ⟨hl, bl, a, b, c⟩ := h
  exact ⟨hl, bl, own_kept a fun q hq => hs.2.2 q fun e => own_nt a hr h1 (by rw [hq, e]), b.kept fun q hq => hs.2.2 q fun e => own_nt b hr h2 (by rw [hq, e]), c⟩
end
section
variable {s : Ist} {f : Nat} {bs : List Nat}
theorem Ist.fin_same : (s.fin f).1.base = s.base ∧ (s.fin f).1.size = s.size := by
  unfold Ist.fin
  split
  · exact ⟨rfl, rfl⟩
  · split <;> exact ⟨rfl, rfl⟩
end
/-- What one call of both leaves. -/
def OneP (w : World) (B x g p s B1 n most bmax : Nat) (st : Ist) (e : Ending) (w' : World) : Prop :=
  ∃ v b st', e = .returned (.tuple #[v, .bool b]) ∧ XO w' B1 n most bmax v ∧ IN w' B x g p s st' ∧ IK B x g p s w w' ∧ st'.size = st.size ∧ st'.base ≤ st.base + st.size
theorem OneP.mk' {w w' : World} {B x g p s B1 n most bmax : Nat} {st st' : Ist} {v : Value} {b : Bool} (h1 : XO w' B1 n most bmax v) (h2 : IN w' B x g p s st') (h3 : IK B x g p s w w') (h4 : st'.size = st.size) (h5 : st'.base ≤ st.base + st.size) : OneP w B x g p s B1 n most bmax st (.returned (.tuple #[v, .bool b])) w' := ⟨_, _, _, rfl, h1, h2, h3, h4, h5⟩
set_option maxRecDepth 20000 in
set_option maxHeartbeats 40000000 in
theorem one_true (B x g p s B1 n most base en c1 c2 W0 : Nat) (st : Ist) (kn : Bool) (A1 A2 : Option Addr) (q : InOp) (w : World) (h : IN w B x g p s st) (hX : XR w B1 n A1 c1 A2 c2) (hl4 : x < B1 ∧ g < B1 ∧ p < B1 ∧ s < B1) (hB1 : B1 ≤ w.heap.size) (hW : W0 ≤ B) (hn : n ≤ 200) (hb : base ≤ 90000) (hat : q.at_ < 18446744073709551616) (hnn : q.nn < 9223372036854775808) (hq : Rd w W0 1 q.A q.m (ns .u8 q.l)) (hm : q.m ≤ 300) (hmc : q.m ≤ q.c) (hlt : ∀ y ∈ q.l, y < 256) (hlim : st.base + st.size ≤ iLim)  :
    Calls Try.prog 7 #[.pointer (some ⟨x, 0, none⟩), .agg #[.int .u64 (base : Int), .slice A1 n c1, .slice A2 n c2, .int .i64 (most : Int), .int .u64 (en : Int), .bool kn], .agg #[.int .i64 q.k, .int .i64 q.nn, .int .u64 (q.at_ : Int), .bool true, .slice q.A q.m q.c]] w (OneP w B x g p s B1 n most (base + n) st) := by
  have z1 : (w.alloc (.cells #[.int .u64 (base : Int), .slice A1 n c1, .slice A2 n c2, .int .i64 (most : Int), .int .u64 (en : Int), .bool kn] 38)).heap.size = w.heap.size + 1 := by simp
  have z2 : ((w.alloc (.cells #[.int .u64 (base : Int), .slice A1 n c1, .slice A2 n c2, .int .i64 (most : Int), .int .u64 (en : Int), .bool kn] 38)).alloc (.cells #[.int .i64 q.k, .int .i64 q.nn, .int .u64 (q.at_ : Int), .bool true, .slice q.A q.m q.c] 26)).heap.size = w.heap.size + 2 := by simp
  have K4 := Lib.hid (((Blk.new w 38 #[.int .u64 (base : Int), .slice A1 n c1, .slice A2 n c2, .int .i64 (most : Int), .int .u64 (en : Int), .bool kn]).alloc (.cells #[.int .i64 q.k, .int .i64 q.nn, .int .u64 (q.at_ : Int), .bool true, .slice q.A q.m q.c] 26)).alloc (.cells #[.int .u64 0, .slice none 0 0, .slice none 0 0, .int .i64 0, .int .u64 0, .bool false] 38))
  have K5 := Lib.hid ((Blk.new (w.alloc (.cells #[.int .u64 (base : Int), .slice A1 n c1, .slice A2 n c2, .int .i64 (most : Int), .int .u64 (en : Int), .bool kn] 38)) 26 #[.int .i64 q.k, .int .i64 q.nn, .int .u64 (q.at_ : Int), .bool true, .slice q.A q.m q.c]).alloc (.cells #[.int .u64 0, .slice none 0 0, .slice none 0 0, .int .i64 0, .int .u64 0, .bool false] 38))
  have K6 := Lib.hid (Blk.new ((w.alloc (.cells #[.int .u64 (base : Int), .slice A1 n c1, .slice A2 n c2, .int .i64 (most : Int), .int .u64 (en : Int), .bool kn] 38)).alloc (.cells #[.int .i64 q.k, .int .i64 q.nn, .int .u64 (q.at_ : Int), .bool true, .slice q.A q.m q.c] 26)) 38 #[.int .u64 0, .slice none 0 0, .slice none 0 0, .int .i64 0, .int .u64 0, .bool false])
  have hb0 := (((Below.refl w.heap.size w).alloc (Nat.le_refl _) (.cells #[.int .u64 (base : Int), .slice A1 n c1, .slice A2 n c2, .int .i64 (most : Int), .int .u64 (en : Int), .bool kn] 38)).alloc (by simp) (.cells #[.int .i64 q.k, .int .i64 q.nn, .int .u64 (q.at_ : Int), .bool true, .slice q.A q.m q.c] 26)).alloc (by simp; omega) (.cells #[.int .u64 0, .slice none 0 0, .slice none 0 0, .int .i64 0, .int .u64 0, .bool false] 38)
  rw [z1] at K5
  rw [z2] at K6
  have HI := Lib.hid (h.into hb0)
  have HXR := Lib.hid (hX.into hb0)
  have WW := h.hw
  have HQ := Lib.hid (hq.below (hb0.mono (by omega)))
  have WC := Lib.hid (show W0 ≤ (((w.alloc (.cells #[.int .u64 (base : Int), .slice A1 n c1, .slice A2 n c2, .int .i64 (most : Int), .int .u64 (en : Int), .bool kn] 38)).alloc (.cells #[.int .i64 q.k, .int .i64 q.nn, .int .u64 (q.at_ : Int), .bool true, .slice q.A q.m q.c] 26)).alloc (.cells #[.int .u64 0, .slice none 0 0, .slice none 0 0, .int .i64 0, .int .u64 0, .bool false] 38)).heap.size from Nat.le_trans (by omega) hb0.size)
  have KK : Hid (IK B x g p s w (((w.alloc (.cells #[.int .u64 (base : Int), .slice A1 n c1, .slice A2 n c2, .int .i64 (most : Int), .int .u64 (en : Int), .bool kn] 38)).alloc (.cells #[.int .i64 q.k, .int .i64 q.nn, .int .u64 (q.at_ : Int), .bool true, .slice q.A q.m q.c] 26)).alloc (.cells #[.int .u64 0, .slice none 0 0, .slice none 0 0, .int .i64 0, .int .u64 0, .bool false] 38))) := Lib.hid (IK.of hb0)
  have W0B := Lib.hid hW
  have LT := Lib.hid hl4
  have LE := Lib.hid (show x < w.heap.size ∧ g < w.heap.size ∧ p < w.heap.size ∧ s < w.heap.size by omega)
  have HLIM := Sh.mk hlim
  have HLT := Sh.mk hlt
  have HBW := Lib.hid hB1
  have HOK := Lib.hid h.ok
  clear h hX hq hb0 WW hlim hlt
  go_enter Try.func7, Try.ntmps7
  go_upto_region 1 with fail
  generalize (((w.alloc (.cells #[.int .u64 (base : Int), .slice A1 n c1, .slice A2 n c2, .int .i64 (most : Int), .int .u64 (en : Int), .bool kn] 38)).alloc (.cells #[.int .i64 q.k, .int .i64 q.nn, .int .u64 (q.at_ : Int), .bool true, .slice q.A q.m q.c] 26)).alloc (.cells #[.int .u64 0, .slice none 0 0, .slice none 0 0, .int .i64 0, .int .u64 0, .bool false] 38)) = w1 at K4 K5 K6 HI HXR HQ WC KK ⊢
  obtain ⟨E, hE⟩ : ∃ E, E = w.heap.size := ⟨_, rfl⟩
  have HE := Sh.mk hE
  rw [← hE] at K4 K5 K6 LE HBW ⊢
  have NX := Lib.hid (show (E ≠ x ∧ E ≠ g ∧ E ≠ p ∧ E ≠ s) ∧ (E + 1 ≠ x ∧ E + 1 ≠ g ∧ E + 1 ≠ p ∧ E + 1 ≠ s) ∧ (E + 2 ≠ x ∧ E + 2 ≠ g ∧ E + 2 ≠ p ∧ E + 2 ≠ s) by have := LE.out; omega)
  have WE := Lib.hid (show W0 ≤ E by have := HI.out.bx; have := LE.out; omega)
  clear hE z1 z2 hl4 hB1 hW
  obtain ⟨o0, o1, o2, o3, o4⟩ : w1.cell? ⟨E + 1, 0, none⟩ = some (.int .i64 q.k) ∧ w1.cell? ⟨E + 1, 1, none⟩ = some (.int .i64 q.nn) ∧ w1.cell? ⟨E + 1, 2, none⟩ = some (.int .u64 (q.at_ : Int)) ∧ w1.cell? ⟨E + 1, 3, none⟩ = some (.bool true) ∧ w1.cell? ⟨E + 1, 4, none⟩ = some (.slice q.A q.m q.c) := ⟨(K5.out.cell 0).trans rfl, (K5.out.cell 1).trans rfl, (K5.out.cell 2).trans rfl, (K5.out.cell 3).trans rfl, (K5.out.cell 4).trans rfl⟩
  obtain ⟨x0, x1, x2, x3, x4, x5⟩ : w1.cell? ⟨E, 0, none⟩ = some (.int .u64 (base : Int)) ∧ w1.cell? ⟨E, 1, none⟩ = some (.slice A1 n c1) ∧ w1.cell? ⟨E, 2, none⟩ = some (.slice A2 n c2) ∧ w1.cell? ⟨E, 3, none⟩ = some (.int .i64 (most : Int)) ∧ w1.cell? ⟨E, 4, none⟩ = some (.int .u64 (en : Int)) ∧ w1.cell? ⟨E, 5, none⟩ = some (.bool kn) := ⟨(K4.out.cell 0).trans rfl, (K4.out.cell 1).trans rfl, (K4.out.cell 2).trans rfl, (K4.out.cell 3).trans rfl, (K4.out.cell 4).trans rfl, (K4.out.cell 5).trans rfl⟩
  obtain ⟨f, hf⟩ : ∃ f, f = q.at_ := ⟨_, rfl⟩
  have HF := Sh.mk (show f < 18446744073709551616 by omega)
  rw [← hf] at o2
  clear hf
  go_upto_region 6 with fail
  generalize (wrap64 (q.k.tmod 8 + 8)).tmod 8 = kd
  clear o0 o1 o2 o3 o4 x0 x1 x2 x3 x4 x5
  by_cases hkd : kd = 5
  · have hk5 : (kd == 5) = true := by simpa using hkd
    have RF := Lib.hid (r18_fin base most en n kn A1 A2 c1 c2 B1 w1 HXR.out hn (by omega) f)
    obtain ⟨x0, x1, x2, x3, x4, x5⟩ : w1.cell? ⟨E, 0, none⟩ = some (.int .u64 (base : Int)) ∧ w1.cell? ⟨E, 1, none⟩ = some (.slice A1 n c1) ∧ w1.cell? ⟨E, 2, none⟩ = some (.slice A2 n c2) ∧ w1.cell? ⟨E, 3, none⟩ = some (.int .i64 (most : Int)) ∧ w1.cell? ⟨E, 4, none⟩ = some (.int .u64 (en : Int)) ∧ w1.cell? ⟨E, 5, none⟩ = some (.bool kn) := ⟨(K4.out.cell 0).trans rfl, (K4.out.cell 1).trans rfl, (K4.out.cell 2).trans rfl, (K4.out.cell 3).trans rfl, (K4.out.cell 4).trans rfl, (K4.out.cell 5).trans rfl⟩
    go_wp2_with fail
    refine RF.out.mono ?_
    rintro e w2 ⟨v, b, rfl, hxo, hb2⟩
    obtain ⟨base', en', kn', A1', A2', c1', c2', rfl, hle, hxr⟩ := hxo
    replace HI := Lib.hid (HI.out.into hb2)
    replace HXR := Lib.hid (HXR.out.into hb2)
    replace HQ := Lib.hid (HQ.out.below (hb2.mono WC.out))
    replace K4 := Lib.hid (K4.out.below hb2 K4.out.lt)
    replace K5 := Lib.hid (K5.out.below hb2 K5.out.lt)
    replace K6 := Lib.hid (K6.out.below hb2 K6.out.lt)
    replace KK := Lib.hid (KK.out.trans (IK.of hb2))
    replace WC := Lib.hid (Nat.le_trans WC.out hb2.size)
    replace HXR := Lib.hid hxr
    have HLE := Sh.mk (show base' ≤ base + n by omega)
    clear hb2 hxr RF x0 x1 x2 x3 x4 x5 hle
    go_upto_region 8 with (refine stm_store (cs' := #[.int .u64 (base' : Int), .slice A1' n c1', .slice A2' n c2', .int .i64 (most : Int), .int .u64 (en' : Int), .bool kn']) K4.out rfl _ _ rfl rfl rfl (by simp) (by kernel_rfl) (by simp [Value.oneCell']) (by simp [setL]) fun w3 hk hs => ?_)
    replace HI := Lib.hid (HI.out.aside K4.out (by decide) (by decide) (by have := LE.out; omega) hs)
    replace HXR := Lib.hid (HXR.out.solo K4.out (by decide) (by decide) hs)
    replace HQ := Lib.hid (HQ.out.below (hs.1.mono (by have := WE.out; omega)))
    replace WC := Lib.hid (Nat.le_trans WC.out (Nat.le_of_eq hs.2.1.symm))
    replace K5 := Lib.hid (hs.blk K5.out (by omega))
    replace K6 := Lib.hid (hs.blk K6.out (by omega))
    replace KK := Lib.hid (KK.out.aside hs (by have := HE.out; omega))
    replace K4 := Lib.hid (show Blk _ _ _ #[.int .u64 (base' : Int), .slice A1' n c1', .slice A2' n c2', .int .i64 (most : Int), .int .u64 (en' : Int), .bool kn'] from hk)
    clear hk hs
    go_upto_region 8 with fail
    refine OX.wp_ord [(0, .read), (1, .pure), (2, .pure), (4, .pure), (3, .sole), (5, .pure), (6, .sole), (7, .pure)] ⟨fun k => k ≠ E ∧ k ≠ E + 1, []⟩ (by kernel_rfl) (by kernel_rfl) (fun QQ hQ wd hwd => ?_); (try simp only [List.map_cons, List.map_nil, List.getD_cons_zero, List.getD_cons_succ])
    have hD : Below w3.heap.size w3 wd := by rw [hwd.out]; exact (Below.refl _ _).drew
    replace HI := Lib.hid (HI.out.into hD)
    replace HXR := Lib.hid (HXR.out.into hD)
    replace HQ := Lib.hid (HQ.out.below (hD.mono WC.out))
    replace K4 := Lib.hid (K4.out.below hD K4.out.lt)
    replace K5 := Lib.hid (K5.out.below hD K5.out.lt)
    replace K6 := Lib.hid (K6.out.below hD K6.out.lt)
    replace KK := Lib.hid (KK.out.trans (IK.of hD))
    replace WC := Lib.hid (Nat.le_trans WC.out hD.size)
    clear hD hwd
    have hnE : ¬ (E ≠ E ∧ E ≠ E + 1) := fun h => h.1 rfl
    have hnE1 : ¬ (E + 1 ≠ E ∧ E + 1 ≠ E + 1) := fun h => h.2 rfl
    (refine OX.o_loads _ [.int .u64 (base' : Int), .slice A1' n c1', .slice A2' n c2', .int .i64 (most : Int), .int .u64 (en' : Int), .bool kn'] (by rfl) rfl rfl (by dsimp only; first | assumption | omega) (fun j x hj => by rw [K4.out.cell, Nat.zero_add]; simpa using hj) (Nat.succ_pos _) (by kernel_rfl) (by kernel_rfl) ?_; simp only [Act.put, List.setIfInBounds_toArray, List.set_cons_zero, List.set_cons_succ])
    (refine OX.o_pure (v := ?_) (by rfl) (fun w' => ?_) ?_; rotate_left; (focus (go_simp; (try with_reducible rfl))); (try simp only [Act.put, List.setIfInBounds_toArray, List.set_cons_zero, List.set_cons_succ]))
    (refine OX.o_pure (v := ?_) (by rfl) (fun w' => ?_) ?_; rotate_left; (focus (go_simp; (try with_reducible rfl))); (try simp only [Act.put, List.setIfInBounds_toArray, List.set_cons_zero, List.set_cons_succ]))
    (refine OX.o_pure (v := ?_) (by rfl) (fun w' => ?_) ?_; rotate_left; (focus (go_simp; (try with_reducible rfl))); (try simp only [Act.put, List.setIfInBounds_toArray, List.set_cons_zero, List.set_cons_succ]))
    have HC := Lib.hid (in_fin B x g p s st f wd HI.out (by unfold pmax; exact HF.out))
    refine OX.o_sole (fun K hK => ?_)
    go_wp2_with fail
    refine HC.out.mono ?_
    rintro e w6 ⟨rfl, hin, hik⟩
    go_wp2_with fail
    refine hK _ _ (fun _ => ⟨hik.size, fun k hk hb => by
      have h2 : k = E ∨ k = E + 1 := by dsimp only at hb; omega
      rcases h2 with rfl | rfl
      · exact (hik.blk K4.out NX.out.1 (by decide)).trans K4.out.symm
      · exact (hik.blk K5.out NX.out.2.1 (by decide)).trans K5.out.symm⟩) ?_; clear hK K
    replace HQ := Lib.hid (HQ.out.below ((HI.out.bel hik).mono W0B.out))
    replace WC := Lib.hid (Nat.le_trans WC.out hik.size)
    replace K4 := Lib.hid (hik.blk K4.out NX.out.1 (by decide))
    replace K5 := Lib.hid (hik.blk K5.out NX.out.2.1 (by decide))
    replace K6 := Lib.hid (hik.blk K6.out NX.out.2.2 (by decide))
    replace HXR := Lib.hid (HXR.out.ik hik LT.out.1 LT.out.2.1 LT.out.2.2.1 LT.out.2.2.2)
    replace KK := Lib.hid (KK.out.trans hik)
    replace HI := Lib.hid (hin)
    clear hin hik HC
    (refine OX.o_pure (v := ?_) (by rfl) (fun w' => ?_) ?_; rotate_left; (focus (go_simp; (try with_reducible rfl))); (try simp only [Act.put, List.setIfInBounds_toArray, List.set_cons_zero, List.set_cons_succ]))
    refine OX.o_sole (fun K hK => ?_)
    refine stm_store (cs' := #[.int .u64 (base' : Int), .slice A1' n c1', .slice A2' n c2', .int .i64 (most : Int), .int .u64 (en' : Int), .bool kn']) K6.out rfl _ _ rfl rfl rfl (by simp) (by kernel_rfl) (by simp [Value.oneCell']) (by simp [setL]) fun w7 hk hs => ?_
    refine wpList_nil ?_
    refine hK _ _ (fun _ => OX.ExtB.solo hs (by dsimp only; omega)) ?_; clear hK K
    replace HI := Lib.hid (HI.out.aside K6.out (by decide) (by decide) (by have := LE.out; omega) hs)
    replace HXR := Lib.hid (HXR.out.solo K6.out (by decide) (by decide) hs)
    replace HQ := Lib.hid (HQ.out.below (hs.1.mono (by have := WE.out; omega)))
    replace WC := Lib.hid (Nat.le_trans WC.out (Nat.le_of_eq hs.2.1.symm))
    replace K5 := Lib.hid (hs.blk K5.out (by omega))
    replace K4 := Lib.hid (hs.blk K4.out (by omega))
    replace KK := Lib.hid (KK.out.aside hs (by have := HE.out; omega))
    replace K6 := Lib.hid (show Blk _ _ _ #[.int .u64 (base' : Int), .slice A1' n c1', .slice A2' n c2', .int .i64 (most : Int), .int .u64 (en' : Int), .bool kn'] from hk)
    clear hk hs
    (refine OX.o_pure (v := ?_) (by rfl) (fun w' => ?_) ?_; rotate_left; (focus (go_simp; (try with_reducible rfl))); (try simp only [Act.put, List.setIfInBounds_toArray, List.set_cons_zero, List.set_cons_succ]))
    refine OX.o_nil (hQ.out _ _ ?_); clear hQ QQ
    obtain ⟨r0, r1, r2, r3, r4, r5⟩ : w7.cell? ⟨E + 2, 0, none⟩ = some (.int .u64 (base' : Int)) ∧ w7.cell? ⟨E + 2, 1, none⟩ = some (.slice A1' n c1') ∧ w7.cell? ⟨E + 2, 2, none⟩ = some (.slice A2' n c2') ∧ w7.cell? ⟨E + 2, 3, none⟩ = some (.int .i64 (most : Int)) ∧ w7.cell? ⟨E + 2, 4, none⟩ = some (.int .u64 (en' : Int)) ∧ w7.cell? ⟨E + 2, 5, none⟩ = some (.bool kn') := ⟨(K6.out.cell 0).trans rfl, (K6.out.cell 1).trans rfl, (K6.out.cell 2).trans rfl, (K6.out.cell 3).trans rfl, (K6.out.cell 4).trans rfl, (K6.out.cell 5).trans rfl⟩
    go_wp2_with fail
    refine bodyPost_ret (v := .tuple #[.agg #[.int .u64 (base' : Int), .slice A1' n c1', .slice A2' n c2', .int .i64 (most : Int), .int .u64 (en' : Int), .bool kn'], .bool ((st.fin f).2 == b)]) (by simp [results, Try.results7, go_sem, r0, r1, r2, r3, r4, r5]) rfl ?_
    exact OneP.mk' ⟨_, _, _, _, _, _, _, rfl, HLE.out, HXR.out⟩ HI.out KK.out Ist.fin_same.2 (by rw [Ist.fin_same.1]; omega)
  by_cases hkd6 : kd = 6
  · have hkd := hkd6
    have hk5 : (kd == 5) = false := by simp [hkd]
    have hk6 : (kd == 6) = true := by simp [hkd]
    have hk7 : (kd == 7) = false := by simp [hkd]
    clear hkd
    have EW1 := Lib.hid (show B1 ≤ w1.heap.size from Nat.le_trans HBW.out (by have := KK.out.size; have := HE.out; omega))
    have RF := Lib.hid (r18_take base most en n kn A1 A2 c1 c2 B1 w1 HXR.out hn (by omega) (Nat.le_trans HBW.out (by have := KK.out.size; have := HE.out; omega)) q.nn)
    obtain ⟨x0, x1, x2, x3, x4, x5⟩ : w1.cell? ⟨E, 0, none⟩ = some (.int .u64 (base : Int)) ∧ w1.cell? ⟨E, 1, none⟩ = some (.slice A1 n c1) ∧ w1.cell? ⟨E, 2, none⟩ = some (.slice A2 n c2) ∧ w1.cell? ⟨E, 3, none⟩ = some (.int .i64 (most : Int)) ∧ w1.cell? ⟨E, 4, none⟩ = some (.int .u64 (en : Int)) ∧ w1.cell? ⟨E, 5, none⟩ = some (.bool kn) := ⟨(K4.out.cell 0).trans rfl, (K4.out.cell 1).trans rfl, (K4.out.cell 2).trans rfl, (K4.out.cell 3).trans rfl, (K4.out.cell 4).trans rfl, (K4.out.cell 5).trans rfl⟩
    obtain ⟨o0, o1, o2, o3, o4⟩ : w1.cell? ⟨E + 1, 0, none⟩ = some (.int .i64 q.k) ∧ w1.cell? ⟨E + 1, 1, none⟩ = some (.int .i64 q.nn) ∧ w1.cell? ⟨E + 1, 2, none⟩ = some (.int .u64 (q.at_ : Int)) ∧ w1.cell? ⟨E + 1, 3, none⟩ = some (.bool true) ∧ w1.cell? ⟨E + 1, 4, none⟩ = some (.slice q.A q.m q.c) := ⟨(K5.out.cell 0).trans rfl, (K5.out.cell 1).trans rfl, (K5.out.cell 2).trans rfl, (K5.out.cell 3).trans rfl, (K5.out.cell 4).trans rfl⟩
    go_wp2_with fail
    refine RF.out.mono ?_
    rintro e w2 ⟨v, Ad, md, cd, ld, kd2, rfl, hxo, hnd, hmd, hb2⟩
    obtain ⟨base', en', kn', A1', A2', c1', c2', rfl, hle, hxr⟩ := hxo
    replace HI := Lib.hid (HI.out.into hb2)
    replace HXR := Lib.hid (HXR.out.into hb2)
    replace HQ := Lib.hid (HQ.out.below (hb2.mono WC.out))
    replace K4 := Lib.hid (K4.out.below hb2 K4.out.lt)
    replace K5 := Lib.hid (K5.out.below hb2 K5.out.lt)
    replace K6 := Lib.hid (K6.out.below hb2 K6.out.lt)
    replace KK := Lib.hid (KK.out.trans (IK.of hb2))
    replace WC := Lib.hid (Nat.le_trans WC.out hb2.size)
    replace HXR := Lib.hid hxr
    have HLE := Sh.mk hle
    have ND := Lib.hid (show Nats w2 5 .u8 B1 (.slice Ad md cd) ld from hnd.mono EW1.out)
    clear hb2 hxr RF x0 x1 x2 x3 x4 x5 o0 o1 o2 o3 o4 hle hnd
    go_upto_region 14 with (refine stm_store (cs' := #[.int .u64 (base' : Int), .slice A1' n c1', .slice A2' n c2', .int .i64 (most : Int), .int .u64 (en' : Int), .bool kn']) K4.out rfl _ _ rfl rfl rfl (by simp) (by kernel_rfl) (by simp [Value.oneCell']) (by simp [setL]) fun w3 hk hs => ?_)
    replace ND := Lib.hid (ND.out.kept fun q9 hq9 => hs.2.2 q9 fun e => own_nt ND.out K4.out (by decide) (by rw [hq9, e]))
    replace HI := Lib.hid (HI.out.aside K4.out (by decide) (by decide) (by have := LE.out; omega) hs)
    replace HXR := Lib.hid (HXR.out.solo K4.out (by decide) (by decide) hs)
    replace HQ := Lib.hid (HQ.out.below (hs.1.mono (by have := WE.out; omega)))
    replace WC := Lib.hid (Nat.le_trans WC.out (Nat.le_of_eq hs.2.1.symm))
    replace K5 := Lib.hid (hs.blk K5.out (by omega))
    replace K6 := Lib.hid (hs.blk K6.out (by omega))
    replace KK := Lib.hid (KK.out.aside hs (by have := HE.out; omega))
    replace K4 := Lib.hid (show Blk _ _ _ #[.int .u64 (base' : Int), .slice A1' n c1', .slice A2' n c2', .int .i64 (most : Int), .int .u64 (en' : Int), .bool kn'] from hk)

    clear hk hs
    obtain ⟨o0, o1, o2, o3, o4⟩ : w3.cell? ⟨E + 1, 0, none⟩ = some (.int .i64 q.k) ∧ w3.cell? ⟨E + 1, 1, none⟩ = some (.int .i64 q.nn) ∧ w3.cell? ⟨E + 1, 2, none⟩ = some (.int .u64 (q.at_ : Int)) ∧ w3.cell? ⟨E + 1, 3, none⟩ = some (.bool true) ∧ w3.cell? ⟨E + 1, 4, none⟩ = some (.slice q.A q.m q.c) := ⟨(K5.out.cell 0).trans rfl, (K5.out.cell 1).trans rfl, (K5.out.cell 2).trans rfl, (K5.out.cell 3).trans rfl, (K5.out.cell 4).trans rfl⟩
    have TK := Lib.hid (in_take B x g p s st q.nn w3 HI.out hnn HLIM.out)
    go_wp2_with fail
    refine TK.out.mono ?_
    rintro e w4 ⟨⟨v4, rfl, hn4⟩, hin, hik⟩
    obtain ⟨A4, m4, c4, rfl, hc4, hl4, hr4⟩ := hn4.out
    replace ND := Lib.hid (show Nats w4 5 .u8 B1 (.slice Ad md cd) ld from row_ik ND.out hik LT.out.1 LT.out.2.1 LT.out.2.2.1 LT.out.2.2.2 (by decide))
    replace HQ := Lib.hid (HQ.out.below ((HI.out.bel hik).mono W0B.out))
    replace WC := Lib.hid (Nat.le_trans WC.out hik.size)
    replace K4 := Lib.hid (hik.blk K4.out NX.out.1 (by decide))
    replace K5 := Lib.hid (hik.blk K5.out NX.out.2.1 (by decide))
    replace K6 := Lib.hid (hik.blk K6.out NX.out.2.2 (by decide))
    replace HXR := Lib.hid (HXR.out.ik hik LT.out.1 LT.out.2.1 LT.out.2.2.1 LT.out.2.2.2)
    replace KK := Lib.hid (KK.out.trans hik)
    replace HI := Lib.hid (hin)
    have R4 := Lib.hid hr4.out
    clear hin hik hn4 hl4 hr4 TK o0 o1 o2 o3 o4
    go_upto_region 15 with fail
    obtain ⟨x0, x1, x2, x3, x4, x5⟩ : w4.cell? ⟨E, 0, none⟩ = some (.int .u64 (base' : Int)) ∧ w4.cell? ⟨E, 1, none⟩ = some (.slice A1' n c1') ∧ w4.cell? ⟨E, 2, none⟩ = some (.slice A2' n c2') ∧ w4.cell? ⟨E, 3, none⟩ = some (.int .i64 (most : Int)) ∧ w4.cell? ⟨E, 4, none⟩ = some (.int .u64 (en' : Int)) ∧ w4.cell? ⟨E, 5, none⟩ = some (.bool kn') := ⟨(K4.out.cell 0).trans rfl, (K4.out.cell 1).trans rfl, (K4.out.cell 2).trans rfl, (K4.out.cell 3).trans rfl, (K4.out.cell 4).trans rfl, (K4.out.cell 5).trans rfl⟩
    have RD := Lib.hid (show Rd w4 w4.heap.size 1 Ad md (ns .u8 ld) from by obtain ⟨A9, n9, c9, hv, _, _, h9⟩ := ND.out.out; injection hv with e1 e2 e3; subst e1 e2 e3; exact h9.out)
    generalize st.L.take (st.many q.nn) = lt4 at *
    generalize st.terr q.nn = te at *
    rcases Bool.eq_false_or_eq_true ((strN lt4).toList == (strN ld).toList) with hs1 | hs1 <;> rcases Bool.eq_false_or_eq_true ((te : Int) == (kd2 : Int)) with hs2 | hs2
    · go_wp2_with (first | refine wpList_conv Try.underlying24 Try.underlying5 Try.underlying9 rfl _ rfl rfl R4.out ?_ | refine wpList_conv Try.underlying24 Try.underlying5 Try.underlying9 rfl _ rfl rfl RD.out ?_ | refine stm_store (cs' := #[.int .u64 (base' : Int), .slice A1' n c1', .slice A2' n c2', .int .i64 (most : Int), .int .u64 (en' : Int), .bool kn']) K6.out rfl _ _ rfl rfl rfl (by simp) (by kernel_rfl) (by simp [Value.oneCell']) (by simp [setL]) fun w7 hk hs => ?_)
      replace HI := Lib.hid (HI.out.aside K6.out (by decide) (by decide) (by have := LE.out; omega) hs)
      replace HXR := Lib.hid (HXR.out.solo K6.out (by decide) (by decide) hs)
      replace HQ := Lib.hid (HQ.out.below (hs.1.mono (by have := WE.out; omega)))
      replace WC := Lib.hid (Nat.le_trans WC.out (Nat.le_of_eq hs.2.1.symm))
      replace K5 := Lib.hid (hs.blk K5.out (by omega))
      replace K4 := Lib.hid (hs.blk K4.out (by omega))
      replace KK := Lib.hid (KK.out.aside hs (by have := HE.out; omega))
      replace K6 := Lib.hid (show Blk _ _ _ #[.int .u64 (base' : Int), .slice A1' n c1', .slice A2' n c2', .int .i64 (most : Int), .int .u64 (en' : Int), .bool kn'] from hk)
      clear hk hs
      obtain ⟨r0, r1, r2, r3, r4, r5⟩ : w7.cell? ⟨E + 2, 0, none⟩ = some (.int .u64 (base' : Int)) ∧ w7.cell? ⟨E + 2, 1, none⟩ = some (.slice A1' n c1') ∧ w7.cell? ⟨E + 2, 2, none⟩ = some (.slice A2' n c2') ∧ w7.cell? ⟨E + 2, 3, none⟩ = some (.int .i64 (most : Int)) ∧ w7.cell? ⟨E + 2, 4, none⟩ = some (.int .u64 (en' : Int)) ∧ w7.cell? ⟨E + 2, 5, none⟩ = some (.bool kn') := ⟨(K6.out.cell 0).trans rfl, (K6.out.cell 1).trans rfl, (K6.out.cell 2).trans rfl, (K6.out.cell 3).trans rfl, (K6.out.cell 4).trans rfl, (K6.out.cell 5).trans rfl⟩
      go_wp2_with fail
      refine bodyPost_ret (v := .tuple #[.agg #[.int .u64 (base' : Int), .slice A1' n c1', .slice A2' n c2', .int .i64 (most : Int), .int .u64 (en' : Int), .bool kn'], .bool true]) (by simp [results, Try.results7, go_sem, r0, r1, r2, r3, r4, r5]) rfl ?_
      exact OneP.mk' ⟨_, _, _, _, _, _, _, rfl, HLE.out, HXR.out⟩ HI.out KK.out rfl (by show st.base + st.many q.nn ≤ _; have := HOK.out.ts; unfold Ist.many; omega)
    · go_wp2_with (first | refine wpList_conv Try.underlying24 Try.underlying5 Try.underlying9 rfl _ rfl rfl R4.out ?_ | refine wpList_conv Try.underlying24 Try.underlying5 Try.underlying9 rfl _ rfl rfl RD.out ?_ | refine stm_store (cs' := #[.int .u64 (base' : Int), .slice A1' n c1', .slice A2' n c2', .int .i64 (most : Int), .int .u64 (en' : Int), .bool kn']) K6.out rfl _ _ rfl rfl rfl (by simp) (by kernel_rfl) (by simp [Value.oneCell']) (by simp [setL]) fun w7 hk hs => ?_)
      replace HI := Lib.hid (HI.out.aside K6.out (by decide) (by decide) (by have := LE.out; omega) hs)
      replace HXR := Lib.hid (HXR.out.solo K6.out (by decide) (by decide) hs)
      replace HQ := Lib.hid (HQ.out.below (hs.1.mono (by have := WE.out; omega)))
      replace WC := Lib.hid (Nat.le_trans WC.out (Nat.le_of_eq hs.2.1.symm))
      replace K5 := Lib.hid (hs.blk K5.out (by omega))
      replace K4 := Lib.hid (hs.blk K4.out (by omega))
      replace KK := Lib.hid (KK.out.aside hs (by have := HE.out; omega))
      replace K6 := Lib.hid (show Blk _ _ _ #[.int .u64 (base' : Int), .slice A1' n c1', .slice A2' n c2', .int .i64 (most : Int), .int .u64 (en' : Int), .bool kn'] from hk)
      clear hk hs
      obtain ⟨r0, r1, r2, r3, r4, r5⟩ : w7.cell? ⟨E + 2, 0, none⟩ = some (.int .u64 (base' : Int)) ∧ w7.cell? ⟨E + 2, 1, none⟩ = some (.slice A1' n c1') ∧ w7.cell? ⟨E + 2, 2, none⟩ = some (.slice A2' n c2') ∧ w7.cell? ⟨E + 2, 3, none⟩ = some (.int .i64 (most : Int)) ∧ w7.cell? ⟨E + 2, 4, none⟩ = some (.int .u64 (en' : Int)) ∧ w7.cell? ⟨E + 2, 5, none⟩ = some (.bool kn') := ⟨(K6.out.cell 0).trans rfl, (K6.out.cell 1).trans rfl, (K6.out.cell 2).trans rfl, (K6.out.cell 3).trans rfl, (K6.out.cell 4).trans rfl, (K6.out.cell 5).trans rfl⟩
      go_wp2_with fail
      refine bodyPost_ret (v := .tuple #[.agg #[.int .u64 (base' : Int), .slice A1' n c1', .slice A2' n c2', .int .i64 (most : Int), .int .u64 (en' : Int), .bool kn'], .bool false]) (by simp [results, Try.results7, go_sem, r0, r1, r2, r3, r4, r5]) rfl ?_
      exact OneP.mk' ⟨_, _, _, _, _, _, _, rfl, HLE.out, HXR.out⟩ HI.out KK.out rfl (by show st.base + st.many q.nn ≤ _; have := HOK.out.ts; unfold Ist.many; omega)
    · go_wp2_with (first | refine wpList_conv Try.underlying24 Try.underlying5 Try.underlying9 rfl _ rfl rfl R4.out ?_ | refine wpList_conv Try.underlying24 Try.underlying5 Try.underlying9 rfl _ rfl rfl RD.out ?_ | refine stm_store (cs' := #[.int .u64 (base' : Int), .slice A1' n c1', .slice A2' n c2', .int .i64 (most : Int), .int .u64 (en' : Int), .bool kn']) K6.out rfl _ _ rfl rfl rfl (by simp) (by kernel_rfl) (by simp [Value.oneCell']) (by simp [setL]) fun w7 hk hs => ?_)
      replace HI := Lib.hid (HI.out.aside K6.out (by decide) (by decide) (by have := LE.out; omega) hs)
      replace HXR := Lib.hid (HXR.out.solo K6.out (by decide) (by decide) hs)
      replace HQ := Lib.hid (HQ.out.below (hs.1.mono (by have := WE.out; omega)))
      replace WC := Lib.hid (Nat.le_trans WC.out (Nat.le_of_eq hs.2.1.symm))
      replace K5 := Lib.hid (hs.blk K5.out (by omega))
      replace K4 := Lib.hid (hs.blk K4.out (by omega))
      replace KK := Lib.hid (KK.out.aside hs (by have := HE.out; omega))
      replace K6 := Lib.hid (show Blk _ _ _ #[.int .u64 (base' : Int), .slice A1' n c1', .slice A2' n c2', .int .i64 (most : Int), .int .u64 (en' : Int), .bool kn'] from hk)
      clear hk hs
      obtain ⟨r0, r1, r2, r3, r4, r5⟩ : w7.cell? ⟨E + 2, 0, none⟩ = some (.int .u64 (base' : Int)) ∧ w7.cell? ⟨E + 2, 1, none⟩ = some (.slice A1' n c1') ∧ w7.cell? ⟨E + 2, 2, none⟩ = some (.slice A2' n c2') ∧ w7.cell? ⟨E + 2, 3, none⟩ = some (.int .i64 (most : Int)) ∧ w7.cell? ⟨E + 2, 4, none⟩ = some (.int .u64 (en' : Int)) ∧ w7.cell? ⟨E + 2, 5, none⟩ = some (.bool kn') := ⟨(K6.out.cell 0).trans rfl, (K6.out.cell 1).trans rfl, (K6.out.cell 2).trans rfl, (K6.out.cell 3).trans rfl, (K6.out.cell 4).trans rfl, (K6.out.cell 5).trans rfl⟩
      go_wp2_with fail
      refine bodyPost_ret (v := .tuple #[.agg #[.int .u64 (base' : Int), .slice A1' n c1', .slice A2' n c2', .int .i64 (most : Int), .int .u64 (en' : Int), .bool kn'], .bool false]) (by simp [results, Try.results7, go_sem, r0, r1, r2, r3, r4, r5]) rfl ?_
      exact OneP.mk' ⟨_, _, _, _, _, _, _, rfl, HLE.out, HXR.out⟩ HI.out KK.out rfl (by show st.base + st.many q.nn ≤ _; have := HOK.out.ts; unfold Ist.many; omega)
    · go_wp2_with (first | refine wpList_conv Try.underlying24 Try.underlying5 Try.underlying9 rfl _ rfl rfl R4.out ?_ | refine wpList_conv Try.underlying24 Try.underlying5 Try.underlying9 rfl _ rfl rfl RD.out ?_ | refine stm_store (cs' := #[.int .u64 (base' : Int), .slice A1' n c1', .slice A2' n c2', .int .i64 (most : Int), .int .u64 (en' : Int), .bool kn']) K6.out rfl _ _ rfl rfl rfl (by simp) (by kernel_rfl) (by simp [Value.oneCell']) (by simp [setL]) fun w7 hk hs => ?_)
      replace HI := Lib.hid (HI.out.aside K6.out (by decide) (by decide) (by have := LE.out; omega) hs)
      replace HXR := Lib.hid (HXR.out.solo K6.out (by decide) (by decide) hs)
      replace HQ := Lib.hid (HQ.out.below (hs.1.mono (by have := WE.out; omega)))
      replace WC := Lib.hid (Nat.le_trans WC.out (Nat.le_of_eq hs.2.1.symm))
      replace K5 := Lib.hid (hs.blk K5.out (by omega))
      replace K4 := Lib.hid (hs.blk K4.out (by omega))
      replace KK := Lib.hid (KK.out.aside hs (by have := HE.out; omega))
      replace K6 := Lib.hid (show Blk _ _ _ #[.int .u64 (base' : Int), .slice A1' n c1', .slice A2' n c2', .int .i64 (most : Int), .int .u64 (en' : Int), .bool kn'] from hk)
      clear hk hs
      obtain ⟨r0, r1, r2, r3, r4, r5⟩ : w7.cell? ⟨E + 2, 0, none⟩ = some (.int .u64 (base' : Int)) ∧ w7.cell? ⟨E + 2, 1, none⟩ = some (.slice A1' n c1') ∧ w7.cell? ⟨E + 2, 2, none⟩ = some (.slice A2' n c2') ∧ w7.cell? ⟨E + 2, 3, none⟩ = some (.int .i64 (most : Int)) ∧ w7.cell? ⟨E + 2, 4, none⟩ = some (.int .u64 (en' : Int)) ∧ w7.cell? ⟨E + 2, 5, none⟩ = some (.bool kn') := ⟨(K6.out.cell 0).trans rfl, (K6.out.cell 1).trans rfl, (K6.out.cell 2).trans rfl, (K6.out.cell 3).trans rfl, (K6.out.cell 4).trans rfl, (K6.out.cell 5).trans rfl⟩
      go_wp2_with fail
      refine bodyPost_ret (v := .tuple #[.agg #[.int .u64 (base' : Int), .slice A1' n c1', .slice A2' n c2', .int .i64 (most : Int), .int .u64 (en' : Int), .bool kn'], .bool false]) (by simp [results, Try.results7, go_sem, r0, r1, r2, r3, r4, r5]) rfl ?_
      exact OneP.mk' ⟨_, _, _, _, _, _, _, rfl, HLE.out, HXR.out⟩ HI.out KK.out rfl (by show st.base + st.many q.nn ≤ _; have := HOK.out.ts; unfold Ist.many; omega)
  by_cases hkd7 : kd = 7
  · have hkd := hkd7
    have hk5 : (kd == 5) = false := by simp [hkd]
    have hk6 : (kd == 6) = false := by simp [hkd]
    have hk7 : (kd == 7) = true := by simp [hkd]
    clear hkd
    have EW1 := Lib.hid (show B1 ≤ w1.heap.size from Nat.le_trans HBW.out (by have := KK.out.size; have := HE.out; omega))
    have RF := Lib.hid (r18_take base most en n kn A1 A2 c1 c2 B1 w1 HXR.out hn (by omega) (Nat.le_trans HBW.out (by have := KK.out.size; have := HE.out; omega)) q.nn)
    obtain ⟨x0, x1, x2, x3, x4, x5⟩ : w1.cell? ⟨E, 0, none⟩ = some (.int .u64 (base : Int)) ∧ w1.cell? ⟨E, 1, none⟩ = some (.slice A1 n c1) ∧ w1.cell? ⟨E, 2, none⟩ = some (.slice A2 n c2) ∧ w1.cell? ⟨E, 3, none⟩ = some (.int .i64 (most : Int)) ∧ w1.cell? ⟨E, 4, none⟩ = some (.int .u64 (en : Int)) ∧ w1.cell? ⟨E, 5, none⟩ = some (.bool kn) := ⟨(K4.out.cell 0).trans rfl, (K4.out.cell 1).trans rfl, (K4.out.cell 2).trans rfl, (K4.out.cell 3).trans rfl, (K4.out.cell 4).trans rfl, (K4.out.cell 5).trans rfl⟩
    obtain ⟨o0, o1, o2, o3, o4⟩ : w1.cell? ⟨E + 1, 0, none⟩ = some (.int .i64 q.k) ∧ w1.cell? ⟨E + 1, 1, none⟩ = some (.int .i64 q.nn) ∧ w1.cell? ⟨E + 1, 2, none⟩ = some (.int .u64 (q.at_ : Int)) ∧ w1.cell? ⟨E + 1, 3, none⟩ = some (.bool true) ∧ w1.cell? ⟨E + 1, 4, none⟩ = some (.slice q.A q.m q.c) := ⟨(K5.out.cell 0).trans rfl, (K5.out.cell 1).trans rfl, (K5.out.cell 2).trans rfl, (K5.out.cell 3).trans rfl, (K5.out.cell 4).trans rfl⟩
    go_wp2_with fail
    refine RF.out.mono ?_
    rintro e w2 ⟨v, Ad, md, cd, ld, kd2, rfl, hxo, hnd, hmd, hb2⟩
    obtain ⟨base', en', kn', A1', A2', c1', c2', rfl, hle, hxr⟩ := hxo
    replace HI := Lib.hid (HI.out.into hb2)
    replace HXR := Lib.hid (HXR.out.into hb2)
    replace HQ := Lib.hid (HQ.out.below (hb2.mono WC.out))
    replace K4 := Lib.hid (K4.out.below hb2 K4.out.lt)
    replace K5 := Lib.hid (K5.out.below hb2 K5.out.lt)
    replace K6 := Lib.hid (K6.out.below hb2 K6.out.lt)
    replace KK := Lib.hid (KK.out.trans (IK.of hb2))
    replace WC := Lib.hid (Nat.le_trans WC.out hb2.size)
    replace HXR := Lib.hid hxr
    have HLE := Sh.mk hle
    have ND := Lib.hid (show Nats w2 5 .u8 B1 (.slice Ad md cd) ld from hnd.mono EW1.out)
    clear hb2 hxr RF x0 x1 x2 x3 x4 x5 o0 o1 o2 o3 o4 hle hnd
    go_upto_region 14 with (refine stm_store (cs' := #[.int .u64 (base' : Int), .slice A1' n c1', .slice A2' n c2', .int .i64 (most : Int), .int .u64 (en' : Int), .bool kn']) K4.out rfl _ _ rfl rfl rfl (by simp) (by kernel_rfl) (by simp [Value.oneCell']) (by simp [setL]) fun w3 hk hs => ?_)
    replace ND := Lib.hid (ND.out.kept fun q9 hq9 => hs.2.2 q9 fun e => own_nt ND.out K4.out (by decide) (by rw [hq9, e]))
    replace HI := Lib.hid (HI.out.aside K4.out (by decide) (by decide) (by have := LE.out; omega) hs)
    replace HXR := Lib.hid (HXR.out.solo K4.out (by decide) (by decide) hs)
    replace HQ := Lib.hid (HQ.out.below (hs.1.mono (by have := WE.out; omega)))
    replace WC := Lib.hid (Nat.le_trans WC.out (Nat.le_of_eq hs.2.1.symm))
    replace K5 := Lib.hid (hs.blk K5.out (by omega))
    replace K6 := Lib.hid (hs.blk K6.out (by omega))
    replace KK := Lib.hid (KK.out.aside hs (by have := HE.out; omega))
    replace K4 := Lib.hid (show Blk _ _ _ #[.int .u64 (base' : Int), .slice A1' n c1', .slice A2' n c2', .int .i64 (most : Int), .int .u64 (en' : Int), .bool kn'] from hk)

    clear hk hs
    obtain ⟨o0, o1, o2, o3, o4⟩ : w3.cell? ⟨E + 1, 0, none⟩ = some (.int .i64 q.k) ∧ w3.cell? ⟨E + 1, 1, none⟩ = some (.int .i64 q.nn) ∧ w3.cell? ⟨E + 1, 2, none⟩ = some (.int .u64 (q.at_ : Int)) ∧ w3.cell? ⟨E + 1, 3, none⟩ = some (.bool true) ∧ w3.cell? ⟨E + 1, 4, none⟩ = some (.slice q.A q.m q.c) := ⟨(K5.out.cell 0).trans rfl, (K5.out.cell 1).trans rfl, (K5.out.cell 2).trans rfl, (K5.out.cell 3).trans rfl, (K5.out.cell 4).trans rfl⟩
    have TK := Lib.hid (in_take B x g p s st q.nn w3 HI.out hnn HLIM.out)
    go_wp2_with fail
    refine TK.out.mono ?_
    rintro e w4 ⟨⟨v4, rfl, hn4⟩, hin, hik⟩
    obtain ⟨A4, m4, c4, rfl, hc4, hl4, hr4⟩ := hn4.out
    replace ND := Lib.hid (show Nats w4 5 .u8 B1 (.slice Ad md cd) ld from row_ik ND.out hik LT.out.1 LT.out.2.1 LT.out.2.2.1 LT.out.2.2.2 (by decide))
    replace HQ := Lib.hid (HQ.out.below ((HI.out.bel hik).mono W0B.out))
    replace WC := Lib.hid (Nat.le_trans WC.out hik.size)
    replace K4 := Lib.hid (hik.blk K4.out NX.out.1 (by decide))
    replace K5 := Lib.hid (hik.blk K5.out NX.out.2.1 (by decide))
    replace K6 := Lib.hid (hik.blk K6.out NX.out.2.2 (by decide))
    replace HXR := Lib.hid (HXR.out.ik hik LT.out.1 LT.out.2.1 LT.out.2.2.1 LT.out.2.2.2)
    replace KK := Lib.hid (KK.out.trans hik)
    replace HI := Lib.hid (hin)
    have R4 := Lib.hid hr4.out
    clear hin hik hn4 hl4 hr4 TK o0 o1 o2 o3 o4
    go_upto_region 15 with fail
    obtain ⟨x0, x1, x2, x3, x4, x5⟩ : w4.cell? ⟨E, 0, none⟩ = some (.int .u64 (base' : Int)) ∧ w4.cell? ⟨E, 1, none⟩ = some (.slice A1' n c1') ∧ w4.cell? ⟨E, 2, none⟩ = some (.slice A2' n c2') ∧ w4.cell? ⟨E, 3, none⟩ = some (.int .i64 (most : Int)) ∧ w4.cell? ⟨E, 4, none⟩ = some (.int .u64 (en' : Int)) ∧ w4.cell? ⟨E, 5, none⟩ = some (.bool kn') := ⟨(K4.out.cell 0).trans rfl, (K4.out.cell 1).trans rfl, (K4.out.cell 2).trans rfl, (K4.out.cell 3).trans rfl, (K4.out.cell 4).trans rfl, (K4.out.cell 5).trans rfl⟩
    have RD := Lib.hid (show Rd w4 w4.heap.size 1 Ad md (ns .u8 ld) from by obtain ⟨A9, n9, c9, hv, _, _, h9⟩ := ND.out.out; injection hv with e1 e2 e3; subst e1 e2 e3; exact h9.out)
    generalize st.L.take (st.many q.nn) = lt4 at *
    generalize st.terr q.nn = te at *
    rcases Bool.eq_false_or_eq_true ((strN lt4).toList == (strN ld).toList) with hs1 | hs1 <;> rcases Bool.eq_false_or_eq_true ((te : Int) == (kd2 : Int)) with hs2 | hs2
    · go_wp2_with (first | refine wpList_conv Try.underlying24 Try.underlying5 Try.underlying9 rfl _ rfl rfl R4.out ?_ | refine wpList_conv Try.underlying24 Try.underlying5 Try.underlying9 rfl _ rfl rfl RD.out ?_ | refine stm_store (cs' := #[.int .u64 (base' : Int), .slice A1' n c1', .slice A2' n c2', .int .i64 (most : Int), .int .u64 (en' : Int), .bool kn']) K6.out rfl _ _ rfl rfl rfl (by simp) (by kernel_rfl) (by simp [Value.oneCell']) (by simp [setL]) fun w7 hk hs => ?_)
      replace HI := Lib.hid (HI.out.aside K6.out (by decide) (by decide) (by have := LE.out; omega) hs)
      replace HXR := Lib.hid (HXR.out.solo K6.out (by decide) (by decide) hs)
      replace HQ := Lib.hid (HQ.out.below (hs.1.mono (by have := WE.out; omega)))
      replace WC := Lib.hid (Nat.le_trans WC.out (Nat.le_of_eq hs.2.1.symm))
      replace K5 := Lib.hid (hs.blk K5.out (by omega))
      replace K4 := Lib.hid (hs.blk K4.out (by omega))
      replace KK := Lib.hid (KK.out.aside hs (by have := HE.out; omega))
      replace K6 := Lib.hid (show Blk _ _ _ #[.int .u64 (base' : Int), .slice A1' n c1', .slice A2' n c2', .int .i64 (most : Int), .int .u64 (en' : Int), .bool kn'] from hk)
      clear hk hs
      obtain ⟨r0, r1, r2, r3, r4, r5⟩ : w7.cell? ⟨E + 2, 0, none⟩ = some (.int .u64 (base' : Int)) ∧ w7.cell? ⟨E + 2, 1, none⟩ = some (.slice A1' n c1') ∧ w7.cell? ⟨E + 2, 2, none⟩ = some (.slice A2' n c2') ∧ w7.cell? ⟨E + 2, 3, none⟩ = some (.int .i64 (most : Int)) ∧ w7.cell? ⟨E + 2, 4, none⟩ = some (.int .u64 (en' : Int)) ∧ w7.cell? ⟨E + 2, 5, none⟩ = some (.bool kn') := ⟨(K6.out.cell 0).trans rfl, (K6.out.cell 1).trans rfl, (K6.out.cell 2).trans rfl, (K6.out.cell 3).trans rfl, (K6.out.cell 4).trans rfl, (K6.out.cell 5).trans rfl⟩
      go_wp2_with fail
      refine bodyPost_ret (v := .tuple #[.agg #[.int .u64 (base' : Int), .slice A1' n c1', .slice A2' n c2', .int .i64 (most : Int), .int .u64 (en' : Int), .bool kn'], .bool true]) (by simp [results, Try.results7, go_sem, r0, r1, r2, r3, r4, r5]) rfl ?_
      exact OneP.mk' ⟨_, _, _, _, _, _, _, rfl, HLE.out, HXR.out⟩ HI.out KK.out rfl (by show st.base + st.many q.nn ≤ _; have := HOK.out.ts; unfold Ist.many; omega)
    · go_wp2_with (first | refine wpList_conv Try.underlying24 Try.underlying5 Try.underlying9 rfl _ rfl rfl R4.out ?_ | refine wpList_conv Try.underlying24 Try.underlying5 Try.underlying9 rfl _ rfl rfl RD.out ?_ | refine stm_store (cs' := #[.int .u64 (base' : Int), .slice A1' n c1', .slice A2' n c2', .int .i64 (most : Int), .int .u64 (en' : Int), .bool kn']) K6.out rfl _ _ rfl rfl rfl (by simp) (by kernel_rfl) (by simp [Value.oneCell']) (by simp [setL]) fun w7 hk hs => ?_)
      replace HI := Lib.hid (HI.out.aside K6.out (by decide) (by decide) (by have := LE.out; omega) hs)
      replace HXR := Lib.hid (HXR.out.solo K6.out (by decide) (by decide) hs)
      replace HQ := Lib.hid (HQ.out.below (hs.1.mono (by have := WE.out; omega)))
      replace WC := Lib.hid (Nat.le_trans WC.out (Nat.le_of_eq hs.2.1.symm))
      replace K5 := Lib.hid (hs.blk K5.out (by omega))
      replace K4 := Lib.hid (hs.blk K4.out (by omega))
      replace KK := Lib.hid (KK.out.aside hs (by have := HE.out; omega))
      replace K6 := Lib.hid (show Blk _ _ _ #[.int .u64 (base' : Int), .slice A1' n c1', .slice A2' n c2', .int .i64 (most : Int), .int .u64 (en' : Int), .bool kn'] from hk)
      clear hk hs
      obtain ⟨r0, r1, r2, r3, r4, r5⟩ : w7.cell? ⟨E + 2, 0, none⟩ = some (.int .u64 (base' : Int)) ∧ w7.cell? ⟨E + 2, 1, none⟩ = some (.slice A1' n c1') ∧ w7.cell? ⟨E + 2, 2, none⟩ = some (.slice A2' n c2') ∧ w7.cell? ⟨E + 2, 3, none⟩ = some (.int .i64 (most : Int)) ∧ w7.cell? ⟨E + 2, 4, none⟩ = some (.int .u64 (en' : Int)) ∧ w7.cell? ⟨E + 2, 5, none⟩ = some (.bool kn') := ⟨(K6.out.cell 0).trans rfl, (K6.out.cell 1).trans rfl, (K6.out.cell 2).trans rfl, (K6.out.cell 3).trans rfl, (K6.out.cell 4).trans rfl, (K6.out.cell 5).trans rfl⟩
      go_wp2_with fail
      refine bodyPost_ret (v := .tuple #[.agg #[.int .u64 (base' : Int), .slice A1' n c1', .slice A2' n c2', .int .i64 (most : Int), .int .u64 (en' : Int), .bool kn'], .bool false]) (by simp [results, Try.results7, go_sem, r0, r1, r2, r3, r4, r5]) rfl ?_
      exact OneP.mk' ⟨_, _, _, _, _, _, _, rfl, HLE.out, HXR.out⟩ HI.out KK.out rfl (by show st.base + st.many q.nn ≤ _; have := HOK.out.ts; unfold Ist.many; omega)
    · go_wp2_with (first | refine wpList_conv Try.underlying24 Try.underlying5 Try.underlying9 rfl _ rfl rfl R4.out ?_ | refine wpList_conv Try.underlying24 Try.underlying5 Try.underlying9 rfl _ rfl rfl RD.out ?_ | refine stm_store (cs' := #[.int .u64 (base' : Int), .slice A1' n c1', .slice A2' n c2', .int .i64 (most : Int), .int .u64 (en' : Int), .bool kn']) K6.out rfl _ _ rfl rfl rfl (by simp) (by kernel_rfl) (by simp [Value.oneCell']) (by simp [setL]) fun w7 hk hs => ?_)
      replace HI := Lib.hid (HI.out.aside K6.out (by decide) (by decide) (by have := LE.out; omega) hs)
      replace HXR := Lib.hid (HXR.out.solo K6.out (by decide) (by decide) hs)
      replace HQ := Lib.hid (HQ.out.below (hs.1.mono (by have := WE.out; omega)))
      replace WC := Lib.hid (Nat.le_trans WC.out (Nat.le_of_eq hs.2.1.symm))
      replace K5 := Lib.hid (hs.blk K5.out (by omega))
      replace K4 := Lib.hid (hs.blk K4.out (by omega))
      replace KK := Lib.hid (KK.out.aside hs (by have := HE.out; omega))
      replace K6 := Lib.hid (show Blk _ _ _ #[.int .u64 (base' : Int), .slice A1' n c1', .slice A2' n c2', .int .i64 (most : Int), .int .u64 (en' : Int), .bool kn'] from hk)
      clear hk hs
      obtain ⟨r0, r1, r2, r3, r4, r5⟩ : w7.cell? ⟨E + 2, 0, none⟩ = some (.int .u64 (base' : Int)) ∧ w7.cell? ⟨E + 2, 1, none⟩ = some (.slice A1' n c1') ∧ w7.cell? ⟨E + 2, 2, none⟩ = some (.slice A2' n c2') ∧ w7.cell? ⟨E + 2, 3, none⟩ = some (.int .i64 (most : Int)) ∧ w7.cell? ⟨E + 2, 4, none⟩ = some (.int .u64 (en' : Int)) ∧ w7.cell? ⟨E + 2, 5, none⟩ = some (.bool kn') := ⟨(K6.out.cell 0).trans rfl, (K6.out.cell 1).trans rfl, (K6.out.cell 2).trans rfl, (K6.out.cell 3).trans rfl, (K6.out.cell 4).trans rfl, (K6.out.cell 5).trans rfl⟩
      go_wp2_with fail
      refine bodyPost_ret (v := .tuple #[.agg #[.int .u64 (base' : Int), .slice A1' n c1', .slice A2' n c2', .int .i64 (most : Int), .int .u64 (en' : Int), .bool kn'], .bool false]) (by simp [results, Try.results7, go_sem, r0, r1, r2, r3, r4, r5]) rfl ?_
      exact OneP.mk' ⟨_, _, _, _, _, _, _, rfl, HLE.out, HXR.out⟩ HI.out KK.out rfl (by show st.base + st.many q.nn ≤ _; have := HOK.out.ts; unfold Ist.many; omega)
    · go_wp2_with (first | refine wpList_conv Try.underlying24 Try.underlying5 Try.underlying9 rfl _ rfl rfl R4.out ?_ | refine wpList_conv Try.underlying24 Try.underlying5 Try.underlying9 rfl _ rfl rfl RD.out ?_ | refine stm_store (cs' := #[.int .u64 (base' : Int), .slice A1' n c1', .slice A2' n c2', .int .i64 (most : Int), .int .u64 (en' : Int), .bool kn']) K6.out rfl _ _ rfl rfl rfl (by simp) (by kernel_rfl) (by simp [Value.oneCell']) (by simp [setL]) fun w7 hk hs => ?_)
      replace HI := Lib.hid (HI.out.aside K6.out (by decide) (by decide) (by have := LE.out; omega) hs)
      replace HXR := Lib.hid (HXR.out.solo K6.out (by decide) (by decide) hs)
      replace HQ := Lib.hid (HQ.out.below (hs.1.mono (by have := WE.out; omega)))
      replace WC := Lib.hid (Nat.le_trans WC.out (Nat.le_of_eq hs.2.1.symm))
      replace K5 := Lib.hid (hs.blk K5.out (by omega))
      replace K4 := Lib.hid (hs.blk K4.out (by omega))
      replace KK := Lib.hid (KK.out.aside hs (by have := HE.out; omega))
      replace K6 := Lib.hid (show Blk _ _ _ #[.int .u64 (base' : Int), .slice A1' n c1', .slice A2' n c2', .int .i64 (most : Int), .int .u64 (en' : Int), .bool kn'] from hk)
      clear hk hs
      obtain ⟨r0, r1, r2, r3, r4, r5⟩ : w7.cell? ⟨E + 2, 0, none⟩ = some (.int .u64 (base' : Int)) ∧ w7.cell? ⟨E + 2, 1, none⟩ = some (.slice A1' n c1') ∧ w7.cell? ⟨E + 2, 2, none⟩ = some (.slice A2' n c2') ∧ w7.cell? ⟨E + 2, 3, none⟩ = some (.int .i64 (most : Int)) ∧ w7.cell? ⟨E + 2, 4, none⟩ = some (.int .u64 (en' : Int)) ∧ w7.cell? ⟨E + 2, 5, none⟩ = some (.bool kn') := ⟨(K6.out.cell 0).trans rfl, (K6.out.cell 1).trans rfl, (K6.out.cell 2).trans rfl, (K6.out.cell 3).trans rfl, (K6.out.cell 4).trans rfl, (K6.out.cell 5).trans rfl⟩
      go_wp2_with fail
      refine bodyPost_ret (v := .tuple #[.agg #[.int .u64 (base' : Int), .slice A1' n c1', .slice A2' n c2', .int .i64 (most : Int), .int .u64 (en' : Int), .bool kn'], .bool false]) (by simp [results, Try.results7, go_sem, r0, r1, r2, r3, r4, r5]) rfl ?_
      exact OneP.mk' ⟨_, _, _, _, _, _, _, rfl, HLE.out, HXR.out⟩ HI.out KK.out rfl (by show st.base + st.many q.nn ≤ _; have := HOK.out.ts; unfold Ist.many; omega)
  have hkd5 := hkd
  have hk5 : (kd == 5) = false := by simpa using hkd5
  have hk6 : (kd == 6) = false := by simpa using hkd6
  have hk7 : (kd == 7) = false := by simpa using hkd7
  have RF := Lib.hid (r18_put base most en n kn A1 A2 c1 c2 B1 w1 HXR.out hn (by omega) (Nat.le_trans HBW.out (by have := KK.out.size; have := HE.out; omega)) f q.m q.c q.A q.l (HQ.out.mono WC.out) hm HF.out)
  obtain ⟨x0, x1, x2, x3, x4, x5⟩ : w1.cell? ⟨E, 0, none⟩ = some (.int .u64 (base : Int)) ∧ w1.cell? ⟨E, 1, none⟩ = some (.slice A1 n c1) ∧ w1.cell? ⟨E, 2, none⟩ = some (.slice A2 n c2) ∧ w1.cell? ⟨E, 3, none⟩ = some (.int .i64 (most : Int)) ∧ w1.cell? ⟨E, 4, none⟩ = some (.int .u64 (en : Int)) ∧ w1.cell? ⟨E, 5, none⟩ = some (.bool kn) := ⟨(K4.out.cell 0).trans rfl, (K4.out.cell 1).trans rfl, (K4.out.cell 2).trans rfl, (K4.out.cell 3).trans rfl, (K4.out.cell 4).trans rfl, (K4.out.cell 5).trans rfl⟩
  obtain ⟨o0, o1, o2, o3, o4⟩ : w1.cell? ⟨E + 1, 0, none⟩ = some (.int .i64 q.k) ∧ w1.cell? ⟨E + 1, 1, none⟩ = some (.int .i64 q.nn) ∧ w1.cell? ⟨E + 1, 2, none⟩ = some (.int .u64 (q.at_ : Int)) ∧ w1.cell? ⟨E + 1, 3, none⟩ = some (.bool true) ∧ w1.cell? ⟨E + 1, 4, none⟩ = some (.slice q.A q.m q.c) := ⟨(K5.out.cell 0).trans rfl, (K5.out.cell 1).trans rfl, (K5.out.cell 2).trans rfl, (K5.out.cell 3).trans rfl, (K5.out.cell 4).trans rfl⟩
  go_wp2_with fail
  refine RF.out.mono ?_
  rintro e w2 ⟨v, b, rfl, hxo, hb2⟩
  obtain ⟨base', en', kn', A1', A2', c1', c2', rfl, hle, hxr⟩ := hxo
  replace HI := Lib.hid (HI.out.into hb2)
  replace HXR := Lib.hid (HXR.out.into hb2)
  replace HQ := Lib.hid (HQ.out.below (hb2.mono WC.out))
  replace K4 := Lib.hid (K4.out.below hb2 K4.out.lt)
  replace K5 := Lib.hid (K5.out.below hb2 K5.out.lt)
  replace K6 := Lib.hid (K6.out.below hb2 K6.out.lt)
  replace KK := Lib.hid (KK.out.trans (IK.of hb2))
  replace WC := Lib.hid (Nat.le_trans WC.out hb2.size)
  replace HXR := Lib.hid hxr
  have HLE := Sh.mk (show base' ≤ base + n by omega)
  clear hb2 hxr RF x0 x1 x2 x3 x4 x5 o0 o1 o2 o3 o4 hle
  go_upto_region 17 with (refine stm_store (cs' := #[.int .u64 (base' : Int), .slice A1' n c1', .slice A2' n c2', .int .i64 (most : Int), .int .u64 (en' : Int), .bool kn']) K4.out rfl _ _ rfl rfl rfl (by simp) (by kernel_rfl) (by simp [Value.oneCell']) (by simp [setL]) fun w3 hk hs => ?_)
  replace HI := Lib.hid (HI.out.aside K4.out (by decide) (by decide) (by have := LE.out; omega) hs)
  replace HXR := Lib.hid (HXR.out.solo K4.out (by decide) (by decide) hs)
  replace HQ := Lib.hid (HQ.out.below (hs.1.mono (by have := WE.out; omega)))
  replace WC := Lib.hid (Nat.le_trans WC.out (Nat.le_of_eq hs.2.1.symm))
  replace K5 := Lib.hid (hs.blk K5.out (by omega))
  replace K6 := Lib.hid (hs.blk K6.out (by omega))
  replace KK := Lib.hid (KK.out.aside hs (by have := HE.out; omega))
  replace K4 := Lib.hid (show Blk _ _ _ #[.int .u64 (base' : Int), .slice A1' n c1', .slice A2' n c2', .int .i64 (most : Int), .int .u64 (en' : Int), .bool kn'] from hk)
  clear hk hs
  have HML := Sh.mk HQ.out.natLen
  have o4 : w3.cell? ⟨E + 1, 4, none⟩ = some (.slice q.A q.m q.c) := by rw [K5.out.cell]; rfl
  go_upto_region 17 with fail
  refine OX.wp_ord [(0, .read), (1, .pure), (2, .pure), (3, .pure), (4, .read), (6, .pure), (5, .sole), (7, .pure), (8, .sole), (9, .pure)] ⟨fun k => k ≠ E ∧ k ≠ E + 1, []⟩ (by kernel_rfl) (by kernel_rfl) (fun QQ hQ wd hwd => ?_); (try simp only [List.map_cons, List.map_nil, List.getD_cons_zero, List.getD_cons_succ])
  have hD : Below w3.heap.size w3 wd := by rw [hwd.out]; exact (Below.refl _ _).drew
  replace HI := Lib.hid (HI.out.into hD)
  replace HXR := Lib.hid (HXR.out.into hD)
  replace HQ := Lib.hid (HQ.out.below (hD.mono WC.out))
  replace K4 := Lib.hid (K4.out.below hD K4.out.lt)
  replace K5 := Lib.hid (K5.out.below hD K5.out.lt)
  replace K6 := Lib.hid (K6.out.below hD K6.out.lt)
  replace KK := Lib.hid (KK.out.trans (IK.of hD))
  replace WC := Lib.hid (Nat.le_trans WC.out hD.size)
  replace o4 : wd.cell? ⟨E + 1, 4, none⟩ = some (.slice q.A q.m q.c) := by rw [K5.out.cell]; rfl
  clear hD hwd
  have hnE : ¬ (E ≠ E ∧ E ≠ E + 1) := fun h => h.1 rfl
  have hnE1 : ¬ (E + 1 ≠ E ∧ E + 1 ≠ E + 1) := fun h => h.2 rfl
  (refine OX.o_loads _ [.int .u64 (base' : Int), .slice A1' n c1', .slice A2' n c2', .int .i64 (most : Int), .int .u64 (en' : Int), .bool kn'] (by rfl) rfl rfl (by dsimp only; first | assumption | omega) (fun j x hj => by rw [K4.out.cell, Nat.zero_add]; simpa using hj) (Nat.succ_pos _) (by kernel_rfl) (by kernel_rfl) ?_; simp only [Act.put, List.setIfInBounds_toArray, List.set_cons_zero, List.set_cons_succ])
  (refine OX.o_pure (v := ?_) (by rfl) (fun w' => ?_) ?_; rotate_left; (focus (go_simp; (try with_reducible rfl))); (try simp only [Act.put, List.setIfInBounds_toArray, List.set_cons_zero, List.set_cons_succ]))
  (refine OX.o_pure (v := ?_) (by rfl) (fun w' => ?_) ?_; rotate_left; (focus (go_simp; (try with_reducible rfl))); (try simp only [Act.put, List.setIfInBounds_toArray, List.set_cons_zero, List.set_cons_succ]))
  (refine OX.o_pure (v := ?_) (by rfl) (fun w' => ?_) ?_; rotate_left; (focus (go_simp; (try with_reducible rfl))); (try simp only [Act.put, List.setIfInBounds_toArray, List.set_cons_zero, List.set_cons_succ]))
  (refine OX.o_load _ (by rfl) rfl rfl (by dsimp only; first | assumption | omega) (by assumption) (by kernel_rfl) ?_; simp only [Act.put, List.setIfInBounds_toArray, List.set_cons_zero, List.set_cons_succ])
  (refine OX.o_pure (v := ?_) (by rfl) (fun w' => ?_) ?_; rotate_left; (focus (go_simp; (try with_reducible rfl))); (try simp only [Act.put, List.setIfInBounds_toArray, List.set_cons_zero, List.set_cons_succ]))
  have HC := Lib.hid (in_put B x g p s st f q.A q.m q.c q.l wd HI.out (by unfold pmax; exact HF.out) HML.out HLT.out hmc (by omega) (HQ.out.apt (Nat.le_trans W0B.out HI.out.bp)) (fun w9 k9 => (HQ.out.below ((HI.out.bel k9).mono W0B.out)).mono WC.out))
  refine OX.o_sole (fun K hK => ?_)
  go_wp2_with fail
  refine HC.out.mono ?_
  rintro e w6 ⟨rfl, hin, hik⟩
  go_wp2_with fail
  refine hK _ _ (fun _ => ⟨hik.size, fun k hk hb => by
    have h2 : k = E ∨ k = E + 1 := by dsimp only at hb; omega
    rcases h2 with rfl | rfl
    · exact (hik.blk K4.out NX.out.1 (by decide)).trans K4.out.symm
    · exact (hik.blk K5.out NX.out.2.1 (by decide)).trans K5.out.symm⟩) ?_; clear hK K
  replace HQ := Lib.hid (HQ.out.below ((HI.out.bel hik).mono W0B.out))
  replace WC := Lib.hid (Nat.le_trans WC.out hik.size)
  replace K4 := Lib.hid (hik.blk K4.out NX.out.1 (by decide))
  replace K5 := Lib.hid (hik.blk K5.out NX.out.2.1 (by decide))
  replace K6 := Lib.hid (hik.blk K6.out NX.out.2.2 (by decide))
  replace HXR := Lib.hid (HXR.out.ik hik LT.out.1 LT.out.2.1 LT.out.2.2.1 LT.out.2.2.2)
  replace KK := Lib.hid (KK.out.trans hik)
  replace HI := Lib.hid (hin)
  clear hin hik HC o4
  (refine OX.o_pure (v := ?_) (by rfl) (fun w' => ?_) ?_; rotate_left; (focus (go_simp; (try with_reducible rfl))); (try simp only [Act.put, List.setIfInBounds_toArray, List.set_cons_zero, List.set_cons_succ]))
  refine OX.o_sole (fun K hK => ?_)
  refine stm_store (cs' := #[.int .u64 (base' : Int), .slice A1' n c1', .slice A2' n c2', .int .i64 (most : Int), .int .u64 (en' : Int), .bool kn']) K6.out rfl _ _ rfl rfl rfl (by simp) (by kernel_rfl) (by simp [Value.oneCell']) (by simp [setL]) fun w7 hk hs => ?_
  refine wpList_nil ?_
  refine hK _ _ (fun _ => OX.ExtB.solo hs (by dsimp only; omega)) ?_; clear hK K
  replace HI := Lib.hid (HI.out.aside K6.out (by decide) (by decide) (by have := LE.out; omega) hs)
  replace HXR := Lib.hid (HXR.out.solo K6.out (by decide) (by decide) hs)
  replace HQ := Lib.hid (HQ.out.below (hs.1.mono (by have := WE.out; omega)))
  replace WC := Lib.hid (Nat.le_trans WC.out (Nat.le_of_eq hs.2.1.symm))
  replace K5 := Lib.hid (hs.blk K5.out (by omega))
  replace K4 := Lib.hid (hs.blk K4.out (by omega))
  replace KK := Lib.hid (KK.out.aside hs (by have := HE.out; omega))
  replace K6 := Lib.hid (show Blk _ _ _ #[.int .u64 (base' : Int), .slice A1' n c1', .slice A2' n c2', .int .i64 (most : Int), .int .u64 (en' : Int), .bool kn'] from hk)
  clear hk hs
  (refine OX.o_pure (v := ?_) (by rfl) (fun w' => ?_) ?_; rotate_left; (focus (go_simp; (try with_reducible rfl))); (try simp only [Act.put, List.setIfInBounds_toArray, List.set_cons_zero, List.set_cons_succ]))
  refine OX.o_nil (hQ.out _ _ ?_); clear hQ QQ
  obtain ⟨r0, r1, r2, r3, r4, r5⟩ : w7.cell? ⟨E + 2, 0, none⟩ = some (.int .u64 (base' : Int)) ∧ w7.cell? ⟨E + 2, 1, none⟩ = some (.slice A1' n c1') ∧ w7.cell? ⟨E + 2, 2, none⟩ = some (.slice A2' n c2') ∧ w7.cell? ⟨E + 2, 3, none⟩ = some (.int .i64 (most : Int)) ∧ w7.cell? ⟨E + 2, 4, none⟩ = some (.int .u64 (en' : Int)) ∧ w7.cell? ⟨E + 2, 5, none⟩ = some (.bool kn') := ⟨(K6.out.cell 0).trans rfl, (K6.out.cell 1).trans rfl, (K6.out.cell 2).trans rfl, (K6.out.cell 3).trans rfl, (K6.out.cell 4).trans rfl, (K6.out.cell 5).trans rfl⟩
  go_wp2_with fail
  refine bodyPost_ret (v := .tuple #[.agg #[.int .u64 (base' : Int), .slice A1' n c1', .slice A2' n c2', .int .i64 (most : Int), .int .u64 (en' : Int), .bool kn'], .bool ((st.put f q.l).2 == b)]) (by simp [results, Try.results7, go_sem, r0, r1, r2, r3, r4, r5]) rfl ?_
  exact OneP.mk' ⟨_, _, _, _, _, _, _, rfl, HLE.out, HXR.out⟩ HI.out KK.out Ist.put_same.2.1 (by rw [Ist.put_same.1]; omega)
set_option maxRecDepth 20000 in
set_option maxHeartbeats 40000000 in
theorem one_false (B x g p s B1 n most base en c1 c2 W0 : Nat) (st : Ist) (kn : Bool) (A1 A2 : Option Addr) (q : InOp) (w : World) (h : IN w B x g p s st) (hX : XR w B1 n A1 c1 A2 c2) (hl4 : x < B1 ∧ g < B1 ∧ p < B1 ∧ s < B1) (hB1 : B1 ≤ w.heap.size) (hW : W0 ≤ B) (hn : n ≤ 200) (hb : base ≤ 90000) (hat : q.at_ < 18446744073709551616) (hnn : q.nn < 9223372036854775808) (hq : Rd w W0 1 q.A q.m (ns .u8 q.l)) (hm : q.m ≤ 300) (hmc : q.m ≤ q.c) (hlt : ∀ y ∈ q.l, y < 256) (hlim : st.base + st.size ≤ iLim)  :
    Calls Try.prog 7 #[.pointer (some ⟨x, 0, none⟩), .agg #[.int .u64 (base : Int), .slice A1 n c1, .slice A2 n c2, .int .i64 (most : Int), .int .u64 (en : Int), .bool kn], .agg #[.int .i64 q.k, .int .i64 q.nn, .int .u64 (q.at_ : Int), .bool false, .slice q.A q.m q.c]] w (OneP w B x g p s B1 n most (base + n) st) := by
  have z1 : (w.alloc (.cells #[.int .u64 (base : Int), .slice A1 n c1, .slice A2 n c2, .int .i64 (most : Int), .int .u64 (en : Int), .bool kn] 38)).heap.size = w.heap.size + 1 := by simp
  have z2 : ((w.alloc (.cells #[.int .u64 (base : Int), .slice A1 n c1, .slice A2 n c2, .int .i64 (most : Int), .int .u64 (en : Int), .bool kn] 38)).alloc (.cells #[.int .i64 q.k, .int .i64 q.nn, .int .u64 (q.at_ : Int), .bool false, .slice q.A q.m q.c] 26)).heap.size = w.heap.size + 2 := by simp
  have K4 := Lib.hid (((Blk.new w 38 #[.int .u64 (base : Int), .slice A1 n c1, .slice A2 n c2, .int .i64 (most : Int), .int .u64 (en : Int), .bool kn]).alloc (.cells #[.int .i64 q.k, .int .i64 q.nn, .int .u64 (q.at_ : Int), .bool false, .slice q.A q.m q.c] 26)).alloc (.cells #[.int .u64 0, .slice none 0 0, .slice none 0 0, .int .i64 0, .int .u64 0, .bool false] 38))
  have K5 := Lib.hid ((Blk.new (w.alloc (.cells #[.int .u64 (base : Int), .slice A1 n c1, .slice A2 n c2, .int .i64 (most : Int), .int .u64 (en : Int), .bool kn] 38)) 26 #[.int .i64 q.k, .int .i64 q.nn, .int .u64 (q.at_ : Int), .bool false, .slice q.A q.m q.c]).alloc (.cells #[.int .u64 0, .slice none 0 0, .slice none 0 0, .int .i64 0, .int .u64 0, .bool false] 38))
  have K6 := Lib.hid (Blk.new ((w.alloc (.cells #[.int .u64 (base : Int), .slice A1 n c1, .slice A2 n c2, .int .i64 (most : Int), .int .u64 (en : Int), .bool kn] 38)).alloc (.cells #[.int .i64 q.k, .int .i64 q.nn, .int .u64 (q.at_ : Int), .bool false, .slice q.A q.m q.c] 26)) 38 #[.int .u64 0, .slice none 0 0, .slice none 0 0, .int .i64 0, .int .u64 0, .bool false])
  have hb0 := (((Below.refl w.heap.size w).alloc (Nat.le_refl _) (.cells #[.int .u64 (base : Int), .slice A1 n c1, .slice A2 n c2, .int .i64 (most : Int), .int .u64 (en : Int), .bool kn] 38)).alloc (by simp) (.cells #[.int .i64 q.k, .int .i64 q.nn, .int .u64 (q.at_ : Int), .bool false, .slice q.A q.m q.c] 26)).alloc (by simp; omega) (.cells #[.int .u64 0, .slice none 0 0, .slice none 0 0, .int .i64 0, .int .u64 0, .bool false] 38)
  rw [z1] at K5
  rw [z2] at K6
  have HI := Lib.hid (h.into hb0)
  have HXR := Lib.hid (hX.into hb0)
  have WW := h.hw
  have HQ := Lib.hid (hq.below (hb0.mono (by omega)))
  have WC := Lib.hid (show W0 ≤ (((w.alloc (.cells #[.int .u64 (base : Int), .slice A1 n c1, .slice A2 n c2, .int .i64 (most : Int), .int .u64 (en : Int), .bool kn] 38)).alloc (.cells #[.int .i64 q.k, .int .i64 q.nn, .int .u64 (q.at_ : Int), .bool false, .slice q.A q.m q.c] 26)).alloc (.cells #[.int .u64 0, .slice none 0 0, .slice none 0 0, .int .i64 0, .int .u64 0, .bool false] 38)).heap.size from Nat.le_trans (by omega) hb0.size)
  have KK : Hid (IK B x g p s w (((w.alloc (.cells #[.int .u64 (base : Int), .slice A1 n c1, .slice A2 n c2, .int .i64 (most : Int), .int .u64 (en : Int), .bool kn] 38)).alloc (.cells #[.int .i64 q.k, .int .i64 q.nn, .int .u64 (q.at_ : Int), .bool false, .slice q.A q.m q.c] 26)).alloc (.cells #[.int .u64 0, .slice none 0 0, .slice none 0 0, .int .i64 0, .int .u64 0, .bool false] 38))) := Lib.hid (IK.of hb0)
  have W0B := Lib.hid hW
  have LT := Lib.hid hl4
  have LE := Lib.hid (show x < w.heap.size ∧ g < w.heap.size ∧ p < w.heap.size ∧ s < w.heap.size by omega)
  have HLIM := Sh.mk hlim
  have HLT := Sh.mk hlt
  have HBW := Lib.hid hB1
  have HOK := Lib.hid h.ok
  clear h hX hq hb0 WW hlim hlt
  go_enter Try.func7, Try.ntmps7
  go_upto_region 1 with fail
  generalize (((w.alloc (.cells #[.int .u64 (base : Int), .slice A1 n c1, .slice A2 n c2, .int .i64 (most : Int), .int .u64 (en : Int), .bool kn] 38)).alloc (.cells #[.int .i64 q.k, .int .i64 q.nn, .int .u64 (q.at_ : Int), .bool false, .slice q.A q.m q.c] 26)).alloc (.cells #[.int .u64 0, .slice none 0 0, .slice none 0 0, .int .i64 0, .int .u64 0, .bool false] 38)) = w1 at K4 K5 K6 HI HXR HQ WC KK ⊢
  obtain ⟨E, hE⟩ : ∃ E, E = w.heap.size := ⟨_, rfl⟩
  have HE := Sh.mk hE
  rw [← hE] at K4 K5 K6 LE HBW ⊢
  have NX := Lib.hid (show (E ≠ x ∧ E ≠ g ∧ E ≠ p ∧ E ≠ s) ∧ (E + 1 ≠ x ∧ E + 1 ≠ g ∧ E + 1 ≠ p ∧ E + 1 ≠ s) ∧ (E + 2 ≠ x ∧ E + 2 ≠ g ∧ E + 2 ≠ p ∧ E + 2 ≠ s) by have := LE.out; omega)
  have WE := Lib.hid (show W0 ≤ E by have := HI.out.bx; have := LE.out; omega)
  clear hE z1 z2 hl4 hB1 hW
  obtain ⟨o0, o1, o2, o3, o4⟩ : w1.cell? ⟨E + 1, 0, none⟩ = some (.int .i64 q.k) ∧ w1.cell? ⟨E + 1, 1, none⟩ = some (.int .i64 q.nn) ∧ w1.cell? ⟨E + 1, 2, none⟩ = some (.int .u64 (q.at_ : Int)) ∧ w1.cell? ⟨E + 1, 3, none⟩ = some (.bool false) ∧ w1.cell? ⟨E + 1, 4, none⟩ = some (.slice q.A q.m q.c) := ⟨(K5.out.cell 0).trans rfl, (K5.out.cell 1).trans rfl, (K5.out.cell 2).trans rfl, (K5.out.cell 3).trans rfl, (K5.out.cell 4).trans rfl⟩
  obtain ⟨x0, x1, x2, x3, x4, x5⟩ : w1.cell? ⟨E, 0, none⟩ = some (.int .u64 (base : Int)) ∧ w1.cell? ⟨E, 1, none⟩ = some (.slice A1 n c1) ∧ w1.cell? ⟨E, 2, none⟩ = some (.slice A2 n c2) ∧ w1.cell? ⟨E, 3, none⟩ = some (.int .i64 (most : Int)) ∧ w1.cell? ⟨E, 4, none⟩ = some (.int .u64 (en : Int)) ∧ w1.cell? ⟨E, 5, none⟩ = some (.bool kn) := ⟨(K4.out.cell 0).trans rfl, (K4.out.cell 1).trans rfl, (K4.out.cell 2).trans rfl, (K4.out.cell 3).trans rfl, (K4.out.cell 4).trans rfl, (K4.out.cell 5).trans rfl⟩
  obtain ⟨f, hf⟩ : ∃ f, f = (base + q.at_) % 18446744073709551616 := ⟨_, rfl⟩
  have hfw : IntKind.u64.wrap ((base : Int) + (q.at_ : Int)) = (f : Int) := by rw [IntKind.wrap_u64]; omega
  have HF := Sh.mk (show f < 18446744073709551616 by omega)
  clear hf
  go_upto_region 6 with fail
  generalize (wrap64 (q.k.tmod 8 + 8)).tmod 8 = kd
  clear o0 o1 o2 o3 o4 x0 x1 x2 x3 x4 x5
  clear hfw
  by_cases hkd : kd = 5
  · have hk5 : (kd == 5) = true := by simpa using hkd
    have RF := Lib.hid (r18_fin base most en n kn A1 A2 c1 c2 B1 w1 HXR.out hn (by omega) f)
    obtain ⟨x0, x1, x2, x3, x4, x5⟩ : w1.cell? ⟨E, 0, none⟩ = some (.int .u64 (base : Int)) ∧ w1.cell? ⟨E, 1, none⟩ = some (.slice A1 n c1) ∧ w1.cell? ⟨E, 2, none⟩ = some (.slice A2 n c2) ∧ w1.cell? ⟨E, 3, none⟩ = some (.int .i64 (most : Int)) ∧ w1.cell? ⟨E, 4, none⟩ = some (.int .u64 (en : Int)) ∧ w1.cell? ⟨E, 5, none⟩ = some (.bool kn) := ⟨(K4.out.cell 0).trans rfl, (K4.out.cell 1).trans rfl, (K4.out.cell 2).trans rfl, (K4.out.cell 3).trans rfl, (K4.out.cell 4).trans rfl, (K4.out.cell 5).trans rfl⟩
    go_wp2_with fail
    refine RF.out.mono ?_
    rintro e w2 ⟨v, b, rfl, hxo, hb2⟩
    obtain ⟨base', en', kn', A1', A2', c1', c2', rfl, hle, hxr⟩ := hxo
    replace HI := Lib.hid (HI.out.into hb2)
    replace HXR := Lib.hid (HXR.out.into hb2)
    replace HQ := Lib.hid (HQ.out.below (hb2.mono WC.out))
    replace K4 := Lib.hid (K4.out.below hb2 K4.out.lt)
    replace K5 := Lib.hid (K5.out.below hb2 K5.out.lt)
    replace K6 := Lib.hid (K6.out.below hb2 K6.out.lt)
    replace KK := Lib.hid (KK.out.trans (IK.of hb2))
    replace WC := Lib.hid (Nat.le_trans WC.out hb2.size)
    replace HXR := Lib.hid hxr
    have HLE := Sh.mk (show base' ≤ base + n by omega)
    clear hb2 hxr RF x0 x1 x2 x3 x4 x5 hle
    go_upto_region 8 with (refine stm_store (cs' := #[.int .u64 (base' : Int), .slice A1' n c1', .slice A2' n c2', .int .i64 (most : Int), .int .u64 (en' : Int), .bool kn']) K4.out rfl _ _ rfl rfl rfl (by simp) (by kernel_rfl) (by simp [Value.oneCell']) (by simp [setL]) fun w3 hk hs => ?_)
    replace HI := Lib.hid (HI.out.aside K4.out (by decide) (by decide) (by have := LE.out; omega) hs)
    replace HXR := Lib.hid (HXR.out.solo K4.out (by decide) (by decide) hs)
    replace HQ := Lib.hid (HQ.out.below (hs.1.mono (by have := WE.out; omega)))
    replace WC := Lib.hid (Nat.le_trans WC.out (Nat.le_of_eq hs.2.1.symm))
    replace K5 := Lib.hid (hs.blk K5.out (by omega))
    replace K6 := Lib.hid (hs.blk K6.out (by omega))
    replace KK := Lib.hid (KK.out.aside hs (by have := HE.out; omega))
    replace K4 := Lib.hid (show Blk _ _ _ #[.int .u64 (base' : Int), .slice A1' n c1', .slice A2' n c2', .int .i64 (most : Int), .int .u64 (en' : Int), .bool kn'] from hk)
    clear hk hs
    go_upto_region 8 with fail
    refine OX.wp_ord [(0, .read), (1, .pure), (2, .pure), (4, .pure), (3, .sole), (5, .pure), (6, .sole), (7, .pure)] ⟨fun k => k ≠ E ∧ k ≠ E + 1, []⟩ (by kernel_rfl) (by kernel_rfl) (fun QQ hQ wd hwd => ?_); (try simp only [List.map_cons, List.map_nil, List.getD_cons_zero, List.getD_cons_succ])
    have hD : Below w3.heap.size w3 wd := by rw [hwd.out]; exact (Below.refl _ _).drew
    replace HI := Lib.hid (HI.out.into hD)
    replace HXR := Lib.hid (HXR.out.into hD)
    replace HQ := Lib.hid (HQ.out.below (hD.mono WC.out))
    replace K4 := Lib.hid (K4.out.below hD K4.out.lt)
    replace K5 := Lib.hid (K5.out.below hD K5.out.lt)
    replace K6 := Lib.hid (K6.out.below hD K6.out.lt)
    replace KK := Lib.hid (KK.out.trans (IK.of hD))
    replace WC := Lib.hid (Nat.le_trans WC.out hD.size)
    clear hD hwd
    have hnE : ¬ (E ≠ E ∧ E ≠ E + 1) := fun h => h.1 rfl
    have hnE1 : ¬ (E + 1 ≠ E ∧ E + 1 ≠ E + 1) := fun h => h.2 rfl
    (refine OX.o_loads _ [.int .u64 (base' : Int), .slice A1' n c1', .slice A2' n c2', .int .i64 (most : Int), .int .u64 (en' : Int), .bool kn'] (by rfl) rfl rfl (by dsimp only; first | assumption | omega) (fun j x hj => by rw [K4.out.cell, Nat.zero_add]; simpa using hj) (Nat.succ_pos _) (by kernel_rfl) (by kernel_rfl) ?_; simp only [Act.put, List.setIfInBounds_toArray, List.set_cons_zero, List.set_cons_succ])
    (refine OX.o_pure (v := ?_) (by rfl) (fun w' => ?_) ?_; rotate_left; (focus (go_simp; (try with_reducible rfl))); (try simp only [Act.put, List.setIfInBounds_toArray, List.set_cons_zero, List.set_cons_succ]))
    (refine OX.o_pure (v := ?_) (by rfl) (fun w' => ?_) ?_; rotate_left; (focus (go_simp; (try with_reducible rfl))); (try simp only [Act.put, List.setIfInBounds_toArray, List.set_cons_zero, List.set_cons_succ]))
    (refine OX.o_pure (v := ?_) (by rfl) (fun w' => ?_) ?_; rotate_left; (focus (go_simp; (try with_reducible rfl))); (try simp only [Act.put, List.setIfInBounds_toArray, List.set_cons_zero, List.set_cons_succ]))
    have HC := Lib.hid (in_fin B x g p s st f wd HI.out (by unfold pmax; exact HF.out))
    refine OX.o_sole (fun K hK => ?_)
    go_wp2_with fail
    refine HC.out.mono ?_
    rintro e w6 ⟨rfl, hin, hik⟩
    go_wp2_with fail
    refine hK _ _ (fun _ => ⟨hik.size, fun k hk hb => by
      have h2 : k = E ∨ k = E + 1 := by dsimp only at hb; omega
      rcases h2 with rfl | rfl
      · exact (hik.blk K4.out NX.out.1 (by decide)).trans K4.out.symm
      · exact (hik.blk K5.out NX.out.2.1 (by decide)).trans K5.out.symm⟩) ?_; clear hK K
    replace HQ := Lib.hid (HQ.out.below ((HI.out.bel hik).mono W0B.out))
    replace WC := Lib.hid (Nat.le_trans WC.out hik.size)
    replace K4 := Lib.hid (hik.blk K4.out NX.out.1 (by decide))
    replace K5 := Lib.hid (hik.blk K5.out NX.out.2.1 (by decide))
    replace K6 := Lib.hid (hik.blk K6.out NX.out.2.2 (by decide))
    replace HXR := Lib.hid (HXR.out.ik hik LT.out.1 LT.out.2.1 LT.out.2.2.1 LT.out.2.2.2)
    replace KK := Lib.hid (KK.out.trans hik)
    replace HI := Lib.hid (hin)
    clear hin hik HC
    (refine OX.o_pure (v := ?_) (by rfl) (fun w' => ?_) ?_; rotate_left; (focus (go_simp; (try with_reducible rfl))); (try simp only [Act.put, List.setIfInBounds_toArray, List.set_cons_zero, List.set_cons_succ]))
    refine OX.o_sole (fun K hK => ?_)
    refine stm_store (cs' := #[.int .u64 (base' : Int), .slice A1' n c1', .slice A2' n c2', .int .i64 (most : Int), .int .u64 (en' : Int), .bool kn']) K6.out rfl _ _ rfl rfl rfl (by simp) (by kernel_rfl) (by simp [Value.oneCell']) (by simp [setL]) fun w7 hk hs => ?_
    refine wpList_nil ?_
    refine hK _ _ (fun _ => OX.ExtB.solo hs (by dsimp only; omega)) ?_; clear hK K
    replace HI := Lib.hid (HI.out.aside K6.out (by decide) (by decide) (by have := LE.out; omega) hs)
    replace HXR := Lib.hid (HXR.out.solo K6.out (by decide) (by decide) hs)
    replace HQ := Lib.hid (HQ.out.below (hs.1.mono (by have := WE.out; omega)))
    replace WC := Lib.hid (Nat.le_trans WC.out (Nat.le_of_eq hs.2.1.symm))
    replace K5 := Lib.hid (hs.blk K5.out (by omega))
    replace K4 := Lib.hid (hs.blk K4.out (by omega))
    replace KK := Lib.hid (KK.out.aside hs (by have := HE.out; omega))
    replace K6 := Lib.hid (show Blk _ _ _ #[.int .u64 (base' : Int), .slice A1' n c1', .slice A2' n c2', .int .i64 (most : Int), .int .u64 (en' : Int), .bool kn'] from hk)
    clear hk hs
    (refine OX.o_pure (v := ?_) (by rfl) (fun w' => ?_) ?_; rotate_left; (focus (go_simp; (try with_reducible rfl))); (try simp only [Act.put, List.setIfInBounds_toArray, List.set_cons_zero, List.set_cons_succ]))
    refine OX.o_nil (hQ.out _ _ ?_); clear hQ QQ
    obtain ⟨r0, r1, r2, r3, r4, r5⟩ : w7.cell? ⟨E + 2, 0, none⟩ = some (.int .u64 (base' : Int)) ∧ w7.cell? ⟨E + 2, 1, none⟩ = some (.slice A1' n c1') ∧ w7.cell? ⟨E + 2, 2, none⟩ = some (.slice A2' n c2') ∧ w7.cell? ⟨E + 2, 3, none⟩ = some (.int .i64 (most : Int)) ∧ w7.cell? ⟨E + 2, 4, none⟩ = some (.int .u64 (en' : Int)) ∧ w7.cell? ⟨E + 2, 5, none⟩ = some (.bool kn') := ⟨(K6.out.cell 0).trans rfl, (K6.out.cell 1).trans rfl, (K6.out.cell 2).trans rfl, (K6.out.cell 3).trans rfl, (K6.out.cell 4).trans rfl, (K6.out.cell 5).trans rfl⟩
    go_wp2_with fail
    refine bodyPost_ret (v := .tuple #[.agg #[.int .u64 (base' : Int), .slice A1' n c1', .slice A2' n c2', .int .i64 (most : Int), .int .u64 (en' : Int), .bool kn'], .bool ((st.fin f).2 == b)]) (by simp [results, Try.results7, go_sem, r0, r1, r2, r3, r4, r5]) rfl ?_
    exact OneP.mk' ⟨_, _, _, _, _, _, _, rfl, HLE.out, HXR.out⟩ HI.out KK.out Ist.fin_same.2 (by rw [Ist.fin_same.1]; omega)
  by_cases hkd6 : kd = 6
  · have hkd := hkd6
    have hk5 : (kd == 5) = false := by simp [hkd]
    have hk6 : (kd == 6) = true := by simp [hkd]
    have hk7 : (kd == 7) = false := by simp [hkd]
    clear hkd
    have EW1 := Lib.hid (show B1 ≤ w1.heap.size from Nat.le_trans HBW.out (by have := KK.out.size; have := HE.out; omega))
    have RF := Lib.hid (r18_take base most en n kn A1 A2 c1 c2 B1 w1 HXR.out hn (by omega) (Nat.le_trans HBW.out (by have := KK.out.size; have := HE.out; omega)) q.nn)
    obtain ⟨x0, x1, x2, x3, x4, x5⟩ : w1.cell? ⟨E, 0, none⟩ = some (.int .u64 (base : Int)) ∧ w1.cell? ⟨E, 1, none⟩ = some (.slice A1 n c1) ∧ w1.cell? ⟨E, 2, none⟩ = some (.slice A2 n c2) ∧ w1.cell? ⟨E, 3, none⟩ = some (.int .i64 (most : Int)) ∧ w1.cell? ⟨E, 4, none⟩ = some (.int .u64 (en : Int)) ∧ w1.cell? ⟨E, 5, none⟩ = some (.bool kn) := ⟨(K4.out.cell 0).trans rfl, (K4.out.cell 1).trans rfl, (K4.out.cell 2).trans rfl, (K4.out.cell 3).trans rfl, (K4.out.cell 4).trans rfl, (K4.out.cell 5).trans rfl⟩
    obtain ⟨o0, o1, o2, o3, o4⟩ : w1.cell? ⟨E + 1, 0, none⟩ = some (.int .i64 q.k) ∧ w1.cell? ⟨E + 1, 1, none⟩ = some (.int .i64 q.nn) ∧ w1.cell? ⟨E + 1, 2, none⟩ = some (.int .u64 (q.at_ : Int)) ∧ w1.cell? ⟨E + 1, 3, none⟩ = some (.bool false) ∧ w1.cell? ⟨E + 1, 4, none⟩ = some (.slice q.A q.m q.c) := ⟨(K5.out.cell 0).trans rfl, (K5.out.cell 1).trans rfl, (K5.out.cell 2).trans rfl, (K5.out.cell 3).trans rfl, (K5.out.cell 4).trans rfl⟩
    go_wp2_with fail
    refine RF.out.mono ?_
    rintro e w2 ⟨v, Ad, md, cd, ld, kd2, rfl, hxo, hnd, hmd, hb2⟩
    obtain ⟨base', en', kn', A1', A2', c1', c2', rfl, hle, hxr⟩ := hxo
    replace HI := Lib.hid (HI.out.into hb2)
    replace HXR := Lib.hid (HXR.out.into hb2)
    replace HQ := Lib.hid (HQ.out.below (hb2.mono WC.out))
    replace K4 := Lib.hid (K4.out.below hb2 K4.out.lt)
    replace K5 := Lib.hid (K5.out.below hb2 K5.out.lt)
    replace K6 := Lib.hid (K6.out.below hb2 K6.out.lt)
    replace KK := Lib.hid (KK.out.trans (IK.of hb2))
    replace WC := Lib.hid (Nat.le_trans WC.out hb2.size)
    replace HXR := Lib.hid hxr
    have HLE := Sh.mk hle
    have ND := Lib.hid (show Nats w2 5 .u8 B1 (.slice Ad md cd) ld from hnd.mono EW1.out)
    clear hb2 hxr RF x0 x1 x2 x3 x4 x5 o0 o1 o2 o3 o4 hle hnd
    go_upto_region 14 with (refine stm_store (cs' := #[.int .u64 (base' : Int), .slice A1' n c1', .slice A2' n c2', .int .i64 (most : Int), .int .u64 (en' : Int), .bool kn']) K4.out rfl _ _ rfl rfl rfl (by simp) (by kernel_rfl) (by simp [Value.oneCell']) (by simp [setL]) fun w3 hk hs => ?_)
    replace ND := Lib.hid (ND.out.kept fun q9 hq9 => hs.2.2 q9 fun e => own_nt ND.out K4.out (by decide) (by rw [hq9, e]))
    replace HI := Lib.hid (HI.out.aside K4.out (by decide) (by decide) (by have := LE.out; omega) hs)
    replace HXR := Lib.hid (HXR.out.solo K4.out (by decide) (by decide) hs)
    replace HQ := Lib.hid (HQ.out.below (hs.1.mono (by have := WE.out; omega)))
    replace WC := Lib.hid (Nat.le_trans WC.out (Nat.le_of_eq hs.2.1.symm))
    replace K5 := Lib.hid (hs.blk K5.out (by omega))
    replace K6 := Lib.hid (hs.blk K6.out (by omega))
    replace KK := Lib.hid (KK.out.aside hs (by have := HE.out; omega))
    replace K4 := Lib.hid (show Blk _ _ _ #[.int .u64 (base' : Int), .slice A1' n c1', .slice A2' n c2', .int .i64 (most : Int), .int .u64 (en' : Int), .bool kn'] from hk)

    clear hk hs
    obtain ⟨o0, o1, o2, o3, o4⟩ : w3.cell? ⟨E + 1, 0, none⟩ = some (.int .i64 q.k) ∧ w3.cell? ⟨E + 1, 1, none⟩ = some (.int .i64 q.nn) ∧ w3.cell? ⟨E + 1, 2, none⟩ = some (.int .u64 (q.at_ : Int)) ∧ w3.cell? ⟨E + 1, 3, none⟩ = some (.bool false) ∧ w3.cell? ⟨E + 1, 4, none⟩ = some (.slice q.A q.m q.c) := ⟨(K5.out.cell 0).trans rfl, (K5.out.cell 1).trans rfl, (K5.out.cell 2).trans rfl, (K5.out.cell 3).trans rfl, (K5.out.cell 4).trans rfl⟩
    have TK := Lib.hid (in_take B x g p s st q.nn w3 HI.out hnn HLIM.out)
    go_wp2_with fail
    refine TK.out.mono ?_
    rintro e w4 ⟨⟨v4, rfl, hn4⟩, hin, hik⟩
    obtain ⟨A4, m4, c4, rfl, hc4, hl4, hr4⟩ := hn4.out
    replace ND := Lib.hid (show Nats w4 5 .u8 B1 (.slice Ad md cd) ld from row_ik ND.out hik LT.out.1 LT.out.2.1 LT.out.2.2.1 LT.out.2.2.2 (by decide))
    replace HQ := Lib.hid (HQ.out.below ((HI.out.bel hik).mono W0B.out))
    replace WC := Lib.hid (Nat.le_trans WC.out hik.size)
    replace K4 := Lib.hid (hik.blk K4.out NX.out.1 (by decide))
    replace K5 := Lib.hid (hik.blk K5.out NX.out.2.1 (by decide))
    replace K6 := Lib.hid (hik.blk K6.out NX.out.2.2 (by decide))
    replace HXR := Lib.hid (HXR.out.ik hik LT.out.1 LT.out.2.1 LT.out.2.2.1 LT.out.2.2.2)
    replace KK := Lib.hid (KK.out.trans hik)
    replace HI := Lib.hid (hin)
    have R4 := Lib.hid hr4.out
    clear hin hik hn4 hl4 hr4 TK o0 o1 o2 o3 o4
    go_upto_region 15 with fail
    obtain ⟨x0, x1, x2, x3, x4, x5⟩ : w4.cell? ⟨E, 0, none⟩ = some (.int .u64 (base' : Int)) ∧ w4.cell? ⟨E, 1, none⟩ = some (.slice A1' n c1') ∧ w4.cell? ⟨E, 2, none⟩ = some (.slice A2' n c2') ∧ w4.cell? ⟨E, 3, none⟩ = some (.int .i64 (most : Int)) ∧ w4.cell? ⟨E, 4, none⟩ = some (.int .u64 (en' : Int)) ∧ w4.cell? ⟨E, 5, none⟩ = some (.bool kn') := ⟨(K4.out.cell 0).trans rfl, (K4.out.cell 1).trans rfl, (K4.out.cell 2).trans rfl, (K4.out.cell 3).trans rfl, (K4.out.cell 4).trans rfl, (K4.out.cell 5).trans rfl⟩
    have RD := Lib.hid (show Rd w4 w4.heap.size 1 Ad md (ns .u8 ld) from by obtain ⟨A9, n9, c9, hv, _, _, h9⟩ := ND.out.out; injection hv with e1 e2 e3; subst e1 e2 e3; exact h9.out)
    generalize st.L.take (st.many q.nn) = lt4 at *
    generalize st.terr q.nn = te at *
    rcases Bool.eq_false_or_eq_true ((strN lt4).toList == (strN ld).toList) with hs1 | hs1 <;> rcases Bool.eq_false_or_eq_true ((te : Int) == (kd2 : Int)) with hs2 | hs2
    · go_wp2_with (first | refine wpList_conv Try.underlying24 Try.underlying5 Try.underlying9 rfl _ rfl rfl R4.out ?_ | refine wpList_conv Try.underlying24 Try.underlying5 Try.underlying9 rfl _ rfl rfl RD.out ?_ | refine stm_store (cs' := #[.int .u64 (base' : Int), .slice A1' n c1', .slice A2' n c2', .int .i64 (most : Int), .int .u64 (en' : Int), .bool kn']) K6.out rfl _ _ rfl rfl rfl (by simp) (by kernel_rfl) (by simp [Value.oneCell']) (by simp [setL]) fun w7 hk hs => ?_)
      replace HI := Lib.hid (HI.out.aside K6.out (by decide) (by decide) (by have := LE.out; omega) hs)
      replace HXR := Lib.hid (HXR.out.solo K6.out (by decide) (by decide) hs)
      replace HQ := Lib.hid (HQ.out.below (hs.1.mono (by have := WE.out; omega)))
      replace WC := Lib.hid (Nat.le_trans WC.out (Nat.le_of_eq hs.2.1.symm))
      replace K5 := Lib.hid (hs.blk K5.out (by omega))
      replace K4 := Lib.hid (hs.blk K4.out (by omega))
      replace KK := Lib.hid (KK.out.aside hs (by have := HE.out; omega))
      replace K6 := Lib.hid (show Blk _ _ _ #[.int .u64 (base' : Int), .slice A1' n c1', .slice A2' n c2', .int .i64 (most : Int), .int .u64 (en' : Int), .bool kn'] from hk)
      clear hk hs
      obtain ⟨r0, r1, r2, r3, r4, r5⟩ : w7.cell? ⟨E + 2, 0, none⟩ = some (.int .u64 (base' : Int)) ∧ w7.cell? ⟨E + 2, 1, none⟩ = some (.slice A1' n c1') ∧ w7.cell? ⟨E + 2, 2, none⟩ = some (.slice A2' n c2') ∧ w7.cell? ⟨E + 2, 3, none⟩ = some (.int .i64 (most : Int)) ∧ w7.cell? ⟨E + 2, 4, none⟩ = some (.int .u64 (en' : Int)) ∧ w7.cell? ⟨E + 2, 5, none⟩ = some (.bool kn') := ⟨(K6.out.cell 0).trans rfl, (K6.out.cell 1).trans rfl, (K6.out.cell 2).trans rfl, (K6.out.cell 3).trans rfl, (K6.out.cell 4).trans rfl, (K6.out.cell 5).trans rfl⟩
      go_wp2_with fail
      refine bodyPost_ret (v := .tuple #[.agg #[.int .u64 (base' : Int), .slice A1' n c1', .slice A2' n c2', .int .i64 (most : Int), .int .u64 (en' : Int), .bool kn'], .bool true]) (by simp [results, Try.results7, go_sem, r0, r1, r2, r3, r4, r5]) rfl ?_
      exact OneP.mk' ⟨_, _, _, _, _, _, _, rfl, HLE.out, HXR.out⟩ HI.out KK.out rfl (by show st.base + st.many q.nn ≤ _; have := HOK.out.ts; unfold Ist.many; omega)
    · go_wp2_with (first | refine wpList_conv Try.underlying24 Try.underlying5 Try.underlying9 rfl _ rfl rfl R4.out ?_ | refine wpList_conv Try.underlying24 Try.underlying5 Try.underlying9 rfl _ rfl rfl RD.out ?_ | refine stm_store (cs' := #[.int .u64 (base' : Int), .slice A1' n c1', .slice A2' n c2', .int .i64 (most : Int), .int .u64 (en' : Int), .bool kn']) K6.out rfl _ _ rfl rfl rfl (by simp) (by kernel_rfl) (by simp [Value.oneCell']) (by simp [setL]) fun w7 hk hs => ?_)
      replace HI := Lib.hid (HI.out.aside K6.out (by decide) (by decide) (by have := LE.out; omega) hs)
      replace HXR := Lib.hid (HXR.out.solo K6.out (by decide) (by decide) hs)
      replace HQ := Lib.hid (HQ.out.below (hs.1.mono (by have := WE.out; omega)))
      replace WC := Lib.hid (Nat.le_trans WC.out (Nat.le_of_eq hs.2.1.symm))
      replace K5 := Lib.hid (hs.blk K5.out (by omega))
      replace K4 := Lib.hid (hs.blk K4.out (by omega))
      replace KK := Lib.hid (KK.out.aside hs (by have := HE.out; omega))
      replace K6 := Lib.hid (show Blk _ _ _ #[.int .u64 (base' : Int), .slice A1' n c1', .slice A2' n c2', .int .i64 (most : Int), .int .u64 (en' : Int), .bool kn'] from hk)
      clear hk hs
      obtain ⟨r0, r1, r2, r3, r4, r5⟩ : w7.cell? ⟨E + 2, 0, none⟩ = some (.int .u64 (base' : Int)) ∧ w7.cell? ⟨E + 2, 1, none⟩ = some (.slice A1' n c1') ∧ w7.cell? ⟨E + 2, 2, none⟩ = some (.slice A2' n c2') ∧ w7.cell? ⟨E + 2, 3, none⟩ = some (.int .i64 (most : Int)) ∧ w7.cell? ⟨E + 2, 4, none⟩ = some (.int .u64 (en' : Int)) ∧ w7.cell? ⟨E + 2, 5, none⟩ = some (.bool kn') := ⟨(K6.out.cell 0).trans rfl, (K6.out.cell 1).trans rfl, (K6.out.cell 2).trans rfl, (K6.out.cell 3).trans rfl, (K6.out.cell 4).trans rfl, (K6.out.cell 5).trans rfl⟩
      go_wp2_with fail
      refine bodyPost_ret (v := .tuple #[.agg #[.int .u64 (base' : Int), .slice A1' n c1', .slice A2' n c2', .int .i64 (most : Int), .int .u64 (en' : Int), .bool kn'], .bool false]) (by simp [results, Try.results7, go_sem, r0, r1, r2, r3, r4, r5]) rfl ?_
      exact OneP.mk' ⟨_, _, _, _, _, _, _, rfl, HLE.out, HXR.out⟩ HI.out KK.out rfl (by show st.base + st.many q.nn ≤ _; have := HOK.out.ts; unfold Ist.many; omega)
    · go_wp2_with (first | refine wpList_conv Try.underlying24 Try.underlying5 Try.underlying9 rfl _ rfl rfl R4.out ?_ | refine wpList_conv Try.underlying24 Try.underlying5 Try.underlying9 rfl _ rfl rfl RD.out ?_ | refine stm_store (cs' := #[.int .u64 (base' : Int), .slice A1' n c1', .slice A2' n c2', .int .i64 (most : Int), .int .u64 (en' : Int), .bool kn']) K6.out rfl _ _ rfl rfl rfl (by simp) (by kernel_rfl) (by simp [Value.oneCell']) (by simp [setL]) fun w7 hk hs => ?_)
      replace HI := Lib.hid (HI.out.aside K6.out (by decide) (by decide) (by have := LE.out; omega) hs)
      replace HXR := Lib.hid (HXR.out.solo K6.out (by decide) (by decide) hs)
      replace HQ := Lib.hid (HQ.out.below (hs.1.mono (by have := WE.out; omega)))
      replace WC := Lib.hid (Nat.le_trans WC.out (Nat.le_of_eq hs.2.1.symm))
      replace K5 := Lib.hid (hs.blk K5.out (by omega))
      replace K4 := Lib.hid (hs.blk K4.out (by omega))
      replace KK := Lib.hid (KK.out.aside hs (by have := HE.out; omega))
      replace K6 := Lib.hid (show Blk _ _ _ #[.int .u64 (base' : Int), .slice A1' n c1', .slice A2' n c2', .int .i64 (most : Int), .int .u64 (en' : Int), .bool kn'] from hk)
      clear hk hs
      obtain ⟨r0, r1, r2, r3, r4, r5⟩ : w7.cell? ⟨E + 2, 0, none⟩ = some (.int .u64 (base' : Int)) ∧ w7.cell? ⟨E + 2, 1, none⟩ = some (.slice A1' n c1') ∧ w7.cell? ⟨E + 2, 2, none⟩ = some (.slice A2' n c2') ∧ w7.cell? ⟨E + 2, 3, none⟩ = some (.int .i64 (most : Int)) ∧ w7.cell? ⟨E + 2, 4, none⟩ = some (.int .u64 (en' : Int)) ∧ w7.cell? ⟨E + 2, 5, none⟩ = some (.bool kn') := ⟨(K6.out.cell 0).trans rfl, (K6.out.cell 1).trans rfl, (K6.out.cell 2).trans rfl, (K6.out.cell 3).trans rfl, (K6.out.cell 4).trans rfl, (K6.out.cell 5).trans rfl⟩
      go_wp2_with fail
      refine bodyPost_ret (v := .tuple #[.agg #[.int .u64 (base' : Int), .slice A1' n c1', .slice A2' n c2', .int .i64 (most : Int), .int .u64 (en' : Int), .bool kn'], .bool false]) (by simp [results, Try.results7, go_sem, r0, r1, r2, r3, r4, r5]) rfl ?_
      exact OneP.mk' ⟨_, _, _, _, _, _, _, rfl, HLE.out, HXR.out⟩ HI.out KK.out rfl (by show st.base + st.many q.nn ≤ _; have := HOK.out.ts; unfold Ist.many; omega)
    · go_wp2_with (first | refine wpList_conv Try.underlying24 Try.underlying5 Try.underlying9 rfl _ rfl rfl R4.out ?_ | refine wpList_conv Try.underlying24 Try.underlying5 Try.underlying9 rfl _ rfl rfl RD.out ?_ | refine stm_store (cs' := #[.int .u64 (base' : Int), .slice A1' n c1', .slice A2' n c2', .int .i64 (most : Int), .int .u64 (en' : Int), .bool kn']) K6.out rfl _ _ rfl rfl rfl (by simp) (by kernel_rfl) (by simp [Value.oneCell']) (by simp [setL]) fun w7 hk hs => ?_)
      replace HI := Lib.hid (HI.out.aside K6.out (by decide) (by decide) (by have := LE.out; omega) hs)
      replace HXR := Lib.hid (HXR.out.solo K6.out (by decide) (by decide) hs)
      replace HQ := Lib.hid (HQ.out.below (hs.1.mono (by have := WE.out; omega)))
      replace WC := Lib.hid (Nat.le_trans WC.out (Nat.le_of_eq hs.2.1.symm))
      replace K5 := Lib.hid (hs.blk K5.out (by omega))
      replace K4 := Lib.hid (hs.blk K4.out (by omega))
      replace KK := Lib.hid (KK.out.aside hs (by have := HE.out; omega))
      replace K6 := Lib.hid (show Blk _ _ _ #[.int .u64 (base' : Int), .slice A1' n c1', .slice A2' n c2', .int .i64 (most : Int), .int .u64 (en' : Int), .bool kn'] from hk)
      clear hk hs
      obtain ⟨r0, r1, r2, r3, r4, r5⟩ : w7.cell? ⟨E + 2, 0, none⟩ = some (.int .u64 (base' : Int)) ∧ w7.cell? ⟨E + 2, 1, none⟩ = some (.slice A1' n c1') ∧ w7.cell? ⟨E + 2, 2, none⟩ = some (.slice A2' n c2') ∧ w7.cell? ⟨E + 2, 3, none⟩ = some (.int .i64 (most : Int)) ∧ w7.cell? ⟨E + 2, 4, none⟩ = some (.int .u64 (en' : Int)) ∧ w7.cell? ⟨E + 2, 5, none⟩ = some (.bool kn') := ⟨(K6.out.cell 0).trans rfl, (K6.out.cell 1).trans rfl, (K6.out.cell 2).trans rfl, (K6.out.cell 3).trans rfl, (K6.out.cell 4).trans rfl, (K6.out.cell 5).trans rfl⟩
      go_wp2_with fail
      refine bodyPost_ret (v := .tuple #[.agg #[.int .u64 (base' : Int), .slice A1' n c1', .slice A2' n c2', .int .i64 (most : Int), .int .u64 (en' : Int), .bool kn'], .bool false]) (by simp [results, Try.results7, go_sem, r0, r1, r2, r3, r4, r5]) rfl ?_
      exact OneP.mk' ⟨_, _, _, _, _, _, _, rfl, HLE.out, HXR.out⟩ HI.out KK.out rfl (by show st.base + st.many q.nn ≤ _; have := HOK.out.ts; unfold Ist.many; omega)
  by_cases hkd7 : kd = 7
  · have hkd := hkd7
    have hk5 : (kd == 5) = false := by simp [hkd]
    have hk6 : (kd == 6) = false := by simp [hkd]
    have hk7 : (kd == 7) = true := by simp [hkd]
    clear hkd
    have EW1 := Lib.hid (show B1 ≤ w1.heap.size from Nat.le_trans HBW.out (by have := KK.out.size; have := HE.out; omega))
    have RF := Lib.hid (r18_take base most en n kn A1 A2 c1 c2 B1 w1 HXR.out hn (by omega) (Nat.le_trans HBW.out (by have := KK.out.size; have := HE.out; omega)) q.nn)
    obtain ⟨x0, x1, x2, x3, x4, x5⟩ : w1.cell? ⟨E, 0, none⟩ = some (.int .u64 (base : Int)) ∧ w1.cell? ⟨E, 1, none⟩ = some (.slice A1 n c1) ∧ w1.cell? ⟨E, 2, none⟩ = some (.slice A2 n c2) ∧ w1.cell? ⟨E, 3, none⟩ = some (.int .i64 (most : Int)) ∧ w1.cell? ⟨E, 4, none⟩ = some (.int .u64 (en : Int)) ∧ w1.cell? ⟨E, 5, none⟩ = some (.bool kn) := ⟨(K4.out.cell 0).trans rfl, (K4.out.cell 1).trans rfl, (K4.out.cell 2).trans rfl, (K4.out.cell 3).trans rfl, (K4.out.cell 4).trans rfl, (K4.out.cell 5).trans rfl⟩
    obtain ⟨o0, o1, o2, o3, o4⟩ : w1.cell? ⟨E + 1, 0, none⟩ = some (.int .i64 q.k) ∧ w1.cell? ⟨E + 1, 1, none⟩ = some (.int .i64 q.nn) ∧ w1.cell? ⟨E + 1, 2, none⟩ = some (.int .u64 (q.at_ : Int)) ∧ w1.cell? ⟨E + 1, 3, none⟩ = some (.bool false) ∧ w1.cell? ⟨E + 1, 4, none⟩ = some (.slice q.A q.m q.c) := ⟨(K5.out.cell 0).trans rfl, (K5.out.cell 1).trans rfl, (K5.out.cell 2).trans rfl, (K5.out.cell 3).trans rfl, (K5.out.cell 4).trans rfl⟩
    go_wp2_with fail
    refine RF.out.mono ?_
    rintro e w2 ⟨v, Ad, md, cd, ld, kd2, rfl, hxo, hnd, hmd, hb2⟩
    obtain ⟨base', en', kn', A1', A2', c1', c2', rfl, hle, hxr⟩ := hxo
    replace HI := Lib.hid (HI.out.into hb2)
    replace HXR := Lib.hid (HXR.out.into hb2)
    replace HQ := Lib.hid (HQ.out.below (hb2.mono WC.out))
    replace K4 := Lib.hid (K4.out.below hb2 K4.out.lt)
    replace K5 := Lib.hid (K5.out.below hb2 K5.out.lt)
    replace K6 := Lib.hid (K6.out.below hb2 K6.out.lt)
    replace KK := Lib.hid (KK.out.trans (IK.of hb2))
    replace WC := Lib.hid (Nat.le_trans WC.out hb2.size)
    replace HXR := Lib.hid hxr
    have HLE := Sh.mk hle
    have ND := Lib.hid (show Nats w2 5 .u8 B1 (.slice Ad md cd) ld from hnd.mono EW1.out)
    clear hb2 hxr RF x0 x1 x2 x3 x4 x5 o0 o1 o2 o3 o4 hle hnd
    go_upto_region 14 with (refine stm_store (cs' := #[.int .u64 (base' : Int), .slice A1' n c1', .slice A2' n c2', .int .i64 (most : Int), .int .u64 (en' : Int), .bool kn']) K4.out rfl _ _ rfl rfl rfl (by simp) (by kernel_rfl) (by simp [Value.oneCell']) (by simp [setL]) fun w3 hk hs => ?_)
    replace ND := Lib.hid (ND.out.kept fun q9 hq9 => hs.2.2 q9 fun e => own_nt ND.out K4.out (by decide) (by rw [hq9, e]))
    replace HI := Lib.hid (HI.out.aside K4.out (by decide) (by decide) (by have := LE.out; omega) hs)
    replace HXR := Lib.hid (HXR.out.solo K4.out (by decide) (by decide) hs)
    replace HQ := Lib.hid (HQ.out.below (hs.1.mono (by have := WE.out; omega)))
    replace WC := Lib.hid (Nat.le_trans WC.out (Nat.le_of_eq hs.2.1.symm))
    replace K5 := Lib.hid (hs.blk K5.out (by omega))
    replace K6 := Lib.hid (hs.blk K6.out (by omega))
    replace KK := Lib.hid (KK.out.aside hs (by have := HE.out; omega))
    replace K4 := Lib.hid (show Blk _ _ _ #[.int .u64 (base' : Int), .slice A1' n c1', .slice A2' n c2', .int .i64 (most : Int), .int .u64 (en' : Int), .bool kn'] from hk)

    clear hk hs
    obtain ⟨o0, o1, o2, o3, o4⟩ : w3.cell? ⟨E + 1, 0, none⟩ = some (.int .i64 q.k) ∧ w3.cell? ⟨E + 1, 1, none⟩ = some (.int .i64 q.nn) ∧ w3.cell? ⟨E + 1, 2, none⟩ = some (.int .u64 (q.at_ : Int)) ∧ w3.cell? ⟨E + 1, 3, none⟩ = some (.bool false) ∧ w3.cell? ⟨E + 1, 4, none⟩ = some (.slice q.A q.m q.c) := ⟨(K5.out.cell 0).trans rfl, (K5.out.cell 1).trans rfl, (K5.out.cell 2).trans rfl, (K5.out.cell 3).trans rfl, (K5.out.cell 4).trans rfl⟩
    have TK := Lib.hid (in_take B x g p s st q.nn w3 HI.out hnn HLIM.out)
    go_wp2_with fail
    refine TK.out.mono ?_
    rintro e w4 ⟨⟨v4, rfl, hn4⟩, hin, hik⟩
    obtain ⟨A4, m4, c4, rfl, hc4, hl4, hr4⟩ := hn4.out
    replace ND := Lib.hid (show Nats w4 5 .u8 B1 (.slice Ad md cd) ld from row_ik ND.out hik LT.out.1 LT.out.2.1 LT.out.2.2.1 LT.out.2.2.2 (by decide))
    replace HQ := Lib.hid (HQ.out.below ((HI.out.bel hik).mono W0B.out))
    replace WC := Lib.hid (Nat.le_trans WC.out hik.size)
    replace K4 := Lib.hid (hik.blk K4.out NX.out.1 (by decide))
    replace K5 := Lib.hid (hik.blk K5.out NX.out.2.1 (by decide))
    replace K6 := Lib.hid (hik.blk K6.out NX.out.2.2 (by decide))
    replace HXR := Lib.hid (HXR.out.ik hik LT.out.1 LT.out.2.1 LT.out.2.2.1 LT.out.2.2.2)
    replace KK := Lib.hid (KK.out.trans hik)
    replace HI := Lib.hid (hin)
    have R4 := Lib.hid hr4.out
    clear hin hik hn4 hl4 hr4 TK o0 o1 o2 o3 o4
    go_upto_region 15 with fail
    obtain ⟨x0, x1, x2, x3, x4, x5⟩ : w4.cell? ⟨E, 0, none⟩ = some (.int .u64 (base' : Int)) ∧ w4.cell? ⟨E, 1, none⟩ = some (.slice A1' n c1') ∧ w4.cell? ⟨E, 2, none⟩ = some (.slice A2' n c2') ∧ w4.cell? ⟨E, 3, none⟩ = some (.int .i64 (most : Int)) ∧ w4.cell? ⟨E, 4, none⟩ = some (.int .u64 (en' : Int)) ∧ w4.cell? ⟨E, 5, none⟩ = some (.bool kn') := ⟨(K4.out.cell 0).trans rfl, (K4.out.cell 1).trans rfl, (K4.out.cell 2).trans rfl, (K4.out.cell 3).trans rfl, (K4.out.cell 4).trans rfl, (K4.out.cell 5).trans rfl⟩
    have RD := Lib.hid (show Rd w4 w4.heap.size 1 Ad md (ns .u8 ld) from by obtain ⟨A9, n9, c9, hv, _, _, h9⟩ := ND.out.out; injection hv with e1 e2 e3; subst e1 e2 e3; exact h9.out)
    generalize st.L.take (st.many q.nn) = lt4 at *
    generalize st.terr q.nn = te at *
    rcases Bool.eq_false_or_eq_true ((strN lt4).toList == (strN ld).toList) with hs1 | hs1 <;> rcases Bool.eq_false_or_eq_true ((te : Int) == (kd2 : Int)) with hs2 | hs2
    · go_wp2_with (first | refine wpList_conv Try.underlying24 Try.underlying5 Try.underlying9 rfl _ rfl rfl R4.out ?_ | refine wpList_conv Try.underlying24 Try.underlying5 Try.underlying9 rfl _ rfl rfl RD.out ?_ | refine stm_store (cs' := #[.int .u64 (base' : Int), .slice A1' n c1', .slice A2' n c2', .int .i64 (most : Int), .int .u64 (en' : Int), .bool kn']) K6.out rfl _ _ rfl rfl rfl (by simp) (by kernel_rfl) (by simp [Value.oneCell']) (by simp [setL]) fun w7 hk hs => ?_)
      replace HI := Lib.hid (HI.out.aside K6.out (by decide) (by decide) (by have := LE.out; omega) hs)
      replace HXR := Lib.hid (HXR.out.solo K6.out (by decide) (by decide) hs)
      replace HQ := Lib.hid (HQ.out.below (hs.1.mono (by have := WE.out; omega)))
      replace WC := Lib.hid (Nat.le_trans WC.out (Nat.le_of_eq hs.2.1.symm))
      replace K5 := Lib.hid (hs.blk K5.out (by omega))
      replace K4 := Lib.hid (hs.blk K4.out (by omega))
      replace KK := Lib.hid (KK.out.aside hs (by have := HE.out; omega))
      replace K6 := Lib.hid (show Blk _ _ _ #[.int .u64 (base' : Int), .slice A1' n c1', .slice A2' n c2', .int .i64 (most : Int), .int .u64 (en' : Int), .bool kn'] from hk)
      clear hk hs
      obtain ⟨r0, r1, r2, r3, r4, r5⟩ : w7.cell? ⟨E + 2, 0, none⟩ = some (.int .u64 (base' : Int)) ∧ w7.cell? ⟨E + 2, 1, none⟩ = some (.slice A1' n c1') ∧ w7.cell? ⟨E + 2, 2, none⟩ = some (.slice A2' n c2') ∧ w7.cell? ⟨E + 2, 3, none⟩ = some (.int .i64 (most : Int)) ∧ w7.cell? ⟨E + 2, 4, none⟩ = some (.int .u64 (en' : Int)) ∧ w7.cell? ⟨E + 2, 5, none⟩ = some (.bool kn') := ⟨(K6.out.cell 0).trans rfl, (K6.out.cell 1).trans rfl, (K6.out.cell 2).trans rfl, (K6.out.cell 3).trans rfl, (K6.out.cell 4).trans rfl, (K6.out.cell 5).trans rfl⟩
      go_wp2_with fail
      refine bodyPost_ret (v := .tuple #[.agg #[.int .u64 (base' : Int), .slice A1' n c1', .slice A2' n c2', .int .i64 (most : Int), .int .u64 (en' : Int), .bool kn'], .bool true]) (by simp [results, Try.results7, go_sem, r0, r1, r2, r3, r4, r5]) rfl ?_
      exact OneP.mk' ⟨_, _, _, _, _, _, _, rfl, HLE.out, HXR.out⟩ HI.out KK.out rfl (by show st.base + st.many q.nn ≤ _; have := HOK.out.ts; unfold Ist.many; omega)
    · go_wp2_with (first | refine wpList_conv Try.underlying24 Try.underlying5 Try.underlying9 rfl _ rfl rfl R4.out ?_ | refine wpList_conv Try.underlying24 Try.underlying5 Try.underlying9 rfl _ rfl rfl RD.out ?_ | refine stm_store (cs' := #[.int .u64 (base' : Int), .slice A1' n c1', .slice A2' n c2', .int .i64 (most : Int), .int .u64 (en' : Int), .bool kn']) K6.out rfl _ _ rfl rfl rfl (by simp) (by kernel_rfl) (by simp [Value.oneCell']) (by simp [setL]) fun w7 hk hs => ?_)
      replace HI := Lib.hid (HI.out.aside K6.out (by decide) (by decide) (by have := LE.out; omega) hs)
      replace HXR := Lib.hid (HXR.out.solo K6.out (by decide) (by decide) hs)
      replace HQ := Lib.hid (HQ.out.below (hs.1.mono (by have := WE.out; omega)))
      replace WC := Lib.hid (Nat.le_trans WC.out (Nat.le_of_eq hs.2.1.symm))
      replace K5 := Lib.hid (hs.blk K5.out (by omega))
      replace K4 := Lib.hid (hs.blk K4.out (by omega))
      replace KK := Lib.hid (KK.out.aside hs (by have := HE.out; omega))
      replace K6 := Lib.hid (show Blk _ _ _ #[.int .u64 (base' : Int), .slice A1' n c1', .slice A2' n c2', .int .i64 (most : Int), .int .u64 (en' : Int), .bool kn'] from hk)
      clear hk hs
      obtain ⟨r0, r1, r2, r3, r4, r5⟩ : w7.cell? ⟨E + 2, 0, none⟩ = some (.int .u64 (base' : Int)) ∧ w7.cell? ⟨E + 2, 1, none⟩ = some (.slice A1' n c1') ∧ w7.cell? ⟨E + 2, 2, none⟩ = some (.slice A2' n c2') ∧ w7.cell? ⟨E + 2, 3, none⟩ = some (.int .i64 (most : Int)) ∧ w7.cell? ⟨E + 2, 4, none⟩ = some (.int .u64 (en' : Int)) ∧ w7.cell? ⟨E + 2, 5, none⟩ = some (.bool kn') := ⟨(K6.out.cell 0).trans rfl, (K6.out.cell 1).trans rfl, (K6.out.cell 2).trans rfl, (K6.out.cell 3).trans rfl, (K6.out.cell 4).trans rfl, (K6.out.cell 5).trans rfl⟩
      go_wp2_with fail
      refine bodyPost_ret (v := .tuple #[.agg #[.int .u64 (base' : Int), .slice A1' n c1', .slice A2' n c2', .int .i64 (most : Int), .int .u64 (en' : Int), .bool kn'], .bool false]) (by simp [results, Try.results7, go_sem, r0, r1, r2, r3, r4, r5]) rfl ?_
      exact OneP.mk' ⟨_, _, _, _, _, _, _, rfl, HLE.out, HXR.out⟩ HI.out KK.out rfl (by show st.base + st.many q.nn ≤ _; have := HOK.out.ts; unfold Ist.many; omega)
    · go_wp2_with (first | refine wpList_conv Try.underlying24 Try.underlying5 Try.underlying9 rfl _ rfl rfl R4.out ?_ | refine wpList_conv Try.underlying24 Try.underlying5 Try.underlying9 rfl _ rfl rfl RD.out ?_ | refine stm_store (cs' := #[.int .u64 (base' : Int), .slice A1' n c1', .slice A2' n c2', .int .i64 (most : Int), .int .u64 (en' : Int), .bool kn']) K6.out rfl _ _ rfl rfl rfl (by simp) (by kernel_rfl) (by simp [Value.oneCell']) (by simp [setL]) fun w7 hk hs => ?_)
      replace HI := Lib.hid (HI.out.aside K6.out (by decide) (by decide) (by have := LE.out; omega) hs)
      replace HXR := Lib.hid (HXR.out.solo K6.out (by decide) (by decide) hs)
      replace HQ := Lib.hid (HQ.out.below (hs.1.mono (by have := WE.out; omega)))
      replace WC := Lib.hid (Nat.le_trans WC.out (Nat.le_of_eq hs.2.1.symm))
      replace K5 := Lib.hid (hs.blk K5.out (by omega))
      replace K4 := Lib.hid (hs.blk K4.out (by omega))
      replace KK := Lib.hid (KK.out.aside hs (by have := HE.out; omega))
      replace K6 := Lib.hid (show Blk _ _ _ #[.int .u64 (base' : Int), .slice A1' n c1', .slice A2' n c2', .int .i64 (most : Int), .int .u64 (en' : Int), .bool kn'] from hk)
      clear hk hs
      obtain ⟨r0, r1, r2, r3, r4, r5⟩ : w7.cell? ⟨E + 2, 0, none⟩ = some (.int .u64 (base' : Int)) ∧ w7.cell? ⟨E + 2, 1, none⟩ = some (.slice A1' n c1') ∧ w7.cell? ⟨E + 2, 2, none⟩ = some (.slice A2' n c2') ∧ w7.cell? ⟨E + 2, 3, none⟩ = some (.int .i64 (most : Int)) ∧ w7.cell? ⟨E + 2, 4, none⟩ = some (.int .u64 (en' : Int)) ∧ w7.cell? ⟨E + 2, 5, none⟩ = some (.bool kn') := ⟨(K6.out.cell 0).trans rfl, (K6.out.cell 1).trans rfl, (K6.out.cell 2).trans rfl, (K6.out.cell 3).trans rfl, (K6.out.cell 4).trans rfl, (K6.out.cell 5).trans rfl⟩
      go_wp2_with fail
      refine bodyPost_ret (v := .tuple #[.agg #[.int .u64 (base' : Int), .slice A1' n c1', .slice A2' n c2', .int .i64 (most : Int), .int .u64 (en' : Int), .bool kn'], .bool false]) (by simp [results, Try.results7, go_sem, r0, r1, r2, r3, r4, r5]) rfl ?_
      exact OneP.mk' ⟨_, _, _, _, _, _, _, rfl, HLE.out, HXR.out⟩ HI.out KK.out rfl (by show st.base + st.many q.nn ≤ _; have := HOK.out.ts; unfold Ist.many; omega)
    · go_wp2_with (first | refine wpList_conv Try.underlying24 Try.underlying5 Try.underlying9 rfl _ rfl rfl R4.out ?_ | refine wpList_conv Try.underlying24 Try.underlying5 Try.underlying9 rfl _ rfl rfl RD.out ?_ | refine stm_store (cs' := #[.int .u64 (base' : Int), .slice A1' n c1', .slice A2' n c2', .int .i64 (most : Int), .int .u64 (en' : Int), .bool kn']) K6.out rfl _ _ rfl rfl rfl (by simp) (by kernel_rfl) (by simp [Value.oneCell']) (by simp [setL]) fun w7 hk hs => ?_)
      replace HI := Lib.hid (HI.out.aside K6.out (by decide) (by decide) (by have := LE.out; omega) hs)
      replace HXR := Lib.hid (HXR.out.solo K6.out (by decide) (by decide) hs)
      replace HQ := Lib.hid (HQ.out.below (hs.1.mono (by have := WE.out; omega)))
      replace WC := Lib.hid (Nat.le_trans WC.out (Nat.le_of_eq hs.2.1.symm))
      replace K5 := Lib.hid (hs.blk K5.out (by omega))
      replace K4 := Lib.hid (hs.blk K4.out (by omega))
      replace KK := Lib.hid (KK.out.aside hs (by have := HE.out; omega))
      replace K6 := Lib.hid (show Blk _ _ _ #[.int .u64 (base' : Int), .slice A1' n c1', .slice A2' n c2', .int .i64 (most : Int), .int .u64 (en' : Int), .bool kn'] from hk)
      clear hk hs
      obtain ⟨r0, r1, r2, r3, r4, r5⟩ : w7.cell? ⟨E + 2, 0, none⟩ = some (.int .u64 (base' : Int)) ∧ w7.cell? ⟨E + 2, 1, none⟩ = some (.slice A1' n c1') ∧ w7.cell? ⟨E + 2, 2, none⟩ = some (.slice A2' n c2') ∧ w7.cell? ⟨E + 2, 3, none⟩ = some (.int .i64 (most : Int)) ∧ w7.cell? ⟨E + 2, 4, none⟩ = some (.int .u64 (en' : Int)) ∧ w7.cell? ⟨E + 2, 5, none⟩ = some (.bool kn') := ⟨(K6.out.cell 0).trans rfl, (K6.out.cell 1).trans rfl, (K6.out.cell 2).trans rfl, (K6.out.cell 3).trans rfl, (K6.out.cell 4).trans rfl, (K6.out.cell 5).trans rfl⟩
      go_wp2_with fail
      refine bodyPost_ret (v := .tuple #[.agg #[.int .u64 (base' : Int), .slice A1' n c1', .slice A2' n c2', .int .i64 (most : Int), .int .u64 (en' : Int), .bool kn'], .bool false]) (by simp [results, Try.results7, go_sem, r0, r1, r2, r3, r4, r5]) rfl ?_
      exact OneP.mk' ⟨_, _, _, _, _, _, _, rfl, HLE.out, HXR.out⟩ HI.out KK.out rfl (by show st.base + st.many q.nn ≤ _; have := HOK.out.ts; unfold Ist.many; omega)
  have hkd5 := hkd
  have hk5 : (kd == 5) = false := by simpa using hkd5
  have hk6 : (kd == 6) = false := by simpa using hkd6
  have hk7 : (kd == 7) = false := by simpa using hkd7
  have RF := Lib.hid (r18_put base most en n kn A1 A2 c1 c2 B1 w1 HXR.out hn (by omega) (Nat.le_trans HBW.out (by have := KK.out.size; have := HE.out; omega)) f q.m q.c q.A q.l (HQ.out.mono WC.out) hm HF.out)
  obtain ⟨x0, x1, x2, x3, x4, x5⟩ : w1.cell? ⟨E, 0, none⟩ = some (.int .u64 (base : Int)) ∧ w1.cell? ⟨E, 1, none⟩ = some (.slice A1 n c1) ∧ w1.cell? ⟨E, 2, none⟩ = some (.slice A2 n c2) ∧ w1.cell? ⟨E, 3, none⟩ = some (.int .i64 (most : Int)) ∧ w1.cell? ⟨E, 4, none⟩ = some (.int .u64 (en : Int)) ∧ w1.cell? ⟨E, 5, none⟩ = some (.bool kn) := ⟨(K4.out.cell 0).trans rfl, (K4.out.cell 1).trans rfl, (K4.out.cell 2).trans rfl, (K4.out.cell 3).trans rfl, (K4.out.cell 4).trans rfl, (K4.out.cell 5).trans rfl⟩
  obtain ⟨o0, o1, o2, o3, o4⟩ : w1.cell? ⟨E + 1, 0, none⟩ = some (.int .i64 q.k) ∧ w1.cell? ⟨E + 1, 1, none⟩ = some (.int .i64 q.nn) ∧ w1.cell? ⟨E + 1, 2, none⟩ = some (.int .u64 (q.at_ : Int)) ∧ w1.cell? ⟨E + 1, 3, none⟩ = some (.bool false) ∧ w1.cell? ⟨E + 1, 4, none⟩ = some (.slice q.A q.m q.c) := ⟨(K5.out.cell 0).trans rfl, (K5.out.cell 1).trans rfl, (K5.out.cell 2).trans rfl, (K5.out.cell 3).trans rfl, (K5.out.cell 4).trans rfl⟩
  go_wp2_with fail
  refine RF.out.mono ?_
  rintro e w2 ⟨v, b, rfl, hxo, hb2⟩
  obtain ⟨base', en', kn', A1', A2', c1', c2', rfl, hle, hxr⟩ := hxo
  replace HI := Lib.hid (HI.out.into hb2)
  replace HXR := Lib.hid (HXR.out.into hb2)
  replace HQ := Lib.hid (HQ.out.below (hb2.mono WC.out))
  replace K4 := Lib.hid (K4.out.below hb2 K4.out.lt)
  replace K5 := Lib.hid (K5.out.below hb2 K5.out.lt)
  replace K6 := Lib.hid (K6.out.below hb2 K6.out.lt)
  replace KK := Lib.hid (KK.out.trans (IK.of hb2))
  replace WC := Lib.hid (Nat.le_trans WC.out hb2.size)
  replace HXR := Lib.hid hxr
  have HLE := Sh.mk (show base' ≤ base + n by omega)
  clear hb2 hxr RF x0 x1 x2 x3 x4 x5 o0 o1 o2 o3 o4 hle
  go_upto_region 17 with (refine stm_store (cs' := #[.int .u64 (base' : Int), .slice A1' n c1', .slice A2' n c2', .int .i64 (most : Int), .int .u64 (en' : Int), .bool kn']) K4.out rfl _ _ rfl rfl rfl (by simp) (by kernel_rfl) (by simp [Value.oneCell']) (by simp [setL]) fun w3 hk hs => ?_)
  replace HI := Lib.hid (HI.out.aside K4.out (by decide) (by decide) (by have := LE.out; omega) hs)
  replace HXR := Lib.hid (HXR.out.solo K4.out (by decide) (by decide) hs)
  replace HQ := Lib.hid (HQ.out.below (hs.1.mono (by have := WE.out; omega)))
  replace WC := Lib.hid (Nat.le_trans WC.out (Nat.le_of_eq hs.2.1.symm))
  replace K5 := Lib.hid (hs.blk K5.out (by omega))
  replace K6 := Lib.hid (hs.blk K6.out (by omega))
  replace KK := Lib.hid (KK.out.aside hs (by have := HE.out; omega))
  replace K4 := Lib.hid (show Blk _ _ _ #[.int .u64 (base' : Int), .slice A1' n c1', .slice A2' n c2', .int .i64 (most : Int), .int .u64 (en' : Int), .bool kn'] from hk)
  clear hk hs
  have HML := Sh.mk HQ.out.natLen
  have o4 : w3.cell? ⟨E + 1, 4, none⟩ = some (.slice q.A q.m q.c) := by rw [K5.out.cell]; rfl
  go_upto_region 17 with fail
  refine OX.wp_ord [(0, .read), (1, .pure), (2, .pure), (3, .pure), (4, .read), (6, .pure), (5, .sole), (7, .pure), (8, .sole), (9, .pure)] ⟨fun k => k ≠ E ∧ k ≠ E + 1, []⟩ (by kernel_rfl) (by kernel_rfl) (fun QQ hQ wd hwd => ?_); (try simp only [List.map_cons, List.map_nil, List.getD_cons_zero, List.getD_cons_succ])
  have hD : Below w3.heap.size w3 wd := by rw [hwd.out]; exact (Below.refl _ _).drew
  replace HI := Lib.hid (HI.out.into hD)
  replace HXR := Lib.hid (HXR.out.into hD)
  replace HQ := Lib.hid (HQ.out.below (hD.mono WC.out))
  replace K4 := Lib.hid (K4.out.below hD K4.out.lt)
  replace K5 := Lib.hid (K5.out.below hD K5.out.lt)
  replace K6 := Lib.hid (K6.out.below hD K6.out.lt)
  replace KK := Lib.hid (KK.out.trans (IK.of hD))
  replace WC := Lib.hid (Nat.le_trans WC.out hD.size)
  replace o4 : wd.cell? ⟨E + 1, 4, none⟩ = some (.slice q.A q.m q.c) := by rw [K5.out.cell]; rfl
  clear hD hwd
  have hnE : ¬ (E ≠ E ∧ E ≠ E + 1) := fun h => h.1 rfl
  have hnE1 : ¬ (E + 1 ≠ E ∧ E + 1 ≠ E + 1) := fun h => h.2 rfl
  (refine OX.o_loads _ [.int .u64 (base' : Int), .slice A1' n c1', .slice A2' n c2', .int .i64 (most : Int), .int .u64 (en' : Int), .bool kn'] (by rfl) rfl rfl (by dsimp only; first | assumption | omega) (fun j x hj => by rw [K4.out.cell, Nat.zero_add]; simpa using hj) (Nat.succ_pos _) (by kernel_rfl) (by kernel_rfl) ?_; simp only [Act.put, List.setIfInBounds_toArray, List.set_cons_zero, List.set_cons_succ])
  (refine OX.o_pure (v := ?_) (by rfl) (fun w' => ?_) ?_; rotate_left; (focus (go_simp; (try with_reducible rfl))); (try simp only [Act.put, List.setIfInBounds_toArray, List.set_cons_zero, List.set_cons_succ]))
  (refine OX.o_pure (v := ?_) (by rfl) (fun w' => ?_) ?_; rotate_left; (focus (go_simp; (try with_reducible rfl))); (try simp only [Act.put, List.setIfInBounds_toArray, List.set_cons_zero, List.set_cons_succ]))
  (refine OX.o_pure (v := ?_) (by rfl) (fun w' => ?_) ?_; rotate_left; (focus (go_simp; (try with_reducible rfl))); (try simp only [Act.put, List.setIfInBounds_toArray, List.set_cons_zero, List.set_cons_succ]))
  (refine OX.o_load _ (by rfl) rfl rfl (by dsimp only; first | assumption | omega) (by assumption) (by kernel_rfl) ?_; simp only [Act.put, List.setIfInBounds_toArray, List.set_cons_zero, List.set_cons_succ])
  (refine OX.o_pure (v := ?_) (by rfl) (fun w' => ?_) ?_; rotate_left; (focus (go_simp; (try with_reducible rfl))); (try simp only [Act.put, List.setIfInBounds_toArray, List.set_cons_zero, List.set_cons_succ]))
  have HC := Lib.hid (in_put B x g p s st f q.A q.m q.c q.l wd HI.out (by unfold pmax; exact HF.out) HML.out HLT.out hmc (by omega) (HQ.out.apt (Nat.le_trans W0B.out HI.out.bp)) (fun w9 k9 => (HQ.out.below ((HI.out.bel k9).mono W0B.out)).mono WC.out))
  refine OX.o_sole (fun K hK => ?_)
  go_wp2_with fail
  refine HC.out.mono ?_
  rintro e w6 ⟨rfl, hin, hik⟩
  go_wp2_with fail
  refine hK _ _ (fun _ => ⟨hik.size, fun k hk hb => by
    have h2 : k = E ∨ k = E + 1 := by dsimp only at hb; omega
    rcases h2 with rfl | rfl
    · exact (hik.blk K4.out NX.out.1 (by decide)).trans K4.out.symm
    · exact (hik.blk K5.out NX.out.2.1 (by decide)).trans K5.out.symm⟩) ?_; clear hK K
  replace HQ := Lib.hid (HQ.out.below ((HI.out.bel hik).mono W0B.out))
  replace WC := Lib.hid (Nat.le_trans WC.out hik.size)
  replace K4 := Lib.hid (hik.blk K4.out NX.out.1 (by decide))
  replace K5 := Lib.hid (hik.blk K5.out NX.out.2.1 (by decide))
  replace K6 := Lib.hid (hik.blk K6.out NX.out.2.2 (by decide))
  replace HXR := Lib.hid (HXR.out.ik hik LT.out.1 LT.out.2.1 LT.out.2.2.1 LT.out.2.2.2)
  replace KK := Lib.hid (KK.out.trans hik)
  replace HI := Lib.hid (hin)
  clear hin hik HC o4
  (refine OX.o_pure (v := ?_) (by rfl) (fun w' => ?_) ?_; rotate_left; (focus (go_simp; (try with_reducible rfl))); (try simp only [Act.put, List.setIfInBounds_toArray, List.set_cons_zero, List.set_cons_succ]))
  refine OX.o_sole (fun K hK => ?_)
  refine stm_store (cs' := #[.int .u64 (base' : Int), .slice A1' n c1', .slice A2' n c2', .int .i64 (most : Int), .int .u64 (en' : Int), .bool kn']) K6.out rfl _ _ rfl rfl rfl (by simp) (by kernel_rfl) (by simp [Value.oneCell']) (by simp [setL]) fun w7 hk hs => ?_
  refine wpList_nil ?_
  refine hK _ _ (fun _ => OX.ExtB.solo hs (by dsimp only; omega)) ?_; clear hK K
  replace HI := Lib.hid (HI.out.aside K6.out (by decide) (by decide) (by have := LE.out; omega) hs)
  replace HXR := Lib.hid (HXR.out.solo K6.out (by decide) (by decide) hs)
  replace HQ := Lib.hid (HQ.out.below (hs.1.mono (by have := WE.out; omega)))
  replace WC := Lib.hid (Nat.le_trans WC.out (Nat.le_of_eq hs.2.1.symm))
  replace K5 := Lib.hid (hs.blk K5.out (by omega))
  replace K4 := Lib.hid (hs.blk K4.out (by omega))
  replace KK := Lib.hid (KK.out.aside hs (by have := HE.out; omega))
  replace K6 := Lib.hid (show Blk _ _ _ #[.int .u64 (base' : Int), .slice A1' n c1', .slice A2' n c2', .int .i64 (most : Int), .int .u64 (en' : Int), .bool kn'] from hk)
  clear hk hs
  (refine OX.o_pure (v := ?_) (by rfl) (fun w' => ?_) ?_; rotate_left; (focus (go_simp; (try with_reducible rfl))); (try simp only [Act.put, List.setIfInBounds_toArray, List.set_cons_zero, List.set_cons_succ]))
  refine OX.o_nil (hQ.out _ _ ?_); clear hQ QQ
  obtain ⟨r0, r1, r2, r3, r4, r5⟩ : w7.cell? ⟨E + 2, 0, none⟩ = some (.int .u64 (base' : Int)) ∧ w7.cell? ⟨E + 2, 1, none⟩ = some (.slice A1' n c1') ∧ w7.cell? ⟨E + 2, 2, none⟩ = some (.slice A2' n c2') ∧ w7.cell? ⟨E + 2, 3, none⟩ = some (.int .i64 (most : Int)) ∧ w7.cell? ⟨E + 2, 4, none⟩ = some (.int .u64 (en' : Int)) ∧ w7.cell? ⟨E + 2, 5, none⟩ = some (.bool kn') := ⟨(K6.out.cell 0).trans rfl, (K6.out.cell 1).trans rfl, (K6.out.cell 2).trans rfl, (K6.out.cell 3).trans rfl, (K6.out.cell 4).trans rfl, (K6.out.cell 5).trans rfl⟩
  go_wp2_with fail
  refine bodyPost_ret (v := .tuple #[.agg #[.int .u64 (base' : Int), .slice A1' n c1', .slice A2' n c2', .int .i64 (most : Int), .int .u64 (en' : Int), .bool kn'], .bool ((st.put f q.l).2 == b)]) (by simp [results, Try.results7, go_sem, r0, r1, r2, r3, r4, r5]) rfl ?_
  exact OneP.mk' ⟨_, _, _, _, _, _, _, rfl, HLE.out, HXR.out⟩ HI.out KK.out Ist.put_same.2.1 (by rw [Ist.put_same.1]; omega)
theorem one_any (B x g p s B1 n most base en c1 c2 W0 : Nat) (st : Ist) (kn : Bool) (A1 A2 : Option Addr) (q : InOp) (w : World) (h : IN w B x g p s st) (hX : XR w B1 n A1 c1 A2 c2) (hl4 : x < B1 ∧ g < B1 ∧ p < B1 ∧ s < B1) (hB1 : B1 ≤ w.heap.size) (hW : W0 ≤ B) (hn : n ≤ 200) (hb : base ≤ 90000) (hat : q.at_ < 18446744073709551616) (hnn : q.nn < 9223372036854775808) (hq : Rd w W0 1 q.A q.m (ns .u8 q.l)) (hm : q.m ≤ 300) (hmc : q.m ≤ q.c) (hlt : ∀ y ∈ q.l, y < 256) (hlim : st.base + st.size ≤ iLim) :
    Calls Try.prog 7 #[.pointer (some ⟨x, 0, none⟩), .agg #[.int .u64 (base : Int), .slice A1 n c1, .slice A2 n c2, .int .i64 (most : Int), .int .u64 (en : Int), .bool kn], .agg #[.int .i64 q.k, .int .i64 q.nn, .int .u64 (q.at_ : Int), .bool q.far, .slice q.A q.m q.c]] w (OneP w B x g p s B1 n most (base + n) st) := by
  cases hf : q.far
  · exact one_false B x g p s B1 n most base en c1 c2 W0 st kn A1 A2 q w h hX hl4 hB1 hW hn hb hat hnn hq hm hmc hlt hlim
  · exact one_true B x g p s B1 n most base en c1 c2 W0 st kn A1 A2 q w h hX hl4 hB1 hW hn hb hat hnn hq hm hmc hlt hlim
end Go.Proofs.Ytnngjbieoakanaa
