/- Layer 8: a key, as it is read. -/
import Derived.Test.YtbiimgfocgbdaaaG32MacBack
import Derived.Test.YtbiimgfocgbdaaaOrd

namespace Go.Proofs.Ytbiimgfocgbdaaa
open Go.RowKit
set_option linter.unusedVariables false
/-- What ParseKey answers. -/
def KeyPost (kd : Nat) (lb : List Nat) (e : Ending) : Prop :=
  (∃ (k t : Nat) (a : Bool), e = .returned (.tuple #[.agg #[.int .u64 (k : Int), .bool a, .int .u64 (t : Int)], .bool true]) ∧ KeyIs kd lb k t a) ∨ (e = .returned (.tuple #[.agg #[.int .u64 0, .bool false, .int .u64 0], .bool false]) ∧ ∀ (k t : Nat) (a : Bool), ¬ KeyIs kd lb k t a)
theorem KeyPost.no {kd : Nat} {lb : List Nat} (h : ∀ (k t : Nat) (a : Bool), ¬ KeyIs kd lb k t a) : KeyPost kd lb (.returned (.tuple #[.agg #[.int .u64 0, .bool false, .int .u64 0], .bool false])) := .inr ⟨rfl, h⟩
end Go.Proofs.Ytbiimgfocgbdaaa

/- Layer 8: a join, as it is read. -/
namespace Go.Proofs.Ytbiimgfocgbdaaa
open Go.RowKit
set_option linter.unusedVariables false
/-- What ParseJoin answers. -/
def JoinPost (kd : Nat) (lb : List Nat) (e : Ending) : Prop :=
  (∃ (tk nc id : Nat) (bk a : Bool) (t : Nat), e = .returned (.tuple #[.agg #[.int .u32 (tk : Int), .int .u32 (nc : Int), .int .u8 (id : Int), .bool bk, .bool a, .int .u64 (t : Int)], .bool true]) ∧ JoinIs kd lb tk nc id bk a t) ∨ (e = .returned (.tuple #[.agg #[.int .u32 0, .int .u32 0, .int .u8 0, .bool false, .bool false, .int .u64 0], .bool false]) ∧ ∀ (tk nc id : Nat) (bk a : Bool) (t : Nat), ¬ JoinIs kd lb tk nc id bk a t)
theorem JoinPost.no {kd : Nat} {lb : List Nat} (h : ∀ (tk nc id : Nat) (bk a : Bool) (t : Nat), ¬ JoinIs kd lb tk nc id bk a t) : JoinPost kd lb (.returned (.tuple #[.agg #[.int .u32 0, .int .u32 0, .int .u8 0, .bool false, .bool false, .int .u64 0], .bool false])) := .inr ⟨rfl, h⟩
end Go.Proofs.Ytbiimgfocgbdaaa

/- Layer 8: word, as it is read. -/
namespace Go.Proofs.Ytbiimgfocgbdaaa
open Go.RowKit
set_option linter.unusedVariables false
/-- What ParseWord answers. -/
def WordPost (kd : Nat) (lb : List Nat) (e : Ending) : Prop :=
  (∃ (nm id pa : Nat) (bk : Bool) (t : Nat), e = .returned (.tuple #[.agg #[.int .u8 (kd : Int), .int .u32 (nm : Int), .int .u8 (id : Int), .int .u8 (pa : Int), .bool bk, .int .u64 (t : Int)], .bool true]) ∧ WordIs kd lb nm id pa bk t) ∨ (e = .returned (.tuple #[.agg #[.int .u8 0, .int .u32 0, .int .u8 0, .int .u8 0, .bool false, .int .u64 0], .bool false]) ∧ ∀ (nm id pa : Nat) (bk : Bool) (t : Nat), ¬ WordIs kd lb nm id pa bk t)
theorem WordPost.no {kd : Nat} {lb : List Nat} (h : ∀ (nm id pa : Nat) (bk : Bool) (t : Nat), ¬ WordIs kd lb nm id pa bk t) : WordPost kd lb (.returned (.tuple #[.agg #[.int .u8 0, .int .u32 0, .int .u8 0, .int .u8 0, .bool false, .int .u64 0], .bool false])) := .inr ⟨rfl, h⟩
set_option maxRecDepth 20000 in
set_option maxHeartbeats 4000000 in
theorem parseWord_any (kd : Nat) (A : Option Addr) (n c : Nat) (lb : List Nat) (w : World) (h : Rd w w.heap.size 1 A n (ns .u8 lb)) (hnc : n ≤ c) (hb : ∀ x ∈ lb, x < 256) (hn : n ≤ 10000) :
    Calls Try.prog 66 #[.agg #[.int .u8 (kd : Int), .slice A n c]] w fun e w' => WordPost kd lb e ∧ Below w.heap.size w w' := by
  have hk1 := ((Blk.new w 45 #[.int .u8 (kd : Int), .slice A n c]).alloc (.cells #[.int .u8 0, .int .u32 0, .int .u8 0, .int .u8 0, .bool false, .int .u64 0] 40)).alloc (.cells #[.int .i64 4, .int .i64 1, .int .i64 1, .int .i64 1, .int .i64 8] 3)
  have hk2 := (Blk.new (w.alloc (.cells #[.int .u8 (kd : Int), .slice A n c] 45)) 40 #[.int .u8 0, .int .u32 0, .int .u8 0, .int .u8 0, .bool false, .int .u64 0]).alloc (.cells #[.int .i64 4, .int .i64 1, .int .i64 1, .int .i64 1, .int .i64 8] 3)
  rw [show (w.alloc (.cells #[.int .u8 (kd : Int), .slice A n c] 45)).heap.size = w.heap.size + 1 by simp] at hk2
  have hz3 : (((w.alloc (.cells #[.int .u8 (kd : Int), .slice A n c] 45)).alloc (.cells #[.int .u8 0, .int .u32 0, .int .u8 0, .int .u8 0, .bool false, .int .u64 0] 40)).alloc (.cells #[.int .i64 4, .int .i64 1, .int .i64 1, .int .i64 1, .int .i64 8] 3)).heap.size = w.heap.size + 3 := by simp
  have hzs := Zats.lit (w := ((w.alloc (.cells #[.int .u8 (kd : Int), .slice A n c] 45)).alloc (.cells #[.int .u8 0, .int .u32 0, .int .u8 0, .int .u8 0, .bool false, .int .u64 0] 40))) (e := 3) (k := .i64) (ss := [4, 1, 1, 1, 8]) (n := 5) #[.int .i64 4, .int .i64 1, .int .i64 1, .int .i64 1, .int .i64 8] rfl rfl (by unfold maxLen; omega)
  rw [show ((w.alloc (.cells #[.int .u8 (kd : Int), .slice A n c] 45)).alloc (.cells #[.int .u8 0, .int .u32 0, .int .u8 0, .int .u8 0, .bool false, .int .u64 0] 40)).heap.size = w.heap.size + 2 by simp] at hzs
  have hb0 : Below w.heap.size w (((w.alloc (.cells #[.int .u8 (kd : Int), .slice A n c] 45)).alloc (.cells #[.int .u8 0, .int .u32 0, .int .u8 0, .int .u8 0, .bool false, .int .u64 0] 40)).alloc (.cells #[.int .i64 4, .int .i64 1, .int .i64 1, .int .i64 1, .int .i64 8] 3)) := (((Below.refl _ _).alloc (Nat.le_refl _) _).alloc (by simp) _).alloc (by simp; omega) _
  have K1 := Lib.hid hk1
  have K2 := Lib.hid hk2
  have B0 := Lib.hid hb0
  have Z3 := Lib.hid hz3
  have ZS := Lib.hid hzs
  have HB := Lib.hid hb
  have HR := Lib.hid h
  obtain ⟨q0, q1⟩ := ptc2 hk1
  clear hk1 hk2 hb0 hz3 hzs hb h
  go_enter Try.func66, Try.ntmps66
  go_wp2_with fail
  generalize ((w.alloc (.cells #[.int .u8 (kd : Int), .slice A n c] 45)).alloc (.cells #[.int .u8 0, .int .u32 0, .int .u8 0, .int .u8 0, .bool false, .int .u64 0] 40)).alloc (.cells #[.int .i64 4, .int .i64 1, .int .i64 1, .int .i64 1, .int .i64 8] 3) = W at *
  obtain ⟨T, hT⟩ : ∃ T, T = w.heap.size := ⟨_, rfl⟩
  rw [← hT] at K1 K2 Z3 ZS q0 q1 ⊢
  have HT := Lib.hid hT
  clear hT
  refine (pall_any A (some ⟨T + 2, 0, none⟩) n 5 c 5 lb [4, 1, 1, 1, 8] W (HR.out.into B0.out) ZS.out.rd hnc HB.out (by omega) (by omega)).mono ?_
  rintro e w1 ⟨hb1, hp⟩
  have K1b := Lib.hid (K1.out.below hb1 K1.out.lt)
  have K2b := Lib.hid (K2.out.below hb1 K2.out.lt)
  have B1 := Lib.hid (B0.out.trans (hb1.mono B0.out.size))
  clear hb1 K1 K2 B0 ZS q0 q1 HR
  obtain ⟨z0, z1, z2, z3, z4, z5⟩ := ptc6 K2b.out
  have f0 := K2b.out.frozen 0
  have f1 := K2b.out.frozen 1
  have f2 := K2b.out.frozen 2
  have f3 := K2b.out.frozen 3
  have f4 := K2b.out.frozen 4
  have f5 := K2b.out.frozen 5
  rcases hp with ⟨xs, v, hsay, rfl, hN⟩ | ⟨hno1, rfl⟩
  · obtain ⟨nm, id, pa, b, t, rfl, hnm, hid, hpa, hyes, hnot⟩ := wordS HB.out hsay
    have H_nm := Lib.hid hnm
    have H_id := Lib.hid hid
    have H_pa := Lib.hid hpa
    have HYES := Lib.hid hyes
    have HNOT := Lib.hid hnot
    clear hyes hnot hnm hid hpa
    have HN := Lib.hid hN
    clear hN hsay
    cases hkd : wordK kd
    · have HKD := Lib.hid hkd
      have HW := Lib.hid (isWord_any kd)
      rw [hkd] at HW
      obtain ⟨w0, w1'⟩ := ptc2 K1b.out
      clear hkd
      go_wp2_with fail
      refine (HW.out w1).mono ?_
      rintro e _ ⟨rfl, rfl⟩
      go_wp2_with fail
      have hkz := pt6 (.int .u8 0) (.int .u32 0) (.int .u8 0) (.int .u8 0) (.bool false) (.int .u64 0) K2b.out
      have hbz := ptb6 (.int .u8 0) (.int .u32 0) (.int .u8 0) (.int .u8 0) (.bool false) (.int .u64 0) B1.out (show w.heap.size ≤ T + 1 by rw [← HT.out]; omega)
      unfold ptw6 at hkz hbz
      generalize (((((w1.setCell ⟨T + 1, 0, none⟩ (.int .u8 0)).setCell ⟨T + 1, 1, none⟩ (.int .u32 0)).setCell ⟨T + 1, 2, none⟩ (.int .u8 0)).setCell ⟨T + 1, 3, none⟩ (.int .u8 0)).setCell ⟨T + 1, 4, none⟩ (.bool false)).setCell ⟨T + 1, 5, none⟩ (.int .u64 0) = wz at *
      clear z0 z1 z2 z3 z4 z5 f0 f1 f2 f3 f4 f5
      obtain ⟨z0, z1, z2, z3, z4, z5⟩ := ptc6 hkz
      exact bodyPost_ret (v := .tuple #[.agg #[.int .u8 0, .int .u32 0, .int .u8 0, .int .u8 0, .bool false, .int .u64 0], .bool false]) (by simp [results, Try.results66, go_sem, z0, z1, z2, z3, z4, z5]) rfl ⟨WordPost.no (fun nm id pa bk t h => by have := wordK_yes h.hkd; rw [HKD.out] at this; cases this), hbz⟩
    ·
      have HKD := Lib.hid ((wordK_iff kd).1 hkd)
      have HW := Lib.hid (isWord_any kd)
      rw [hkd] at HW
      obtain ⟨w0, w1'⟩ := ptc2 K1b.out
      clear hkd
      go_wp2_with fail
      refine (HW.out w1).mono ?_
      rintro e _ ⟨rfl, rfl⟩
      by_cases hb2 : 1 < b
      · have hb3 : (1 : Int) < (b : Int) := by omega
        obtain ⟨g, cg, rfl, hgB, hgl, hgc, hcell⟩ := nats_open HN.out (by simp)
        have c3 := hcell 3 _ rfl
        simp only [List.length_cons, List.length_nil] at hgc ⊢
        have HF := Lib.hid (HNOT.out hb2)
        clear hcell
        go_wp2_with fail
        have hkz := pt6 (.int .u8 0) (.int .u32 0) (.int .u8 0) (.int .u8 0) (.bool false) (.int .u64 0) K2b.out
        have hbz := ptb6 (.int .u8 0) (.int .u32 0) (.int .u8 0) (.int .u8 0) (.bool false) (.int .u64 0) B1.out (show w.heap.size ≤ T + 1 by rw [← HT.out]; omega)
        unfold ptw6 at hkz hbz
        generalize (((((w1.setCell ⟨T + 1, 0, none⟩ (.int .u8 0)).setCell ⟨T + 1, 1, none⟩ (.int .u32 0)).setCell ⟨T + 1, 2, none⟩ (.int .u8 0)).setCell ⟨T + 1, 3, none⟩ (.int .u8 0)).setCell ⟨T + 1, 4, none⟩ (.bool false)).setCell ⟨T + 1, 5, none⟩ (.int .u64 0) = wz at *
        clear z0 z1 z2 z3 z4 z5 f0 f1 f2 f3 f4 f5
        obtain ⟨z0, z1, z2, z3, z4, z5⟩ := ptc6 hkz
        exact bodyPost_ret (v := .tuple #[.agg #[.int .u8 0, .int .u32 0, .int .u8 0, .int .u8 0, .bool false, .int .u64 0], .bool false]) (by simp [results, Try.results66, go_sem, z0, z1, z2, z3, z4, z5]) rfl ⟨WordPost.no (fun nm id pa bk t => HF.out kd nm id pa bk t), hbz⟩
      have hb3 : ¬ (1 : Int) < (b : Int) := by omega
      have HIS := Lib.hid (HYES.out (by omega) kd HKD.out)
      obtain ⟨bk, hbk⟩ : ∃ bk, bk = decide (b = 1) := ⟨_, rfl⟩
      rw [← hbk] at HIS
      have ebk : ((b : Int) == 1) = bk := by rw [hbk]; by_cases h1 : b = 1 <;> simp [h1] <;> omega
      clear hbk hb2 HYES HNOT
      obtain ⟨g, cg, rfl, hgB, hgl, hgc, hcell⟩ := nats_open HN.out (by simp)
      have c0 := hcell 0 _ rfl
      have c1 := hcell 1 _ rfl
      have c2 := hcell 2 _ rfl
      have c3 := hcell 3 _ rfl
      have c4 := hcell 4 _ rfl
      simp only [List.length_cons, List.length_nil] at hgc ⊢
      clear hcell
      go_wp2_with fail
      refine wp_ord [(0, .pure), (1, .read), (2, .pure), (3, .pure), (4, .read), (5, .pure), (6, .pure), (7, .pure), (8, .read), (9, .pure), (10, .pure), (11, .pure), (12, .read), (13, .pure), (14, .pure), (15, .pure), (16, .read), (17, .pure), (18, .pure), (19, .sole), (20, .sole)] [20] (by kernel_rfl) (by kernel_rfl) (fun QQ hQ wd hwd => ?_); simp only [List.map_cons, List.map_nil, List.getD_cons_zero, List.getD_cons_succ]
      have hD : Below w1.heap.size w1 wd := by rw [hwd.out]; exact (Below.refl _ _).drew
      have hdc : ∀ a, wd.cell? a = w1.cell? a := fun a => by rw [hwd.out]; rfl
      rw [← hdc] at c0
      rw [← hdc] at c1
      rw [← hdc] at c2
      rw [← hdc] at c3
      rw [← hdc] at c4
      have k0 : wd.cell? ⟨T, 0, none⟩ = some (.int .u8 (kd : Int)) := by rw [hdc]; exact (ptc2 K1b.out).1
      have HDZ := Lib.hid (show wd.heap.size = w1.heap.size by rw [hwd.out]; rfl)
      have K2d := Lib.hid (K2b.out.below hD K2b.out.lt)
      have Bd := Lib.hid (B1.out.trans (hD.mono B1.out.size))
      clear hdc hwd z0 z1 z2 z3 z4 z5 f0 f1 f2 f3 f4 f5
      have v_nm : IntKind.u32.wrap (nm : Int) = (nm : Int) := by rw [IntKind.wrap_u32]; have := H_nm.out; unfold q32 at this; omega
      have v_id : IntKind.u8.wrap (id : Int) = (id : Int) := by rw [IntKind.wrap_u8]; have := H_id.out; omega
      have v_pa : IntKind.u8.wrap (pa : Int) = (pa : Int) := by rw [IntKind.wrap_u8]; have := H_pa.out; omega
      (refine o_pure (v := ?_) (by rfl) (fun w' => ?_) ?_; rotate_left; (focus (go_simp; (try with_reducible rfl))); (try simp only [Act.put, List.setIfInBounds_toArray, List.set_cons_zero, List.set_cons_succ]))
      (refine o_load _ (by rfl) rfl rfl (by assumption) (by kernel_rfl) ?_; simp only [Act.put, List.setIfInBounds_toArray, List.set_cons_zero, List.set_cons_succ])
      (refine o_pure (v := ?_) (by rfl) (fun w' => ?_) ?_; rotate_left; (focus (go_simp; (try with_reducible rfl))); (try simp only [Act.put, List.setIfInBounds_toArray, List.set_cons_zero, List.set_cons_succ]))
      (refine o_pure (v := ?_) (by rfl) (fun w' => ?_) ?_; rotate_left; (focus (go_simp; (try with_reducible rfl))); (try simp only [Act.put, List.setIfInBounds_toArray, List.set_cons_zero, List.set_cons_succ]))
      (refine o_load _ (by rfl) rfl rfl (by assumption) (by kernel_rfl) ?_; simp only [Act.put, List.setIfInBounds_toArray, List.set_cons_zero, List.set_cons_succ])
      (refine o_pure (v := ?_) (by rfl) (fun w' => ?_) ?_; rotate_left; (focus (go_simp; (try with_reducible rfl))); (try simp only [Act.put, List.setIfInBounds_toArray, List.set_cons_zero, List.set_cons_succ]))
      (refine o_pure (v := ?_) (by rfl) (fun w' => ?_) ?_; rotate_left; (focus (go_simp; (try with_reducible rfl))); (try simp only [Act.put, List.setIfInBounds_toArray, List.set_cons_zero, List.set_cons_succ]))
      (refine o_pure (v := ?_) (by rfl) (fun w' => ?_) ?_; rotate_left; (focus (go_simp; (try with_reducible rfl))); (try simp only [Act.put, List.setIfInBounds_toArray, List.set_cons_zero, List.set_cons_succ]))
      (refine o_load _ (by rfl) rfl rfl (by assumption) (by kernel_rfl) ?_; simp only [Act.put, List.setIfInBounds_toArray, List.set_cons_zero, List.set_cons_succ])
      (refine o_pure (v := ?_) (by rfl) (fun w' => ?_) ?_; rotate_left; (focus (go_simp; (try with_reducible rfl))); (try simp only [Act.put, List.setIfInBounds_toArray, List.set_cons_zero, List.set_cons_succ]))
      (refine o_pure (v := ?_) (by rfl) (fun w' => ?_) ?_; rotate_left; (focus (go_simp; (try with_reducible rfl))); (try simp only [Act.put, List.setIfInBounds_toArray, List.set_cons_zero, List.set_cons_succ]))
      (refine o_pure (v := ?_) (by rfl) (fun w' => ?_) ?_; rotate_left; (focus (go_simp; (try with_reducible rfl))); (try simp only [Act.put, List.setIfInBounds_toArray, List.set_cons_zero, List.set_cons_succ]))
      (refine o_load _ (by rfl) rfl rfl (by assumption) (by kernel_rfl) ?_; simp only [Act.put, List.setIfInBounds_toArray, List.set_cons_zero, List.set_cons_succ])
      (refine o_pure (v := ?_) (by rfl) (fun w' => ?_) ?_; rotate_left; (focus (go_simp; (try with_reducible rfl))); (try simp only [Act.put, List.setIfInBounds_toArray, List.set_cons_zero, List.set_cons_succ]))
      (refine o_pure (v := ?_) (by rfl) (fun w' => ?_) ?_; rotate_left; (focus (go_simp; (try with_reducible rfl))); (try simp only [Act.put, List.setIfInBounds_toArray, List.set_cons_zero, List.set_cons_succ]))
      (refine o_pure (v := ?_) (by rfl) (fun w' => ?_) ?_; rotate_left; (focus (go_simp; (try with_reducible rfl))); (try simp only [Act.put, List.setIfInBounds_toArray, List.set_cons_zero, List.set_cons_succ]))
      (refine o_load _ (by rfl) rfl rfl (by assumption) (by kernel_rfl) ?_; simp only [Act.put, List.setIfInBounds_toArray, List.set_cons_zero, List.set_cons_succ])
      (refine o_pure (v := ?_) (by rfl) (fun w' => ?_) ?_; rotate_left; (focus (go_simp; (try with_reducible rfl))); (try simp only [Act.put, List.setIfInBounds_toArray, List.set_cons_zero, List.set_cons_succ]))
      (refine o_pure (v := ?_) (by rfl) (fun w' => ?_) ?_; rotate_left; (focus (go_simp; (try with_reducible rfl))); (try simp only [Act.put, List.setIfInBounds_toArray, List.set_cons_zero, List.set_cons_succ]))
      refine o_sole (fun K hK => ?_)
      go_wp2_with fail
      refine hK _ _ (fun _ => Ext.of ((Below.refl _ _).alloc (Nat.le_refl _) _)) ?_; clear hK K
      refine o_sole (fun K hK => ?_)
      go_wp2_with fail
      refine hK _ _ (fun h => by cases h) ?_; clear hK K
      refine o_nil (hQ.out _ _ ?_); clear hQ QQ
      generalize hA4 : wd.alloc (.cells #[.int .u8 (kd : Int), .int .u32 (nm : Int), .int .u8 (id : Int), .int .u8 (pa : Int), .bool bk, .int .u64 0] 40) = w4 at *
      have hk5 : Blk w4 wd.heap.size 40 #[.int .u8 (kd : Int), .int .u32 (nm : Int), .int .u8 (id : Int), .int .u8 (pa : Int), .bool bk, .int .u64 0] := by rw [← hA4]; exact Blk.new _ _ _
      have hb5 : Below wd.heap.size wd w4 := by rw [← hA4]; exact (Below.refl _ _).alloc (Nat.le_refl _) _
      clear hA4
      have K3 := Lib.hid (K2d.out.below hb5 K2d.out.lt)
      have B3 := Lib.hid (Bd.out.trans (hb5.mono Bd.out.size))
      have ct := (hb5.cell (p := ⟨g, 4, none⟩) (show g < wd.heap.size by first | exact hgl | (rw [HDZ.out]; exact hgl))).trans c4
      have hTN : T + 2 ≤ wd.heap.size := K2d.out.lt
      have s5 := (ptc6 hk5).2.2.2.2.2
      have s6 := hk5.frozen 5
      clear hb5 c0 c1 c2 c3 c4
      go_wp2_with fail
      refine (seal_any wd.heap.size 5 t _ w4 s5 s6).mono ?_
      rintro e w5 ⟨rfl, hw5⟩
      have hk6 : Blk w5 wd.heap.size 40 #[.int .u8 (kd : Int), .int .u32 (nm : Int), .int .u8 (id : Int), .int .u8 (pa : Int), .bool bk, .int .u64 (t : Int)] := by rw [hw5]; exact hk5.set 5 _
      have hs6 : Solo wd.heap.size w4 w5 := by rw [hw5]; exact Solo.refl.setCell 5 _
      have K5 := Lib.hid (hs6.blk K3.out (by omega))
      have B5 := Lib.hid (B3.out.trans (hs6.1.mono (by rw [← HT.out]; omega)))
      clear hw5 hs6 hk5 s5 s6 ct K3 B3
      obtain ⟨y0, y1, y2, y3, y4, y5⟩ := ptc6 hk6
      obtain ⟨z0, z1, z2, z3, z4, z5⟩ := ptc6 K5.out
      have f0 := K5.out.frozen 0
      have f1 := K5.out.frozen 1
      have f2 := K5.out.frozen 2
      have f3 := K5.out.frozen 3
      have f4 := K5.out.frozen 4
      have f5 := K5.out.frozen 5
      go_wp2_with fail
      have hkz := pt6 (.int .u8 (kd : Int)) (.int .u32 (nm : Int)) (.int .u8 (id : Int)) (.int .u8 (pa : Int)) (.bool bk) (.int .u64 (t : Int)) K5.out
      have hbz := ptb6 (.int .u8 (kd : Int)) (.int .u32 (nm : Int)) (.int .u8 (id : Int)) (.int .u8 (pa : Int)) (.bool bk) (.int .u64 (t : Int)) B5.out (show w.heap.size ≤ T + 1 by rw [← HT.out]; omega)
      unfold ptw6 at hkz hbz
      generalize (((((w5.setCell ⟨T + 1, 0, none⟩ (.int .u8 (kd : Int))).setCell ⟨T + 1, 1, none⟩ (.int .u32 (nm : Int))).setCell ⟨T + 1, 2, none⟩ (.int .u8 (id : Int))).setCell ⟨T + 1, 3, none⟩ (.int .u8 (pa : Int))).setCell ⟨T + 1, 4, none⟩ (.bool bk)).setCell ⟨T + 1, 5, none⟩ (.int .u64 (t : Int)) = wz at *
      clear z0 z1 z2 z3 z4 z5 f0 f1 f2 f3 f4 f5 y0 y1 y2 y3 y4 y5
      obtain ⟨z0, z1, z2, z3, z4, z5⟩ := ptc6 hkz
      exact bodyPost_ret (v := .tuple #[.agg #[.int .u8 (kd : Int), .int .u32 (nm : Int), .int .u8 (id : Int), .int .u8 (pa : Int), .bool bk, .int .u64 (t : Int)], .bool true]) (by simp [results, Try.results66, go_sem, z0, z1, z2, z3, z4, z5]) rfl ⟨.inl ⟨nm, id, pa, bk, t, rfl, HIS.out⟩, hbz⟩
  · have HNO := Lib.hid hno1
    clear hno1
    go_wp2_with fail
    have hkz := pt6 (.int .u8 0) (.int .u32 0) (.int .u8 0) (.int .u8 0) (.bool false) (.int .u64 0) K2b.out
    have hbz := ptb6 (.int .u8 0) (.int .u32 0) (.int .u8 0) (.int .u8 0) (.bool false) (.int .u64 0) B1.out (show w.heap.size ≤ T + 1 by rw [← HT.out]; omega)
    unfold ptw6 at hkz hbz
    generalize (((((w1.setCell ⟨T + 1, 0, none⟩ (.int .u8 0)).setCell ⟨T + 1, 1, none⟩ (.int .u32 0)).setCell ⟨T + 1, 2, none⟩ (.int .u8 0)).setCell ⟨T + 1, 3, none⟩ (.int .u8 0)).setCell ⟨T + 1, 4, none⟩ (.bool false)).setCell ⟨T + 1, 5, none⟩ (.int .u64 0) = wz at *
    clear z0 z1 z2 z3 z4 z5 f0 f1 f2 f3 f4 f5
    obtain ⟨z0, z1, z2, z3, z4, z5⟩ := ptc6 hkz
    exact bodyPost_ret (v := .tuple #[.agg #[.int .u8 0, .int .u32 0, .int .u8 0, .int .u8 0, .bool false, .int .u64 0], .bool false]) (by simp [results, Try.results66, go_sem, z0, z1, z2, z3, z4, z5]) rfl ⟨WordPost.no (fun nm id pa bk t => wordNo HNO.out kd nm id pa bk t), hbz⟩
end Go.Proofs.Ytbiimgfocgbdaaa
