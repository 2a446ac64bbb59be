/- Layer 8: the document's option of word. -/
import Derived.Test.YtbiimgfocgbdaaaG33MacOpens
import Derived.Test.YtbiimgfocgbdaaaG36MacOpens
import Derived.Test.YtbiimgfocgbdaaaOrd

namespace Go.Proofs.Ytbiimgfocgbdaaa
open Go.RowKit
set_option linter.unusedVariables false
set_option linter.unusedSimpArgs false

/-- What the document's broughamref08.ParseWord answers. -/
def RWordPost (kd : Nat) (lb : List Nat) (e : Ending) : Prop :=
  (∃ (nm id pa : Nat) (bk : Bool) (t : Nat), e = .returned (.tuple #[.agg #[.int .u32 (nm : Int), .int .u8 (id : Int), .int .u8 (pa : Int), .bool bk, .int .u64 (t : Int)], .bool true]) ∧ WordIs kd lb nm id pa bk t) ∨ (e = .returned (.tuple #[.agg #[.int .u32 0, .int .u8 0, .int .u8 0, .bool false, .int .u64 0], .bool false]) ∧ ∀ (nm id pa : Nat) (bk : Bool) (t : Nat), ¬ WordIs kd lb nm id pa bk t)
theorem RWordPost.no {kd : Nat} {lb : List Nat} (h : ∀ (nm id pa : Nat) (bk : Bool) (t : Nat), ¬ WordIs kd lb nm id pa bk t) : RWordPost kd lb (.returned (.tuple #[.agg #[.int .u32 0, .int .u8 0, .int .u8 0, .bool false, .int .u64 0], .bool false])) := .inr ⟨rfl, h⟩
set_option maxRecDepth 20000 in
set_option maxHeartbeats 4000000 in
theorem rparseWord_any (kd : Nat) (A : Option Addr) (n c : Nat) (lb : List Nat) (w : World) (h : Rd w w.heap.size 1 A n (ns .u8 lb)) (hnc : n ≤ c) (hb : ∀ x ∈ lb, x < 256) (hn : n ≤ 10000) :
    Calls Try.prog 67 #[.agg #[.int .u8 (kd : Int), .slice A n c]] w fun e w' => RWordPost kd lb e ∧ Below w.heap.size w w' := by
  have hk1 := ((Blk.new w 45 #[.int .u8 (kd : Int), .slice A n c]).alloc (.cells #[.int .u32 0, .int .u8 0, .int .u8 0, .bool false, .int .u64 0] 61)).alloc (.cells #[.int .i64 4, .int .i64 1, .int .i64 1, .int .i64 1, .int .i64 8] 3)
  have hk2 := (Blk.new (w.alloc (.cells #[.int .u8 (kd : Int), .slice A n c] 45)) 61 #[.int .u32 0, .int .u8 0, .int .u8 0, .bool false, .int .u64 0]).alloc (.cells #[.int .i64 4, .int .i64 1, .int .i64 1, .int .i64 1, .int .i64 8] 3)
  rw [show (w.alloc (.cells #[.int .u8 (kd : Int), .slice A n c] 45)).heap.size = w.heap.size + 1 by simp] at hk2
  have hz3 : (((w.alloc (.cells #[.int .u8 (kd : Int), .slice A n c] 45)).alloc (.cells #[.int .u32 0, .int .u8 0, .int .u8 0, .bool false, .int .u64 0] 61)).alloc (.cells #[.int .i64 4, .int .i64 1, .int .i64 1, .int .i64 1, .int .i64 8] 3)).heap.size = w.heap.size + 3 := by simp
  have hzs := Zats.lit (w := ((w.alloc (.cells #[.int .u8 (kd : Int), .slice A n c] 45)).alloc (.cells #[.int .u32 0, .int .u8 0, .int .u8 0, .bool false, .int .u64 0] 61))) (e := 3) (k := .i64) (ss := [4, 1, 1, 1, 8]) (n := 5) #[.int .i64 4, .int .i64 1, .int .i64 1, .int .i64 1, .int .i64 8] rfl rfl (by unfold maxLen; omega)
  rw [show ((w.alloc (.cells #[.int .u8 (kd : Int), .slice A n c] 45)).alloc (.cells #[.int .u32 0, .int .u8 0, .int .u8 0, .bool false, .int .u64 0] 61)).heap.size = w.heap.size + 2 by simp] at hzs
  have hb0 : Below w.heap.size w (((w.alloc (.cells #[.int .u8 (kd : Int), .slice A n c] 45)).alloc (.cells #[.int .u32 0, .int .u8 0, .int .u8 0, .bool false, .int .u64 0] 61)).alloc (.cells #[.int .i64 4, .int .i64 1, .int .i64 1, .int .i64 1, .int .i64 8] 3)) := (((Below.refl _ _).alloc (Nat.le_refl _) _).alloc (by simp) _).alloc (by simp; omega) _
  have K1 := Lib.hid hk1
  have K2 := Lib.hid hk2
  have B0 := Lib.hid hb0
  have ZS := Lib.hid hzs
  have HB := Lib.hid hb
  have HR := Lib.hid h
  obtain ⟨q0, q1⟩ := ptc2 hk1
  clear hk1 hk2 hb0 hz3 hzs hb h
  go_enter Try.func67, Try.ntmps67
  go_wp2_with fail
  generalize ((w.alloc (.cells #[.int .u8 (kd : Int), .slice A n c] 45)).alloc (.cells #[.int .u32 0, .int .u8 0, .int .u8 0, .bool false, .int .u64 0] 61)).alloc (.cells #[.int .i64 4, .int .i64 1, .int .i64 1, .int .i64 1, .int .i64 8] 3) = W at *
  obtain ⟨T, hT⟩ : ∃ T, T = w.heap.size := ⟨_, rfl⟩
  rw [← hT] at K1 K2 ZS q0 q1 ⊢
  have HT := Lib.hid hT
  clear hT
  refine (rall_any A (some ⟨T + 2, 0, none⟩) n 5 c 5 lb [4, 1, 1, 1, 8] W (HR.out.into B0.out) ZS.out.rd hnc HB.out (by omega) (by omega) (by omega)).mono ?_
  rintro e w1 ⟨hb1, hp⟩
  have K1b := Lib.hid (K1.out.below hb1 K1.out.lt)
  have K2b := Lib.hid (K2.out.below hb1 K2.out.lt)
  have B1 := Lib.hid (B0.out.trans (hb1.mono B0.out.size))
  clear K1 K2 ZS q0 q1 HR
  obtain ⟨z0, z1, z2, z3, z4⟩ := ptc5 K2b.out
  have f0 := K2b.out.frozen 0
  have f1 := K2b.out.frozen 1
  have f2 := K2b.out.frozen 2
  have f3 := K2b.out.frozen 3
  have f4 := K2b.out.frozen 4
  obtain ⟨w0, w1'⟩ := ptc2 K1b.out
  rcases hp with ⟨xs, rest, v, A', n', c', hcut, rfl, hN, hn1, hn2, hr⟩ | ⟨hcut, rfl⟩
  rotate_left
  · have HNO := Lib.hid (show ∀ xs, cut lb [4, 1, 1, 1, 8] ≠ some (xs, []) from fun xs h => by rw [hcut] at h; cases h)
    clear hcut hb1
    by_cases hk4 : kd < 4
    · have hk4' : (kd : Int) < 4 := by omega
      clear hk4
      go_wp2_with fail
      have hkz := pt5 (.int .u32 0) (.int .u8 0) (.int .u8 0) (.bool false) (.int .u64 0) K2b.out
      have hbz := ptb5 (.int .u32 0) (.int .u8 0) (.int .u8 0) (.bool false) (.int .u64 0) B1.out (show w.heap.size ≤ T + 1 by rw [← HT.out]; omega)
      unfold ptw5 at hkz hbz
      generalize ((((w1.setCell ⟨T + 1, 0, none⟩ (.int .u32 0)).setCell ⟨T + 1, 1, none⟩ (.int .u8 0)).setCell ⟨T + 1, 2, none⟩ (.int .u8 0)).setCell ⟨T + 1, 3, none⟩ (.bool false)).setCell ⟨T + 1, 4, none⟩ (.int .u64 0) = wz at *
      clear z0 z1 z2 z3 z4 f0 f1 f2 f3 f4
      obtain ⟨z0, z1, z2, z3, z4⟩ := ptc5 hkz
      exact bodyPost_ret (v := .tuple #[.agg #[.int .u32 0, .int .u8 0, .int .u8 0, .bool false, .int .u64 0], .bool false]) (by simp [results, Try.results67, go_sem, z0, z1, z2, z3, z4]) rfl ⟨RWordPost.no (fun nm id pa bk t => wordNo HNO.out kd nm id pa bk t), hbz⟩
    have hk4d : decide ((kd : Int) < 4) = false := by simp; omega
    by_cases hk7 : 7 < kd
    · have hk7' : (7 : Int) < (kd : Int) := by omega
      clear hk7
      go_wp2_with fail
      have hkz := pt5 (.int .u32 0) (.int .u8 0) (.int .u8 0) (.bool false) (.int .u64 0) K2b.out
      have hbz := ptb5 (.int .u32 0) (.int .u8 0) (.int .u8 0) (.bool false) (.int .u64 0) B1.out (show w.heap.size ≤ T + 1 by rw [← HT.out]; omega)
      unfold ptw5 at hkz hbz
      generalize ((((w1.setCell ⟨T + 1, 0, none⟩ (.int .u32 0)).setCell ⟨T + 1, 1, none⟩ (.int .u8 0)).setCell ⟨T + 1, 2, none⟩ (.int .u8 0)).setCell ⟨T + 1, 3, none⟩ (.bool false)).setCell ⟨T + 1, 4, none⟩ (.int .u64 0) = wz at *
      clear z0 z1 z2 z3 z4 f0 f1 f2 f3 f4
      obtain ⟨z0, z1, z2, z3, z4⟩ := ptc5 hkz
      exact bodyPost_ret (v := .tuple #[.agg #[.int .u32 0, .int .u8 0, .int .u8 0, .bool false, .int .u64 0], .bool false]) (by simp [results, Try.results67, go_sem, z0, z1, z2, z3, z4]) rfl ⟨RWordPost.no (fun nm id pa bk t => wordNo HNO.out kd nm id pa bk t), hbz⟩
    have hk7d : decide ((7 : Int) < (kd : Int)) = false := by simp; omega
    go_wp2_with fail
    have hkz := pt5 (.int .u32 0) (.int .u8 0) (.int .u8 0) (.bool false) (.int .u64 0) K2b.out
    have hbz := ptb5 (.int .u32 0) (.int .u8 0) (.int .u8 0) (.bool false) (.int .u64 0) B1.out (show w.heap.size ≤ T + 1 by rw [← HT.out]; omega)
    unfold ptw5 at hkz hbz
    generalize ((((w1.setCell ⟨T + 1, 0, none⟩ (.int .u32 0)).setCell ⟨T + 1, 1, none⟩ (.int .u8 0)).setCell ⟨T + 1, 2, none⟩ (.int .u8 0)).setCell ⟨T + 1, 3, none⟩ (.bool false)).setCell ⟨T + 1, 4, none⟩ (.int .u64 0) = wz at *
    clear z0 z1 z2 z3 z4 f0 f1 f2 f3 f4
    obtain ⟨z0, z1, z2, z3, z4⟩ := ptc5 hkz
    exact bodyPost_ret (v := .tuple #[.agg #[.int .u32 0, .int .u8 0, .int .u8 0, .bool false, .int .u64 0], .bool false]) (by simp [results, Try.results67, go_sem, z0, z1, z2, z3, z4]) rfl ⟨RWordPost.no (fun nm id pa bk t => wordNo HNO.out kd nm id pa bk t), hbz⟩
  have HCUT := Lib.hid hcut
  have HN := Lib.hid hN
  have HRL := Lib.hid hr.natLen
  clear hcut hN hr hb1
  by_cases hk4 : kd < 4
  · have hk4' : (kd : Int) < 4 := by omega
    have HKD := Lib.hid hk4
    clear hk4
    go_wp2_with fail
    have hkz := pt5 (.int .u32 0) (.int .u8 0) (.int .u8 0) (.bool false) (.int .u64 0) K2b.out
    have hbz := ptb5 (.int .u32 0) (.int .u8 0) (.int .u8 0) (.bool false) (.int .u64 0) B1.out (show w.heap.size ≤ T + 1 by rw [← HT.out]; omega)
    unfold ptw5 at hkz hbz
    generalize ((((w1.setCell ⟨T + 1, 0, none⟩ (.int .u32 0)).setCell ⟨T + 1, 1, none⟩ (.int .u8 0)).setCell ⟨T + 1, 2, none⟩ (.int .u8 0)).setCell ⟨T + 1, 3, none⟩ (.bool false)).setCell ⟨T + 1, 4, none⟩ (.int .u64 0) = wz at *
    clear z0 z1 z2 z3 z4 f0 f1 f2 f3 f4
    obtain ⟨z0, z1, z2, z3, z4⟩ := ptc5 hkz
    exact bodyPost_ret (v := .tuple #[.agg #[.int .u32 0, .int .u8 0, .int .u8 0, .bool false, .int .u64 0], .bool false]) (by simp [results, Try.results67, go_sem, z0, z1, z2, z3, z4]) rfl ⟨RWordPost.no (fun nm id pa bk t h => by have := h.hkd; have := HKD.out; omega), hbz⟩
  have hk4d : decide ((kd : Int) < 4) = false := by simp; omega
  by_cases hk7 : 7 < kd
  · have hk7' : (7 : Int) < (kd : Int) := by omega
    have HKD := Lib.hid hk7
    clear hk7
    go_wp2_with fail
    have hkz := pt5 (.int .u32 0) (.int .u8 0) (.int .u8 0) (.bool false) (.int .u64 0) K2b.out
    have hbz := ptb5 (.int .u32 0) (.int .u8 0) (.int .u8 0) (.bool false) (.int .u64 0) B1.out (show w.heap.size ≤ T + 1 by rw [← HT.out]; omega)
    unfold ptw5 at hkz hbz
    generalize ((((w1.setCell ⟨T + 1, 0, none⟩ (.int .u32 0)).setCell ⟨T + 1, 1, none⟩ (.int .u8 0)).setCell ⟨T + 1, 2, none⟩ (.int .u8 0)).setCell ⟨T + 1, 3, none⟩ (.bool false)).setCell ⟨T + 1, 4, none⟩ (.int .u64 0) = wz at *
    clear z0 z1 z2 z3 z4 f0 f1 f2 f3 f4
    obtain ⟨z0, z1, z2, z3, z4⟩ := ptc5 hkz
    exact bodyPost_ret (v := .tuple #[.agg #[.int .u32 0, .int .u8 0, .int .u8 0, .bool false, .int .u64 0], .bool false]) (by simp [results, Try.results67, go_sem, z0, z1, z2, z3, z4]) rfl ⟨RWordPost.no (fun nm id pa bk t h => by have := h.hkd; have := HKD.out; omega), hbz⟩
  have hk7d : decide ((7 : Int) < (kd : Int)) = false := by simp; omega
  have hall : ∃ nm id pa b t, xs = [nm, id, pa, b, t] := nln5 (by have := (cut_says HB.out HCUT.out).2.1; simpa using this)
  obtain ⟨nm, id, pa, b, t, rfl⟩ := hall
  obtain ⟨g, cg, rfl, hgB, hgl, hgc, hcell⟩ := nats_open HN.out (by simp)
  have c0 := hcell 0 _ rfl
  have c1 := hcell 1 _ rfl
  have c2 := hcell 2 _ rfl
  have c3 := hcell 3 _ rfl
  have c4 := hcell 4 _ rfl
  simp only [List.length_cons, List.length_nil] at hgc ⊢
  clear hcell
  by_cases hb2 : 1 < b
  · have hb3 : (1 : Int) < (b : Int) := by omega
    have HF := Lib.hid (show ∀ nm id pa bk t, ¬ WordIs kd lb nm id pa bk t from by
      intro nm' id' pa' bk' t' hD
      have e := (cut_says HB.out HCUT.out).1
      rw [hD.hb] at e
      have k1 : id < 256 := (cut_says HB.out HCUT.out).2.2 1 id 1 rfl rfl
      have k2 : pa < 256 := (cut_says HB.out HCUT.out).2.2 2 pa 1 rfl rfl
      have k3 : b < 256 := (cut_says HB.out HCUT.out).2.2 3 b 1 rfl rfl
      unfold wordB at e
      simp only [bes, show be id (1 : Int).toNat = [id] from ope1 k1, show be pa (1 : Int).toNat = [pa] from ope1 k2, show be b (1 : Int).toNat = [b] from ope1 k3, List.append_assoc, List.cons_append, List.nil_append] at e
      obtain ⟨_, e⟩ := List.append_inj e (by rw [be_len, be_len]; rfl)
      simp only [List.cons.injEq] at e
      have := bitN_lt bk'
      omega)
    go_wp2_with fail
    have hkz := pt5 (.int .u32 0) (.int .u8 0) (.int .u8 0) (.bool false) (.int .u64 0) K2b.out
    have hbz := ptb5 (.int .u32 0) (.int .u8 0) (.int .u8 0) (.bool false) (.int .u64 0) B1.out (show w.heap.size ≤ T + 1 by rw [← HT.out]; omega)
    unfold ptw5 at hkz hbz
    generalize ((((w1.setCell ⟨T + 1, 0, none⟩ (.int .u32 0)).setCell ⟨T + 1, 1, none⟩ (.int .u8 0)).setCell ⟨T + 1, 2, none⟩ (.int .u8 0)).setCell ⟨T + 1, 3, none⟩ (.bool false)).setCell ⟨T + 1, 4, none⟩ (.int .u64 0) = wz at *
    clear z0 z1 z2 z3 z4 f0 f1 f2 f3 f4
    obtain ⟨z0, z1, z2, z3, z4⟩ := ptc5 hkz
    exact bodyPost_ret (v := .tuple #[.agg #[.int .u32 0, .int .u8 0, .int .u8 0, .bool false, .int .u64 0], .bool false]) (by simp [results, Try.results67, go_sem, z0, z1, z2, z3, z4]) rfl ⟨RWordPost.no (fun nm id pa bk t => HF.out nm id pa bk t), hbz⟩
  have hb3 : ¬ (1 : Int) < (b : Int) := by omega
  by_cases hr0 : n' = 0
  rotate_left
  · have hr1 : ((n' : Int) != 0) = true := by simp; omega
    have HF := Lib.hid (wordNo (lb := lb) (fun ys h => by
      have e := HCUT.out.symm.trans h
      injection e with e
      injection e with _ e
      have := HRL.out
      rw [e] at this
      simp at this
      omega))
    clear hr0
    go_wp2_with fail
    have hkz := pt5 (.int .u32 0) (.int .u8 0) (.int .u8 0) (.bool false) (.int .u64 0) K2b.out
    have hbz := ptb5 (.int .u32 0) (.int .u8 0) (.int .u8 0) (.bool false) (.int .u64 0) B1.out (show w.heap.size ≤ T + 1 by rw [← HT.out]; omega)
    unfold ptw5 at hkz hbz
    generalize ((((w1.setCell ⟨T + 1, 0, none⟩ (.int .u32 0)).setCell ⟨T + 1, 1, none⟩ (.int .u8 0)).setCell ⟨T + 1, 2, none⟩ (.int .u8 0)).setCell ⟨T + 1, 3, none⟩ (.bool false)).setCell ⟨T + 1, 4, none⟩ (.int .u64 0) = wz at *
    clear z0 z1 z2 z3 z4 f0 f1 f2 f3 f4
    obtain ⟨z0, z1, z2, z3, z4⟩ := ptc5 hkz
    exact bodyPost_ret (v := .tuple #[.agg #[.int .u32 0, .int .u8 0, .int .u8 0, .bool false, .int .u64 0], .bool false]) (by simp [results, Try.results67, go_sem, z0, z1, z2, z3, z4]) rfl ⟨RWordPost.no (fun nm id pa bk t => HF.out kd nm id pa bk t), hbz⟩
  subst hr0
  obtain rfl : rest = [] := List.eq_nil_of_length_eq_zero HRL.out
  obtain ⟨nm', id', pa', b', t', e5, hnm, hid, hpa, hyes, _⟩ := wordS HB.out HCUT.out
  simp only [List.cons.injEq, and_true] at e5
  obtain ⟨rfl, rfl, rfl, rfl, rfl⟩ := e5
  have H_nm := Lib.hid hnm
  have H_id := Lib.hid hid
  have H_pa := Lib.hid hpa
  have HIS := Lib.hid (hyes (by omega) kd (by simp at hk4d hk7d; omega))
  obtain ⟨bk, hbk⟩ : ∃ bk, bk = decide (b = 1) := ⟨_, rfl⟩
  rw [← hbk] at HIS
  have ebk : ((b : Int) == 1) = bk := by rw [hbk]; by_cases h1 : b = 1 <;> simp [h1] <;> omega
  clear hbk hb2 hyes hnm hid hpa
  go_wp2_with fail
  refine wp_ord [(0, .pure), (1, .pure), (2, .read), (3, .pure), (4, .pure), (5, .pure), (6, .read), (7, .pure), (8, .pure), (9, .pure), (10, .read), (11, .pure), (12, .pure), (13, .pure), (14, .read), (15, .pure), (16, .pure), (17, .pure), (18, .read), (19, .pure), (20, .sole), (21, .pure)] [20] (by kernel_rfl) (by kernel_rfl) (fun QQ hQ wd hwd => ?_); simp only [List.map_cons, List.map_nil, List.getD_cons_zero, List.getD_cons_succ]
  have hD : Below w1.heap.size w1 wd := by rw [hwd.out]; exact (Below.refl _ _).drew
  have hdc : ∀ a, wd.cell? a = w1.cell? a := fun a => by rw [hwd.out]; rfl
  rw [← hdc] at c0
  rw [← hdc] at c1
  rw [← hdc] at c2
  rw [← hdc] at c3
  rw [← hdc] at c4
  have K2d := Lib.hid (K2b.out.below hD K2b.out.lt)
  have Bd := Lib.hid (B1.out.trans (hD.mono B1.out.size))
  clear hdc hwd hD z0 z1 z2 z3 z4 f0 f1 f2 f3 f4
  obtain ⟨z0, z1, z2, z3, z4⟩ := ptc5 K2d.out
  have f0 := K2d.out.frozen 0
  have f1 := K2d.out.frozen 1
  have f2 := K2d.out.frozen 2
  have f3 := K2d.out.frozen 3
  have f4 := K2d.out.frozen 4
  have v_nm : IntKind.u32.wrap (nm : Int) = (nm : Int) := by rw [IntKind.wrap_u32]; have := H_nm.out; unfold q32 at this; omega
  have v_id : IntKind.u8.wrap (id : Int) = (id : Int) := by rw [IntKind.wrap_u8]; have := H_id.out; omega
  have v_pa : IntKind.u8.wrap (pa : Int) = (pa : Int) := by rw [IntKind.wrap_u8]; have := H_pa.out; omega
  (refine o_pure (v := ?_) (by rfl) (fun w' => ?_) ?_; rotate_left; (focus (go_simp; (try with_reducible rfl))); (try simp only [Act.put, List.setIfInBounds_toArray, List.set_cons_zero, List.set_cons_succ]))
  (refine o_pure (v := ?_) (by rfl) (fun w' => ?_) ?_; rotate_left; (focus (go_simp; (try with_reducible rfl))); (try simp only [Act.put, List.setIfInBounds_toArray, List.set_cons_zero, List.set_cons_succ]))
  (refine o_load _ (by rfl) rfl rfl (by assumption) (by kernel_rfl) ?_; simp only [Act.put, List.setIfInBounds_toArray, List.set_cons_zero, List.set_cons_succ])
  (refine o_pure (v := ?_) (by rfl) (fun w' => ?_) ?_; rotate_left; (focus (go_simp; (try with_reducible rfl))); (try simp only [Act.put, List.setIfInBounds_toArray, List.set_cons_zero, List.set_cons_succ]))
  (refine o_pure (v := ?_) (by rfl) (fun w' => ?_) ?_; rotate_left; (focus (go_simp; (try with_reducible rfl))); (try simp only [Act.put, List.setIfInBounds_toArray, List.set_cons_zero, List.set_cons_succ]))
  (refine o_pure (v := ?_) (by rfl) (fun w' => ?_) ?_; rotate_left; (focus (go_simp; (try with_reducible rfl))); (try simp only [Act.put, List.setIfInBounds_toArray, List.set_cons_zero, List.set_cons_succ]))
  (refine o_load _ (by rfl) rfl rfl (by assumption) (by kernel_rfl) ?_; simp only [Act.put, List.setIfInBounds_toArray, List.set_cons_zero, List.set_cons_succ])
  (refine o_pure (v := ?_) (by rfl) (fun w' => ?_) ?_; rotate_left; (focus (go_simp; (try with_reducible rfl))); (try simp only [Act.put, List.setIfInBounds_toArray, List.set_cons_zero, List.set_cons_succ]))
  (refine o_pure (v := ?_) (by rfl) (fun w' => ?_) ?_; rotate_left; (focus (go_simp; (try with_reducible rfl))); (try simp only [Act.put, List.setIfInBounds_toArray, List.set_cons_zero, List.set_cons_succ]))
  (refine o_pure (v := ?_) (by rfl) (fun w' => ?_) ?_; rotate_left; (focus (go_simp; (try with_reducible rfl))); (try simp only [Act.put, List.setIfInBounds_toArray, List.set_cons_zero, List.set_cons_succ]))
  (refine o_load _ (by rfl) rfl rfl (by assumption) (by kernel_rfl) ?_; simp only [Act.put, List.setIfInBounds_toArray, List.set_cons_zero, List.set_cons_succ])
  (refine o_pure (v := ?_) (by rfl) (fun w' => ?_) ?_; rotate_left; (focus (go_simp; (try with_reducible rfl))); (try simp only [Act.put, List.setIfInBounds_toArray, List.set_cons_zero, List.set_cons_succ]))
  (refine o_pure (v := ?_) (by rfl) (fun w' => ?_) ?_; rotate_left; (focus (go_simp; (try with_reducible rfl))); (try simp only [Act.put, List.setIfInBounds_toArray, List.set_cons_zero, List.set_cons_succ]))
  (refine o_pure (v := ?_) (by rfl) (fun w' => ?_) ?_; rotate_left; (focus (go_simp; (try with_reducible rfl))); (try simp only [Act.put, List.setIfInBounds_toArray, List.set_cons_zero, List.set_cons_succ]))
  (refine o_load _ (by rfl) rfl rfl (by assumption) (by kernel_rfl) ?_; simp only [Act.put, List.setIfInBounds_toArray, List.set_cons_zero, List.set_cons_succ])
  (refine o_pure (v := ?_) (by rfl) (fun w' => ?_) ?_; rotate_left; (focus (go_simp; (try with_reducible rfl))); (try simp only [Act.put, List.setIfInBounds_toArray, List.set_cons_zero, List.set_cons_succ]))
  (refine o_pure (v := ?_) (by rfl) (fun w' => ?_) ?_; rotate_left; (focus (go_simp; (try with_reducible rfl))); (try simp only [Act.put, List.setIfInBounds_toArray, List.set_cons_zero, List.set_cons_succ]))
  (refine o_pure (v := ?_) (by rfl) (fun w' => ?_) ?_; rotate_left; (focus (go_simp; (try with_reducible rfl))); (try simp only [Act.put, List.setIfInBounds_toArray, List.set_cons_zero, List.set_cons_succ]))
  (refine o_load _ (by rfl) rfl rfl (by assumption) (by kernel_rfl) ?_; simp only [Act.put, List.setIfInBounds_toArray, List.set_cons_zero, List.set_cons_succ])
  (refine o_pure (v := ?_) (by rfl) (fun w' => ?_) ?_; rotate_left; (focus (go_simp; (try with_reducible rfl))); (try simp only [Act.put, List.setIfInBounds_toArray, List.set_cons_zero, List.set_cons_succ]))
  refine o_sole (fun K hK => ?_)
  go_wp2_with fail
  refine hK _ _ (fun h => by cases h) ?_; clear hK K
  (refine o_pure (v := ?_) (by rfl) (fun w' => ?_) ?_; rotate_left; (focus (go_simp; (try with_reducible rfl))); (try simp only [Act.put, List.setIfInBounds_toArray, List.set_cons_zero, List.set_cons_succ]))
  refine o_nil (hQ.out _ _ ?_); clear hQ QQ
  have hkz := pt5 (.int .u32 (nm : Int)) (.int .u8 (id : Int)) (.int .u8 (pa : Int)) (.bool bk) (.int .u64 (t : Int)) K2d.out
  have hbz := ptb5 (.int .u32 (nm : Int)) (.int .u8 (id : Int)) (.int .u8 (pa : Int)) (.bool bk) (.int .u64 (t : Int)) Bd.out (show w.heap.size ≤ T + 1 by rw [← HT.out]; omega)
  unfold ptw5 at hkz hbz
  generalize ((((wd.setCell ⟨T + 1, 0, none⟩ (.int .u32 (nm : Int))).setCell ⟨T + 1, 1, none⟩ (.int .u8 (id : Int))).setCell ⟨T + 1, 2, none⟩ (.int .u8 (pa : Int))).setCell ⟨T + 1, 3, none⟩ (.bool bk)).setCell ⟨T + 1, 4, none⟩ (.int .u64 (t : Int)) = wz at *
  clear z0 z1 z2 z3 z4 f0 f1 f2 f3 f4 c0 c1 c2 c3 c4
  obtain ⟨z0, z1, z2, z3, z4⟩ := ptc5 hkz
  go_wp2_with fail
  exact bodyPost_ret (v := .tuple #[.agg #[.int .u32 (nm : Int), .int .u8 (id : Int), .int .u8 (pa : Int), .bool bk, .int .u64 (t : Int)], .bool true]) (by simp [results, Try.results67, go_sem, z0, z1, z2, z3, z4]) rfl ⟨.inl ⟨nm, id, pa, bk, t, rfl, HIS.out⟩, hbz⟩
end Go.Proofs.Ytbiimgfocgbdaaa
