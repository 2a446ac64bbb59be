/- Layer 8: the law's own small functions; the chapter's example. -/
import Derived.Test.YtiblmlmkpilgmaaOp2
import Derived.Test.YtiblmlmkpilgmaaOp4K
import Derived.Test.YtiblmlmkpilgmaaSg5
import Derived.Deep.Cut
namespace Go.Proofs.Ytiblmlmkpilgmaa
open Go.RowKit
set_option linter.unusedVariables false
set_option linter.unusedSimpArgs false

set_option maxRecDepth 20000 in
set_option maxHeartbeats 1000000 in
theorem is_true (kd : Nat) (A B : Option Addr) (n c m d : Nat) (l : List Nat) (w : World) (h1 : Rd w w.heap.size 1 A n (ns .u8 l)) (h2 : Rd w w.heap.size 1 B m (ns .u8 l)) :
    Calls Try.prog 14 #[.agg #[.int .u8 (kd : Int), .slice A n c], .int .u8 (kd : Int), .slice B m d] w fun e w' => e = .returned (.bool true) ∧ Below w.heap.size w w' := by
  have hb : Below w.heap.size w (w.alloc (.cells #[.int .u8 (kd : Int), .slice A n c] 39)) := (Below.refl _ _).alloc (Nat.le_refl _) _
  have H1 := Lib.hid (h1.below hb)
  have H2 := Lib.hid (h2.below hb)
  have HB := Lib.hid hb
  clear h1 h2 hb
  go_enter Try.func14, Try.ntmps14
  go_wp2_with (first | refine wpList_conv Try.underlying37 Try.underlying5 Try.underlying9 rfl _ rfl rfl H1.out ?_ | refine wpList_conv Try.underlying37 Try.underlying5 Try.underlying9 rfl _ rfl rfl H2.out ?_)
  go_ret
  exact ⟨ret_bool (by simp), HB.out⟩
set_option maxRecDepth 20000 in
set_option maxHeartbeats 1000000 in
theorem ljoin_any (tk nc id t : Nat) (bk a : Bool) (w : World) : Calls Try.prog 19 #[.agg #[.int .u32 (tk : Int), .int .u32 (nc : Int), .int .u8 (id : Int), .bool bk, .bool a, .int .u64 (t : Int)]] w fun e w' => e = .returned (.agg #[.int .u32 (tk : Int), .int .u32 (nc : Int), .int .u8 (id : Int), .bool bk, .bool a, .int .u64 (t : Int)]) ∧ Below w.heap.size w w' := by
  have hk1 := (Blk.new w 29 #[.int .u32 (tk : Int), .int .u32 (nc : Int), .int .u8 (id : Int), .bool bk, .bool a, .int .u64 (t : Int)]).alloc (.cells #[.int .u32 0, .int .u32 0, .int .u8 0, .bool false, .bool false, .int .u64 0] 44)
  have hk2 := Blk.new (w.alloc (.cells #[.int .u32 (tk : Int), .int .u32 (nc : Int), .int .u8 (id : Int), .bool bk, .bool a, .int .u64 (t : Int)] 29)) 44 #[.int .u32 0, .int .u32 0, .int .u8 0, .bool false, .bool false, .int .u64 0]
  rw [show (w.alloc (.cells #[.int .u32 (tk : Int), .int .u32 (nc : Int), .int .u8 (id : Int), .bool bk, .bool a, .int .u64 (t : Int)] 29)).heap.size = w.heap.size + 1 by simp] at hk2
  have hb0 : Below w.heap.size w ((w.alloc (.cells #[.int .u32 (tk : Int), .int .u32 (nc : Int), .int .u8 (id : Int), .bool bk, .bool a, .int .u64 (t : Int)] 29)).alloc (.cells #[.int .u32 0, .int .u32 0, .int .u8 0, .bool false, .bool false, .int .u64 0] 44)) := ((Below.refl _ _).alloc (Nat.le_refl _) _).alloc (by simp) _
  obtain ⟨t0, t1, t2, t3, t4, t5⟩ := ptc6 hk1
  obtain ⟨z0, z1, z2, z3, z4, z5⟩ := ptc6 hk2
  have f0 := hk2.frozen 0
  have f1 := hk2.frozen 1
  have f2 := hk2.frozen 2
  have f3 := hk2.frozen 3
  have f4 := hk2.frozen 4
  have f5 := hk2.frozen 5
  have K2 := Lib.hid hk2
  have B0 := Lib.hid hb0
  clear hk1 hk2 hb0
  go_enter Try.func19, Try.ntmps19
  go_upto_region 1 with (fail)
  generalize (w.alloc (.cells #[.int .u32 (tk : Int), .int .u32 (nc : Int), .int .u8 (id : Int), .bool bk, .bool a, .int .u64 (t : Int)] 29)).alloc (.cells #[.int .u32 0, .int .u32 0, .int .u8 0, .bool false, .bool false, .int .u64 0] 44) = W at *
  obtain ⟨T, hT⟩ : ∃ T, T = w.heap.size := ⟨_, rfl⟩
  rw [← hT] at K2 t0 t1 t2 t3 t4 t5 z0 z1 z2 z3 z4 z5 f0 f1 f2 f3 f4 f5 ⊢
  have HT := Lib.hid hT
  clear hT
  go_wp2_with fail
  have hkz := pt6 (.int .u32 (tk : Int)) (.int .u32 (nc : Int)) (.int .u8 (id : Int)) (.bool bk) (.bool a) (.int .u64 (t : Int)) K2.out
  have hbz := ptb6 (.int .u32 (tk : Int)) (.int .u32 (nc : Int)) (.int .u8 (id : Int)) (.bool bk) (.bool a) (.int .u64 (t : Int)) B0.out (show w.heap.size ≤ T + 1 by rw [← HT.out]; omega)
  unfold ptw6 at hkz hbz
  generalize (((((W.setCell ⟨T + 1, 0, none⟩ (.int .u32 (tk : Int))).setCell ⟨T + 1, 1, none⟩ (.int .u32 (nc : Int))).setCell ⟨T + 1, 2, none⟩ (.int .u8 (id : Int))).setCell ⟨T + 1, 3, none⟩ (.bool bk)).setCell ⟨T + 1, 4, none⟩ (.bool a)).setCell ⟨T + 1, 5, none⟩ (.int .u64 (t : Int)) = wz at *
  clear t0 t1 t2 t3 t4 t5 z0 z1 z2 z3 z4 z5 f0 f1 f2 f3 f4 f5
  obtain ⟨z0, z1, z2, z3, z4, z5⟩ := ptc6 hkz
  exact bodyPost_ret (v := .agg #[.int .u32 (tk : Int), .int .u32 (nc : Int), .int .u8 (id : Int), .bool bk, .bool a, .int .u64 (t : Int)]) (by simp [results, Try.results19, go_sem, z0, z1, z2, z3, z4, z5]) rfl ⟨rfl, hbz⟩
set_option maxRecDepth 20000 in
set_option maxHeartbeats 1000000 in
theorem ldata_any (f p : Bool) (sq ak wn t : Nat) (w : World) : Calls Try.prog 22 #[.agg #[.bool f, .bool p, .int .u64 (sq : Int), .int .u64 (ak : Int), .int .u32 (wn : Int), .int .u64 (t : Int)]] w fun e w' => e = .returned (.agg #[.bool f, .bool p, .int .u64 (sq : Int), .int .u64 (ak : Int), .int .u32 (wn : Int), .int .u64 (t : Int)]) ∧ Below w.heap.size w w' := by
  have hk1 := (Blk.new w 31 #[.bool f, .bool p, .int .u64 (sq : Int), .int .u64 (ak : Int), .int .u32 (wn : Int), .int .u64 (t : Int)]).alloc (.cells #[.bool false, .bool false, .int .u64 0, .int .u64 0, .int .u32 0, .int .u64 0] 48)
  have hk2 := Blk.new (w.alloc (.cells #[.bool f, .bool p, .int .u64 (sq : Int), .int .u64 (ak : Int), .int .u32 (wn : Int), .int .u64 (t : Int)] 31)) 48 #[.bool false, .bool false, .int .u64 0, .int .u64 0, .int .u32 0, .int .u64 0]
  rw [show (w.alloc (.cells #[.bool f, .bool p, .int .u64 (sq : Int), .int .u64 (ak : Int), .int .u32 (wn : Int), .int .u64 (t : Int)] 31)).heap.size = w.heap.size + 1 by simp] at hk2
  have hb0 : Below w.heap.size w ((w.alloc (.cells #[.bool f, .bool p, .int .u64 (sq : Int), .int .u64 (ak : Int), .int .u32 (wn : Int), .int .u64 (t : Int)] 31)).alloc (.cells #[.bool false, .bool false, .int .u64 0, .int .u64 0, .int .u32 0, .int .u64 0] 48)) := ((Below.refl _ _).alloc (Nat.le_refl _) _).alloc (by simp) _
  obtain ⟨t0, t1, t2, t3, t4, t5⟩ := ptc6 hk1
  obtain ⟨z0, z1, z2, z3, z4, z5⟩ := ptc6 hk2
  have f0 := hk2.frozen 0
  have f1 := hk2.frozen 1
  have f2 := hk2.frozen 2
  have f3 := hk2.frozen 3
  have f4 := hk2.frozen 4
  have f5 := hk2.frozen 5
  have K2 := Lib.hid hk2
  have B0 := Lib.hid hb0
  clear hk1 hk2 hb0
  go_enter Try.func22, Try.ntmps22
  go_upto_region 1 with (fail)
  generalize (w.alloc (.cells #[.bool f, .bool p, .int .u64 (sq : Int), .int .u64 (ak : Int), .int .u32 (wn : Int), .int .u64 (t : Int)] 31)).alloc (.cells #[.bool false, .bool false, .int .u64 0, .int .u64 0, .int .u32 0, .int .u64 0] 48) = W at *
  obtain ⟨T, hT⟩ : ∃ T, T = w.heap.size := ⟨_, rfl⟩
  rw [← hT] at K2 t0 t1 t2 t3 t4 t5 z0 z1 z2 z3 z4 z5 f0 f1 f2 f3 f4 f5 ⊢
  have HT := Lib.hid hT
  clear hT
  go_wp2_with fail
  have hkz := pt6 (.bool f) (.bool p) (.int .u64 (sq : Int)) (.int .u64 (ak : Int)) (.int .u32 (wn : Int)) (.int .u64 (t : Int)) K2.out
  have hbz := ptb6 (.bool f) (.bool p) (.int .u64 (sq : Int)) (.int .u64 (ak : Int)) (.int .u32 (wn : Int)) (.int .u64 (t : Int)) B0.out (show w.heap.size ≤ T + 1 by rw [← HT.out]; omega)
  unfold ptw6 at hkz hbz
  generalize (((((W.setCell ⟨T + 1, 0, none⟩ (.bool f)).setCell ⟨T + 1, 1, none⟩ (.bool p)).setCell ⟨T + 1, 2, none⟩ (.int .u64 (sq : Int))).setCell ⟨T + 1, 3, none⟩ (.int .u64 (ak : Int))).setCell ⟨T + 1, 4, none⟩ (.int .u32 (wn : Int))).setCell ⟨T + 1, 5, none⟩ (.int .u64 (t : Int)) = wz at *
  clear t0 t1 t2 t3 t4 t5 z0 z1 z2 z3 z4 z5 f0 f1 f2 f3 f4 f5
  obtain ⟨z0, z1, z2, z3, z4, z5⟩ := ptc6 hkz
  exact bodyPost_ret (v := .agg #[.bool f, .bool p, .int .u64 (sq : Int), .int .u64 (ak : Int), .int .u32 (wn : Int), .int .u64 (t : Int)]) (by simp [results, Try.results22, go_sem, z0, z1, z2, z3, z4, z5]) rfl ⟨rfl, hbz⟩
set_option maxRecDepth 20000 in
set_option maxHeartbeats 1000000 in
theorem lword_any (kd nm id pa t : Nat) (bk : Bool) (w : World) : Calls Try.prog 25 #[.agg #[.int .u8 (kd : Int), .int .u32 (nm : Int), .int .u8 (id : Int), .int .u8 (pa : Int), .bool bk, .int .u64 (t : Int)]] w fun e w' => e = .returned (.agg #[.int .u32 (nm : Int), .int .u8 (id : Int), .int .u8 (pa : Int), .bool bk, .int .u64 (t : Int)]) ∧ Below w.heap.size w w' := by
  have hk1 := (Blk.new w 33 #[.int .u8 (kd : Int), .int .u32 (nm : Int), .int .u8 (id : Int), .int .u8 (pa : Int), .bool bk, .int .u64 (t : Int)]).alloc (.cells #[.int .u32 0, .int .u8 0, .int .u8 0, .bool false, .int .u64 0] 52)
  have hk2 := Blk.new (w.alloc (.cells #[.int .u8 (kd : Int), .int .u32 (nm : Int), .int .u8 (id : Int), .int .u8 (pa : Int), .bool bk, .int .u64 (t : Int)] 33)) 52 #[.int .u32 0, .int .u8 0, .int .u8 0, .bool false, .int .u64 0]
  rw [show (w.alloc (.cells #[.int .u8 (kd : Int), .int .u32 (nm : Int), .int .u8 (id : Int), .int .u8 (pa : Int), .bool bk, .int .u64 (t : Int)] 33)).heap.size = w.heap.size + 1 by simp] at hk2
  have hb0 : Below w.heap.size w ((w.alloc (.cells #[.int .u8 (kd : Int), .int .u32 (nm : Int), .int .u8 (id : Int), .int .u8 (pa : Int), .bool bk, .int .u64 (t : Int)] 33)).alloc (.cells #[.int .u32 0, .int .u8 0, .int .u8 0, .bool false, .int .u64 0] 52)) := ((Below.refl _ _).alloc (Nat.le_refl _) _).alloc (by simp) _
  obtain ⟨t0, t1, t2, t3, t4, t5⟩ := ptc6 hk1
  obtain ⟨z0, z1, z2, z3, z4⟩ := ptc5 hk2
  have f0 := hk2.frozen 0
  have f1 := hk2.frozen 1
  have f2 := hk2.frozen 2
  have f3 := hk2.frozen 3
  have f4 := hk2.frozen 4
  have K2 := Lib.hid hk2
  have B0 := Lib.hid hb0
  clear hk1 hk2 hb0
  go_enter Try.func25, Try.ntmps25
  go_upto_region 1 with (fail)
  generalize (w.alloc (.cells #[.int .u8 (kd : Int), .int .u32 (nm : Int), .int .u8 (id : Int), .int .u8 (pa : Int), .bool bk, .int .u64 (t : Int)] 33)).alloc (.cells #[.int .u32 0, .int .u8 0, .int .u8 0, .bool false, .int .u64 0] 52) = W at *
  obtain ⟨T, hT⟩ : ∃ T, T = w.heap.size := ⟨_, rfl⟩
  rw [← hT] at K2 t0 t1 t2 t3 t4 t5 z0 z1 z2 z3 z4 f0 f1 f2 f3 f4 ⊢
  have HT := Lib.hid hT
  clear hT
  go_wp2_with fail
  have hkz := pt5 (.int .u32 (nm : Int)) (.int .u8 (id : Int)) (.int .u8 (pa : Int)) (.bool bk) (.int .u64 (t : Int)) K2.out
  have hbz := ptb5 (.int .u32 (nm : Int)) (.int .u8 (id : Int)) (.int .u8 (pa : Int)) (.bool bk) (.int .u64 (t : Int)) B0.out (show w.heap.size ≤ T + 1 by rw [← HT.out]; omega)
  unfold ptw5 at hkz hbz
  generalize ((((W.setCell ⟨T + 1, 0, none⟩ (.int .u32 (nm : Int))).setCell ⟨T + 1, 1, none⟩ (.int .u8 (id : Int))).setCell ⟨T + 1, 2, none⟩ (.int .u8 (pa : Int))).setCell ⟨T + 1, 3, none⟩ (.bool bk)).setCell ⟨T + 1, 4, none⟩ (.int .u64 (t : Int)) = wz at *
  clear t0 t1 t2 t3 t4 t5 z0 z1 z2 z3 z4 f0 f1 f2 f3 f4
  obtain ⟨z0, z1, z2, z3, z4⟩ := ptc5 hkz
  exact bodyPost_ret (v := .agg #[.int .u32 (nm : Int), .int .u8 (id : Int), .int .u8 (pa : Int), .bool bk, .int .u64 (t : Int)]) (by simp [results, Try.results25, go_sem, z0, z1, z2, z3, z4]) rfl ⟨rfl, hbz⟩
end Go.Proofs.Ytiblmlmkpilgmaa
