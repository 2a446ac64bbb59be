/- Layer 8: a key, as it is read. -/
import Derived.Test.YtiblmlmkpilgmaaOp4M
import Derived.Test.YtiblmlmkpilgmaaOrd
namespace Go.Proofs.Ytiblmlmkpilgmaa
open Go.RowKit
set_option linter.unusedVariables false
/-- What ParseKey answers. -/
def KeyPost (kd : Nat) (lb : List Nat) (e : Ending) : Prop :=
  (∃ (k t : Nat) (a : Bool), e = .returned (.tuple #[.agg #[.int .u64 (k : Int), .bool a, .int .u64 (t : Int)], .bool true]) ∧ KeyIs kd lb k t a) ∨ (e = .returned (.tuple #[.agg #[.int .u64 0, .bool false, .int .u64 0], .bool false]) ∧ ∀ (k t : Nat) (a : Bool), ¬ KeyIs kd lb k t a)
theorem KeyPost.no {kd : Nat} {lb : List Nat} (h : ∀ (k t : Nat) (a : Bool), ¬ KeyIs kd lb k t a) : KeyPost kd lb (.returned (.tuple #[.agg #[.int .u64 0, .bool false, .int .u64 0], .bool false])) := .inr ⟨rfl, h⟩
set_option maxRecDepth 20000 in
set_option maxHeartbeats 4000000 in
theorem parseKey_any (kd : Nat) (A : Option Addr) (n c : Nat) (lb : List Nat) (w : World) (h : Rd w w.heap.size 1 A n (ns .u8 lb)) (hnc : n ≤ c) (hb : ∀ x ∈ lb, x < 256) (hn : n ≤ 10000) :
    Calls Try.prog 27 #[.agg #[.int .u8 (kd : Int), .slice A n c]] w fun e w' => KeyPost kd lb e ∧ Below w.heap.size w w' := by
  have hk1 := ((Blk.new w 39 #[.int .u8 (kd : Int), .slice A n c]).alloc (.cells #[.int .u64 0, .bool false, .int .u64 0] 26)).alloc (.cells #[.int .i64 8] 3)
  have hk2 := (Blk.new (w.alloc (.cells #[.int .u8 (kd : Int), .slice A n c] 39)) 26 #[.int .u64 0, .bool false, .int .u64 0]).alloc (.cells #[.int .i64 8] 3)
  rw [show (w.alloc (.cells #[.int .u8 (kd : Int), .slice A n c] 39)).heap.size = w.heap.size + 1 by simp] at hk2
  have hz3 : (((w.alloc (.cells #[.int .u8 (kd : Int), .slice A n c] 39)).alloc (.cells #[.int .u64 0, .bool false, .int .u64 0] 26)).alloc (.cells #[.int .i64 8] 3)).heap.size = w.heap.size + 3 := by simp
  have hzs := Zats.lit (w := ((w.alloc (.cells #[.int .u8 (kd : Int), .slice A n c] 39)).alloc (.cells #[.int .u64 0, .bool false, .int .u64 0] 26))) (e := 3) (k := .i64) (ss := [8]) (n := 1) #[.int .i64 8] rfl rfl (by unfold maxLen; omega)
  rw [show ((w.alloc (.cells #[.int .u8 (kd : Int), .slice A n c] 39)).alloc (.cells #[.int .u64 0, .bool false, .int .u64 0] 26)).heap.size = w.heap.size + 2 by simp] at hzs
  have hb0 : Below w.heap.size w (((w.alloc (.cells #[.int .u8 (kd : Int), .slice A n c] 39)).alloc (.cells #[.int .u64 0, .bool false, .int .u64 0] 26)).alloc (.cells #[.int .i64 8] 3)) := (((Below.refl _ _).alloc (Nat.le_refl _) _).alloc (by simp) _).alloc (by simp; omega) _
  have K1 := Lib.hid hk1
  have K2 := Lib.hid hk2
  have B0 := Lib.hid hb0
  have Z3 := Lib.hid hz3
  have ZS := Lib.hid hzs
  have HB := Lib.hid hb
  have HR := Lib.hid h
  obtain ⟨q0, q1⟩ := ptc2 hk1
  clear hk1 hk2 hb0 hz3 hzs hb h
  go_enter Try.func27, Try.ntmps27
  go_wp2_with fail
  generalize ((w.alloc (.cells #[.int .u8 (kd : Int), .slice A n c] 39)).alloc (.cells #[.int .u64 0, .bool false, .int .u64 0] 26)).alloc (.cells #[.int .i64 8] 3) = W at *
  obtain ⟨T, hT⟩ : ∃ T, T = w.heap.size := ⟨_, rfl⟩
  rw [← hT] at K1 K2 Z3 ZS q0 q1 ⊢
  have HT := Lib.hid hT
  clear hT
  refine (hands_any A (some ⟨T + 2, 0, none⟩) n c 1 1 (T + 2) lb [8] W ((HR.out.below B0.out).mono (by rw [← HT.out]; omega)) ZS.out (by have := Z3.out; omega) hnc HB.out hn (by omega) rfl).mono ?_
  rintro e w1 ⟨hp, hb1⟩
  have K1b := Lib.hid (K1.out.below hb1 (by omega))
  have K2b := Lib.hid (K2.out.below hb1 (by omega))
  have B1 := Lib.hid (B0.out.trans (hb1.mono (by rw [← HT.out]; omega)))
  clear hb1 K1 K2 B0 ZS q0 q1 HR
  obtain ⟨z0, z1, z2⟩ := ptc3 K2b.out
  have f0 := K2b.out.frozen 0
  have f1 := K2b.out.frozen 1
  have f2 := K2b.out.frozen 2
  rcases hp with ⟨xs, v, a, rfl, hsay, hN⟩ | ⟨hno1, hno2, rfl⟩
  · obtain ⟨k, t, rfl, hIs⟩ := keyS HB.out hsay
    have HIS := Lib.hid hIs
    clear hIs
    have HN := Lib.hid hN
    clear hN hsay
    by_cases hkd : kd = 1
    rotate_left
    · have hkd1 : ((kd : Int) != 1) = true := by simp; omega
      have hkd2 : ((kd : Int) == 1) = false := by simp; omega
      have HKD := Lib.hid hkd
      obtain ⟨w0, w1'⟩ := ptc2 K1b.out
      clear hkd
      go_wp2_with fail
      have hkz := pt3 (.int .u64 0) (.bool false) (.int .u64 0) K2b.out
      have hbz := ptb3 (.int .u64 0) (.bool false) (.int .u64 0) B1.out (show w.heap.size ≤ T + 1 by rw [← HT.out]; omega)
      unfold ptw3 at hkz hbz
      generalize ((w1.setCell ⟨T + 1, 0, none⟩ (.int .u64 0)).setCell ⟨T + 1, 1, none⟩ (.bool false)).setCell ⟨T + 1, 2, none⟩ (.int .u64 0) = wz at *
      clear z0 z1 z2 f0 f1 f2
      obtain ⟨z0, z1, z2⟩ := ptc3 hkz
      exact bodyPost_ret (v := .tuple #[.agg #[.int .u64 0, .bool false, .int .u64 0], .bool false]) (by simp [results, Try.results27, go_sem, z0, z1, z2]) rfl ⟨KeyPost.no (fun k t a h => HKD.out h.hkd), hbz⟩
    ·
      subst hkd
      obtain ⟨w0, w1'⟩ := ptc2 K1b.out
      obtain ⟨g, cg, rfl, hgB, hgl, hgc, hcell⟩ := nats_open HN.out (by simp)
      have c0 := hcell 0 _ rfl
      have c1 := hcell 1 _ rfl
      simp only [List.length_cons, List.length_nil] at hgc ⊢
      clear hcell
      go_wp2_with fail
      generalize hA4 : w1.alloc (.cells #[.int .u64 (k : Int), .bool a, .int .u64 0] 26) = w4 at *
      have hk5 : Blk w4 w1.heap.size 26 #[.int .u64 (k : Int), .bool a, .int .u64 0] := by rw [← hA4]; exact Blk.new _ _ _
      have hb5 : Below w1.heap.size w1 w4 := by rw [← hA4]; exact (Below.refl _ _).alloc (Nat.le_refl _) _
      have K2d := Lib.hid K2b.out
      have Bd := Lib.hid B1.out
      clear hA4 z0 z1 z2 f0 f1 f2
      have K3 := Lib.hid (K2d.out.below hb5 K2d.out.lt)
      have B3 := Lib.hid (Bd.out.trans (hb5.mono Bd.out.size))
      have ct := (hb5.cell (p := ⟨g, 1, none⟩) (show g < w1.heap.size by first | exact hgl | (rw [HDZ.out]; exact hgl))).trans c1
      have hTN : T + 2 ≤ w1.heap.size := K2d.out.lt
      have s5 := (ptc3 hk5).2.2
      have s6 := hk5.frozen 2
      clear hb5 c0 c1
      go_wp2_with fail
      refine (seal_any w1.heap.size 2 t _ w4 s5 s6).mono ?_
      rintro e w5 ⟨rfl, hw5⟩
      have hk6 : Blk w5 w1.heap.size 26 #[.int .u64 (k : Int), .bool a, .int .u64 (t : Int)] := by rw [hw5]; exact hk5.set 2 _
      have hs6 : Solo w1.heap.size w4 w5 := by rw [hw5]; exact Solo.refl.setCell 2 _
      have K5 := Lib.hid (hs6.blk K3.out (by omega))
      have B5 := Lib.hid (B3.out.trans (hs6.1.mono (by rw [← HT.out]; omega)))
      clear hw5 hs6 hk5 s5 s6 ct K3 B3
      obtain ⟨y0, y1, y2⟩ := ptc3 hk6
      obtain ⟨z0, z1, z2⟩ := ptc3 K5.out
      have f0 := K5.out.frozen 0
      have f1 := K5.out.frozen 1
      have f2 := K5.out.frozen 2
      go_wp2_with fail
      have hkz := pt3 (.int .u64 (k : Int)) (.bool a) (.int .u64 (t : Int)) K5.out
      have hbz := ptb3 (.int .u64 (k : Int)) (.bool a) (.int .u64 (t : Int)) B5.out (show w.heap.size ≤ T + 1 by rw [← HT.out]; omega)
      unfold ptw3 at hkz hbz
      generalize ((w5.setCell ⟨T + 1, 0, none⟩ (.int .u64 (k : Int))).setCell ⟨T + 1, 1, none⟩ (.bool a)).setCell ⟨T + 1, 2, none⟩ (.int .u64 (t : Int)) = wz at *
      clear z0 z1 z2 f0 f1 f2 y0 y1 y2
      obtain ⟨z0, z1, z2⟩ := ptc3 hkz
      exact bodyPost_ret (v := .tuple #[.agg #[.int .u64 (k : Int), .bool a, .int .u64 (t : Int)], .bool true]) (by simp [results, Try.results27, go_sem, z0, z1, z2]) rfl ⟨.inl ⟨k, t, a, rfl, HIS.out⟩, hbz⟩
  · have HNO := Lib.hid hno1
    have HNO2 := Lib.hid hno2
    clear hno1 hno2
    go_wp2_with fail
    have hkz := pt3 (.int .u64 0) (.bool false) (.int .u64 0) K2b.out
    have hbz := ptb3 (.int .u64 0) (.bool false) (.int .u64 0) B1.out (show w.heap.size ≤ T + 1 by rw [← HT.out]; omega)
    unfold ptw3 at hkz hbz
    generalize ((w1.setCell ⟨T + 1, 0, none⟩ (.int .u64 0)).setCell ⟨T + 1, 1, none⟩ (.bool false)).setCell ⟨T + 1, 2, none⟩ (.int .u64 0) = wz at *
    clear z0 z1 z2 f0 f1 f2
    obtain ⟨z0, z1, z2⟩ := ptc3 hkz
    exact bodyPost_ret (v := .tuple #[.agg #[.int .u64 0, .bool false, .int .u64 0], .bool false]) (by simp [results, Try.results27, go_sem, z0, z1, z2]) rfl ⟨KeyPost.no (fun k t a => keyNo HNO.out HNO2.out kd k t a), hbz⟩
end Go.Proofs.Ytiblmlmkpilgmaa
