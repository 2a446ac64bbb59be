/- Package judge: flags, what fits. -/
import Derived.Test.YtllahldgkpbpoaaJuM
import Derived.Test.YtllahldgkpbpoaaOpen
import Derived.Test.YtllahldgkpbpoaaPut
namespace Go.Proofs.Ytllahldgkpbpoaa
open Go.RowKit
set_option linter.unusedVariables false
set_option linter.unusedSimpArgs false
/-- A segment in a block. -/
structure JS (w W : World) (T : Nat) (s : Sj) : Prop where
  sb : Blk W T 30 s.cs
  bel : Below w.heap.size w W
theorem JS.into {w W W' : World} {T : Nat} {s : Sj} (h : JS w W T s) (hb : Below W.heap.size W W') : JS w W' T s :=
  ⟨h.sb.below hb h.sb.lt, h.bel.trans (hb.mono h.bel.size)⟩
theorem JS.cells {w W : World} {T : Nat} {s : Sj} (h : JS w W T s) :
    W.cell? ⟨T, 0, none⟩ = some (.int .u16 s.p) ∧ W.cell? ⟨T, 1, none⟩ = some (.int .u16 s.q) ∧ W.cell? ⟨T, 2, none⟩ = some (.int .u32 s.seq) ∧ W.cell? ⟨T, 3, none⟩ = some (.int .u32 s.ack) ∧ W.cell? ⟨T, 4, none⟩ = some (.int .u8 (s.fl : Nat)) ∧ W.cell? ⟨T, 5, none⟩ = some (.slice s.A s.n s.c) ∧ W.cell? ⟨T, 6, none⟩ = some (.slice s.D s.m s.d) := by
  refine ⟨?_, ?_, ?_, ?_, ?_, ?_, ?_⟩ <;> (rw [h.sb.cell]; rfl)
theorem JS.mk1 (w : World) (s : Sj) : JS w (w.alloc (.cells s.cs 30)) w.heap.size s :=
  ⟨Blk.new w 30 s.cs, (Below.refl _ _).alloc (Nat.le_refl _) _⟩
structure JN (t : TypeId) (w W : World) (T : Nat) (n : Nm) : Prop where
  nb : Blk W T t n.cs
  bel : Below w.heap.size w W
theorem JN.into {t : TypeId} {w W W' : World} {T : Nat} {n : Nm} (h : JN t w W T n) (hb : Below W.heap.size W W') : JN t w W' T n :=
  ⟨h.nb.below hb h.nb.lt, h.bel.trans (hb.mono h.bel.size)⟩
theorem JN.cells {t : TypeId} {w W : World} {T : Nat} {n : Nm} (h : JN t w W T n) :
    W.cell? ⟨T, 0, none⟩ = some (.int .i64 n.st) ∧ W.cell? ⟨T, 1, none⟩ = some (.int .u32 n.fst) ∧ W.cell? ⟨T, 2, none⟩ = some (.int .u32 n.ak) ∧ W.cell? ⟨T, 3, none⟩ = some (.int .u32 n.nx) ∧ W.cell? ⟨T, 4, none⟩ = some (.int .u32 n.wt) := by
  refine ⟨?_, ?_, ?_, ?_, ?_⟩ <;> (rw [h.nb.cell]; rfl)
theorem JN.mk1 (t : TypeId) (w : World) (n : Nm) : JN t w (w.alloc (.cells n.cs t)) w.heap.size n :=
  ⟨Blk.new w t n.cs, (Below.refl _ _).alloc (Nat.le_refl _) _⟩
theorem JN.two (t : TypeId) (w : World) (n : Nm) (s : Sj) : JN t w ((w.alloc (.cells n.cs t)).alloc (.cells s.cs 30)) w.heap.size n ∧ JS w ((w.alloc (.cells n.cs t)).alloc (.cells s.cs 30)) (w.heap.size + 1) s := by
  have h1 := JN.mk1 t w n
  have hb : Below (w.alloc (.cells n.cs t)).heap.size (w.alloc (.cells n.cs t)) ((w.alloc (.cells n.cs t)).alloc (.cells s.cs 30)) := (Below.refl _ _).alloc (Nat.le_refl _) _
  have h2 := JS.mk1 (w.alloc (.cells n.cs t)) s
  have e : (w.alloc (.cells n.cs t)).heap.size = w.heap.size + 1 := by exact Array.size_push _
  rw [e] at h2
  exact ⟨h1.into hb, ⟨h2.sb, h1.bel.trans (hb.mono h1.bel.size)⟩⟩
set_option maxRecDepth 20000 in
theorem jhas1 (s : Sj) (w : World) (hs : s.ok) :
    Calls Try.prog 16 #[.agg s.cs, .int .u8 1] w fun e w' => e = .returned (.bool (hasB s.fl 1)) ∧ Below w.heap.size w w' := by
  have H := Lib.hid (JS.mk1 w s)
  obtain ⟨s0, s1, s2, s3, s4, s5, s6⟩ := H.out.cells
  have hf := hs.fl
  rw [← has1 hf]
  clear s0 s1 s2 s3 s5 s6
  unfold Sj.cs at *
  go_enter Try.func16, Try.ntmps16
  go_wp2_with fail
  go_ret
  exact ⟨rfl, H.out.bel⟩
set_option maxRecDepth 20000 in
theorem rjhas1 (s : Sj) (w : World) (hs : s.ok) :
    Calls Try.prog 12 #[.agg s.cs, .int .i64 1] w fun e w' => e = .returned (.bool (hasB s.fl 1)) ∧ Below w.heap.size w w' := by
  have H := Lib.hid (JS.mk1 w s)
  obtain ⟨s0, s1, s2, s3, s4, s5, s6⟩ := H.out.cells
  have hf := hs.fl
  rw [← rhas1 hf]
  clear s0 s1 s2 s3 s5 s6
  unfold Sj.cs at *
  go_enter Try.func12, Try.ntmps12
  go_wp2_with fail
  go_ret
  exact ⟨rfl, H.out.bel⟩
set_option maxRecDepth 20000 in
theorem jhas2 (s : Sj) (w : World) (hs : s.ok) :
    Calls Try.prog 16 #[.agg s.cs, .int .u8 2] w fun e w' => e = .returned (.bool (hasB s.fl 2)) ∧ Below w.heap.size w w' := by
  have H := Lib.hid (JS.mk1 w s)
  obtain ⟨s0, s1, s2, s3, s4, s5, s6⟩ := H.out.cells
  have hf := hs.fl
  rw [← has2 hf]
  clear s0 s1 s2 s3 s5 s6
  unfold Sj.cs at *
  go_enter Try.func16, Try.ntmps16
  go_wp2_with fail
  go_ret
  exact ⟨rfl, H.out.bel⟩
set_option maxRecDepth 20000 in
theorem rjhas2 (s : Sj) (w : World) (hs : s.ok) :
    Calls Try.prog 12 #[.agg s.cs, .int .i64 2] w fun e w' => e = .returned (.bool (hasB s.fl 2)) ∧ Below w.heap.size w w' := by
  have H := Lib.hid (JS.mk1 w s)
  obtain ⟨s0, s1, s2, s3, s4, s5, s6⟩ := H.out.cells
  have hf := hs.fl
  rw [← rhas2 hf]
  clear s0 s1 s2 s3 s5 s6
  unfold Sj.cs at *
  go_enter Try.func12, Try.ntmps12
  go_wp2_with fail
  go_ret
  exact ⟨rfl, H.out.bel⟩
set_option maxRecDepth 20000 in
theorem jhas4 (s : Sj) (w : World) (hs : s.ok) :
    Calls Try.prog 16 #[.agg s.cs, .int .u8 4] w fun e w' => e = .returned (.bool (hasB s.fl 4)) ∧ Below w.heap.size w w' := by
  have H := Lib.hid (JS.mk1 w s)
  obtain ⟨s0, s1, s2, s3, s4, s5, s6⟩ := H.out.cells
  have hf := hs.fl
  rw [← has4 hf]
  clear s0 s1 s2 s3 s5 s6
  unfold Sj.cs at *
  go_enter Try.func16, Try.ntmps16
  go_wp2_with fail
  go_ret
  exact ⟨rfl, H.out.bel⟩
set_option maxRecDepth 20000 in
theorem rjhas4 (s : Sj) (w : World) (hs : s.ok) :
    Calls Try.prog 12 #[.agg s.cs, .int .i64 4] w fun e w' => e = .returned (.bool (hasB s.fl 4)) ∧ Below w.heap.size w w' := by
  have H := Lib.hid (JS.mk1 w s)
  obtain ⟨s0, s1, s2, s3, s4, s5, s6⟩ := H.out.cells
  have hf := hs.fl
  rw [← rhas4 hf]
  clear s0 s1 s2 s3 s5 s6
  unfold Sj.cs at *
  go_enter Try.func12, Try.ntmps12
  go_wp2_with fail
  go_ret
  exact ⟨rfl, H.out.bel⟩
theorem jpassif_any (b : Bool) (w : World) : Calls Try.prog 17 #[.bool b] w fun e w' => e = .returned (.int .i64 (passV b : Nat)) ∧ Below w.heap.size w w' := by
  cases b
  · go_enter Try.func17, Try.ntmps17
    go_wp2
    go_ret
    exact ⟨rfl, Below.refl _ _⟩
  · go_enter Try.func17, Try.ntmps17
    go_wp2
    go_ret
    exact ⟨rfl, Below.refl _ _⟩
theorem rpass_any (b : Bool) (w : World) : Calls Try.prog 13 #[.bool b] w fun e w' => e = .returned (.int .i64 (passV b : Nat)) ∧ Below w.heap.size w w' := by
  cases b
  · go_enter Try.func13, Try.ntmps13
    go_wp2
    go_ret
    exact ⟨rfl, Below.refl _ _⟩
  · go_enter Try.func13, Try.ntmps13
    go_wp2
    go_ret
    exact ⟨rfl, Below.refl _ _⟩
set_option maxRecDepth 20000 in
theorem jack_any (n : Nm) (a : Int) (w : World) :
    Calls Try.prog 23 #[.agg n.cs, .int .u32 a] w fun e w' => e = .returned (.bool (ackB n a)) ∧ Below w.heap.size w w' := by
  have H := Lib.hid (JN.mk1 25 w n)
  obtain ⟨n0, n1, n2, n3, n4⟩ := H.out.cells
  have HB := Lib.hid (between_any a n.ak n.nx (w.alloc (.cells n.cs 25)))
  have HW := Lib.hid (within_any n.ak a 1048576 (w.alloc (.cells n.cs 25)))
  have hv : ackB n a = (btw a n.ak n.nx || wi n.ak a 1048576) := rfl
  rw [hv]
  clear hv n0 n1 n4
  unfold Nm.cs at *
  go_enter Try.func23, Try.ntmps23
  go_wp2_with fail
  refine HB.out.mono ?_
  rintro e w1 ⟨rfl, rfl⟩
  cases h : btw a n.ak n.nx
  · go_wp2_with fail
    refine HW.out.mono ?_
    rintro e w1 ⟨rfl, rfl⟩
    go_wp2_with fail
    go_ret
    exact ⟨by rw [h]; rfl, H.out.bel⟩
  · go_wp2_with fail
    go_ret
    exact ⟨by rw [h]; rfl, H.out.bel⟩
theorem fl_eq (k : Nat) (j : Nat) : (((k : Nat) : Int) == ((j : Nat) : Int)) = (k == j) := by
  rw [Bool.eq_iff_iff, beq_iff_eq, beq_iff_eq]; omega
set_option maxRecDepth 20000 in
set_option maxHeartbeats 1000000 in
theorem jfits_any (n : Nm) (s : Sj) (sd : Bool) (w : World) (hs : s.ok) :
    Calls Try.prog 18 #[.agg n.cs, .agg s.cs, .bool sd] w fun e w' => e = .returned (.bool (fitsB n s sd)) ∧ Below w.heap.size w w' := by
  cases sd
  · have hv : fitsB n s false = false := rfl
    rw [hv]
    obtain ⟨HN0, HS0⟩ := JN.two 25 w n s
    have HN := Lib.hid HN0
    have HS := Lib.hid HS0
    clear HN0 HS0
    obtain ⟨n0, n1, n2, n3, n4⟩ := HN.out.cells
    obtain ⟨s0, s1, s2, s3, s4, s5, s6⟩ := HS.out.cells
    unfold Nm.cs Sj.cs at *
    go_enter Try.func18, Try.ntmps18
    go_wp2_with fail
    go_ret
    exact ⟨rfl, HN.out.bel⟩
  by_cases h2 : s.fl = 2
  case neg =>
    have hv : fitsB n s true = false := by unfold fitsB; simp [h2]
    rw [hv]
    have h2' : ((s.fl : Int) == 2) = false := by rw [show (2 : Int) = ((2 : Nat) : Int) by rfl, fl_eq]; simp [h2]
    obtain ⟨HN0, HS0⟩ := JN.two 25 w n s
    have HN := Lib.hid HN0
    have HS := Lib.hid HS0
    clear HN0 HS0
    obtain ⟨n0, n1, n2, n3, n4⟩ := HN.out.cells
    obtain ⟨s0, s1, s2, s3, s4, s5, s6⟩ := HS.out.cells
    unfold Nm.cs Sj.cs at *
    go_enter Try.func18, Try.ntmps18
    go_wp2_with fail
    go_ret
    exact ⟨rfl, HN.out.bel⟩
  have h2' : ((s.fl : Int) == 2) = true := by rw [show (2 : Int) = ((2 : Nat) : Int) by rfl, fl_eq]; simp [h2]
  cases hn : nearB n s
  · have hv : fitsB n s true = false := by unfold fitsB; simp [hn]
    rw [hv]
    clear h2
    obtain ⟨HN0, HS0⟩ := JN.two 25 w n s
    have HN := Lib.hid HN0
    have HS := Lib.hid HS0
    clear HN0 HS0
    obtain ⟨n0, n1, n2, n3, n4⟩ := HN.out.cells
    obtain ⟨s0, s1, s2, s3, s4, s5, s6⟩ := HS.out.cells
    unfold Nm.cs Sj.cs at *
    go_enter Try.func18, Try.ntmps18
    go_wp2_with fail
    refine (near_any s.seq n.wt 1048576 _).mono ?_
    rintro e w1 ⟨rfl, rfl⟩
    rw [show (wi s.seq n.wt 1048576 || wi n.wt s.seq 1048576) = false by exact hn]
    go_wp2_with fail
    go_ret
    exact ⟨rfl, HN.out.bel⟩
  · have hv : fitsB n s true = ackB n s.ack := by unfold fitsB; simp [hn, h2]
    rw [hv]
    clear h2
    obtain ⟨HN0, HS0⟩ := JN.two 25 w n s
    have HN := Lib.hid HN0
    have HS := Lib.hid HS0
    clear HN0 HS0
    obtain ⟨n0, n1, n2, n3, n4⟩ := HN.out.cells
    obtain ⟨s0, s1, s2, s3, s4, s5, s6⟩ := HS.out.cells
    unfold Nm.cs Sj.cs at *
    go_enter Try.func18, Try.ntmps18
    go_wp2_with fail
    refine (near_any s.seq n.wt 1048576 _).mono ?_
    rintro e w1 ⟨rfl, rfl⟩
    rw [show (wi s.seq n.wt 1048576 || wi n.wt s.seq 1048576) = true by exact hn]
    go_wp2_with fail
    refine (jack_any n s.ack _).mono ?_
    rintro e w2 ⟨rfl, hb⟩
    have HN2 := Lib.hid (HN.out.into hb)
    have HS2 := Lib.hid (HS.out.into hb)
    clear hb n0 n1 n2 n3 n4 s0 s1 s2 s3 s4 s5 s6
    obtain ⟨n0, n1, n2, n3, n4⟩ := HN2.out.cells
    obtain ⟨s0, s1, s2, s3, s4, s5, s6⟩ := HS2.out.cells
    go_wp2_with fail
    go_ret
    exact ⟨rfl, HN2.out.bel⟩
end Go.Proofs.Ytllahldgkpbpoaa
