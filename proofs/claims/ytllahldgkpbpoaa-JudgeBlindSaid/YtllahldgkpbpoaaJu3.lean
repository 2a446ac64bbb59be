/- Package judge: its verdicts; the document's. -/
import Derived.Test.YtllahldgkpbpoaaJu0
namespace Go.Proofs.Ytllahldgkpbpoaa
open Go.RowKit
set_option linter.unusedVariables false
set_option linter.unusedSimpArgs false
set_option maxRecDepth 20000 in
set_option maxHeartbeats 1000000 in
theorem rf000 (n : Nm) (s : Sj) (sd : Bool) (w : World) (hn : n.ok) (hs : s.ok) (e1 : sd = false) (na : wi s.seq n.wt 1048576 = true) (ea : (s.ack == n.ak) = true) :
    Calls Try.prog 15 #[.agg n.cs, .agg s.cs, .bool sd] w fun e w' => e = .returned (.bool (fitsB n s sd)) ∧ Below w.heap.size w w' := by
  have hv : fitsB n s sd = false := by 
    unfold fitsB nearB ackB
    have hw3 : wi n.ak s.ack 1048576 = true := by rw [beqt ea]; exact wi_self hn.ak
    simp [e1, na, hw3]
  rw [hv]
  clear hv
  obtain ⟨HN0, HS0⟩ := JN.two 32 w n s
  have HN := Lib.hid HN0
  have HS := Lib.hid HS0
  have HOK := Lib.hid hs
  have NOK := Lib.hid hn
  clear HN0 HS0 hs hn
  obtain ⟨n0, n1, n2, n3, n4⟩ := HN.out.cells
  obtain ⟨s0, s1, s2, s3, s4, s5, s6⟩ := HS.out.cells
  unfold Nm.cs Sj.cs at *
  go_enter Try.func15, Try.ntmps15
  go_wp2_with fail
  refine (rwithin_any s.seq n.wt 1048576 _ (by first | exact HOK.out.seq | exact NOK.out.wt | exact NOK.out.ak) (by first | exact NOK.out.wt | exact HOK.out.seq | exact HOK.out.ack) (by unfold U32; omega)).mono ?_
  rintro e w1 ⟨rfl, rfl⟩
  rw [na]
  go_wp2_with fail
  go_ret
  exact ⟨rfl, HN.out.bel⟩
set_option maxRecDepth 20000 in
set_option maxHeartbeats 1000000 in
theorem rf001 (n : Nm) (s : Sj) (sd : Bool) (w : World) (hn : n.ok) (hs : s.ok) (e1 : sd = true) (f2 : ((s.fl : Int) == 2) = false) (na : wi s.seq n.wt 1048576 = true) (ea : (s.ack == n.ak) = true) :
    Calls Try.prog 15 #[.agg n.cs, .agg s.cs, .bool sd] w fun e w' => e = .returned (.bool (fitsB n s sd)) ∧ Below w.heap.size w w' := by
  have hv : fitsB n s sd = false := by 
    unfold fitsB nearB ackB
    have hw3 : wi n.ak s.ack 1048576 = true := by rw [beqt ea]; exact wi_self hn.ak
    simp [e1, fl_f (k := 2) f2, na, hw3]
  rw [hv]
  clear hv
  obtain ⟨HN0, HS0⟩ := JN.two 32 w n s
  have HN := Lib.hid HN0
  have HS := Lib.hid HS0
  have HOK := Lib.hid hs
  have NOK := Lib.hid hn
  clear HN0 HS0 hs hn
  obtain ⟨n0, n1, n2, n3, n4⟩ := HN.out.cells
  obtain ⟨s0, s1, s2, s3, s4, s5, s6⟩ := HS.out.cells
  unfold Nm.cs Sj.cs at *
  go_enter Try.func15, Try.ntmps15
  go_wp2_with fail
  refine (rwithin_any s.seq n.wt 1048576 _ (by first | exact HOK.out.seq | exact NOK.out.wt | exact NOK.out.ak) (by first | exact NOK.out.wt | exact HOK.out.seq | exact HOK.out.ack) (by unfold U32; omega)).mono ?_
  rintro e w1 ⟨rfl, rfl⟩
  rw [na]
  go_wp2_with fail
  go_ret
  exact ⟨rfl, HN.out.bel⟩
set_option maxRecDepth 20000 in
set_option maxHeartbeats 1000000 in
theorem rf002 (n : Nm) (s : Sj) (sd : Bool) (w : World) (hn : n.ok) (hs : s.ok) (e1 : sd = true) (f2 : ((s.fl : Int) == 2) = true) (na : wi s.seq n.wt 1048576 = true) (ea : (s.ack == n.ak) = true) :
    Calls Try.prog 15 #[.agg n.cs, .agg s.cs, .bool sd] w fun e w' => e = .returned (.bool (fitsB n s sd)) ∧ Below w.heap.size w w' := by
  have hv : fitsB n s sd = true := by 
    unfold fitsB nearB ackB
    have hw3 : wi n.ak s.ack 1048576 = true := by rw [beqt ea]; exact wi_self hn.ak
    simp [e1, fl_t (k := 2) f2, na, hw3]
  rw [hv]
  clear hv
  obtain ⟨HN0, HS0⟩ := JN.two 32 w n s
  have HN := Lib.hid HN0
  have HS := Lib.hid HS0
  have HOK := Lib.hid hs
  have NOK := Lib.hid hn
  clear HN0 HS0 hs hn
  obtain ⟨n0, n1, n2, n3, n4⟩ := HN.out.cells
  obtain ⟨s0, s1, s2, s3, s4, s5, s6⟩ := HS.out.cells
  unfold Nm.cs Sj.cs at *
  go_enter Try.func15, Try.ntmps15
  go_wp2_with fail
  refine (rwithin_any s.seq n.wt 1048576 _ (by first | exact HOK.out.seq | exact NOK.out.wt | exact NOK.out.ak) (by first | exact NOK.out.wt | exact HOK.out.seq | exact HOK.out.ack) (by unfold U32; omega)).mono ?_
  rintro e w1 ⟨rfl, rfl⟩
  rw [na]
  go_wp2_with fail
  go_ret
  exact ⟨rfl, HN.out.bel⟩
set_option maxRecDepth 20000 in
set_option maxHeartbeats 1000000 in
theorem rf010 (n : Nm) (s : Sj) (sd : Bool) (w : World) (hn : n.ok) (hs : s.ok) (e1 : sd = false) (na : wi s.seq n.wt 1048576 = true) (ea : (s.ack == n.ak) = false) (bb : btw s.ack n.ak n.nx = true) :
    Calls Try.prog 15 #[.agg n.cs, .agg s.cs, .bool sd] w fun e w' => e = .returned (.bool (fitsB n s sd)) ∧ Below w.heap.size w w' := by
  have hv : fitsB n s sd = false := by unfold fitsB nearB ackB; simp [e1, na, e1, bb]
  rw [hv]
  clear hv
  obtain ⟨HN0, HS0⟩ := JN.two 32 w n s
  have HN := Lib.hid HN0
  have HS := Lib.hid HS0
  have HOK := Lib.hid hs
  have NOK := Lib.hid hn
  clear HN0 HS0 hs hn
  obtain ⟨n0, n1, n2, n3, n4⟩ := HN.out.cells
  obtain ⟨s0, s1, s2, s3, s4, s5, s6⟩ := HS.out.cells
  unfold Nm.cs Sj.cs at *
  go_enter Try.func15, Try.ntmps15
  go_wp2_with fail
  refine (rwithin_any s.seq n.wt 1048576 _ (by first | exact HOK.out.seq | exact NOK.out.wt | exact NOK.out.ak) (by first | exact NOK.out.wt | exact HOK.out.seq | exact HOK.out.ack) (by unfold U32; omega)).mono ?_
  rintro e w1 ⟨rfl, rfl⟩
  rw [na]
  go_wp2_with fail
  refine (rbetween_any s.ack n.ak n.nx _ HOK.out.ack NOK.out.ak NOK.out.nx).mono ?_
  rintro e w2 ⟨rfl, rfl⟩
  rw [bb]
  go_wp2_with fail
  go_ret
  exact ⟨rfl, HN.out.bel⟩
set_option maxRecDepth 20000 in
set_option maxHeartbeats 1000000 in
theorem rf011 (n : Nm) (s : Sj) (sd : Bool) (w : World) (hn : n.ok) (hs : s.ok) (e1 : sd = true) (f2 : ((s.fl : Int) == 2) = false) (na : wi s.seq n.wt 1048576 = true) (ea : (s.ack == n.ak) = false) (bb : btw s.ack n.ak n.nx = true) :
    Calls Try.prog 15 #[.agg n.cs, .agg s.cs, .bool sd] w fun e w' => e = .returned (.bool (fitsB n s sd)) ∧ Below w.heap.size w w' := by
  have hv : fitsB n s sd = false := by unfold fitsB nearB ackB; simp [e1, fl_f (k := 2) f2, na, e1, bb]
  rw [hv]
  clear hv
  obtain ⟨HN0, HS0⟩ := JN.two 32 w n s
  have HN := Lib.hid HN0
  have HS := Lib.hid HS0
  have HOK := Lib.hid hs
  have NOK := Lib.hid hn
  clear HN0 HS0 hs hn
  obtain ⟨n0, n1, n2, n3, n4⟩ := HN.out.cells
  obtain ⟨s0, s1, s2, s3, s4, s5, s6⟩ := HS.out.cells
  unfold Nm.cs Sj.cs at *
  go_enter Try.func15, Try.ntmps15
  go_wp2_with fail
  refine (rwithin_any s.seq n.wt 1048576 _ (by first | exact HOK.out.seq | exact NOK.out.wt | exact NOK.out.ak) (by first | exact NOK.out.wt | exact HOK.out.seq | exact HOK.out.ack) (by unfold U32; omega)).mono ?_
  rintro e w1 ⟨rfl, rfl⟩
  rw [na]
  go_wp2_with fail
  refine (rbetween_any s.ack n.ak n.nx _ HOK.out.ack NOK.out.ak NOK.out.nx).mono ?_
  rintro e w2 ⟨rfl, rfl⟩
  rw [bb]
  go_wp2_with fail
  go_ret
  exact ⟨rfl, HN.out.bel⟩
set_option maxRecDepth 20000 in
set_option maxHeartbeats 1000000 in
theorem rf012 (n : Nm) (s : Sj) (sd : Bool) (w : World) (hn : n.ok) (hs : s.ok) (e1 : sd = true) (f2 : ((s.fl : Int) == 2) = true) (na : wi s.seq n.wt 1048576 = true) (ea : (s.ack == n.ak) = false) (bb : btw s.ack n.ak n.nx = true) :
    Calls Try.prog 15 #[.agg n.cs, .agg s.cs, .bool sd] w fun e w' => e = .returned (.bool (fitsB n s sd)) ∧ Below w.heap.size w w' := by
  have hv : fitsB n s sd = true := by unfold fitsB nearB ackB; simp [e1, fl_t (k := 2) f2, na, e1, bb]
  rw [hv]
  clear hv
  obtain ⟨HN0, HS0⟩ := JN.two 32 w n s
  have HN := Lib.hid HN0
  have HS := Lib.hid HS0
  have HOK := Lib.hid hs
  have NOK := Lib.hid hn
  clear HN0 HS0 hs hn
  obtain ⟨n0, n1, n2, n3, n4⟩ := HN.out.cells
  obtain ⟨s0, s1, s2, s3, s4, s5, s6⟩ := HS.out.cells
  unfold Nm.cs Sj.cs at *
  go_enter Try.func15, Try.ntmps15
  go_wp2_with fail
  refine (rwithin_any s.seq n.wt 1048576 _ (by first | exact HOK.out.seq | exact NOK.out.wt | exact NOK.out.ak) (by first | exact NOK.out.wt | exact HOK.out.seq | exact HOK.out.ack) (by unfold U32; omega)).mono ?_
  rintro e w1 ⟨rfl, rfl⟩
  rw [na]
  go_wp2_with fail
  refine (rbetween_any s.ack n.ak n.nx _ HOK.out.ack NOK.out.ak NOK.out.nx).mono ?_
  rintro e w2 ⟨rfl, rfl⟩
  rw [bb]
  go_wp2_with fail
  go_ret
  exact ⟨rfl, HN.out.bel⟩
set_option maxRecDepth 20000 in
set_option maxHeartbeats 1000000 in
theorem rf020 (n : Nm) (s : Sj) (sd : Bool) (w : World) (hn : n.ok) (hs : s.ok) (e1 : sd = false) (na : wi s.seq n.wt 1048576 = true) (ea : (s.ack == n.ak) = false) (bb : btw s.ack n.ak n.nx = false) (wb : wi n.ak s.ack 1048576 = true) :
    Calls Try.prog 15 #[.agg n.cs, .agg s.cs, .bool sd] w fun e w' => e = .returned (.bool (fitsB n s sd)) ∧ Below w.heap.size w w' := by
  have hv : fitsB n s sd = false := by unfold fitsB nearB ackB; simp [e1, na, e1, bb, wb]
  rw [hv]
  clear hv
  obtain ⟨HN0, HS0⟩ := JN.two 32 w n s
  have HN := Lib.hid HN0
  have HS := Lib.hid HS0
  have HOK := Lib.hid hs
  have NOK := Lib.hid hn
  clear HN0 HS0 hs hn
  obtain ⟨n0, n1, n2, n3, n4⟩ := HN.out.cells
  obtain ⟨s0, s1, s2, s3, s4, s5, s6⟩ := HS.out.cells
  unfold Nm.cs Sj.cs at *
  go_enter Try.func15, Try.ntmps15
  go_wp2_with fail
  refine (rwithin_any s.seq n.wt 1048576 _ (by first | exact HOK.out.seq | exact NOK.out.wt | exact NOK.out.ak) (by first | exact NOK.out.wt | exact HOK.out.seq | exact HOK.out.ack) (by unfold U32; omega)).mono ?_
  rintro e w1 ⟨rfl, rfl⟩
  rw [na]
  go_wp2_with fail
  refine (rbetween_any s.ack n.ak n.nx _ HOK.out.ack NOK.out.ak NOK.out.nx).mono ?_
  rintro e w2 ⟨rfl, rfl⟩
  rw [bb]
  go_wp2_with fail
  refine (rwithin_any n.ak s.ack 1048576 _ (by first | exact HOK.out.seq | exact NOK.out.wt | exact NOK.out.ak) (by first | exact NOK.out.wt | exact HOK.out.seq | exact HOK.out.ack) (by unfold U32; omega)).mono ?_
  rintro e w3 ⟨rfl, rfl⟩
  rw [wb]
  go_wp2_with fail
  go_ret
  exact ⟨rfl, HN.out.bel⟩
set_option maxRecDepth 20000 in
set_option maxHeartbeats 1000000 in
theorem rf021 (n : Nm) (s : Sj) (sd : Bool) (w : World) (hn : n.ok) (hs : s.ok) (e1 : sd = true) (f2 : ((s.fl : Int) == 2) = false) (na : wi s.seq n.wt 1048576 = true) (ea : (s.ack == n.ak) = false) (bb : btw s.ack n.ak n.nx = false) (wb : wi n.ak s.ack 1048576 = true) :
    Calls Try.prog 15 #[.agg n.cs, .agg s.cs, .bool sd] w fun e w' => e = .returned (.bool (fitsB n s sd)) ∧ Below w.heap.size w w' := by
  have hv : fitsB n s sd = false := by unfold fitsB nearB ackB; simp [e1, fl_f (k := 2) f2, na, e1, bb, wb]
  rw [hv]
  clear hv
  obtain ⟨HN0, HS0⟩ := JN.two 32 w n s
  have HN := Lib.hid HN0
  have HS := Lib.hid HS0
  have HOK := Lib.hid hs
  have NOK := Lib.hid hn
  clear HN0 HS0 hs hn
  obtain ⟨n0, n1, n2, n3, n4⟩ := HN.out.cells
  obtain ⟨s0, s1, s2, s3, s4, s5, s6⟩ := HS.out.cells
  unfold Nm.cs Sj.cs at *
  go_enter Try.func15, Try.ntmps15
  go_wp2_with fail
  refine (rwithin_any s.seq n.wt 1048576 _ (by first | exact HOK.out.seq | exact NOK.out.wt | exact NOK.out.ak) (by first | exact NOK.out.wt | exact HOK.out.seq | exact HOK.out.ack) (by unfold U32; omega)).mono ?_
  rintro e w1 ⟨rfl, rfl⟩
  rw [na]
  go_wp2_with fail
  refine (rbetween_any s.ack n.ak n.nx _ HOK.out.ack NOK.out.ak NOK.out.nx).mono ?_
  rintro e w2 ⟨rfl, rfl⟩
  rw [bb]
  go_wp2_with fail
  refine (rwithin_any n.ak s.ack 1048576 _ (by first | exact HOK.out.seq | exact NOK.out.wt | exact NOK.out.ak) (by first | exact NOK.out.wt | exact HOK.out.seq | exact HOK.out.ack) (by unfold U32; omega)).mono ?_
  rintro e w3 ⟨rfl, rfl⟩
  rw [wb]
  go_wp2_with fail
  go_ret
  exact ⟨rfl, HN.out.bel⟩
set_option maxRecDepth 20000 in
set_option maxHeartbeats 1000000 in
theorem rf022 (n : Nm) (s : Sj) (sd : Bool) (w : World) (hn : n.ok) (hs : s.ok) (e1 : sd = true) (f2 : ((s.fl : Int) == 2) = true) (na : wi s.seq n.wt 1048576 = true) (ea : (s.ack == n.ak) = false) (bb : btw s.ack n.ak n.nx = false) (wb : wi n.ak s.ack 1048576 = true) :
    Calls Try.prog 15 #[.agg n.cs, .agg s.cs, .bool sd] w fun e w' => e = .returned (.bool (fitsB n s sd)) ∧ Below w.heap.size w w' := by
  have hv : fitsB n s sd = true := by unfold fitsB nearB ackB; simp [e1, fl_t (k := 2) f2, na, e1, bb, wb]
  rw [hv]
  clear hv
  obtain ⟨HN0, HS0⟩ := JN.two 32 w n s
  have HN := Lib.hid HN0
  have HS := Lib.hid HS0
  have HOK := Lib.hid hs
  have NOK := Lib.hid hn
  clear HN0 HS0 hs hn
  obtain ⟨n0, n1, n2, n3, n4⟩ := HN.out.cells
  obtain ⟨s0, s1, s2, s3, s4, s5, s6⟩ := HS.out.cells
  unfold Nm.cs Sj.cs at *
  go_enter Try.func15, Try.ntmps15
  go_wp2_with fail
  refine (rwithin_any s.seq n.wt 1048576 _ (by first | exact HOK.out.seq | exact NOK.out.wt | exact NOK.out.ak) (by first | exact NOK.out.wt | exact HOK.out.seq | exact HOK.out.ack) (by unfold U32; omega)).mono ?_
  rintro e w1 ⟨rfl, rfl⟩
  rw [na]
  go_wp2_with fail
  refine (rbetween_any s.ack n.ak n.nx _ HOK.out.ack NOK.out.ak NOK.out.nx).mono ?_
  rintro e w2 ⟨rfl, rfl⟩
  rw [bb]
  go_wp2_with fail
  refine (rwithin_any n.ak s.ack 1048576 _ (by first | exact HOK.out.seq | exact NOK.out.wt | exact NOK.out.ak) (by first | exact NOK.out.wt | exact HOK.out.seq | exact HOK.out.ack) (by unfold U32; omega)).mono ?_
  rintro e w3 ⟨rfl, rfl⟩
  rw [wb]
  go_wp2_with fail
  go_ret
  exact ⟨rfl, HN.out.bel⟩
set_option maxRecDepth 20000 in
set_option maxHeartbeats 1000000 in
theorem rf030 (n : Nm) (s : Sj) (sd : Bool) (w : World) (hn : n.ok) (hs : s.ok) (e1 : sd = false) (na : wi s.seq n.wt 1048576 = true) (ea : (s.ack == n.ak) = false) (bb : btw s.ack n.ak n.nx = false) (wb : wi n.ak s.ack 1048576 = false) :
    Calls Try.prog 15 #[.agg n.cs, .agg s.cs, .bool sd] w fun e w' => e = .returned (.bool (fitsB n s sd)) ∧ Below w.heap.size w w' := by
  have hv : fitsB n s sd = false := by unfold fitsB nearB ackB; simp [e1, na, e1, bb, wb]
  rw [hv]
  clear hv
  obtain ⟨HN0, HS0⟩ := JN.two 32 w n s
  have HN := Lib.hid HN0
  have HS := Lib.hid HS0
  have HOK := Lib.hid hs
  have NOK := Lib.hid hn
  clear HN0 HS0 hs hn
  obtain ⟨n0, n1, n2, n3, n4⟩ := HN.out.cells
  obtain ⟨s0, s1, s2, s3, s4, s5, s6⟩ := HS.out.cells
  unfold Nm.cs Sj.cs at *
  go_enter Try.func15, Try.ntmps15
  go_wp2_with fail
  refine (rwithin_any s.seq n.wt 1048576 _ (by first | exact HOK.out.seq | exact NOK.out.wt | exact NOK.out.ak) (by first | exact NOK.out.wt | exact HOK.out.seq | exact HOK.out.ack) (by unfold U32; omega)).mono ?_
  rintro e w1 ⟨rfl, rfl⟩
  rw [na]
  go_wp2_with fail
  refine (rbetween_any s.ack n.ak n.nx _ HOK.out.ack NOK.out.ak NOK.out.nx).mono ?_
  rintro e w2 ⟨rfl, rfl⟩
  rw [bb]
  go_wp2_with fail
  refine (rwithin_any n.ak s.ack 1048576 _ (by first | exact HOK.out.seq | exact NOK.out.wt | exact NOK.out.ak) (by first | exact NOK.out.wt | exact HOK.out.seq | exact HOK.out.ack) (by unfold U32; omega)).mono ?_
  rintro e w3 ⟨rfl, rfl⟩
  rw [wb]
  go_wp2_with fail
  go_ret
  exact ⟨rfl, HN.out.bel⟩
set_option maxRecDepth 20000 in
set_option maxHeartbeats 1000000 in
theorem rf031 (n : Nm) (s : Sj) (sd : Bool) (w : World) (hn : n.ok) (hs : s.ok) (e1 : sd = true) (f2 : ((s.fl : Int) == 2) = false) (na : wi s.seq n.wt 1048576 = true) (ea : (s.ack == n.ak) = false) (bb : btw s.ack n.ak n.nx = false) (wb : wi n.ak s.ack 1048576 = false) :
    Calls Try.prog 15 #[.agg n.cs, .agg s.cs, .bool sd] w fun e w' => e = .returned (.bool (fitsB n s sd)) ∧ Below w.heap.size w w' := by
  have hv : fitsB n s sd = false := by unfold fitsB nearB ackB; simp [e1, fl_f (k := 2) f2, na, e1, bb, wb]
  rw [hv]
  clear hv
  obtain ⟨HN0, HS0⟩ := JN.two 32 w n s
  have HN := Lib.hid HN0
  have HS := Lib.hid HS0
  have HOK := Lib.hid hs
  have NOK := Lib.hid hn
  clear HN0 HS0 hs hn
  obtain ⟨n0, n1, n2, n3, n4⟩ := HN.out.cells
  obtain ⟨s0, s1, s2, s3, s4, s5, s6⟩ := HS.out.cells
  unfold Nm.cs Sj.cs at *
  go_enter Try.func15, Try.ntmps15
  go_wp2_with fail
  refine (rwithin_any s.seq n.wt 1048576 _ (by first | exact HOK.out.seq | exact NOK.out.wt | exact NOK.out.ak) (by first | exact NOK.out.wt | exact HOK.out.seq | exact HOK.out.ack) (by unfold U32; omega)).mono ?_
  rintro e w1 ⟨rfl, rfl⟩
  rw [na]
  go_wp2_with fail
  refine (rbetween_any s.ack n.ak n.nx _ HOK.out.ack NOK.out.ak NOK.out.nx).mono ?_
  rintro e w2 ⟨rfl, rfl⟩
  rw [bb]
  go_wp2_with fail
  refine (rwithin_any n.ak s.ack 1048576 _ (by first | exact HOK.out.seq | exact NOK.out.wt | exact NOK.out.ak) (by first | exact NOK.out.wt | exact HOK.out.seq | exact HOK.out.ack) (by unfold U32; omega)).mono ?_
  rintro e w3 ⟨rfl, rfl⟩
  rw [wb]
  go_wp2_with fail
  go_ret
  exact ⟨rfl, HN.out.bel⟩
set_option maxRecDepth 20000 in
set_option maxHeartbeats 1000000 in
theorem rf032 (n : Nm) (s : Sj) (sd : Bool) (w : World) (hn : n.ok) (hs : s.ok) (e1 : sd = true) (f2 : ((s.fl : Int) == 2) = true) (na : wi s.seq n.wt 1048576 = true) (ea : (s.ack == n.ak) = false) (bb : btw s.ack n.ak n.nx = false) (wb : wi n.ak s.ack 1048576 = false) :
    Calls Try.prog 15 #[.agg n.cs, .agg s.cs, .bool sd] w fun e w' => e = .returned (.bool (fitsB n s sd)) ∧ Below w.heap.size w w' := by
  have hv : fitsB n s sd = false := by unfold fitsB nearB ackB; simp [e1, fl_t (k := 2) f2, na, e1, bb, wb]
  rw [hv]
  clear hv
  obtain ⟨HN0, HS0⟩ := JN.two 32 w n s
  have HN := Lib.hid HN0
  have HS := Lib.hid HS0
  have HOK := Lib.hid hs
  have NOK := Lib.hid hn
  clear HN0 HS0 hs hn
  obtain ⟨n0, n1, n2, n3, n4⟩ := HN.out.cells
  obtain ⟨s0, s1, s2, s3, s4, s5, s6⟩ := HS.out.cells
  unfold Nm.cs Sj.cs at *
  go_enter Try.func15, Try.ntmps15
  go_wp2_with fail
  refine (rwithin_any s.seq n.wt 1048576 _ (by first | exact HOK.out.seq | exact NOK.out.wt | exact NOK.out.ak) (by first | exact NOK.out.wt | exact HOK.out.seq | exact HOK.out.ack) (by unfold U32; omega)).mono ?_
  rintro e w1 ⟨rfl, rfl⟩
  rw [na]
  go_wp2_with fail
  refine (rbetween_any s.ack n.ak n.nx _ HOK.out.ack NOK.out.ak NOK.out.nx).mono ?_
  rintro e w2 ⟨rfl, rfl⟩
  rw [bb]
  go_wp2_with fail
  refine (rwithin_any n.ak s.ack 1048576 _ (by first | exact HOK.out.seq | exact NOK.out.wt | exact NOK.out.ak) (by first | exact NOK.out.wt | exact HOK.out.seq | exact HOK.out.ack) (by unfold U32; omega)).mono ?_
  rintro e w3 ⟨rfl, rfl⟩
  rw [wb]
  go_wp2_with fail
  go_ret
  exact ⟨rfl, HN.out.bel⟩
set_option maxRecDepth 20000 in
set_option maxHeartbeats 1000000 in
theorem rf100 (n : Nm) (s : Sj) (sd : Bool) (w : World) (hn : n.ok) (hs : s.ok) (e1 : sd = false) (na : wi s.seq n.wt 1048576 = false) (nb : wi n.wt s.seq 1048576 = true) (ea : (s.ack == n.ak) = true) :
    Calls Try.prog 15 #[.agg n.cs, .agg s.cs, .bool sd] w fun e w' => e = .returned (.bool (fitsB n s sd)) ∧ Below w.heap.size w w' := by
  have hv : fitsB n s sd = false := by 
    unfold fitsB nearB ackB
    have hw3 : wi n.ak s.ack 1048576 = true := by rw [beqt ea]; exact wi_self hn.ak
    simp [e1, na, nb, hw3]
  rw [hv]
  clear hv
  obtain ⟨HN0, HS0⟩ := JN.two 32 w n s
  have HN := Lib.hid HN0
  have HS := Lib.hid HS0
  have HOK := Lib.hid hs
  have NOK := Lib.hid hn
  clear HN0 HS0 hs hn
  obtain ⟨n0, n1, n2, n3, n4⟩ := HN.out.cells
  obtain ⟨s0, s1, s2, s3, s4, s5, s6⟩ := HS.out.cells
  unfold Nm.cs Sj.cs at *
  go_enter Try.func15, Try.ntmps15
  go_wp2_with fail
  refine (rwithin_any s.seq n.wt 1048576 _ (by first | exact HOK.out.seq | exact NOK.out.wt | exact NOK.out.ak) (by first | exact NOK.out.wt | exact HOK.out.seq | exact HOK.out.ack) (by unfold U32; omega)).mono ?_
  rintro e w1 ⟨rfl, rfl⟩
  rw [na]
  go_wp2_with fail
  refine (rwithin_any n.wt s.seq 1048576 _ (by first | exact HOK.out.seq | exact NOK.out.wt | exact NOK.out.ak) (by first | exact NOK.out.wt | exact HOK.out.seq | exact HOK.out.ack) (by unfold U32; omega)).mono ?_
  rintro e w2 ⟨rfl, rfl⟩
  rw [nb]
  go_wp2_with fail
  go_ret
  exact ⟨rfl, HN.out.bel⟩
set_option maxRecDepth 20000 in
set_option maxHeartbeats 1000000 in
theorem rf101 (n : Nm) (s : Sj) (sd : Bool) (w : World) (hn : n.ok) (hs : s.ok) (e1 : sd = true) (f2 : ((s.fl : Int) == 2) = false) (na : wi s.seq n.wt 1048576 = false) (nb : wi n.wt s.seq 1048576 = true) (ea : (s.ack == n.ak) = true) :
    Calls Try.prog 15 #[.agg n.cs, .agg s.cs, .bool sd] w fun e w' => e = .returned (.bool (fitsB n s sd)) ∧ Below w.heap.size w w' := by
  have hv : fitsB n s sd = false := by 
    unfold fitsB nearB ackB
    have hw3 : wi n.ak s.ack 1048576 = true := by rw [beqt ea]; exact wi_self hn.ak
    simp [e1, fl_f (k := 2) f2, na, nb, hw3]
  rw [hv]
  clear hv
  obtain ⟨HN0, HS0⟩ := JN.two 32 w n s
  have HN := Lib.hid HN0
  have HS := Lib.hid HS0
  have HOK := Lib.hid hs
  have NOK := Lib.hid hn
  clear HN0 HS0 hs hn
  obtain ⟨n0, n1, n2, n3, n4⟩ := HN.out.cells
  obtain ⟨s0, s1, s2, s3, s4, s5, s6⟩ := HS.out.cells
  unfold Nm.cs Sj.cs at *
  go_enter Try.func15, Try.ntmps15
  go_wp2_with fail
  refine (rwithin_any s.seq n.wt 1048576 _ (by first | exact HOK.out.seq | exact NOK.out.wt | exact NOK.out.ak) (by first | exact NOK.out.wt | exact HOK.out.seq | exact HOK.out.ack) (by unfold U32; omega)).mono ?_
  rintro e w1 ⟨rfl, rfl⟩
  rw [na]
  go_wp2_with fail
  refine (rwithin_any n.wt s.seq 1048576 _ (by first | exact HOK.out.seq | exact NOK.out.wt | exact NOK.out.ak) (by first | exact NOK.out.wt | exact HOK.out.seq | exact HOK.out.ack) (by unfold U32; omega)).mono ?_
  rintro e w2 ⟨rfl, rfl⟩
  rw [nb]
  go_wp2_with fail
  go_ret
  exact ⟨rfl, HN.out.bel⟩
set_option maxRecDepth 20000 in
set_option maxHeartbeats 1000000 in
theorem rf102 (n : Nm) (s : Sj) (sd : Bool) (w : World) (hn : n.ok) (hs : s.ok) (e1 : sd = true) (f2 : ((s.fl : Int) == 2) = true) (na : wi s.seq n.wt 1048576 = false) (nb : wi n.wt s.seq 1048576 = true) (ea : (s.ack == n.ak) = true) :
    Calls Try.prog 15 #[.agg n.cs, .agg s.cs, .bool sd] w fun e w' => e = .returned (.bool (fitsB n s sd)) ∧ Below w.heap.size w w' := by
  have hv : fitsB n s sd = true := by 
    unfold fitsB nearB ackB
    have hw3 : wi n.ak s.ack 1048576 = true := by rw [beqt ea]; exact wi_self hn.ak
    simp [e1, fl_t (k := 2) f2, na, nb, hw3]
  rw [hv]
  clear hv
  obtain ⟨HN0, HS0⟩ := JN.two 32 w n s
  have HN := Lib.hid HN0
  have HS := Lib.hid HS0
  have HOK := Lib.hid hs
  have NOK := Lib.hid hn
  clear HN0 HS0 hs hn
  obtain ⟨n0, n1, n2, n3, n4⟩ := HN.out.cells
  obtain ⟨s0, s1, s2, s3, s4, s5, s6⟩ := HS.out.cells
  unfold Nm.cs Sj.cs at *
  go_enter Try.func15, Try.ntmps15
  go_wp2_with fail
  refine (rwithin_any s.seq n.wt 1048576 _ (by first | exact HOK.out.seq | exact NOK.out.wt | exact NOK.out.ak) (by first | exact NOK.out.wt | exact HOK.out.seq | exact HOK.out.ack) (by unfold U32; omega)).mono ?_
  rintro e w1 ⟨rfl, rfl⟩
  rw [na]
  go_wp2_with fail
  refine (rwithin_any n.wt s.seq 1048576 _ (by first | exact HOK.out.seq | exact NOK.out.wt | exact NOK.out.ak) (by first | exact NOK.out.wt | exact HOK.out.seq | exact HOK.out.ack) (by unfold U32; omega)).mono ?_
  rintro e w2 ⟨rfl, rfl⟩
  rw [nb]
  go_wp2_with fail
  go_ret
  exact ⟨rfl, HN.out.bel⟩
set_option maxRecDepth 20000 in
set_option maxHeartbeats 1000000 in
theorem rf110 (n : Nm) (s : Sj) (sd : Bool) (w : World) (hn : n.ok) (hs : s.ok) (e1 : sd = false) (na : wi s.seq n.wt 1048576 = false) (nb : wi n.wt s.seq 1048576 = true) (ea : (s.ack == n.ak) = false) (bb : btw s.ack n.ak n.nx = true) :
    Calls Try.prog 15 #[.agg n.cs, .agg s.cs, .bool sd] w fun e w' => e = .returned (.bool (fitsB n s sd)) ∧ Below w.heap.size w w' := by
  have hv : fitsB n s sd = false := by unfold fitsB nearB ackB; simp [e1, na, nb, e1, bb]
  rw [hv]
  clear hv
  obtain ⟨HN0, HS0⟩ := JN.two 32 w n s
  have HN := Lib.hid HN0
  have HS := Lib.hid HS0
  have HOK := Lib.hid hs
  have NOK := Lib.hid hn
  clear HN0 HS0 hs hn
  obtain ⟨n0, n1, n2, n3, n4⟩ := HN.out.cells
  obtain ⟨s0, s1, s2, s3, s4, s5, s6⟩ := HS.out.cells
  unfold Nm.cs Sj.cs at *
  go_enter Try.func15, Try.ntmps15
  go_wp2_with fail
  refine (rwithin_any s.seq n.wt 1048576 _ (by first | exact HOK.out.seq | exact NOK.out.wt | exact NOK.out.ak) (by first | exact NOK.out.wt | exact HOK.out.seq | exact HOK.out.ack) (by unfold U32; omega)).mono ?_
  rintro e w1 ⟨rfl, rfl⟩
  rw [na]
  go_wp2_with fail
  refine (rwithin_any n.wt s.seq 1048576 _ (by first | exact HOK.out.seq | exact NOK.out.wt | exact NOK.out.ak) (by first | exact NOK.out.wt | exact HOK.out.seq | exact HOK.out.ack) (by unfold U32; omega)).mono ?_
  rintro e w2 ⟨rfl, rfl⟩
  rw [nb]
  go_wp2_with fail
  refine (rbetween_any s.ack n.ak n.nx _ HOK.out.ack NOK.out.ak NOK.out.nx).mono ?_
  rintro e w3 ⟨rfl, rfl⟩
  rw [bb]
  go_wp2_with fail
  go_ret
  exact ⟨rfl, HN.out.bel⟩
set_option maxRecDepth 20000 in
set_option maxHeartbeats 1000000 in
theorem rf111 (n : Nm) (s : Sj) (sd : Bool) (w : World) (hn : n.ok) (hs : s.ok) (e1 : sd = true) (f2 : ((s.fl : Int) == 2) = false) (na : wi s.seq n.wt 1048576 = false) (nb : wi n.wt s.seq 1048576 = true) (ea : (s.ack == n.ak) = false) (bb : btw s.ack n.ak n.nx = true) :
    Calls Try.prog 15 #[.agg n.cs, .agg s.cs, .bool sd] w fun e w' => e = .returned (.bool (fitsB n s sd)) ∧ Below w.heap.size w w' := by
  have hv : fitsB n s sd = false := by unfold fitsB nearB ackB; simp [e1, fl_f (k := 2) f2, na, nb, e1, bb]
  rw [hv]
  clear hv
  obtain ⟨HN0, HS0⟩ := JN.two 32 w n s
  have HN := Lib.hid HN0
  have HS := Lib.hid HS0
  have HOK := Lib.hid hs
  have NOK := Lib.hid hn
  clear HN0 HS0 hs hn
  obtain ⟨n0, n1, n2, n3, n4⟩ := HN.out.cells
  obtain ⟨s0, s1, s2, s3, s4, s5, s6⟩ := HS.out.cells
  unfold Nm.cs Sj.cs at *
  go_enter Try.func15, Try.ntmps15
  go_wp2_with fail
  refine (rwithin_any s.seq n.wt 1048576 _ (by first | exact HOK.out.seq | exact NOK.out.wt | exact NOK.out.ak) (by first | exact NOK.out.wt | exact HOK.out.seq | exact HOK.out.ack) (by unfold U32; omega)).mono ?_
  rintro e w1 ⟨rfl, rfl⟩
  rw [na]
  go_wp2_with fail
  refine (rwithin_any n.wt s.seq 1048576 _ (by first | exact HOK.out.seq | exact NOK.out.wt | exact NOK.out.ak) (by first | exact NOK.out.wt | exact HOK.out.seq | exact HOK.out.ack) (by unfold U32; omega)).mono ?_
  rintro e w2 ⟨rfl, rfl⟩
  rw [nb]
  go_wp2_with fail
  refine (rbetween_any s.ack n.ak n.nx _ HOK.out.ack NOK.out.ak NOK.out.nx).mono ?_
  rintro e w3 ⟨rfl, rfl⟩
  rw [bb]
  go_wp2_with fail
  go_ret
  exact ⟨rfl, HN.out.bel⟩
set_option maxRecDepth 20000 in
set_option maxHeartbeats 1000000 in
theorem rf112 (n : Nm) (s : Sj) (sd : Bool) (w : World) (hn : n.ok) (hs : s.ok) (e1 : sd = true) (f2 : ((s.fl : Int) == 2) = true) (na : wi s.seq n.wt 1048576 = false) (nb : wi n.wt s.seq 1048576 = true) (ea : (s.ack == n.ak) = false) (bb : btw s.ack n.ak n.nx = true) :
    Calls Try.prog 15 #[.agg n.cs, .agg s.cs, .bool sd] w fun e w' => e = .returned (.bool (fitsB n s sd)) ∧ Below w.heap.size w w' := by
  have hv : fitsB n s sd = true := by unfold fitsB nearB ackB; simp [e1, fl_t (k := 2) f2, na, nb, e1, bb]
  rw [hv]
  clear hv
  obtain ⟨HN0, HS0⟩ := JN.two 32 w n s
  have HN := Lib.hid HN0
  have HS := Lib.hid HS0
  have HOK := Lib.hid hs
  have NOK := Lib.hid hn
  clear HN0 HS0 hs hn
  obtain ⟨n0, n1, n2, n3, n4⟩ := HN.out.cells
  obtain ⟨s0, s1, s2, s3, s4, s5, s6⟩ := HS.out.cells
  unfold Nm.cs Sj.cs at *
  go_enter Try.func15, Try.ntmps15
  go_wp2_with fail
  refine (rwithin_any s.seq n.wt 1048576 _ (by first | exact HOK.out.seq | exact NOK.out.wt | exact NOK.out.ak) (by first | exact NOK.out.wt | exact HOK.out.seq | exact HOK.out.ack) (by unfold U32; omega)).mono ?_
  rintro e w1 ⟨rfl, rfl⟩
  rw [na]
  go_wp2_with fail
  refine (rwithin_any n.wt s.seq 1048576 _ (by first | exact HOK.out.seq | exact NOK.out.wt | exact NOK.out.ak) (by first | exact NOK.out.wt | exact HOK.out.seq | exact HOK.out.ack) (by unfold U32; omega)).mono ?_
  rintro e w2 ⟨rfl, rfl⟩
  rw [nb]
  go_wp2_with fail
  refine (rbetween_any s.ack n.ak n.nx _ HOK.out.ack NOK.out.ak NOK.out.nx).mono ?_
  rintro e w3 ⟨rfl, rfl⟩
  rw [bb]
  go_wp2_with fail
  go_ret
  exact ⟨rfl, HN.out.bel⟩
set_option maxRecDepth 20000 in
set_option maxHeartbeats 1000000 in
theorem rf120 (n : Nm) (s : Sj) (sd : Bool) (w : World) (hn : n.ok) (hs : s.ok) (e1 : sd = false) (na : wi s.seq n.wt 1048576 = false) (nb : wi n.wt s.seq 1048576 = true) (ea : (s.ack == n.ak) = false) (bb : btw s.ack n.ak n.nx = false) (wb : wi n.ak s.ack 1048576 = true) :
    Calls Try.prog 15 #[.agg n.cs, .agg s.cs, .bool sd] w fun e w' => e = .returned (.bool (fitsB n s sd)) ∧ Below w.heap.size w w' := by
  have hv : fitsB n s sd = false := by unfold fitsB nearB ackB; simp [e1, na, nb, e1, bb, wb]
  rw [hv]
  clear hv
  obtain ⟨HN0, HS0⟩ := JN.two 32 w n s
  have HN := Lib.hid HN0
  have HS := Lib.hid HS0
  have HOK := Lib.hid hs
  have NOK := Lib.hid hn
  clear HN0 HS0 hs hn
  obtain ⟨n0, n1, n2, n3, n4⟩ := HN.out.cells
  obtain ⟨s0, s1, s2, s3, s4, s5, s6⟩ := HS.out.cells
  unfold Nm.cs Sj.cs at *
  go_enter Try.func15, Try.ntmps15
  go_wp2_with fail
  refine (rwithin_any s.seq n.wt 1048576 _ (by first | exact HOK.out.seq | exact NOK.out.wt | exact NOK.out.ak) (by first | exact NOK.out.wt | exact HOK.out.seq | exact HOK.out.ack) (by unfold U32; omega)).mono ?_
  rintro e w1 ⟨rfl, rfl⟩
  rw [na]
  go_wp2_with fail
  refine (rwithin_any n.wt s.seq 1048576 _ (by first | exact HOK.out.seq | exact NOK.out.wt | exact NOK.out.ak) (by first | exact NOK.out.wt | exact HOK.out.seq | exact HOK.out.ack) (by unfold U32; omega)).mono ?_
  rintro e w2 ⟨rfl, rfl⟩
  rw [nb]
  go_wp2_with fail
  refine (rbetween_any s.ack n.ak n.nx _ HOK.out.ack NOK.out.ak NOK.out.nx).mono ?_
  rintro e w3 ⟨rfl, rfl⟩
  rw [bb]
  go_wp2_with fail
  refine (rwithin_any n.ak s.ack 1048576 _ (by first | exact HOK.out.seq | exact NOK.out.wt | exact NOK.out.ak) (by first | exact NOK.out.wt | exact HOK.out.seq | exact HOK.out.ack) (by unfold U32; omega)).mono ?_
  rintro e w4 ⟨rfl, rfl⟩
  rw [wb]
  go_wp2_with fail
  go_ret
  exact ⟨rfl, HN.out.bel⟩
set_option maxRecDepth 20000 in
set_option maxHeartbeats 1000000 in
theorem rf121 (n : Nm) (s : Sj) (sd : Bool) (w : World) (hn : n.ok) (hs : s.ok) (e1 : sd = true) (f2 : ((s.fl : Int) == 2) = false) (na : wi s.seq n.wt 1048576 = false) (nb : wi n.wt s.seq 1048576 = true) (ea : (s.ack == n.ak) = false) (bb : btw s.ack n.ak n.nx = false) (wb : wi n.ak s.ack 1048576 = true) :
    Calls Try.prog 15 #[.agg n.cs, .agg s.cs, .bool sd] w fun e w' => e = .returned (.bool (fitsB n s sd)) ∧ Below w.heap.size w w' := by
  have hv : fitsB n s sd = false := by unfold fitsB nearB ackB; simp [e1, fl_f (k := 2) f2, na, nb, e1, bb, wb]
  rw [hv]
  clear hv
  obtain ⟨HN0, HS0⟩ := JN.two 32 w n s
  have HN := Lib.hid HN0
  have HS := Lib.hid HS0
  have HOK := Lib.hid hs
  have NOK := Lib.hid hn
  clear HN0 HS0 hs hn
  obtain ⟨n0, n1, n2, n3, n4⟩ := HN.out.cells
  obtain ⟨s0, s1, s2, s3, s4, s5, s6⟩ := HS.out.cells
  unfold Nm.cs Sj.cs at *
  go_enter Try.func15, Try.ntmps15
  go_wp2_with fail
  refine (rwithin_any s.seq n.wt 1048576 _ (by first | exact HOK.out.seq | exact NOK.out.wt | exact NOK.out.ak) (by first | exact NOK.out.wt | exact HOK.out.seq | exact HOK.out.ack) (by unfold U32; omega)).mono ?_
  rintro e w1 ⟨rfl, rfl⟩
  rw [na]
  go_wp2_with fail
  refine (rwithin_any n.wt s.seq 1048576 _ (by first | exact HOK.out.seq | exact NOK.out.wt | exact NOK.out.ak) (by first | exact NOK.out.wt | exact HOK.out.seq | exact HOK.out.ack) (by unfold U32; omega)).mono ?_
  rintro e w2 ⟨rfl, rfl⟩
  rw [nb]
  go_wp2_with fail
  refine (rbetween_any s.ack n.ak n.nx _ HOK.out.ack NOK.out.ak NOK.out.nx).mono ?_
  rintro e w3 ⟨rfl, rfl⟩
  rw [bb]
  go_wp2_with fail
  refine (rwithin_any n.ak s.ack 1048576 _ (by first | exact HOK.out.seq | exact NOK.out.wt | exact NOK.out.ak) (by first | exact NOK.out.wt | exact HOK.out.seq | exact HOK.out.ack) (by unfold U32; omega)).mono ?_
  rintro e w4 ⟨rfl, rfl⟩
  rw [wb]
  go_wp2_with fail
  go_ret
  exact ⟨rfl, HN.out.bel⟩
set_option maxRecDepth 20000 in
set_option maxHeartbeats 1000000 in
theorem rf122 (n : Nm) (s : Sj) (sd : Bool) (w : World) (hn : n.ok) (hs : s.ok) (e1 : sd = true) (f2 : ((s.fl : Int) == 2) = true) (na : wi s.seq n.wt 1048576 = false) (nb : wi n.wt s.seq 1048576 = true) (ea : (s.ack == n.ak) = false) (bb : btw s.ack n.ak n.nx = false) (wb : wi n.ak s.ack 1048576 = true) :
    Calls Try.prog 15 #[.agg n.cs, .agg s.cs, .bool sd] w fun e w' => e = .returned (.bool (fitsB n s sd)) ∧ Below w.heap.size w w' := by
  have hv : fitsB n s sd = true := by unfold fitsB nearB ackB; simp [e1, fl_t (k := 2) f2, na, nb, e1, bb, wb]
  rw [hv]
  clear hv
  obtain ⟨HN0, HS0⟩ := JN.two 32 w n s
  have HN := Lib.hid HN0
  have HS := Lib.hid HS0
  have HOK := Lib.hid hs
  have NOK := Lib.hid hn
  clear HN0 HS0 hs hn
  obtain ⟨n0, n1, n2, n3, n4⟩ := HN.out.cells
  obtain ⟨s0, s1, s2, s3, s4, s5, s6⟩ := HS.out.cells
  unfold Nm.cs Sj.cs at *
  go_enter Try.func15, Try.ntmps15
  go_wp2_with fail
  refine (rwithin_any s.seq n.wt 1048576 _ (by first | exact HOK.out.seq | exact NOK.out.wt | exact NOK.out.ak) (by first | exact NOK.out.wt | exact HOK.out.seq | exact HOK.out.ack) (by unfold U32; omega)).mono ?_
  rintro e w1 ⟨rfl, rfl⟩
  rw [na]
  go_wp2_with fail
  refine (rwithin_any n.wt s.seq 1048576 _ (by first | exact HOK.out.seq | exact NOK.out.wt | exact NOK.out.ak) (by first | exact NOK.out.wt | exact HOK.out.seq | exact HOK.out.ack) (by unfold U32; omega)).mono ?_
  rintro e w2 ⟨rfl, rfl⟩
  rw [nb]
  go_wp2_with fail
  refine (rbetween_any s.ack n.ak n.nx _ HOK.out.ack NOK.out.ak NOK.out.nx).mono ?_
  rintro e w3 ⟨rfl, rfl⟩
  rw [bb]
  go_wp2_with fail
  refine (rwithin_any n.ak s.ack 1048576 _ (by first | exact HOK.out.seq | exact NOK.out.wt | exact NOK.out.ak) (by first | exact NOK.out.wt | exact HOK.out.seq | exact HOK.out.ack) (by unfold U32; omega)).mono ?_
  rintro e w4 ⟨rfl, rfl⟩
  rw [wb]
  go_wp2_with fail
  go_ret
  exact ⟨rfl, HN.out.bel⟩
set_option maxRecDepth 20000 in
set_option maxHeartbeats 1000000 in
theorem rf130 (n : Nm) (s : Sj) (sd : Bool) (w : World) (hn : n.ok) (hs : s.ok) (e1 : sd = false) (na : wi s.seq n.wt 1048576 = false) (nb : wi n.wt s.seq 1048576 = true) (ea : (s.ack == n.ak) = false) (bb : btw s.ack n.ak n.nx = false) (wb : wi n.ak s.ack 1048576 = false) :
    Calls Try.prog 15 #[.agg n.cs, .agg s.cs, .bool sd] w fun e w' => e = .returned (.bool (fitsB n s sd)) ∧ Below w.heap.size w w' := by
  have hv : fitsB n s sd = false := by unfold fitsB nearB ackB; simp [e1, na, nb, e1, bb, wb]
  rw [hv]
  clear hv
  obtain ⟨HN0, HS0⟩ := JN.two 32 w n s
  have HN := Lib.hid HN0
  have HS := Lib.hid HS0
  have HOK := Lib.hid hs
  have NOK := Lib.hid hn
  clear HN0 HS0 hs hn
  obtain ⟨n0, n1, n2, n3, n4⟩ := HN.out.cells
  obtain ⟨s0, s1, s2, s3, s4, s5, s6⟩ := HS.out.cells
  unfold Nm.cs Sj.cs at *
  go_enter Try.func15, Try.ntmps15
  go_wp2_with fail
  refine (rwithin_any s.seq n.wt 1048576 _ (by first | exact HOK.out.seq | exact NOK.out.wt | exact NOK.out.ak) (by first | exact NOK.out.wt | exact HOK.out.seq | exact HOK.out.ack) (by unfold U32; omega)).mono ?_
  rintro e w1 ⟨rfl, rfl⟩
  rw [na]
  go_wp2_with fail
  refine (rwithin_any n.wt s.seq 1048576 _ (by first | exact HOK.out.seq | exact NOK.out.wt | exact NOK.out.ak) (by first | exact NOK.out.wt | exact HOK.out.seq | exact HOK.out.ack) (by unfold U32; omega)).mono ?_
  rintro e w2 ⟨rfl, rfl⟩
  rw [nb]
  go_wp2_with fail
  refine (rbetween_any s.ack n.ak n.nx _ HOK.out.ack NOK.out.ak NOK.out.nx).mono ?_
  rintro e w3 ⟨rfl, rfl⟩
  rw [bb]
  go_wp2_with fail
  refine (rwithin_any n.ak s.ack 1048576 _ (by first | exact HOK.out.seq | exact NOK.out.wt | exact NOK.out.ak) (by first | exact NOK.out.wt | exact HOK.out.seq | exact HOK.out.ack) (by unfold U32; omega)).mono ?_
  rintro e w4 ⟨rfl, rfl⟩
  rw [wb]
  go_wp2_with fail
  go_ret
  exact ⟨rfl, HN.out.bel⟩
set_option maxRecDepth 20000 in
set_option maxHeartbeats 1000000 in
theorem rf131 (n : Nm) (s : Sj) (sd : Bool) (w : World) (hn : n.ok) (hs : s.ok) (e1 : sd = true) (f2 : ((s.fl : Int) == 2) = false) (na : wi s.seq n.wt 1048576 = false) (nb : wi n.wt s.seq 1048576 = true) (ea : (s.ack == n.ak) = false) (bb : btw s.ack n.ak n.nx = false) (wb : wi n.ak s.ack 1048576 = false) :
    Calls Try.prog 15 #[.agg n.cs, .agg s.cs, .bool sd] w fun e w' => e = .returned (.bool (fitsB n s sd)) ∧ Below w.heap.size w w' := by
  have hv : fitsB n s sd = false := by unfold fitsB nearB ackB; simp [e1, fl_f (k := 2) f2, na, nb, e1, bb, wb]
  rw [hv]
  clear hv
  obtain ⟨HN0, HS0⟩ := JN.two 32 w n s
  have HN := Lib.hid HN0
  have HS := Lib.hid HS0
  have HOK := Lib.hid hs
  have NOK := Lib.hid hn
  clear HN0 HS0 hs hn
  obtain ⟨n0, n1, n2, n3, n4⟩ := HN.out.cells
  obtain ⟨s0, s1, s2, s3, s4, s5, s6⟩ := HS.out.cells
  unfold Nm.cs Sj.cs at *
  go_enter Try.func15, Try.ntmps15
  go_wp2_with fail
  refine (rwithin_any s.seq n.wt 1048576 _ (by first | exact HOK.out.seq | exact NOK.out.wt | exact NOK.out.ak) (by first | exact NOK.out.wt | exact HOK.out.seq | exact HOK.out.ack) (by unfold U32; omega)).mono ?_
  rintro e w1 ⟨rfl, rfl⟩
  rw [na]
  go_wp2_with fail
  refine (rwithin_any n.wt s.seq 1048576 _ (by first | exact HOK.out.seq | exact NOK.out.wt | exact NOK.out.ak) (by first | exact NOK.out.wt | exact HOK.out.seq | exact HOK.out.ack) (by unfold U32; omega)).mono ?_
  rintro e w2 ⟨rfl, rfl⟩
  rw [nb]
  go_wp2_with fail
  refine (rbetween_any s.ack n.ak n.nx _ HOK.out.ack NOK.out.ak NOK.out.nx).mono ?_
  rintro e w3 ⟨rfl, rfl⟩
  rw [bb]
  go_wp2_with fail
  refine (rwithin_any n.ak s.ack 1048576 _ (by first | exact HOK.out.seq | exact NOK.out.wt | exact NOK.out.ak) (by first | exact NOK.out.wt | exact HOK.out.seq | exact HOK.out.ack) (by unfold U32; omega)).mono ?_
  rintro e w4 ⟨rfl, rfl⟩
  rw [wb]
  go_wp2_with fail
  go_ret
  exact ⟨rfl, HN.out.bel⟩
set_option maxRecDepth 20000 in
set_option maxHeartbeats 1000000 in
theorem rf132 (n : Nm) (s : Sj) (sd : Bool) (w : World) (hn : n.ok) (hs : s.ok) (e1 : sd = true) (f2 : ((s.fl : Int) == 2) = true) (na : wi s.seq n.wt 1048576 = false) (nb : wi n.wt s.seq 1048576 = true) (ea : (s.ack == n.ak) = false) (bb : btw s.ack n.ak n.nx = false) (wb : wi n.ak s.ack 1048576 = false) :
    Calls Try.prog 15 #[.agg n.cs, .agg s.cs, .bool sd] w fun e w' => e = .returned (.bool (fitsB n s sd)) ∧ Below w.heap.size w w' := by
  have hv : fitsB n s sd = false := by unfold fitsB nearB ackB; simp [e1, fl_t (k := 2) f2, na, nb, e1, bb, wb]
  rw [hv]
  clear hv
  obtain ⟨HN0, HS0⟩ := JN.two 32 w n s
  have HN := Lib.hid HN0
  have HS := Lib.hid HS0
  have HOK := Lib.hid hs
  have NOK := Lib.hid hn
  clear HN0 HS0 hs hn
  obtain ⟨n0, n1, n2, n3, n4⟩ := HN.out.cells
  obtain ⟨s0, s1, s2, s3, s4, s5, s6⟩ := HS.out.cells
  unfold Nm.cs Sj.cs at *
  go_enter Try.func15, Try.ntmps15
  go_wp2_with fail
  refine (rwithin_any s.seq n.wt 1048576 _ (by first | exact HOK.out.seq | exact NOK.out.wt | exact NOK.out.ak) (by first | exact NOK.out.wt | exact HOK.out.seq | exact HOK.out.ack) (by unfold U32; omega)).mono ?_
  rintro e w1 ⟨rfl, rfl⟩
  rw [na]
  go_wp2_with fail
  refine (rwithin_any n.wt s.seq 1048576 _ (by first | exact HOK.out.seq | exact NOK.out.wt | exact NOK.out.ak) (by first | exact NOK.out.wt | exact HOK.out.seq | exact HOK.out.ack) (by unfold U32; omega)).mono ?_
  rintro e w2 ⟨rfl, rfl⟩
  rw [nb]
  go_wp2_with fail
  refine (rbetween_any s.ack n.ak n.nx _ HOK.out.ack NOK.out.ak NOK.out.nx).mono ?_
  rintro e w3 ⟨rfl, rfl⟩
  rw [bb]
  go_wp2_with fail
  refine (rwithin_any n.ak s.ack 1048576 _ (by first | exact HOK.out.seq | exact NOK.out.wt | exact NOK.out.ak) (by first | exact NOK.out.wt | exact HOK.out.seq | exact HOK.out.ack) (by unfold U32; omega)).mono ?_
  rintro e w4 ⟨rfl, rfl⟩
  rw [wb]
  go_wp2_with fail
  go_ret
  exact ⟨rfl, HN.out.bel⟩
set_option maxRecDepth 20000 in
set_option maxHeartbeats 1000000 in
theorem rf200 (n : Nm) (s : Sj) (sd : Bool) (w : World) (hn : n.ok) (hs : s.ok) (e1 : sd = false) (na : wi s.seq n.wt 1048576 = false) (nb : wi n.wt s.seq 1048576 = false) (ea : (s.ack == n.ak) = true) :
    Calls Try.prog 15 #[.agg n.cs, .agg s.cs, .bool sd] w fun e w' => e = .returned (.bool (fitsB n s sd)) ∧ Below w.heap.size w w' := by
  have hv : fitsB n s sd = false := by 
    unfold fitsB nearB ackB
    have hw3 : wi n.ak s.ack 1048576 = true := by rw [beqt ea]; exact wi_self hn.ak
    simp [e1, na, nb, hw3]
  rw [hv]
  clear hv
  obtain ⟨HN0, HS0⟩ := JN.two 32 w n s
  have HN := Lib.hid HN0
  have HS := Lib.hid HS0
  have HOK := Lib.hid hs
  have NOK := Lib.hid hn
  clear HN0 HS0 hs hn
  obtain ⟨n0, n1, n2, n3, n4⟩ := HN.out.cells
  obtain ⟨s0, s1, s2, s3, s4, s5, s6⟩ := HS.out.cells
  unfold Nm.cs Sj.cs at *
  go_enter Try.func15, Try.ntmps15
  go_wp2_with fail
  refine (rwithin_any s.seq n.wt 1048576 _ (by first | exact HOK.out.seq | exact NOK.out.wt | exact NOK.out.ak) (by first | exact NOK.out.wt | exact HOK.out.seq | exact HOK.out.ack) (by unfold U32; omega)).mono ?_
  rintro e w1 ⟨rfl, rfl⟩
  rw [na]
  go_wp2_with fail
  refine (rwithin_any n.wt s.seq 1048576 _ (by first | exact HOK.out.seq | exact NOK.out.wt | exact NOK.out.ak) (by first | exact NOK.out.wt | exact HOK.out.seq | exact HOK.out.ack) (by unfold U32; omega)).mono ?_
  rintro e w2 ⟨rfl, rfl⟩
  rw [nb]
  go_wp2_with fail
  go_ret
  exact ⟨rfl, HN.out.bel⟩
set_option maxRecDepth 20000 in
set_option maxHeartbeats 1000000 in
theorem rf201 (n : Nm) (s : Sj) (sd : Bool) (w : World) (hn : n.ok) (hs : s.ok) (e1 : sd = true) (f2 : ((s.fl : Int) == 2) = false) (na : wi s.seq n.wt 1048576 = false) (nb : wi n.wt s.seq 1048576 = false) (ea : (s.ack == n.ak) = true) :
    Calls Try.prog 15 #[.agg n.cs, .agg s.cs, .bool sd] w fun e w' => e = .returned (.bool (fitsB n s sd)) ∧ Below w.heap.size w w' := by
  have hv : fitsB n s sd = false := by 
    unfold fitsB nearB ackB
    have hw3 : wi n.ak s.ack 1048576 = true := by rw [beqt ea]; exact wi_self hn.ak
    simp [e1, fl_f (k := 2) f2, na, nb, hw3]
  rw [hv]
  clear hv
  obtain ⟨HN0, HS0⟩ := JN.two 32 w n s
  have HN := Lib.hid HN0
  have HS := Lib.hid HS0
  have HOK := Lib.hid hs
  have NOK := Lib.hid hn
  clear HN0 HS0 hs hn
  obtain ⟨n0, n1, n2, n3, n4⟩ := HN.out.cells
  obtain ⟨s0, s1, s2, s3, s4, s5, s6⟩ := HS.out.cells
  unfold Nm.cs Sj.cs at *
  go_enter Try.func15, Try.ntmps15
  go_wp2_with fail
  refine (rwithin_any s.seq n.wt 1048576 _ (by first | exact HOK.out.seq | exact NOK.out.wt | exact NOK.out.ak) (by first | exact NOK.out.wt | exact HOK.out.seq | exact HOK.out.ack) (by unfold U32; omega)).mono ?_
  rintro e w1 ⟨rfl, rfl⟩
  rw [na]
  go_wp2_with fail
  refine (rwithin_any n.wt s.seq 1048576 _ (by first | exact HOK.out.seq | exact NOK.out.wt | exact NOK.out.ak) (by first | exact NOK.out.wt | exact HOK.out.seq | exact HOK.out.ack) (by unfold U32; omega)).mono ?_
  rintro e w2 ⟨rfl, rfl⟩
  rw [nb]
  go_wp2_with fail
  go_ret
  exact ⟨rfl, HN.out.bel⟩
set_option maxRecDepth 20000 in
set_option maxHeartbeats 1000000 in
theorem rf202 (n : Nm) (s : Sj) (sd : Bool) (w : World) (hn : n.ok) (hs : s.ok) (e1 : sd = true) (f2 : ((s.fl : Int) == 2) = true) (na : wi s.seq n.wt 1048576 = false) (nb : wi n.wt s.seq 1048576 = false) (ea : (s.ack == n.ak) = true) :
    Calls Try.prog 15 #[.agg n.cs, .agg s.cs, .bool sd] w fun e w' => e = .returned (.bool (fitsB n s sd)) ∧ Below w.heap.size w w' := by
  have hv : fitsB n s sd = false := by 
    unfold fitsB nearB ackB
    have hw3 : wi n.ak s.ack 1048576 = true := by rw [beqt ea]; exact wi_self hn.ak
    simp [e1, fl_t (k := 2) f2, na, nb, hw3]
  rw [hv]
  clear hv
  obtain ⟨HN0, HS0⟩ := JN.two 32 w n s
  have HN := Lib.hid HN0
  have HS := Lib.hid HS0
  have HOK := Lib.hid hs
  have NOK := Lib.hid hn
  clear HN0 HS0 hs hn
  obtain ⟨n0, n1, n2, n3, n4⟩ := HN.out.cells
  obtain ⟨s0, s1, s2, s3, s4, s5, s6⟩ := HS.out.cells
  unfold Nm.cs Sj.cs at *
  go_enter Try.func15, Try.ntmps15
  go_wp2_with fail
  refine (rwithin_any s.seq n.wt 1048576 _ (by first | exact HOK.out.seq | exact NOK.out.wt | exact NOK.out.ak) (by first | exact NOK.out.wt | exact HOK.out.seq | exact HOK.out.ack) (by unfold U32; omega)).mono ?_
  rintro e w1 ⟨rfl, rfl⟩
  rw [na]
  go_wp2_with fail
  refine (rwithin_any n.wt s.seq 1048576 _ (by first | exact HOK.out.seq | exact NOK.out.wt | exact NOK.out.ak) (by first | exact NOK.out.wt | exact HOK.out.seq | exact HOK.out.ack) (by unfold U32; omega)).mono ?_
  rintro e w2 ⟨rfl, rfl⟩
  rw [nb]
  go_wp2_with fail
  go_ret
  exact ⟨rfl, HN.out.bel⟩
set_option maxRecDepth 20000 in
set_option maxHeartbeats 1000000 in
theorem rf210 (n : Nm) (s : Sj) (sd : Bool) (w : World) (hn : n.ok) (hs : s.ok) (e1 : sd = false) (na : wi s.seq n.wt 1048576 = false) (nb : wi n.wt s.seq 1048576 = false) (ea : (s.ack == n.ak) = false) (bb : btw s.ack n.ak n.nx = true) :
    Calls Try.prog 15 #[.agg n.cs, .agg s.cs, .bool sd] w fun e w' => e = .returned (.bool (fitsB n s sd)) ∧ Below w.heap.size w w' := by
  have hv : fitsB n s sd = false := by unfold fitsB nearB ackB; simp [e1, na, nb, e1, bb]
  rw [hv]
  clear hv
  obtain ⟨HN0, HS0⟩ := JN.two 32 w n s
  have HN := Lib.hid HN0
  have HS := Lib.hid HS0
  have HOK := Lib.hid hs
  have NOK := Lib.hid hn
  clear HN0 HS0 hs hn
  obtain ⟨n0, n1, n2, n3, n4⟩ := HN.out.cells
  obtain ⟨s0, s1, s2, s3, s4, s5, s6⟩ := HS.out.cells
  unfold Nm.cs Sj.cs at *
  go_enter Try.func15, Try.ntmps15
  go_wp2_with fail
  refine (rwithin_any s.seq n.wt 1048576 _ (by first | exact HOK.out.seq | exact NOK.out.wt | exact NOK.out.ak) (by first | exact NOK.out.wt | exact HOK.out.seq | exact HOK.out.ack) (by unfold U32; omega)).mono ?_
  rintro e w1 ⟨rfl, rfl⟩
  rw [na]
  go_wp2_with fail
  refine (rwithin_any n.wt s.seq 1048576 _ (by first | exact HOK.out.seq | exact NOK.out.wt | exact NOK.out.ak) (by first | exact NOK.out.wt | exact HOK.out.seq | exact HOK.out.ack) (by unfold U32; omega)).mono ?_
  rintro e w2 ⟨rfl, rfl⟩
  rw [nb]
  go_wp2_with fail
  refine (rbetween_any s.ack n.ak n.nx _ HOK.out.ack NOK.out.ak NOK.out.nx).mono ?_
  rintro e w3 ⟨rfl, rfl⟩
  rw [bb]
  go_wp2_with fail
  go_ret
  exact ⟨rfl, HN.out.bel⟩
set_option maxRecDepth 20000 in
set_option maxHeartbeats 1000000 in
theorem rf211 (n : Nm) (s : Sj) (sd : Bool) (w : World) (hn : n.ok) (hs : s.ok) (e1 : sd = true) (f2 : ((s.fl : Int) == 2) = false) (na : wi s.seq n.wt 1048576 = false) (nb : wi n.wt s.seq 1048576 = false) (ea : (s.ack == n.ak) = false) (bb : btw s.ack n.ak n.nx = true) :
    Calls Try.prog 15 #[.agg n.cs, .agg s.cs, .bool sd] w fun e w' => e = .returned (.bool (fitsB n s sd)) ∧ Below w.heap.size w w' := by
  have hv : fitsB n s sd = false := by unfold fitsB nearB ackB; simp [e1, fl_f (k := 2) f2, na, nb, e1, bb]
  rw [hv]
  clear hv
  obtain ⟨HN0, HS0⟩ := JN.two 32 w n s
  have HN := Lib.hid HN0
  have HS := Lib.hid HS0
  have HOK := Lib.hid hs
  have NOK := Lib.hid hn
  clear HN0 HS0 hs hn
  obtain ⟨n0, n1, n2, n3, n4⟩ := HN.out.cells
  obtain ⟨s0, s1, s2, s3, s4, s5, s6⟩ := HS.out.cells
  unfold Nm.cs Sj.cs at *
  go_enter Try.func15, Try.ntmps15
  go_wp2_with fail
  refine (rwithin_any s.seq n.wt 1048576 _ (by first | exact HOK.out.seq | exact NOK.out.wt | exact NOK.out.ak) (by first | exact NOK.out.wt | exact HOK.out.seq | exact HOK.out.ack) (by unfold U32; omega)).mono ?_
  rintro e w1 ⟨rfl, rfl⟩
  rw [na]
  go_wp2_with fail
  refine (rwithin_any n.wt s.seq 1048576 _ (by first | exact HOK.out.seq | exact NOK.out.wt | exact NOK.out.ak) (by first | exact NOK.out.wt | exact HOK.out.seq | exact HOK.out.ack) (by unfold U32; omega)).mono ?_
  rintro e w2 ⟨rfl, rfl⟩
  rw [nb]
  go_wp2_with fail
  refine (rbetween_any s.ack n.ak n.nx _ HOK.out.ack NOK.out.ak NOK.out.nx).mono ?_
  rintro e w3 ⟨rfl, rfl⟩
  rw [bb]
  go_wp2_with fail
  go_ret
  exact ⟨rfl, HN.out.bel⟩
set_option maxRecDepth 20000 in
set_option maxHeartbeats 1000000 in
theorem rf212 (n : Nm) (s : Sj) (sd : Bool) (w : World) (hn : n.ok) (hs : s.ok) (e1 : sd = true) (f2 : ((s.fl : Int) == 2) = true) (na : wi s.seq n.wt 1048576 = false) (nb : wi n.wt s.seq 1048576 = false) (ea : (s.ack == n.ak) = false) (bb : btw s.ack n.ak n.nx = true) :
    Calls Try.prog 15 #[.agg n.cs, .agg s.cs, .bool sd] w fun e w' => e = .returned (.bool (fitsB n s sd)) ∧ Below w.heap.size w w' := by
  have hv : fitsB n s sd = false := by unfold fitsB nearB ackB; simp [e1, fl_t (k := 2) f2, na, nb, e1, bb]
  rw [hv]
  clear hv
  obtain ⟨HN0, HS0⟩ := JN.two 32 w n s
  have HN := Lib.hid HN0
  have HS := Lib.hid HS0
  have HOK := Lib.hid hs
  have NOK := Lib.hid hn
  clear HN0 HS0 hs hn
  obtain ⟨n0, n1, n2, n3, n4⟩ := HN.out.cells
  obtain ⟨s0, s1, s2, s3, s4, s5, s6⟩ := HS.out.cells
  unfold Nm.cs Sj.cs at *
  go_enter Try.func15, Try.ntmps15
  go_wp2_with fail
  refine (rwithin_any s.seq n.wt 1048576 _ (by first | exact HOK.out.seq | exact NOK.out.wt | exact NOK.out.ak) (by first | exact NOK.out.wt | exact HOK.out.seq | exact HOK.out.ack) (by unfold U32; omega)).mono ?_
  rintro e w1 ⟨rfl, rfl⟩
  rw [na]
  go_wp2_with fail
  refine (rwithin_any n.wt s.seq 1048576 _ (by first | exact HOK.out.seq | exact NOK.out.wt | exact NOK.out.ak) (by first | exact NOK.out.wt | exact HOK.out.seq | exact HOK.out.ack) (by unfold U32; omega)).mono ?_
  rintro e w2 ⟨rfl, rfl⟩
  rw [nb]
  go_wp2_with fail
  refine (rbetween_any s.ack n.ak n.nx _ HOK.out.ack NOK.out.ak NOK.out.nx).mono ?_
  rintro e w3 ⟨rfl, rfl⟩
  rw [bb]
  go_wp2_with fail
  go_ret
  exact ⟨rfl, HN.out.bel⟩
set_option maxRecDepth 20000 in
set_option maxHeartbeats 1000000 in
theorem rf220 (n : Nm) (s : Sj) (sd : Bool) (w : World) (hn : n.ok) (hs : s.ok) (e1 : sd = false) (na : wi s.seq n.wt 1048576 = false) (nb : wi n.wt s.seq 1048576 = false) (ea : (s.ack == n.ak) = false) (bb : btw s.ack n.ak n.nx = false) (wb : wi n.ak s.ack 1048576 = true) :
    Calls Try.prog 15 #[.agg n.cs, .agg s.cs, .bool sd] w fun e w' => e = .returned (.bool (fitsB n s sd)) ∧ Below w.heap.size w w' := by
  have hv : fitsB n s sd = false := by unfold fitsB nearB ackB; simp [e1, na, nb, e1, bb, wb]
  rw [hv]
  clear hv
  obtain ⟨HN0, HS0⟩ := JN.two 32 w n s
  have HN := Lib.hid HN0
  have HS := Lib.hid HS0
  have HOK := Lib.hid hs
  have NOK := Lib.hid hn
  clear HN0 HS0 hs hn
  obtain ⟨n0, n1, n2, n3, n4⟩ := HN.out.cells
  obtain ⟨s0, s1, s2, s3, s4, s5, s6⟩ := HS.out.cells
  unfold Nm.cs Sj.cs at *
  go_enter Try.func15, Try.ntmps15
  go_wp2_with fail
  refine (rwithin_any s.seq n.wt 1048576 _ (by first | exact HOK.out.seq | exact NOK.out.wt | exact NOK.out.ak) (by first | exact NOK.out.wt | exact HOK.out.seq | exact HOK.out.ack) (by unfold U32; omega)).mono ?_
  rintro e w1 ⟨rfl, rfl⟩
  rw [na]
  go_wp2_with fail
  refine (rwithin_any n.wt s.seq 1048576 _ (by first | exact HOK.out.seq | exact NOK.out.wt | exact NOK.out.ak) (by first | exact NOK.out.wt | exact HOK.out.seq | exact HOK.out.ack) (by unfold U32; omega)).mono ?_
  rintro e w2 ⟨rfl, rfl⟩
  rw [nb]
  go_wp2_with fail
  refine (rbetween_any s.ack n.ak n.nx _ HOK.out.ack NOK.out.ak NOK.out.nx).mono ?_
  rintro e w3 ⟨rfl, rfl⟩
  rw [bb]
  go_wp2_with fail
  refine (rwithin_any n.ak s.ack 1048576 _ (by first | exact HOK.out.seq | exact NOK.out.wt | exact NOK.out.ak) (by first | exact NOK.out.wt | exact HOK.out.seq | exact HOK.out.ack) (by unfold U32; omega)).mono ?_
  rintro e w4 ⟨rfl, rfl⟩
  rw [wb]
  go_wp2_with fail
  go_ret
  exact ⟨rfl, HN.out.bel⟩
set_option maxRecDepth 20000 in
set_option maxHeartbeats 1000000 in
theorem rf221 (n : Nm) (s : Sj) (sd : Bool) (w : World) (hn : n.ok) (hs : s.ok) (e1 : sd = true) (f2 : ((s.fl : Int) == 2) = false) (na : wi s.seq n.wt 1048576 = false) (nb : wi n.wt s.seq 1048576 = false) (ea : (s.ack == n.ak) = false) (bb : btw s.ack n.ak n.nx = false) (wb : wi n.ak s.ack 1048576 = true) :
    Calls Try.prog 15 #[.agg n.cs, .agg s.cs, .bool sd] w fun e w' => e = .returned (.bool (fitsB n s sd)) ∧ Below w.heap.size w w' := by
  have hv : fitsB n s sd = false := by unfold fitsB nearB ackB; simp [e1, fl_f (k := 2) f2, na, nb, e1, bb, wb]
  rw [hv]
  clear hv
  obtain ⟨HN0, HS0⟩ := JN.two 32 w n s
  have HN := Lib.hid HN0
  have HS := Lib.hid HS0
  have HOK := Lib.hid hs
  have NOK := Lib.hid hn
  clear HN0 HS0 hs hn
  obtain ⟨n0, n1, n2, n3, n4⟩ := HN.out.cells
  obtain ⟨s0, s1, s2, s3, s4, s5, s6⟩ := HS.out.cells
  unfold Nm.cs Sj.cs at *
  go_enter Try.func15, Try.ntmps15
  go_wp2_with fail
  refine (rwithin_any s.seq n.wt 1048576 _ (by first | exact HOK.out.seq | exact NOK.out.wt | exact NOK.out.ak) (by first | exact NOK.out.wt | exact HOK.out.seq | exact HOK.out.ack) (by unfold U32; omega)).mono ?_
  rintro e w1 ⟨rfl, rfl⟩
  rw [na]
  go_wp2_with fail
  refine (rwithin_any n.wt s.seq 1048576 _ (by first | exact HOK.out.seq | exact NOK.out.wt | exact NOK.out.ak) (by first | exact NOK.out.wt | exact HOK.out.seq | exact HOK.out.ack) (by unfold U32; omega)).mono ?_
  rintro e w2 ⟨rfl, rfl⟩
  rw [nb]
  go_wp2_with fail
  refine (rbetween_any s.ack n.ak n.nx _ HOK.out.ack NOK.out.ak NOK.out.nx).mono ?_
  rintro e w3 ⟨rfl, rfl⟩
  rw [bb]
  go_wp2_with fail
  refine (rwithin_any n.ak s.ack 1048576 _ (by first | exact HOK.out.seq | exact NOK.out.wt | exact NOK.out.ak) (by first | exact NOK.out.wt | exact HOK.out.seq | exact HOK.out.ack) (by unfold U32; omega)).mono ?_
  rintro e w4 ⟨rfl, rfl⟩
  rw [wb]
  go_wp2_with fail
  go_ret
  exact ⟨rfl, HN.out.bel⟩
set_option maxRecDepth 20000 in
set_option maxHeartbeats 1000000 in
theorem rf222 (n : Nm) (s : Sj) (sd : Bool) (w : World) (hn : n.ok) (hs : s.ok) (e1 : sd = true) (f2 : ((s.fl : Int) == 2) = true) (na : wi s.seq n.wt 1048576 = false) (nb : wi n.wt s.seq 1048576 = false) (ea : (s.ack == n.ak) = false) (bb : btw s.ack n.ak n.nx = false) (wb : wi n.ak s.ack 1048576 = true) :
    Calls Try.prog 15 #[.agg n.cs, .agg s.cs, .bool sd] w fun e w' => e = .returned (.bool (fitsB n s sd)) ∧ Below w.heap.size w w' := by
  have hv : fitsB n s sd = false := by unfold fitsB nearB ackB; simp [e1, fl_t (k := 2) f2, na, nb, e1, bb, wb]
  rw [hv]
  clear hv
  obtain ⟨HN0, HS0⟩ := JN.two 32 w n s
  have HN := Lib.hid HN0
  have HS := Lib.hid HS0
  have HOK := Lib.hid hs
  have NOK := Lib.hid hn
  clear HN0 HS0 hs hn
  obtain ⟨n0, n1, n2, n3, n4⟩ := HN.out.cells
  obtain ⟨s0, s1, s2, s3, s4, s5, s6⟩ := HS.out.cells
  unfold Nm.cs Sj.cs at *
  go_enter Try.func15, Try.ntmps15
  go_wp2_with fail
  refine (rwithin_any s.seq n.wt 1048576 _ (by first | exact HOK.out.seq | exact NOK.out.wt | exact NOK.out.ak) (by first | exact NOK.out.wt | exact HOK.out.seq | exact HOK.out.ack) (by unfold U32; omega)).mono ?_
  rintro e w1 ⟨rfl, rfl⟩
  rw [na]
  go_wp2_with fail
  refine (rwithin_any n.wt s.seq 1048576 _ (by first | exact HOK.out.seq | exact NOK.out.wt | exact NOK.out.ak) (by first | exact NOK.out.wt | exact HOK.out.seq | exact HOK.out.ack) (by unfold U32; omega)).mono ?_
  rintro e w2 ⟨rfl, rfl⟩
  rw [nb]
  go_wp2_with fail
  refine (rbetween_any s.ack n.ak n.nx _ HOK.out.ack NOK.out.ak NOK.out.nx).mono ?_
  rintro e w3 ⟨rfl, rfl⟩
  rw [bb]
  go_wp2_with fail
  refine (rwithin_any n.ak s.ack 1048576 _ (by first | exact HOK.out.seq | exact NOK.out.wt | exact NOK.out.ak) (by first | exact NOK.out.wt | exact HOK.out.seq | exact HOK.out.ack) (by unfold U32; omega)).mono ?_
  rintro e w4 ⟨rfl, rfl⟩
  rw [wb]
  go_wp2_with fail
  go_ret
  exact ⟨rfl, HN.out.bel⟩
set_option maxRecDepth 20000 in
set_option maxHeartbeats 1000000 in
theorem rf230 (n : Nm) (s : Sj) (sd : Bool) (w : World) (hn : n.ok) (hs : s.ok) (e1 : sd = false) (na : wi s.seq n.wt 1048576 = false) (nb : wi n.wt s.seq 1048576 = false) (ea : (s.ack == n.ak) = false) (bb : btw s.ack n.ak n.nx = false) (wb : wi n.ak s.ack 1048576 = false) :
    Calls Try.prog 15 #[.agg n.cs, .agg s.cs, .bool sd] w fun e w' => e = .returned (.bool (fitsB n s sd)) ∧ Below w.heap.size w w' := by
  have hv : fitsB n s sd = false := by unfold fitsB nearB ackB; simp [e1, na, nb, e1, bb, wb]
  rw [hv]
  clear hv
  obtain ⟨HN0, HS0⟩ := JN.two 32 w n s
  have HN := Lib.hid HN0
  have HS := Lib.hid HS0
  have HOK := Lib.hid hs
  have NOK := Lib.hid hn
  clear HN0 HS0 hs hn
  obtain ⟨n0, n1, n2, n3, n4⟩ := HN.out.cells
  obtain ⟨s0, s1, s2, s3, s4, s5, s6⟩ := HS.out.cells
  unfold Nm.cs Sj.cs at *
  go_enter Try.func15, Try.ntmps15
  go_wp2_with fail
  refine (rwithin_any s.seq n.wt 1048576 _ (by first | exact HOK.out.seq | exact NOK.out.wt | exact NOK.out.ak) (by first | exact NOK.out.wt | exact HOK.out.seq | exact HOK.out.ack) (by unfold U32; omega)).mono ?_
  rintro e w1 ⟨rfl, rfl⟩
  rw [na]
  go_wp2_with fail
  refine (rwithin_any n.wt s.seq 1048576 _ (by first | exact HOK.out.seq | exact NOK.out.wt | exact NOK.out.ak) (by first | exact NOK.out.wt | exact HOK.out.seq | exact HOK.out.ack) (by unfold U32; omega)).mono ?_
  rintro e w2 ⟨rfl, rfl⟩
  rw [nb]
  go_wp2_with fail
  refine (rbetween_any s.ack n.ak n.nx _ HOK.out.ack NOK.out.ak NOK.out.nx).mono ?_
  rintro e w3 ⟨rfl, rfl⟩
  rw [bb]
  go_wp2_with fail
  refine (rwithin_any n.ak s.ack 1048576 _ (by first | exact HOK.out.seq | exact NOK.out.wt | exact NOK.out.ak) (by first | exact NOK.out.wt | exact HOK.out.seq | exact HOK.out.ack) (by unfold U32; omega)).mono ?_
  rintro e w4 ⟨rfl, rfl⟩
  rw [wb]
  go_wp2_with fail
  go_ret
  exact ⟨rfl, HN.out.bel⟩
set_option maxRecDepth 20000 in
set_option maxHeartbeats 1000000 in
theorem rf231 (n : Nm) (s : Sj) (sd : Bool) (w : World) (hn : n.ok) (hs : s.ok) (e1 : sd = true) (f2 : ((s.fl : Int) == 2) = false) (na : wi s.seq n.wt 1048576 = false) (nb : wi n.wt s.seq 1048576 = false) (ea : (s.ack == n.ak) = false) (bb : btw s.ack n.ak n.nx = false) (wb : wi n.ak s.ack 1048576 = false) :
    Calls Try.prog 15 #[.agg n.cs, .agg s.cs, .bool sd] w fun e w' => e = .returned (.bool (fitsB n s sd)) ∧ Below w.heap.size w w' := by
  have hv : fitsB n s sd = false := by unfold fitsB nearB ackB; simp [e1, fl_f (k := 2) f2, na, nb, e1, bb, wb]
  rw [hv]
  clear hv
  obtain ⟨HN0, HS0⟩ := JN.two 32 w n s
  have HN := Lib.hid HN0
  have HS := Lib.hid HS0
  have HOK := Lib.hid hs
  have NOK := Lib.hid hn
  clear HN0 HS0 hs hn
  obtain ⟨n0, n1, n2, n3, n4⟩ := HN.out.cells
  obtain ⟨s0, s1, s2, s3, s4, s5, s6⟩ := HS.out.cells
  unfold Nm.cs Sj.cs at *
  go_enter Try.func15, Try.ntmps15
  go_wp2_with fail
  refine (rwithin_any s.seq n.wt 1048576 _ (by first | exact HOK.out.seq | exact NOK.out.wt | exact NOK.out.ak) (by first | exact NOK.out.wt | exact HOK.out.seq | exact HOK.out.ack) (by unfold U32; omega)).mono ?_
  rintro e w1 ⟨rfl, rfl⟩
  rw [na]
  go_wp2_with fail
  refine (rwithin_any n.wt s.seq 1048576 _ (by first | exact HOK.out.seq | exact NOK.out.wt | exact NOK.out.ak) (by first | exact NOK.out.wt | exact HOK.out.seq | exact HOK.out.ack) (by unfold U32; omega)).mono ?_
  rintro e w2 ⟨rfl, rfl⟩
  rw [nb]
  go_wp2_with fail
  refine (rbetween_any s.ack n.ak n.nx _ HOK.out.ack NOK.out.ak NOK.out.nx).mono ?_
  rintro e w3 ⟨rfl, rfl⟩
  rw [bb]
  go_wp2_with fail
  refine (rwithin_any n.ak s.ack 1048576 _ (by first | exact HOK.out.seq | exact NOK.out.wt | exact NOK.out.ak) (by first | exact NOK.out.wt | exact HOK.out.seq | exact HOK.out.ack) (by unfold U32; omega)).mono ?_
  rintro e w4 ⟨rfl, rfl⟩
  rw [wb]
  go_wp2_with fail
  go_ret
  exact ⟨rfl, HN.out.bel⟩
set_option maxRecDepth 20000 in
set_option maxHeartbeats 1000000 in
theorem rf232 (n : Nm) (s : Sj) (sd : Bool) (w : World) (hn : n.ok) (hs : s.ok) (e1 : sd = true) (f2 : ((s.fl : Int) == 2) = true) (na : wi s.seq n.wt 1048576 = false) (nb : wi n.wt s.seq 1048576 = false) (ea : (s.ack == n.ak) = false) (bb : btw s.ack n.ak n.nx = false) (wb : wi n.ak s.ack 1048576 = false) :
    Calls Try.prog 15 #[.agg n.cs, .agg s.cs, .bool sd] w fun e w' => e = .returned (.bool (fitsB n s sd)) ∧ Below w.heap.size w w' := by
  have hv : fitsB n s sd = false := by unfold fitsB nearB ackB; simp [e1, fl_t (k := 2) f2, na, nb, e1, bb, wb]
  rw [hv]
  clear hv
  obtain ⟨HN0, HS0⟩ := JN.two 32 w n s
  have HN := Lib.hid HN0
  have HS := Lib.hid HS0
  have HOK := Lib.hid hs
  have NOK := Lib.hid hn
  clear HN0 HS0 hs hn
  obtain ⟨n0, n1, n2, n3, n4⟩ := HN.out.cells
  obtain ⟨s0, s1, s2, s3, s4, s5, s6⟩ := HS.out.cells
  unfold Nm.cs Sj.cs at *
  go_enter Try.func15, Try.ntmps15
  go_wp2_with fail
  refine (rwithin_any s.seq n.wt 1048576 _ (by first | exact HOK.out.seq | exact NOK.out.wt | exact NOK.out.ak) (by first | exact NOK.out.wt | exact HOK.out.seq | exact HOK.out.ack) (by unfold U32; omega)).mono ?_
  rintro e w1 ⟨rfl, rfl⟩
  rw [na]
  go_wp2_with fail
  refine (rwithin_any n.wt s.seq 1048576 _ (by first | exact HOK.out.seq | exact NOK.out.wt | exact NOK.out.ak) (by first | exact NOK.out.wt | exact HOK.out.seq | exact HOK.out.ack) (by unfold U32; omega)).mono ?_
  rintro e w2 ⟨rfl, rfl⟩
  rw [nb]
  go_wp2_with fail
  refine (rbetween_any s.ack n.ak n.nx _ HOK.out.ack NOK.out.ak NOK.out.nx).mono ?_
  rintro e w3 ⟨rfl, rfl⟩
  rw [bb]
  go_wp2_with fail
  refine (rwithin_any n.ak s.ack 1048576 _ (by first | exact HOK.out.seq | exact NOK.out.wt | exact NOK.out.ak) (by first | exact NOK.out.wt | exact HOK.out.seq | exact HOK.out.ack) (by unfold U32; omega)).mono ?_
  rintro e w4 ⟨rfl, rfl⟩
  rw [wb]
  go_wp2_with fail
  go_ret
  exact ⟨rfl, HN.out.bel⟩
set_option maxRecDepth 20000 in
set_option maxHeartbeats 1000000 in
theorem rfits_any (n : Nm) (s : Sj) (sd : Bool) (w : World) (hn : n.ok) (hs : s.ok) :
    Calls Try.prog 15 #[.agg n.cs, .agg s.cs, .bool sd] w fun e w' => e = .returned (.bool (fitsB n s sd)) ∧ Below w.heap.size w w' := by
  cases e1 : sd
  · cases na : wi s.seq n.wt 1048576
    · cases nb : wi n.wt s.seq 1048576
      · cases ea : (s.ack == n.ak)
        · cases bb : btw s.ack n.ak n.nx
          · cases wb : wi n.ak s.ack 1048576
            · exact rf230 n s false w hn hs rfl na nb ea bb wb
            · exact rf220 n s false w hn hs rfl na nb ea bb wb
          · exact rf210 n s false w hn hs rfl na nb ea bb
        · exact rf200 n s false w hn hs rfl na nb ea
      · cases ea : (s.ack == n.ak)
        · cases bb : btw s.ack n.ak n.nx
          · cases wb : wi n.ak s.ack 1048576
            · exact rf130 n s false w hn hs rfl na nb ea bb wb
            · exact rf120 n s false w hn hs rfl na nb ea bb wb
          · exact rf110 n s false w hn hs rfl na nb ea bb
        · exact rf100 n s false w hn hs rfl na nb ea
    · cases ea : (s.ack == n.ak)
      · cases bb : btw s.ack n.ak n.nx
        · cases wb : wi n.ak s.ack 1048576
          · exact rf030 n s false w hn hs rfl na ea bb wb
          · exact rf020 n s false w hn hs rfl na ea bb wb
        · exact rf010 n s false w hn hs rfl na ea bb
      · exact rf000 n s false w hn hs rfl na ea
  cases f2 : ((s.fl : Int) == 2)
  · cases na : wi s.seq n.wt 1048576
    · cases nb : wi n.wt s.seq 1048576
      · cases ea : (s.ack == n.ak)
        · cases bb : btw s.ack n.ak n.nx
          · cases wb : wi n.ak s.ack 1048576
            · exact rf231 n s true w hn hs rfl f2 na nb ea bb wb
            · exact rf221 n s true w hn hs rfl f2 na nb ea bb wb
          · exact rf211 n s true w hn hs rfl f2 na nb ea bb
        · exact rf201 n s true w hn hs rfl f2 na nb ea
      · cases ea : (s.ack == n.ak)
        · cases bb : btw s.ack n.ak n.nx
          · cases wb : wi n.ak s.ack 1048576
            · exact rf131 n s true w hn hs rfl f2 na nb ea bb wb
            · exact rf121 n s true w hn hs rfl f2 na nb ea bb wb
          · exact rf111 n s true w hn hs rfl f2 na nb ea bb
        · exact rf101 n s true w hn hs rfl f2 na nb ea
    · cases ea : (s.ack == n.ak)
      · cases bb : btw s.ack n.ak n.nx
        · cases wb : wi n.ak s.ack 1048576
          · exact rf031 n s true w hn hs rfl f2 na ea bb wb
          · exact rf021 n s true w hn hs rfl f2 na ea bb wb
        · exact rf011 n s true w hn hs rfl f2 na ea bb
      · exact rf001 n s true w hn hs rfl f2 na ea
  · cases na : wi s.seq n.wt 1048576
    · cases nb : wi n.wt s.seq 1048576
      · cases ea : (s.ack == n.ak)
        · cases bb : btw s.ack n.ak n.nx
          · cases wb : wi n.ak s.ack 1048576
            · exact rf232 n s true w hn hs rfl f2 na nb ea bb wb
            · exact rf222 n s true w hn hs rfl f2 na nb ea bb wb
          · exact rf212 n s true w hn hs rfl f2 na nb ea bb
        · exact rf202 n s true w hn hs rfl f2 na nb ea
      · cases ea : (s.ack == n.ak)
        · cases bb : btw s.ack n.ak n.nx
          · cases wb : wi n.ak s.ack 1048576
            · exact rf132 n s true w hn hs rfl f2 na nb ea bb wb
            · exact rf122 n s true w hn hs rfl f2 na nb ea bb wb
          · exact rf112 n s true w hn hs rfl f2 na nb ea bb
        · exact rf102 n s true w hn hs rfl f2 na nb ea
    · cases ea : (s.ack == n.ak)
      · cases bb : btw s.ack n.ak n.nx
        · cases wb : wi n.ak s.ack 1048576
          · exact rf032 n s true w hn hs rfl f2 na ea bb wb
          · exact rf022 n s true w hn hs rfl f2 na ea bb wb
        · exact rf012 n s true w hn hs rfl f2 na ea bb
      · exact rf002 n s true w hn hs rfl f2 na ea
end Go.Proofs.Ytllahldgkpbpoaa
