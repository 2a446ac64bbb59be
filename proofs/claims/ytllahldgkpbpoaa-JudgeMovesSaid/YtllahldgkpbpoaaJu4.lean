/- Package judge: its verdicts; the document's. -/
import Derived.Test.YtllahldgkpbpoaaJu3
namespace Go.Proofs.Ytllahldgkpbpoaa
open Go.RowKit
set_option linter.unusedVariables false
set_option linter.unusedSimpArgs false
set_option maxRecDepth 20000 in
set_option maxHeartbeats 1000000 in
theorem rj1 (n : Nm) (s : Sj) (sd : Bool) (w : World) (hn : n.ok) (hs : s.ok) (t1 : (n.st == 1) = true) (h2 : hasB s.fl 2 = false) (f2 : ((s.fl : Int) == 2) = false) :
    Calls Try.prog 7 #[.agg n.cs, .agg s.cs, .bool sd] w fun e w' => e = .returned (.int .i64 (judgeV n s sd : Nat)) ∧ Below w.heap.size w w' := by
  have hv : judgeV n s sd = 2 := by unfold judgeV; simp [beqt t1, openV, h2, fl_f (k := 2) f2]
  rw [hv]
  clear hv
  obtain ⟨HN0, HS0⟩ := JN.two 32 w n s
  have HN := Lib.hid HN0
  have HS := Lib.hid HS0
  have HOK := Lib.hid hs
  have NOK := Lib.hid hn
  clear HN0 HS0 hs hn
  obtain ⟨n0, n1, n2, n3, n4⟩ := HN.out.cells
  obtain ⟨s0, s1, s2, s3, s4, s5, s6⟩ := HS.out.cells
  unfold Nm.cs Sj.cs at *
  go_enter Try.func7, Try.ntmps7
  go_wp2_with fail
  refine (rjhas2 s _ HOK.out).mono ?_
  rintro e w1 ⟨rfl, hb⟩
  have HN1 := Lib.hid (HN.out.into hb)
  have HS1 := Lib.hid (HS.out.into hb)
  clear hb n0 n1 n2 n3 n4 s0 s1 s2 s3 s4 s5 s6
  obtain ⟨n0, n1, n2, n3, n4⟩ := HN1.out.cells
  obtain ⟨s0, s1, s2, s3, s4, s5, s6⟩ := HS1.out.cells
  rw [h2]
  go_wp2_with fail
  go_ret
  exact ⟨rfl, HN1.out.bel⟩
set_option maxRecDepth 20000 in
set_option maxHeartbeats 1000000 in
theorem rj2 (n : Nm) (s : Sj) (sd : Bool) (w : World) (hn : n.ok) (hs : s.ok) (t1 : (n.st == 1) = true) (h2 : hasB s.fl 2 = true) (ha : (s.ack == (n.fst + 1) % 4294967296) = false) (f2 : ((s.fl : Int) == 2) = true) :
    Calls Try.prog 7 #[.agg n.cs, .agg s.cs, .bool sd] w fun e w' => e = .returned (.int .i64 (judgeV n s sd : Nat)) ∧ Below w.heap.size w w' := by
  have hv : judgeV n s sd = 5 := by unfold judgeV; simp [beqt t1, openV, beqf ha, fl_t (k := 2) f2]
  rw [hv]
  clear hv
  obtain ⟨HN0, HS0⟩ := JN.two 32 w n s
  have HN := Lib.hid HN0
  have HS := Lib.hid HS0
  have HOK := Lib.hid hs
  have NOK := Lib.hid hn
  clear HN0 HS0 hs hn
  obtain ⟨n0, n1, n2, n3, n4⟩ := HN.out.cells
  obtain ⟨s0, s1, s2, s3, s4, s5, s6⟩ := HS.out.cells
  unfold Nm.cs Sj.cs at *
  go_enter Try.func7, Try.ntmps7
  go_wp2_with fail
  refine (rjhas2 s _ HOK.out).mono ?_
  rintro e w1 ⟨rfl, hb⟩
  have HN1 := Lib.hid (HN.out.into hb)
  have HS1 := Lib.hid (HS.out.into hb)
  clear hb n0 n1 n2 n3 n4 s0 s1 s2 s3 s4 s5 s6
  obtain ⟨n0, n1, n2, n3, n4⟩ := HN1.out.cells
  obtain ⟨s0, s1, s2, s3, s4, s5, s6⟩ := HS1.out.cells
  rw [h2]
  go_wp2_with fail
  go_ret
  exact ⟨rfl, HN1.out.bel⟩
set_option maxRecDepth 20000 in
set_option maxHeartbeats 1000000 in
theorem rj3 (n : Nm) (s : Sj) (sd : Bool) (w : World) (hn : n.ok) (hs : s.ok) (t1 : (n.st == 1) = true) (h2 : hasB s.fl 2 = true) (ha : (s.ack == (n.fst + 1) % 4294967296) = false) (f2 : ((s.fl : Int) == 2) = false) :
    Calls Try.prog 7 #[.agg n.cs, .agg s.cs, .bool sd] w fun e w' => e = .returned (.int .i64 (judgeV n s sd : Nat)) ∧ Below w.heap.size w w' := by
  have hv : judgeV n s sd = 2 := by unfold judgeV; simp [beqt t1, openV, beqf ha, fl_f (k := 2) f2]
  rw [hv]
  clear hv
  obtain ⟨HN0, HS0⟩ := JN.two 32 w n s
  have HN := Lib.hid HN0
  have HS := Lib.hid HS0
  have HOK := Lib.hid hs
  have NOK := Lib.hid hn
  clear HN0 HS0 hs hn
  obtain ⟨n0, n1, n2, n3, n4⟩ := HN.out.cells
  obtain ⟨s0, s1, s2, s3, s4, s5, s6⟩ := HS.out.cells
  unfold Nm.cs Sj.cs at *
  go_enter Try.func7, Try.ntmps7
  go_wp2_with fail
  refine (rjhas2 s _ HOK.out).mono ?_
  rintro e w1 ⟨rfl, hb⟩
  have HN1 := Lib.hid (HN.out.into hb)
  have HS1 := Lib.hid (HS.out.into hb)
  clear hb n0 n1 n2 n3 n4 s0 s1 s2 s3 s4 s5 s6
  obtain ⟨n0, n1, n2, n3, n4⟩ := HN1.out.cells
  obtain ⟨s0, s1, s2, s3, s4, s5, s6⟩ := HS1.out.cells
  rw [h2]
  go_wp2_with fail
  go_ret
  exact ⟨rfl, HN1.out.bel⟩
set_option maxRecDepth 20000 in
set_option maxHeartbeats 1000000 in
theorem rj4 (n : Nm) (s : Sj) (sd : Bool) (w : World) (hn : n.ok) (hs : s.ok) (t1 : (n.st == 1) = true) (h2 : hasB s.fl 2 = true) (ha : (s.ack == (n.fst + 1) % 4294967296) = true) (h4 : hasB s.fl 4 = true) :
    Calls Try.prog 7 #[.agg n.cs, .agg s.cs, .bool sd] w fun e w' => e = .returned (.int .i64 (judgeV n s sd : Nat)) ∧ Below w.heap.size w w' := by
  have hv : judgeV n s sd = 4 := by unfold judgeV; simp [beqt t1, openV, ← beqt ha, h2, h4]
  rw [hv]
  clear hv
  obtain ⟨HN0, HS0⟩ := JN.two 32 w n s
  have HN := Lib.hid HN0
  have HS := Lib.hid HS0
  have HOK := Lib.hid hs
  have NOK := Lib.hid hn
  clear HN0 HS0 hs hn
  obtain ⟨n0, n1, n2, n3, n4⟩ := HN.out.cells
  obtain ⟨s0, s1, s2, s3, s4, s5, s6⟩ := HS.out.cells
  unfold Nm.cs Sj.cs at *
  go_enter Try.func7, Try.ntmps7
  go_wp2_with fail
  refine (rjhas2 s _ HOK.out).mono ?_
  rintro e w1 ⟨rfl, hb⟩
  have HN1 := Lib.hid (HN.out.into hb)
  have HS1 := Lib.hid (HS.out.into hb)
  clear hb n0 n1 n2 n3 n4 s0 s1 s2 s3 s4 s5 s6
  obtain ⟨n0, n1, n2, n3, n4⟩ := HN1.out.cells
  obtain ⟨s0, s1, s2, s3, s4, s5, s6⟩ := HS1.out.cells
  rw [h2]
  go_wp2_with fail
  refine (rjhas4 s _ HOK.out).mono ?_
  rintro e w2 ⟨rfl, hb⟩
  have HN2 := Lib.hid (HN1.out.into hb)
  have HS2 := Lib.hid (HS1.out.into hb)
  clear hb n0 n1 n2 n3 n4 s0 s1 s2 s3 s4 s5 s6
  obtain ⟨n0, n1, n2, n3, n4⟩ := HN2.out.cells
  obtain ⟨s0, s1, s2, s3, s4, s5, s6⟩ := HS2.out.cells
  rw [h4]
  go_wp2_with fail
  go_ret
  exact ⟨rfl, HN2.out.bel⟩
set_option maxRecDepth 20000 in
set_option maxHeartbeats 1000000 in
theorem rj5 (n : Nm) (s : Sj) (sd : Bool) (w : World) (hn : n.ok) (hs : s.ok) (t1 : (n.st == 1) = true) (h2 : hasB s.fl 2 = true) (ha : (s.ack == (n.fst + 1) % 4294967296) = true) (h4 : hasB s.fl 4 = false) :
    Calls Try.prog 7 #[.agg n.cs, .agg s.cs, .bool sd] w fun e w' => e = .returned (.int .i64 (judgeV n s sd : Nat)) ∧ Below w.heap.size w w' := by
  have hv : judgeV n s sd = passV (hasB s.fl 1) := by unfold judgeV; simp [beqt t1, openV, ← beqt ha, h2, h4]
  rw [hv]
  clear hv
  obtain ⟨HN0, HS0⟩ := JN.two 32 w n s
  have HN := Lib.hid HN0
  have HS := Lib.hid HS0
  have HOK := Lib.hid hs
  have NOK := Lib.hid hn
  clear HN0 HS0 hs hn
  obtain ⟨n0, n1, n2, n3, n4⟩ := HN.out.cells
  obtain ⟨s0, s1, s2, s3, s4, s5, s6⟩ := HS.out.cells
  unfold Nm.cs Sj.cs at *
  go_enter Try.func7, Try.ntmps7
  go_wp2_with fail
  refine (rjhas2 s _ HOK.out).mono ?_
  rintro e w1 ⟨rfl, hb⟩
  have HN1 := Lib.hid (HN.out.into hb)
  have HS1 := Lib.hid (HS.out.into hb)
  clear hb n0 n1 n2 n3 n4 s0 s1 s2 s3 s4 s5 s6
  obtain ⟨n0, n1, n2, n3, n4⟩ := HN1.out.cells
  obtain ⟨s0, s1, s2, s3, s4, s5, s6⟩ := HS1.out.cells
  rw [h2]
  go_wp2_with fail
  refine (rjhas4 s _ HOK.out).mono ?_
  rintro e w2 ⟨rfl, hb⟩
  have HN2 := Lib.hid (HN1.out.into hb)
  have HS2 := Lib.hid (HS1.out.into hb)
  clear hb n0 n1 n2 n3 n4 s0 s1 s2 s3 s4 s5 s6
  obtain ⟨n0, n1, n2, n3, n4⟩ := HN2.out.cells
  obtain ⟨s0, s1, s2, s3, s4, s5, s6⟩ := HS2.out.cells
  rw [h4]
  go_wp2_with fail
  refine (rjhas1 s _ HOK.out).mono ?_
  rintro e w3 ⟨rfl, hb⟩
  have HN3 := Lib.hid (HN2.out.into hb)
  have HS3 := Lib.hid (HS2.out.into hb)
  clear hb n0 n1 n2 n3 n4 s0 s1 s2 s3 s4 s5 s6
  obtain ⟨n0, n1, n2, n3, n4⟩ := HN3.out.cells
  obtain ⟨s0, s1, s2, s3, s4, s5, s6⟩ := HS3.out.cells
  go_wp2_with fail
  refine (rpass_any (hasB s.fl 1) _).mono ?_
  rintro e w4 ⟨rfl, hb⟩
  have HN4 := Lib.hid (HN3.out.into hb)
  have HS4 := Lib.hid (HS3.out.into hb)
  clear hb n0 n1 n2 n3 n4 s0 s1 s2 s3 s4 s5 s6
  obtain ⟨n0, n1, n2, n3, n4⟩ := HN4.out.cells
  obtain ⟨s0, s1, s2, s3, s4, s5, s6⟩ := HS4.out.cells
  go_wp2_with fail
  go_ret
  exact ⟨rfl, HN4.out.bel⟩
set_option maxRecDepth 20000 in
set_option maxHeartbeats 1000000 in
theorem rj6 (n : Nm) (s : Sj) (sd : Bool) (w : World) (hn : n.ok) (hs : s.ok) (t1 : (n.st == 1) = false) (t2 : (n.st == 2) = false) (t3 : (n.st == 3) = false) :
    Calls Try.prog 7 #[.agg n.cs, .agg s.cs, .bool sd] w fun e w' => e = .returned (.int .i64 (judgeV n s sd : Nat)) ∧ Below w.heap.size w w' := by
  have hv : judgeV n s sd = 2 := by unfold judgeV; simp [beqf t1, beqf t2, beqf t3]
  rw [hv]
  clear hv
  have u2 : (n.st != 2) = true := by unfold bne; rw [t2]; rfl
  have u3 : (n.st != 3) = true := by unfold bne; rw [t3]; rfl
  clear t2
  clear t3
  obtain ⟨HN0, HS0⟩ := JN.two 32 w n s
  have HN := Lib.hid HN0
  have HS := Lib.hid HS0
  have HOK := Lib.hid hs
  have NOK := Lib.hid hn
  clear HN0 HS0 hs hn
  obtain ⟨n0, n1, n2, n3, n4⟩ := HN.out.cells
  obtain ⟨s0, s1, s2, s3, s4, s5, s6⟩ := HS.out.cells
  unfold Nm.cs Sj.cs at *
  go_enter Try.func7, Try.ntmps7
  go_wp2_with fail
  go_ret
  exact ⟨rfl, HN.out.bel⟩
set_option maxRecDepth 20000 in
set_option maxHeartbeats 1000000 in
theorem rja1 (n : Nm) (s : Sj) (sd : Bool) (w : World) (hn : n.ok) (hs : s.ok) (t1 : (n.st == 1) = false) (t2 : (n.st == 2) = true) (t3 : (n.st == 3) = false) (h4 : hasB s.fl 4 = true) (hw : (s.seq == n.wt) = true) :
    Calls Try.prog 7 #[.agg n.cs, .agg s.cs, .bool sd] w fun e w' => e = .returned (.int .i64 (judgeV n s sd : Nat)) ∧ Below w.heap.size w w' := by
  have hv : judgeV n s sd = 4 := by unfold judgeV; simp [beqt t2, halfV, h4, beqt hw]
  rw [hv]
  clear hv
  have u2 : (n.st != 2) = false := by unfold bne; rw [t2]; rfl
  have u3 : (n.st != 3) = true := by unfold bne; rw [t3]; rfl
  clear t2
  obtain ⟨HN0, HS0⟩ := JN.two 32 w n s
  have HN := Lib.hid HN0
  have HS := Lib.hid HS0
  have HOK := Lib.hid hs
  have NOK := Lib.hid hn
  clear HN0 HS0 hs hn
  obtain ⟨n0, n1, n2, n3, n4⟩ := HN.out.cells
  obtain ⟨s0, s1, s2, s3, s4, s5, s6⟩ := HS.out.cells
  unfold Nm.cs Sj.cs at *
  go_enter Try.func7, Try.ntmps7
  go_wp2_with fail
  refine (rjhas4 s _ HOK.out).mono ?_
  rintro e w1 ⟨rfl, hb⟩
  have HN1 := Lib.hid (HN.out.into hb)
  have HS1 := Lib.hid (HS.out.into hb)
  clear hb n0 n1 n2 n3 n4 s0 s1 s2 s3 s4 s5 s6
  obtain ⟨n0, n1, n2, n3, n4⟩ := HN1.out.cells
  obtain ⟨s0, s1, s2, s3, s4, s5, s6⟩ := HS1.out.cells
  rw [h4]
  go_wp2_with fail
  go_ret
  exact ⟨rfl, HN1.out.bel⟩
set_option maxRecDepth 20000 in
set_option maxHeartbeats 1000000 in
theorem rja2 (n : Nm) (s : Sj) (sd : Bool) (w : World) (hn : n.ok) (hs : s.ok) (t1 : (n.st == 1) = false) (t2 : (n.st == 2) = true) (t3 : (n.st == 3) = false) (h4 : hasB s.fl 4 = true) (hw : (s.seq == n.wt) = false) :
    Calls Try.prog 7 #[.agg n.cs, .agg s.cs, .bool sd] w fun e w' => e = .returned (.int .i64 (judgeV n s sd : Nat)) ∧ Below w.heap.size w w' := by
  have hv : judgeV n s sd = 2 := by unfold judgeV; simp [beqt t2, halfV, h4, beqf hw]
  rw [hv]
  clear hv
  have u2 : (n.st != 2) = false := by unfold bne; rw [t2]; rfl
  have u3 : (n.st != 3) = true := by unfold bne; rw [t3]; rfl
  clear t2
  obtain ⟨HN0, HS0⟩ := JN.two 32 w n s
  have HN := Lib.hid HN0
  have HS := Lib.hid HS0
  have HOK := Lib.hid hs
  have NOK := Lib.hid hn
  clear HN0 HS0 hs hn
  obtain ⟨n0, n1, n2, n3, n4⟩ := HN.out.cells
  obtain ⟨s0, s1, s2, s3, s4, s5, s6⟩ := HS.out.cells
  unfold Nm.cs Sj.cs at *
  go_enter Try.func7, Try.ntmps7
  go_wp2_with fail
  refine (rjhas4 s _ HOK.out).mono ?_
  rintro e w1 ⟨rfl, hb⟩
  have HN1 := Lib.hid (HN.out.into hb)
  have HS1 := Lib.hid (HS.out.into hb)
  clear hb n0 n1 n2 n3 n4 s0 s1 s2 s3 s4 s5 s6
  obtain ⟨n0, n1, n2, n3, n4⟩ := HN1.out.cells
  obtain ⟨s0, s1, s2, s3, s4, s5, s6⟩ := HS1.out.cells
  rw [h4]
  go_wp2_with fail
  go_ret
  exact ⟨rfl, HN1.out.bel⟩
set_option maxRecDepth 20000 in
set_option maxHeartbeats 1000000 in
theorem rja4 (n : Nm) (s : Sj) (sd : Bool) (w : World) (hn : n.ok) (hs : s.ok) (t1 : (n.st == 1) = false) (t2 : (n.st == 2) = true) (t3 : (n.st == 3) = false) (h4 : hasB s.fl 4 = false) (h1 : hasB s.fl 1 = true) (f1 : ((s.fl : Int) == 1) = false) :
    Calls Try.prog 7 #[.agg n.cs, .agg s.cs, .bool sd] w fun e w' => e = .returned (.int .i64 (judgeV n s sd : Nat)) ∧ Below w.heap.size w w' := by
  have hv : judgeV n s sd = passV false := by unfold judgeV; simp [beqt t2, halfV, h4, h1, fl_b (k := 1) f1]
  rw [hv]
  clear hv
  have u2 : (n.st != 2) = false := by unfold bne; rw [t2]; rfl
  have u3 : (n.st != 3) = true := by unfold bne; rw [t3]; rfl
  clear t2
  obtain ⟨HN0, HS0⟩ := JN.two 32 w n s
  have HN := Lib.hid HN0
  have HS := Lib.hid HS0
  have HOK := Lib.hid hs
  have NOK := Lib.hid hn
  clear HN0 HS0 hs hn
  obtain ⟨n0, n1, n2, n3, n4⟩ := HN.out.cells
  obtain ⟨s0, s1, s2, s3, s4, s5, s6⟩ := HS.out.cells
  unfold Nm.cs Sj.cs at *
  go_enter Try.func7, Try.ntmps7
  go_wp2_with fail
  refine (rjhas4 s _ HOK.out).mono ?_
  rintro e w1 ⟨rfl, hb⟩
  have HN1 := Lib.hid (HN.out.into hb)
  have HS1 := Lib.hid (HS.out.into hb)
  clear hb n0 n1 n2 n3 n4 s0 s1 s2 s3 s4 s5 s6
  obtain ⟨n0, n1, n2, n3, n4⟩ := HN1.out.cells
  obtain ⟨s0, s1, s2, s3, s4, s5, s6⟩ := HS1.out.cells
  rw [h4]
  go_wp2_with fail
  refine (rjhas1 s _ HOK.out).mono ?_
  rintro e w2 ⟨rfl, hb⟩
  have HN2 := Lib.hid (HN1.out.into hb)
  have HS2 := Lib.hid (HS1.out.into hb)
  clear hb n0 n1 n2 n3 n4 s0 s1 s2 s3 s4 s5 s6
  obtain ⟨n0, n1, n2, n3, n4⟩ := HN2.out.cells
  obtain ⟨s0, s1, s2, s3, s4, s5, s6⟩ := HS2.out.cells
  rw [h1]
  go_wp2_with fail
  refine (rpass_any false _).mono ?_
  rintro e w3 ⟨rfl, hb⟩
  have HN3 := Lib.hid (HN2.out.into hb)
  have HS3 := Lib.hid (HS2.out.into hb)
  clear hb n0 n1 n2 n3 n4 s0 s1 s2 s3 s4 s5 s6
  obtain ⟨n0, n1, n2, n3, n4⟩ := HN3.out.cells
  obtain ⟨s0, s1, s2, s3, s4, s5, s6⟩ := HS3.out.cells
  go_wp2_with fail
  go_ret
  exact ⟨rfl, HN3.out.bel⟩
set_option maxRecDepth 20000 in
set_option maxHeartbeats 1000000 in
theorem rja5 (n : Nm) (s : Sj) (sd : Bool) (w : World) (hn : n.ok) (hs : s.ok) (t1 : (n.st == 1) = false) (t2 : (n.st == 2) = true) (t3 : (n.st == 3) = false) (h4 : hasB s.fl 4 = false) (h1 : hasB s.fl 1 = true) (f1 : ((s.fl : Int) == 1) = true) (hq : ((s.seq + 1) % 4294967296 == n.wt) = false) :
    Calls Try.prog 7 #[.agg n.cs, .agg s.cs, .bool sd] w fun e w' => e = .returned (.int .i64 (judgeV n s sd : Nat)) ∧ Below w.heap.size w w' := by
  have hv : judgeV n s sd = passV false := by unfold judgeV; simp [beqt t2, halfV, h4, h1, fl_b (k := 1) f1, beqf hq]
  rw [hv]
  clear hv
  have u2 : (n.st != 2) = false := by unfold bne; rw [t2]; rfl
  have u3 : (n.st != 3) = true := by unfold bne; rw [t3]; rfl
  clear t2
  obtain ⟨HN0, HS0⟩ := JN.two 32 w n s
  have HN := Lib.hid HN0
  have HS := Lib.hid HS0
  have HOK := Lib.hid hs
  have NOK := Lib.hid hn
  clear HN0 HS0 hs hn
  obtain ⟨n0, n1, n2, n3, n4⟩ := HN.out.cells
  obtain ⟨s0, s1, s2, s3, s4, s5, s6⟩ := HS.out.cells
  unfold Nm.cs Sj.cs at *
  go_enter Try.func7, Try.ntmps7
  go_wp2_with fail
  refine (rjhas4 s _ HOK.out).mono ?_
  rintro e w1 ⟨rfl, hb⟩
  have HN1 := Lib.hid (HN.out.into hb)
  have HS1 := Lib.hid (HS.out.into hb)
  clear hb n0 n1 n2 n3 n4 s0 s1 s2 s3 s4 s5 s6
  obtain ⟨n0, n1, n2, n3, n4⟩ := HN1.out.cells
  obtain ⟨s0, s1, s2, s3, s4, s5, s6⟩ := HS1.out.cells
  rw [h4]
  go_wp2_with fail
  refine (rjhas1 s _ HOK.out).mono ?_
  rintro e w2 ⟨rfl, hb⟩
  have HN2 := Lib.hid (HN1.out.into hb)
  have HS2 := Lib.hid (HS1.out.into hb)
  clear hb n0 n1 n2 n3 n4 s0 s1 s2 s3 s4 s5 s6
  obtain ⟨n0, n1, n2, n3, n4⟩ := HN2.out.cells
  obtain ⟨s0, s1, s2, s3, s4, s5, s6⟩ := HS2.out.cells
  rw [h1]
  go_wp2_with fail
  refine (rpass_any false _).mono ?_
  rintro e w3 ⟨rfl, hb⟩
  have HN3 := Lib.hid (HN2.out.into hb)
  have HS3 := Lib.hid (HS2.out.into hb)
  clear hb n0 n1 n2 n3 n4 s0 s1 s2 s3 s4 s5 s6
  obtain ⟨n0, n1, n2, n3, n4⟩ := HN3.out.cells
  obtain ⟨s0, s1, s2, s3, s4, s5, s6⟩ := HS3.out.cells
  go_wp2_with fail
  go_ret
  exact ⟨rfl, HN3.out.bel⟩
set_option maxRecDepth 20000 in
set_option maxHeartbeats 1000000 in
theorem rja6 (n : Nm) (s : Sj) (sd : Bool) (w : World) (hn : n.ok) (hs : s.ok) (t1 : (n.st == 1) = false) (t2 : (n.st == 2) = true) (t3 : (n.st == 3) = false) (h4 : hasB s.fl 4 = false) (h1 : hasB s.fl 1 = true) (f1 : ((s.fl : Int) == 1) = true) (hq : ((s.seq + 1) % 4294967296 == n.wt) = true) :
    Calls Try.prog 7 #[.agg n.cs, .agg s.cs, .bool sd] w fun e w' => e = .returned (.int .i64 (judgeV n s sd : Nat)) ∧ Below w.heap.size w w' := by
  have hv : judgeV n s sd = passV true := by unfold judgeV; simp [beqt t2, halfV, h4, h1, fl_b (k := 1) f1, beqt hq]
  rw [hv]
  clear hv
  have u2 : (n.st != 2) = false := by unfold bne; rw [t2]; rfl
  have u3 : (n.st != 3) = true := by unfold bne; rw [t3]; rfl
  clear t2
  obtain ⟨HN0, HS0⟩ := JN.two 32 w n s
  have HN := Lib.hid HN0
  have HS := Lib.hid HS0
  have HOK := Lib.hid hs
  have NOK := Lib.hid hn
  clear HN0 HS0 hs hn
  obtain ⟨n0, n1, n2, n3, n4⟩ := HN.out.cells
  obtain ⟨s0, s1, s2, s3, s4, s5, s6⟩ := HS.out.cells
  unfold Nm.cs Sj.cs at *
  go_enter Try.func7, Try.ntmps7
  go_wp2_with fail
  refine (rjhas4 s _ HOK.out).mono ?_
  rintro e w1 ⟨rfl, hb⟩
  have HN1 := Lib.hid (HN.out.into hb)
  have HS1 := Lib.hid (HS.out.into hb)
  clear hb n0 n1 n2 n3 n4 s0 s1 s2 s3 s4 s5 s6
  obtain ⟨n0, n1, n2, n3, n4⟩ := HN1.out.cells
  obtain ⟨s0, s1, s2, s3, s4, s5, s6⟩ := HS1.out.cells
  rw [h4]
  go_wp2_with fail
  refine (rjhas1 s _ HOK.out).mono ?_
  rintro e w2 ⟨rfl, hb⟩
  have HN2 := Lib.hid (HN1.out.into hb)
  have HS2 := Lib.hid (HS1.out.into hb)
  clear hb n0 n1 n2 n3 n4 s0 s1 s2 s3 s4 s5 s6
  obtain ⟨n0, n1, n2, n3, n4⟩ := HN2.out.cells
  obtain ⟨s0, s1, s2, s3, s4, s5, s6⟩ := HS2.out.cells
  rw [h1]
  go_wp2_with fail
  refine (rpass_any true _).mono ?_
  rintro e w3 ⟨rfl, hb⟩
  have HN3 := Lib.hid (HN2.out.into hb)
  have HS3 := Lib.hid (HS2.out.into hb)
  clear hb n0 n1 n2 n3 n4 s0 s1 s2 s3 s4 s5 s6
  obtain ⟨n0, n1, n2, n3, n4⟩ := HN3.out.cells
  obtain ⟨s0, s1, s2, s3, s4, s5, s6⟩ := HS3.out.cells
  go_wp2_with fail
  go_ret
  exact ⟨rfl, HN3.out.bel⟩
set_option maxRecDepth 20000 in
set_option maxHeartbeats 1000000 in
theorem rja7 (n : Nm) (s : Sj) (sd : Bool) (w : World) (hn : n.ok) (hs : s.ok) (t1 : (n.st == 1) = false) (t2 : (n.st == 2) = true) (t3 : (n.st == 3) = false) (h4 : hasB s.fl 4 = false) (h1 : hasB s.fl 1 = false) :
    Calls Try.prog 7 #[.agg n.cs, .agg s.cs, .bool sd] w fun e w' => e = .returned (.int .i64 (judgeV n s sd : Nat)) ∧ Below w.heap.size w w' := by
  have hv : judgeV n s sd = passV (fitsB n s sd) := by unfold judgeV; simp [beqt t2, halfV, h4, h1]
  rw [hv]
  clear hv
  have u2 : (n.st != 2) = false := by unfold bne; rw [t2]; rfl
  have u3 : (n.st != 3) = true := by unfold bne; rw [t3]; rfl
  clear t2
  obtain ⟨HN0, HS0⟩ := JN.two 32 w n s
  have HN := Lib.hid HN0
  have HS := Lib.hid HS0
  have HOK := Lib.hid hs
  have NOK := Lib.hid hn
  clear HN0 HS0 hs hn
  obtain ⟨n0, n1, n2, n3, n4⟩ := HN.out.cells
  obtain ⟨s0, s1, s2, s3, s4, s5, s6⟩ := HS.out.cells
  unfold Nm.cs Sj.cs at *
  go_enter Try.func7, Try.ntmps7
  go_wp2_with fail
  refine (rjhas4 s _ HOK.out).mono ?_
  rintro e w1 ⟨rfl, hb⟩
  have HN1 := Lib.hid (HN.out.into hb)
  have HS1 := Lib.hid (HS.out.into hb)
  clear hb n0 n1 n2 n3 n4 s0 s1 s2 s3 s4 s5 s6
  obtain ⟨n0, n1, n2, n3, n4⟩ := HN1.out.cells
  obtain ⟨s0, s1, s2, s3, s4, s5, s6⟩ := HS1.out.cells
  rw [h4]
  go_wp2_with fail
  refine (rjhas1 s _ HOK.out).mono ?_
  rintro e w2 ⟨rfl, hb⟩
  have HN2 := Lib.hid (HN1.out.into hb)
  have HS2 := Lib.hid (HS1.out.into hb)
  clear hb n0 n1 n2 n3 n4 s0 s1 s2 s3 s4 s5 s6
  obtain ⟨n0, n1, n2, n3, n4⟩ := HN2.out.cells
  obtain ⟨s0, s1, s2, s3, s4, s5, s6⟩ := HS2.out.cells
  rw [h1]
  go_wp2_with fail
  refine (rfits_any n s sd _ NOK.out HOK.out).mono ?_
  rintro e w3 ⟨rfl, hb⟩
  have HN3 := Lib.hid (HN2.out.into hb)
  have HS3 := Lib.hid (HS2.out.into hb)
  clear hb n0 n1 n2 n3 n4 s0 s1 s2 s3 s4 s5 s6
  obtain ⟨n0, n1, n2, n3, n4⟩ := HN3.out.cells
  obtain ⟨s0, s1, s2, s3, s4, s5, s6⟩ := HS3.out.cells
  go_wp2_with fail
  refine (rpass_any (fitsB n s sd) _).mono ?_
  rintro e w4 ⟨rfl, hb⟩
  have HN4 := Lib.hid (HN3.out.into hb)
  have HS4 := Lib.hid (HS3.out.into hb)
  clear hb n0 n1 n2 n3 n4 s0 s1 s2 s3 s4 s5 s6
  obtain ⟨n0, n1, n2, n3, n4⟩ := HN4.out.cells
  obtain ⟨s0, s1, s2, s3, s4, s5, s6⟩ := HS4.out.cells
  go_wp2_with fail
  go_ret
  exact ⟨rfl, HN4.out.bel⟩
set_option maxRecDepth 20000 in
set_option maxHeartbeats 1000000 in
theorem rjb1 (n : Nm) (s : Sj) (sd : Bool) (w : World) (hn : n.ok) (hs : s.ok) (t1 : (n.st == 1) = false) (t2 : (n.st == 2) = false) (t3 : (n.st == 3) = true) (h4 : hasB s.fl 4 = true) (hw : (s.seq == n.wt) = true) :
    Calls Try.prog 7 #[.agg n.cs, .agg s.cs, .bool sd] w fun e w' => e = .returned (.int .i64 (judgeV n s sd : Nat)) ∧ Below w.heap.size w w' := by
  have hv : judgeV n s sd = 4 := by unfold judgeV; simp [beqt t3, upV, h4, beqt hw]
  rw [hv]
  clear hv
  have u2 : (n.st != 2) = true := by unfold bne; rw [t2]; rfl
  have u3 : (n.st != 3) = false := by unfold bne; rw [t3]; rfl
  clear t2
  have v3 := t3
  clear t3
  obtain ⟨HN0, HS0⟩ := JN.two 32 w n s
  have HN := Lib.hid HN0
  have HS := Lib.hid HS0
  have HOK := Lib.hid hs
  have NOK := Lib.hid hn
  clear HN0 HS0 hs hn
  obtain ⟨n0, n1, n2, n3, n4⟩ := HN.out.cells
  obtain ⟨s0, s1, s2, s3, s4, s5, s6⟩ := HS.out.cells
  unfold Nm.cs Sj.cs at *
  go_enter Try.func7, Try.ntmps7
  go_wp2_with fail
  refine (rjhas4 s _ HOK.out).mono ?_
  rintro e w1 ⟨rfl, hb⟩
  have HN1 := Lib.hid (HN.out.into hb)
  have HS1 := Lib.hid (HS.out.into hb)
  clear hb n0 n1 n2 n3 n4 s0 s1 s2 s3 s4 s5 s6
  obtain ⟨n0, n1, n2, n3, n4⟩ := HN1.out.cells
  obtain ⟨s0, s1, s2, s3, s4, s5, s6⟩ := HS1.out.cells
  rw [h4]
  go_wp2_with fail
  go_ret
  exact ⟨rfl, HN1.out.bel⟩
set_option maxRecDepth 20000 in
set_option maxHeartbeats 1000000 in
theorem rjb2 (n : Nm) (s : Sj) (sd : Bool) (w : World) (hn : n.ok) (hs : s.ok) (t1 : (n.st == 1) = false) (t2 : (n.st == 2) = false) (t3 : (n.st == 3) = true) (h4 : hasB s.fl 4 = true) (hw : (s.seq == n.wt) = false) (hwi : wi s.seq n.wt 1048576 = true) :
    Calls Try.prog 7 #[.agg n.cs, .agg s.cs, .bool sd] w fun e w' => e = .returned (.int .i64 (judgeV n s sd : Nat)) ∧ Below w.heap.size w w' := by
  have hv : judgeV n s sd = 3 := by unfold judgeV; simp [beqt t3, upV, h4, beqf hw, hwi]
  rw [hv]
  clear hv
  have u2 : (n.st != 2) = true := by unfold bne; rw [t2]; rfl
  have u3 : (n.st != 3) = false := by unfold bne; rw [t3]; rfl
  clear t2
  have v3 := t3
  clear t3
  obtain ⟨HN0, HS0⟩ := JN.two 32 w n s
  have HN := Lib.hid HN0
  have HS := Lib.hid HS0
  have HOK := Lib.hid hs
  have NOK := Lib.hid hn
  clear HN0 HS0 hs hn
  obtain ⟨n0, n1, n2, n3, n4⟩ := HN.out.cells
  obtain ⟨s0, s1, s2, s3, s4, s5, s6⟩ := HS.out.cells
  unfold Nm.cs Sj.cs at *
  go_enter Try.func7, Try.ntmps7
  go_wp2_with fail
  refine (rjhas4 s _ HOK.out).mono ?_
  rintro e w1 ⟨rfl, hb⟩
  have HN1 := Lib.hid (HN.out.into hb)
  have HS1 := Lib.hid (HS.out.into hb)
  clear hb n0 n1 n2 n3 n4 s0 s1 s2 s3 s4 s5 s6
  obtain ⟨n0, n1, n2, n3, n4⟩ := HN1.out.cells
  obtain ⟨s0, s1, s2, s3, s4, s5, s6⟩ := HS1.out.cells
  rw [h4]
  go_wp2_with fail
  refine (rwithin_any s.seq n.wt 1048576 _ (by first | exact HOK.out.seq | exact NOK.out.wt | exact NOK.out.ak) (by first | exact NOK.out.wt | exact HOK.out.seq | exact HOK.out.ack) (by unfold U32; omega)).mono ?_
  rintro e w2 ⟨rfl, rfl⟩
  rw [hwi]
  go_wp2_with fail
  go_ret
  exact ⟨rfl, HN1.out.bel⟩
set_option maxRecDepth 20000 in
set_option maxHeartbeats 1000000 in
theorem rjb3 (n : Nm) (s : Sj) (sd : Bool) (w : World) (hn : n.ok) (hs : s.ok) (t1 : (n.st == 1) = false) (t2 : (n.st == 2) = false) (t3 : (n.st == 3) = true) (h4 : hasB s.fl 4 = true) (hw : (s.seq == n.wt) = false) (hwi : wi s.seq n.wt 1048576 = false) :
    Calls Try.prog 7 #[.agg n.cs, .agg s.cs, .bool sd] w fun e w' => e = .returned (.int .i64 (judgeV n s sd : Nat)) ∧ Below w.heap.size w w' := by
  have hv : judgeV n s sd = 2 := by unfold judgeV; simp [beqt t3, upV, h4, beqf hw, hwi]
  rw [hv]
  clear hv
  have u2 : (n.st != 2) = true := by unfold bne; rw [t2]; rfl
  have u3 : (n.st != 3) = false := by unfold bne; rw [t3]; rfl
  clear t2
  have v3 := t3
  clear t3
  obtain ⟨HN0, HS0⟩ := JN.two 32 w n s
  have HN := Lib.hid HN0
  have HS := Lib.hid HS0
  have HOK := Lib.hid hs
  have NOK := Lib.hid hn
  clear HN0 HS0 hs hn
  obtain ⟨n0, n1, n2, n3, n4⟩ := HN.out.cells
  obtain ⟨s0, s1, s2, s3, s4, s5, s6⟩ := HS.out.cells
  unfold Nm.cs Sj.cs at *
  go_enter Try.func7, Try.ntmps7
  go_wp2_with fail
  refine (rjhas4 s _ HOK.out).mono ?_
  rintro e w1 ⟨rfl, hb⟩
  have HN1 := Lib.hid (HN.out.into hb)
  have HS1 := Lib.hid (HS.out.into hb)
  clear hb n0 n1 n2 n3 n4 s0 s1 s2 s3 s4 s5 s6
  obtain ⟨n0, n1, n2, n3, n4⟩ := HN1.out.cells
  obtain ⟨s0, s1, s2, s3, s4, s5, s6⟩ := HS1.out.cells
  rw [h4]
  go_wp2_with fail
  refine (rwithin_any s.seq n.wt 1048576 _ (by first | exact HOK.out.seq | exact NOK.out.wt | exact NOK.out.ak) (by first | exact NOK.out.wt | exact HOK.out.seq | exact HOK.out.ack) (by unfold U32; omega)).mono ?_
  rintro e w2 ⟨rfl, rfl⟩
  rw [hwi]
  go_wp2_with fail
  go_ret
  exact ⟨rfl, HN1.out.bel⟩
set_option maxRecDepth 20000 in
set_option maxHeartbeats 1000000 in
theorem rjb4 (n : Nm) (s : Sj) (sd : Bool) (w : World) (hn : n.ok) (hs : s.ok) (t1 : (n.st == 1) = false) (t2 : (n.st == 2) = false) (t3 : (n.st == 3) = true) (h4 : hasB s.fl 4 = false) (h1 : hasB s.fl 1 = true) :
    Calls Try.prog 7 #[.agg n.cs, .agg s.cs, .bool sd] w fun e w' => e = .returned (.int .i64 (judgeV n s sd : Nat)) ∧ Below w.heap.size w w' := by
  have hv : judgeV n s sd = 3 := by unfold judgeV; simp [beqt t3, upV, h4, h1]
  rw [hv]
  clear hv
  have u2 : (n.st != 2) = true := by unfold bne; rw [t2]; rfl
  have u3 : (n.st != 3) = false := by unfold bne; rw [t3]; rfl
  clear t2
  have v3 := t3
  clear t3
  obtain ⟨HN0, HS0⟩ := JN.two 32 w n s
  have HN := Lib.hid HN0
  have HS := Lib.hid HS0
  have HOK := Lib.hid hs
  have NOK := Lib.hid hn
  clear HN0 HS0 hs hn
  obtain ⟨n0, n1, n2, n3, n4⟩ := HN.out.cells
  obtain ⟨s0, s1, s2, s3, s4, s5, s6⟩ := HS.out.cells
  unfold Nm.cs Sj.cs at *
  go_enter Try.func7, Try.ntmps7
  go_wp2_with fail
  refine (rjhas4 s _ HOK.out).mono ?_
  rintro e w1 ⟨rfl, hb⟩
  have HN1 := Lib.hid (HN.out.into hb)
  have HS1 := Lib.hid (HS.out.into hb)
  clear hb n0 n1 n2 n3 n4 s0 s1 s2 s3 s4 s5 s6
  obtain ⟨n0, n1, n2, n3, n4⟩ := HN1.out.cells
  obtain ⟨s0, s1, s2, s3, s4, s5, s6⟩ := HS1.out.cells
  rw [h4]
  go_wp2_with fail
  refine (rjhas1 s _ HOK.out).mono ?_
  rintro e w2 ⟨rfl, hb⟩
  have HN2 := Lib.hid (HN1.out.into hb)
  have HS2 := Lib.hid (HS1.out.into hb)
  clear hb n0 n1 n2 n3 n4 s0 s1 s2 s3 s4 s5 s6
  obtain ⟨n0, n1, n2, n3, n4⟩ := HN2.out.cells
  obtain ⟨s0, s1, s2, s3, s4, s5, s6⟩ := HS2.out.cells
  rw [h1]
  go_wp2_with fail
  go_ret
  exact ⟨rfl, HN2.out.bel⟩
set_option maxRecDepth 20000 in
set_option maxHeartbeats 1000000 in
theorem rjb7 (n : Nm) (s : Sj) (sd : Bool) (w : World) (hn : n.ok) (hs : s.ok) (t1 : (n.st == 1) = false) (t2 : (n.st == 2) = false) (t3 : (n.st == 3) = true) (h4 : hasB s.fl 4 = false) (h1 : hasB s.fl 1 = false) :
    Calls Try.prog 7 #[.agg n.cs, .agg s.cs, .bool sd] w fun e w' => e = .returned (.int .i64 (judgeV n s sd : Nat)) ∧ Below w.heap.size w w' := by
  have hv : judgeV n s sd = passV (fitsB n s sd) := by unfold judgeV; simp [beqt t3, upV, h4, h1]
  rw [hv]
  clear hv
  have u2 : (n.st != 2) = true := by unfold bne; rw [t2]; rfl
  have u3 : (n.st != 3) = false := by unfold bne; rw [t3]; rfl
  clear t2
  have v3 := t3
  clear t3
  obtain ⟨HN0, HS0⟩ := JN.two 32 w n s
  have HN := Lib.hid HN0
  have HS := Lib.hid HS0
  have HOK := Lib.hid hs
  have NOK := Lib.hid hn
  clear HN0 HS0 hs hn
  obtain ⟨n0, n1, n2, n3, n4⟩ := HN.out.cells
  obtain ⟨s0, s1, s2, s3, s4, s5, s6⟩ := HS.out.cells
  unfold Nm.cs Sj.cs at *
  go_enter Try.func7, Try.ntmps7
  go_wp2_with fail
  refine (rjhas4 s _ HOK.out).mono ?_
  rintro e w1 ⟨rfl, hb⟩
  have HN1 := Lib.hid (HN.out.into hb)
  have HS1 := Lib.hid (HS.out.into hb)
  clear hb n0 n1 n2 n3 n4 s0 s1 s2 s3 s4 s5 s6
  obtain ⟨n0, n1, n2, n3, n4⟩ := HN1.out.cells
  obtain ⟨s0, s1, s2, s3, s4, s5, s6⟩ := HS1.out.cells
  rw [h4]
  go_wp2_with fail
  refine (rjhas1 s _ HOK.out).mono ?_
  rintro e w2 ⟨rfl, hb⟩
  have HN2 := Lib.hid (HN1.out.into hb)
  have HS2 := Lib.hid (HS1.out.into hb)
  clear hb n0 n1 n2 n3 n4 s0 s1 s2 s3 s4 s5 s6
  obtain ⟨n0, n1, n2, n3, n4⟩ := HN2.out.cells
  obtain ⟨s0, s1, s2, s3, s4, s5, s6⟩ := HS2.out.cells
  rw [h1]
  go_wp2_with fail
  refine (rfits_any n s sd _ NOK.out HOK.out).mono ?_
  rintro e w3 ⟨rfl, hb⟩
  have HN3 := Lib.hid (HN2.out.into hb)
  have HS3 := Lib.hid (HS2.out.into hb)
  clear hb n0 n1 n2 n3 n4 s0 s1 s2 s3 s4 s5 s6
  obtain ⟨n0, n1, n2, n3, n4⟩ := HN3.out.cells
  obtain ⟨s0, s1, s2, s3, s4, s5, s6⟩ := HS3.out.cells
  go_wp2_with fail
  refine (rpass_any (fitsB n s sd) _).mono ?_
  rintro e w4 ⟨rfl, hb⟩
  have HN4 := Lib.hid (HN3.out.into hb)
  have HS4 := Lib.hid (HS3.out.into hb)
  clear hb n0 n1 n2 n3 n4 s0 s1 s2 s3 s4 s5 s6
  obtain ⟨n0, n1, n2, n3, n4⟩ := HN4.out.cells
  obtain ⟨s0, s1, s2, s3, s4, s5, s6⟩ := HS4.out.cells
  go_wp2_with fail
  go_ret
  exact ⟨rfl, HN4.out.bel⟩
set_option maxRecDepth 20000 in
set_option maxHeartbeats 1000000 in
theorem rjudge_any (n : Nm) (s : Sj) (sd : Bool) (w : World) (hn : n.ok) (hs : s.ok) :
    Calls Try.prog 7 #[.agg n.cs, .agg s.cs, .bool sd] w fun e w' => e = .returned (.int .i64 (judgeV n s sd : Nat)) ∧ Below w.heap.size w w' := by
  cases t1 : (n.st == 1)
  · cases t2 : (n.st == 2)
    · cases t3 : (n.st == 3)
      · exact rj6 n s sd w hn hs t1 t2 t3
      cases h4 : hasB s.fl 4
      · cases h1 : hasB s.fl 1
        · exact rjb7 n s sd w hn hs t1 t2 t3 h4 h1
        · exact rjb4 n s sd w hn hs t1 t2 t3 h4 h1
      · cases hw : (s.seq == n.wt)
        · cases hwi : wi s.seq n.wt 1048576
          · exact rjb3 n s sd w hn hs t1 t2 t3 h4 hw hwi
          · exact rjb2 n s sd w hn hs t1 t2 t3 h4 hw hwi
        · exact rjb1 n s sd w hn hs t1 t2 t3 h4 hw
    · have t3 : (n.st == 3) = false := by have := beqt t2; simp; omega
      cases h4 : hasB s.fl 4
      · cases h1 : hasB s.fl 1
        · exact rja7 n s sd w hn hs t1 t2 t3 h4 h1
        cases f1 : ((s.fl : Int) == 1)
        · exact rja4 n s sd w hn hs t1 t2 t3 h4 h1 f1
        cases hq : ((s.seq + 1) % 4294967296 == n.wt)
        · exact rja5 n s sd w hn hs t1 t2 t3 h4 h1 f1 hq
        · exact rja6 n s sd w hn hs t1 t2 t3 h4 h1 f1 hq
      · cases hw : (s.seq == n.wt)
        · exact rja2 n s sd w hn hs t1 t2 t3 h4 hw
        · exact rja1 n s sd w hn hs t1 t2 t3 h4 hw
  · cases h2 : hasB s.fl 2
    · refine rj1 n s sd w hn hs t1 h2 ?_
      have := flOne hs.fl h2
      simp; omega
    cases ha : (s.ack == (n.fst + 1) % 4294967296)
    · cases f2 : ((s.fl : Int) == 2)
      · exact rj3 n s sd w hn hs t1 h2 ha f2
      · exact rj2 n s sd w hn hs t1 h2 ha f2
    cases h4 : hasB s.fl 4
    · exact rj5 n s sd w hn hs t1 h2 ha h4
    · exact rj4 n s sd w hn hs t1 h2 ha h4
end Go.Proofs.Ytllahldgkpbpoaa
