/- Package judge: its verdicts; the document's. -/
import Derived.Test.YtllahldgkpbpoaaJu0
namespace Go.Proofs.Ytllahldgkpbpoaa
open Go.RowKit
set_option linter.unusedVariables false
set_option linter.unusedSimpArgs false
set_option maxRecDepth 20000 in
set_option maxHeartbeats 1000000 in
theorem jo1 (n : Nm) (s : Sj) (w : World) (hn : n.ok) (hs : s.ok) (h2 : hasB s.fl 2 = false) (f2 : ((s.fl : Int) == 2) = false) :
    Calls Try.prog 9 #[.agg n.cs, .agg s.cs] w fun e w' => e = .returned (.int .i64 (openV n s : Nat)) ∧ Below w.heap.size w w' := by
  have hv : openV n s = 2 := by unfold openV; simp [h2, fl_f (k := 2) f2]
  rw [hv]
  clear hv
  obtain ⟨HN0, HS0⟩ := JN.two 25 w n s
  have HN := Lib.hid HN0
  have HS := Lib.hid HS0
  have HOK := Lib.hid hs
  have NOK := Lib.hid hn
  clear HN0 HS0 hs hn
  obtain ⟨n0, n1, n2, n3, n4⟩ := HN.out.cells
  obtain ⟨s0, s1, s2, s3, s4, s5, s6⟩ := HS.out.cells
  unfold Nm.cs Sj.cs at *
  go_enter Try.func9, Try.ntmps9
  go_wp2_with fail
  refine (jhas2 s _ HOK.out).mono ?_
  rintro e w1 ⟨rfl, hb⟩
  have HN1 := Lib.hid (HN.out.into hb)
  have HS1 := Lib.hid (HS.out.into hb)
  clear hb n0 n1 n2 n3 n4 s0 s1 s2 s3 s4 s5 s6
  obtain ⟨n0, n1, n2, n3, n4⟩ := HN1.out.cells
  obtain ⟨s0, s1, s2, s3, s4, s5, s6⟩ := HS1.out.cells
  rw [h2]
  go_wp2_with fail
  go_ret
  exact ⟨rfl, HN1.out.bel⟩
set_option maxRecDepth 20000 in
set_option maxHeartbeats 1000000 in
theorem jo2 (n : Nm) (s : Sj) (w : World) (hn : n.ok) (hs : s.ok) (h2 : hasB s.fl 2 = true) (ha : (s.ack == (n.fst + 1) % 4294967296) = false) (f2 : ((s.fl : Int) == 2) = true) :
    Calls Try.prog 9 #[.agg n.cs, .agg s.cs] w fun e w' => e = .returned (.int .i64 (openV n s : Nat)) ∧ Below w.heap.size w w' := by
  have hv : openV n s = 5 := by unfold openV; simp [beqf ha, fl_t (k := 2) f2]
  rw [hv]
  clear hv
  obtain ⟨HN0, HS0⟩ := JN.two 25 w n s
  have HN := Lib.hid HN0
  have HS := Lib.hid HS0
  have HOK := Lib.hid hs
  have NOK := Lib.hid hn
  clear HN0 HS0 hs hn
  obtain ⟨n0, n1, n2, n3, n4⟩ := HN.out.cells
  obtain ⟨s0, s1, s2, s3, s4, s5, s6⟩ := HS.out.cells
  unfold Nm.cs Sj.cs at *
  go_enter Try.func9, Try.ntmps9
  go_wp2_with fail
  refine (jhas2 s _ HOK.out).mono ?_
  rintro e w1 ⟨rfl, hb⟩
  have HN1 := Lib.hid (HN.out.into hb)
  have HS1 := Lib.hid (HS.out.into hb)
  clear hb n0 n1 n2 n3 n4 s0 s1 s2 s3 s4 s5 s6
  obtain ⟨n0, n1, n2, n3, n4⟩ := HN1.out.cells
  obtain ⟨s0, s1, s2, s3, s4, s5, s6⟩ := HS1.out.cells
  rw [h2]
  go_wp2_with fail
  go_ret
  exact ⟨rfl, HN1.out.bel⟩
set_option maxRecDepth 20000 in
set_option maxHeartbeats 1000000 in
theorem jo3 (n : Nm) (s : Sj) (w : World) (hn : n.ok) (hs : s.ok) (h2 : hasB s.fl 2 = true) (ha : (s.ack == (n.fst + 1) % 4294967296) = false) (f2 : ((s.fl : Int) == 2) = false) :
    Calls Try.prog 9 #[.agg n.cs, .agg s.cs] w fun e w' => e = .returned (.int .i64 (openV n s : Nat)) ∧ Below w.heap.size w w' := by
  have hv : openV n s = 2 := by unfold openV; simp [beqf ha, fl_f (k := 2) f2]
  rw [hv]
  clear hv
  obtain ⟨HN0, HS0⟩ := JN.two 25 w n s
  have HN := Lib.hid HN0
  have HS := Lib.hid HS0
  have HOK := Lib.hid hs
  have NOK := Lib.hid hn
  clear HN0 HS0 hs hn
  obtain ⟨n0, n1, n2, n3, n4⟩ := HN.out.cells
  obtain ⟨s0, s1, s2, s3, s4, s5, s6⟩ := HS.out.cells
  unfold Nm.cs Sj.cs at *
  go_enter Try.func9, Try.ntmps9
  go_wp2_with fail
  refine (jhas2 s _ HOK.out).mono ?_
  rintro e w1 ⟨rfl, hb⟩
  have HN1 := Lib.hid (HN.out.into hb)
  have HS1 := Lib.hid (HS.out.into hb)
  clear hb n0 n1 n2 n3 n4 s0 s1 s2 s3 s4 s5 s6
  obtain ⟨n0, n1, n2, n3, n4⟩ := HN1.out.cells
  obtain ⟨s0, s1, s2, s3, s4, s5, s6⟩ := HS1.out.cells
  rw [h2]
  go_wp2_with fail
  go_ret
  exact ⟨rfl, HN1.out.bel⟩
set_option maxRecDepth 20000 in
set_option maxHeartbeats 1000000 in
theorem jo4 (n : Nm) (s : Sj) (w : World) (hn : n.ok) (hs : s.ok) (h2 : hasB s.fl 2 = true) (ha : (s.ack == (n.fst + 1) % 4294967296) = true) (h4 : hasB s.fl 4 = true) :
    Calls Try.prog 9 #[.agg n.cs, .agg s.cs] w fun e w' => e = .returned (.int .i64 (openV n s : Nat)) ∧ Below w.heap.size w w' := by
  have hv : openV n s = 4 := by unfold openV; simp [← beqt ha, h2, h4]
  rw [hv]
  clear hv
  obtain ⟨HN0, HS0⟩ := JN.two 25 w n s
  have HN := Lib.hid HN0
  have HS := Lib.hid HS0
  have HOK := Lib.hid hs
  have NOK := Lib.hid hn
  clear HN0 HS0 hs hn
  obtain ⟨n0, n1, n2, n3, n4⟩ := HN.out.cells
  obtain ⟨s0, s1, s2, s3, s4, s5, s6⟩ := HS.out.cells
  unfold Nm.cs Sj.cs at *
  go_enter Try.func9, Try.ntmps9
  go_wp2_with fail
  refine (jhas2 s _ HOK.out).mono ?_
  rintro e w1 ⟨rfl, hb⟩
  have HN1 := Lib.hid (HN.out.into hb)
  have HS1 := Lib.hid (HS.out.into hb)
  clear hb n0 n1 n2 n3 n4 s0 s1 s2 s3 s4 s5 s6
  obtain ⟨n0, n1, n2, n3, n4⟩ := HN1.out.cells
  obtain ⟨s0, s1, s2, s3, s4, s5, s6⟩ := HS1.out.cells
  rw [h2]
  go_wp2_with fail
  refine (jhas4 s _ HOK.out).mono ?_
  rintro e w2 ⟨rfl, hb⟩
  have HN2 := Lib.hid (HN1.out.into hb)
  have HS2 := Lib.hid (HS1.out.into hb)
  clear hb n0 n1 n2 n3 n4 s0 s1 s2 s3 s4 s5 s6
  obtain ⟨n0, n1, n2, n3, n4⟩ := HN2.out.cells
  obtain ⟨s0, s1, s2, s3, s4, s5, s6⟩ := HS2.out.cells
  rw [h4]
  go_wp2_with fail
  go_ret
  exact ⟨rfl, HN2.out.bel⟩
set_option maxRecDepth 20000 in
set_option maxHeartbeats 1000000 in
theorem jo5 (n : Nm) (s : Sj) (w : World) (hn : n.ok) (hs : s.ok) (h2 : hasB s.fl 2 = true) (ha : (s.ack == (n.fst + 1) % 4294967296) = true) (h4 : hasB s.fl 4 = false) :
    Calls Try.prog 9 #[.agg n.cs, .agg s.cs] w fun e w' => e = .returned (.int .i64 (openV n s : Nat)) ∧ Below w.heap.size w w' := by
  have hv : openV n s = passV (hasB s.fl 1) := by unfold openV; simp [← beqt ha, h2, h4]
  rw [hv]
  clear hv
  obtain ⟨HN0, HS0⟩ := JN.two 25 w n s
  have HN := Lib.hid HN0
  have HS := Lib.hid HS0
  have HOK := Lib.hid hs
  have NOK := Lib.hid hn
  clear HN0 HS0 hs hn
  obtain ⟨n0, n1, n2, n3, n4⟩ := HN.out.cells
  obtain ⟨s0, s1, s2, s3, s4, s5, s6⟩ := HS.out.cells
  unfold Nm.cs Sj.cs at *
  go_enter Try.func9, Try.ntmps9
  go_wp2_with fail
  refine (jhas2 s _ HOK.out).mono ?_
  rintro e w1 ⟨rfl, hb⟩
  have HN1 := Lib.hid (HN.out.into hb)
  have HS1 := Lib.hid (HS.out.into hb)
  clear hb n0 n1 n2 n3 n4 s0 s1 s2 s3 s4 s5 s6
  obtain ⟨n0, n1, n2, n3, n4⟩ := HN1.out.cells
  obtain ⟨s0, s1, s2, s3, s4, s5, s6⟩ := HS1.out.cells
  rw [h2]
  go_wp2_with fail
  refine (jhas4 s _ HOK.out).mono ?_
  rintro e w2 ⟨rfl, hb⟩
  have HN2 := Lib.hid (HN1.out.into hb)
  have HS2 := Lib.hid (HS1.out.into hb)
  clear hb n0 n1 n2 n3 n4 s0 s1 s2 s3 s4 s5 s6
  obtain ⟨n0, n1, n2, n3, n4⟩ := HN2.out.cells
  obtain ⟨s0, s1, s2, s3, s4, s5, s6⟩ := HS2.out.cells
  rw [h4]
  go_wp2_with fail
  refine (jhas1 s _ HOK.out).mono ?_
  rintro e w3 ⟨rfl, hb⟩
  have HN3 := Lib.hid (HN2.out.into hb)
  have HS3 := Lib.hid (HS2.out.into hb)
  clear hb n0 n1 n2 n3 n4 s0 s1 s2 s3 s4 s5 s6
  obtain ⟨n0, n1, n2, n3, n4⟩ := HN3.out.cells
  obtain ⟨s0, s1, s2, s3, s4, s5, s6⟩ := HS3.out.cells
  go_wp2_with fail
  refine (jpassif_any (hasB s.fl 1) _).mono ?_
  rintro e w4 ⟨rfl, hb⟩
  have HN4 := Lib.hid (HN3.out.into hb)
  have HS4 := Lib.hid (HS3.out.into hb)
  clear hb n0 n1 n2 n3 n4 s0 s1 s2 s3 s4 s5 s6
  obtain ⟨n0, n1, n2, n3, n4⟩ := HN4.out.cells
  obtain ⟨s0, s1, s2, s3, s4, s5, s6⟩ := HS4.out.cells
  go_wp2_with fail
  go_ret
  exact ⟨rfl, HN4.out.bel⟩
set_option maxRecDepth 20000 in
set_option maxHeartbeats 1000000 in
theorem jopen_any (n : Nm) (s : Sj) (w : World) (hn : n.ok) (hs : s.ok) :
    Calls Try.prog 9 #[.agg n.cs, .agg s.cs] w fun e w' => e = .returned (.int .i64 (openV n s : Nat)) ∧ Below w.heap.size w w' := by
  cases h2 : hasB s.fl 2
  · refine jo1 n s w hn hs h2 ?_
    have := flOne hs.fl h2
    simp; omega
  cases ha : (s.ack == (n.fst + 1) % 4294967296)
  · cases f2 : ((s.fl : Int) == 2)
    · exact jo3 n s w hn hs h2 ha f2
    · exact jo2 n s w hn hs h2 ha f2
  cases h4 : hasB s.fl 4
  · exact jo5 n s w hn hs h2 ha h4
  · exact jo4 n s w hn hs h2 ha h4
set_option maxRecDepth 20000 in
set_option maxHeartbeats 1000000 in
theorem jh1 (n : Nm) (s : Sj) (sd : Bool) (w : World) (hn : n.ok) (hs : s.ok) (h4 : hasB s.fl 4 = true) (hw : (s.seq == n.wt) = true) :
    Calls Try.prog 10 #[.agg n.cs, .agg s.cs, .bool sd] w fun e w' => e = .returned (.int .i64 (halfV n s sd : Nat)) ∧ Below w.heap.size w w' := by
  have hv : halfV n s sd = 4 := by unfold halfV; simp [h4, beqt hw]
  rw [hv]
  clear hv
  obtain ⟨HN0, HS0⟩ := JN.two 25 w n s
  have HN := Lib.hid HN0
  have HS := Lib.hid HS0
  have HOK := Lib.hid hs
  have NOK := Lib.hid hn
  clear HN0 HS0 hs hn
  obtain ⟨n0, n1, n2, n3, n4⟩ := HN.out.cells
  obtain ⟨s0, s1, s2, s3, s4, s5, s6⟩ := HS.out.cells
  unfold Nm.cs Sj.cs at *
  go_enter Try.func10, Try.ntmps10
  go_wp2_with fail
  refine (jhas4 s _ HOK.out).mono ?_
  rintro e w1 ⟨rfl, hb⟩
  have HN1 := Lib.hid (HN.out.into hb)
  have HS1 := Lib.hid (HS.out.into hb)
  clear hb n0 n1 n2 n3 n4 s0 s1 s2 s3 s4 s5 s6
  obtain ⟨n0, n1, n2, n3, n4⟩ := HN1.out.cells
  obtain ⟨s0, s1, s2, s3, s4, s5, s6⟩ := HS1.out.cells
  rw [h4]
  go_wp2_with fail
  go_ret
  exact ⟨rfl, HN1.out.bel⟩
set_option maxRecDepth 20000 in
set_option maxHeartbeats 1000000 in
theorem jh2 (n : Nm) (s : Sj) (sd : Bool) (w : World) (hn : n.ok) (hs : s.ok) (h4 : hasB s.fl 4 = true) (hw : (s.seq == n.wt) = false) :
    Calls Try.prog 10 #[.agg n.cs, .agg s.cs, .bool sd] w fun e w' => e = .returned (.int .i64 (halfV n s sd : Nat)) ∧ Below w.heap.size w w' := by
  have hv : halfV n s sd = 2 := by unfold halfV; simp [h4, beqf hw]
  rw [hv]
  clear hv
  obtain ⟨HN0, HS0⟩ := JN.two 25 w n s
  have HN := Lib.hid HN0
  have HS := Lib.hid HS0
  have HOK := Lib.hid hs
  have NOK := Lib.hid hn
  clear HN0 HS0 hs hn
  obtain ⟨n0, n1, n2, n3, n4⟩ := HN.out.cells
  obtain ⟨s0, s1, s2, s3, s4, s5, s6⟩ := HS.out.cells
  unfold Nm.cs Sj.cs at *
  go_enter Try.func10, Try.ntmps10
  go_wp2_with fail
  refine (jhas4 s _ HOK.out).mono ?_
  rintro e w1 ⟨rfl, hb⟩
  have HN1 := Lib.hid (HN.out.into hb)
  have HS1 := Lib.hid (HS.out.into hb)
  clear hb n0 n1 n2 n3 n4 s0 s1 s2 s3 s4 s5 s6
  obtain ⟨n0, n1, n2, n3, n4⟩ := HN1.out.cells
  obtain ⟨s0, s1, s2, s3, s4, s5, s6⟩ := HS1.out.cells
  rw [h4]
  go_wp2_with fail
  go_ret
  exact ⟨rfl, HN1.out.bel⟩
set_option maxRecDepth 20000 in
set_option maxHeartbeats 1000000 in
theorem jh3 (n : Nm) (s : Sj) (sd : Bool) (w : World) (hn : n.ok) (hs : s.ok) (h4 : hasB s.fl 4 = false) (h1 : hasB s.fl 1 = true) (f1 : ((s.fl : Int) == 1) = false) :
    Calls Try.prog 10 #[.agg n.cs, .agg s.cs, .bool sd] w fun e w' => e = .returned (.int .i64 (halfV n s sd : Nat)) ∧ Below w.heap.size w w' := by
  have hv : halfV n s sd = passV false := by unfold halfV; simp [h4, h1, fl_b (k := 1) f1]
  rw [hv]
  clear hv
  obtain ⟨HN0, HS0⟩ := JN.two 25 w n s
  have HN := Lib.hid HN0
  have HS := Lib.hid HS0
  have HOK := Lib.hid hs
  have NOK := Lib.hid hn
  clear HN0 HS0 hs hn
  obtain ⟨n0, n1, n2, n3, n4⟩ := HN.out.cells
  obtain ⟨s0, s1, s2, s3, s4, s5, s6⟩ := HS.out.cells
  unfold Nm.cs Sj.cs at *
  go_enter Try.func10, Try.ntmps10
  go_wp2_with fail
  refine (jhas4 s _ HOK.out).mono ?_
  rintro e w1 ⟨rfl, hb⟩
  have HN1 := Lib.hid (HN.out.into hb)
  have HS1 := Lib.hid (HS.out.into hb)
  clear hb n0 n1 n2 n3 n4 s0 s1 s2 s3 s4 s5 s6
  obtain ⟨n0, n1, n2, n3, n4⟩ := HN1.out.cells
  obtain ⟨s0, s1, s2, s3, s4, s5, s6⟩ := HS1.out.cells
  rw [h4]
  go_wp2_with fail
  refine (jhas1 s _ HOK.out).mono ?_
  rintro e w2 ⟨rfl, hb⟩
  have HN2 := Lib.hid (HN1.out.into hb)
  have HS2 := Lib.hid (HS1.out.into hb)
  clear hb n0 n1 n2 n3 n4 s0 s1 s2 s3 s4 s5 s6
  obtain ⟨n0, n1, n2, n3, n4⟩ := HN2.out.cells
  obtain ⟨s0, s1, s2, s3, s4, s5, s6⟩ := HS2.out.cells
  rw [h1]
  go_wp2_with fail
  refine (jpassif_any false _).mono ?_
  rintro e w3 ⟨rfl, hb⟩
  have HN3 := Lib.hid (HN2.out.into hb)
  have HS3 := Lib.hid (HS2.out.into hb)
  clear hb n0 n1 n2 n3 n4 s0 s1 s2 s3 s4 s5 s6
  obtain ⟨n0, n1, n2, n3, n4⟩ := HN3.out.cells
  obtain ⟨s0, s1, s2, s3, s4, s5, s6⟩ := HS3.out.cells
  go_wp2_with fail
  go_ret
  exact ⟨rfl, HN3.out.bel⟩
set_option maxRecDepth 20000 in
set_option maxHeartbeats 1000000 in
theorem jh4 (n : Nm) (s : Sj) (sd : Bool) (w : World) (hn : n.ok) (hs : s.ok) (h4 : hasB s.fl 4 = false) (h1 : hasB s.fl 1 = true) (f1 : ((s.fl : Int) == 1) = true) (hq : ((s.seq + 1) % 4294967296 == n.wt) = false) :
    Calls Try.prog 10 #[.agg n.cs, .agg s.cs, .bool sd] w fun e w' => e = .returned (.int .i64 (halfV n s sd : Nat)) ∧ Below w.heap.size w w' := by
  have hv : halfV n s sd = passV false := by unfold halfV; simp [h4, h1, fl_b (k := 1) f1, beqf hq]
  rw [hv]
  clear hv
  obtain ⟨HN0, HS0⟩ := JN.two 25 w n s
  have HN := Lib.hid HN0
  have HS := Lib.hid HS0
  have HOK := Lib.hid hs
  have NOK := Lib.hid hn
  clear HN0 HS0 hs hn
  obtain ⟨n0, n1, n2, n3, n4⟩ := HN.out.cells
  obtain ⟨s0, s1, s2, s3, s4, s5, s6⟩ := HS.out.cells
  unfold Nm.cs Sj.cs at *
  go_enter Try.func10, Try.ntmps10
  go_wp2_with fail
  refine (jhas4 s _ HOK.out).mono ?_
  rintro e w1 ⟨rfl, hb⟩
  have HN1 := Lib.hid (HN.out.into hb)
  have HS1 := Lib.hid (HS.out.into hb)
  clear hb n0 n1 n2 n3 n4 s0 s1 s2 s3 s4 s5 s6
  obtain ⟨n0, n1, n2, n3, n4⟩ := HN1.out.cells
  obtain ⟨s0, s1, s2, s3, s4, s5, s6⟩ := HS1.out.cells
  rw [h4]
  go_wp2_with fail
  refine (jhas1 s _ HOK.out).mono ?_
  rintro e w2 ⟨rfl, hb⟩
  have HN2 := Lib.hid (HN1.out.into hb)
  have HS2 := Lib.hid (HS1.out.into hb)
  clear hb n0 n1 n2 n3 n4 s0 s1 s2 s3 s4 s5 s6
  obtain ⟨n0, n1, n2, n3, n4⟩ := HN2.out.cells
  obtain ⟨s0, s1, s2, s3, s4, s5, s6⟩ := HS2.out.cells
  rw [h1]
  go_wp2_with fail
  refine (jpassif_any false _).mono ?_
  rintro e w3 ⟨rfl, hb⟩
  have HN3 := Lib.hid (HN2.out.into hb)
  have HS3 := Lib.hid (HS2.out.into hb)
  clear hb n0 n1 n2 n3 n4 s0 s1 s2 s3 s4 s5 s6
  obtain ⟨n0, n1, n2, n3, n4⟩ := HN3.out.cells
  obtain ⟨s0, s1, s2, s3, s4, s5, s6⟩ := HS3.out.cells
  go_wp2_with fail
  go_ret
  exact ⟨rfl, HN3.out.bel⟩
set_option maxRecDepth 20000 in
set_option maxHeartbeats 1000000 in
theorem jh5 (n : Nm) (s : Sj) (sd : Bool) (w : World) (hn : n.ok) (hs : s.ok) (h4 : hasB s.fl 4 = false) (h1 : hasB s.fl 1 = true) (f1 : ((s.fl : Int) == 1) = true) (hq : ((s.seq + 1) % 4294967296 == n.wt) = true) :
    Calls Try.prog 10 #[.agg n.cs, .agg s.cs, .bool sd] w fun e w' => e = .returned (.int .i64 (halfV n s sd : Nat)) ∧ Below w.heap.size w w' := by
  have hv : halfV n s sd = passV true := by unfold halfV; simp [h4, h1, fl_b (k := 1) f1, beqt hq]
  rw [hv]
  clear hv
  obtain ⟨HN0, HS0⟩ := JN.two 25 w n s
  have HN := Lib.hid HN0
  have HS := Lib.hid HS0
  have HOK := Lib.hid hs
  have NOK := Lib.hid hn
  clear HN0 HS0 hs hn
  obtain ⟨n0, n1, n2, n3, n4⟩ := HN.out.cells
  obtain ⟨s0, s1, s2, s3, s4, s5, s6⟩ := HS.out.cells
  unfold Nm.cs Sj.cs at *
  go_enter Try.func10, Try.ntmps10
  go_wp2_with fail
  refine (jhas4 s _ HOK.out).mono ?_
  rintro e w1 ⟨rfl, hb⟩
  have HN1 := Lib.hid (HN.out.into hb)
  have HS1 := Lib.hid (HS.out.into hb)
  clear hb n0 n1 n2 n3 n4 s0 s1 s2 s3 s4 s5 s6
  obtain ⟨n0, n1, n2, n3, n4⟩ := HN1.out.cells
  obtain ⟨s0, s1, s2, s3, s4, s5, s6⟩ := HS1.out.cells
  rw [h4]
  go_wp2_with fail
  refine (jhas1 s _ HOK.out).mono ?_
  rintro e w2 ⟨rfl, hb⟩
  have HN2 := Lib.hid (HN1.out.into hb)
  have HS2 := Lib.hid (HS1.out.into hb)
  clear hb n0 n1 n2 n3 n4 s0 s1 s2 s3 s4 s5 s6
  obtain ⟨n0, n1, n2, n3, n4⟩ := HN2.out.cells
  obtain ⟨s0, s1, s2, s3, s4, s5, s6⟩ := HS2.out.cells
  rw [h1]
  go_wp2_with fail
  refine (jpassif_any true _).mono ?_
  rintro e w3 ⟨rfl, hb⟩
  have HN3 := Lib.hid (HN2.out.into hb)
  have HS3 := Lib.hid (HS2.out.into hb)
  clear hb n0 n1 n2 n3 n4 s0 s1 s2 s3 s4 s5 s6
  obtain ⟨n0, n1, n2, n3, n4⟩ := HN3.out.cells
  obtain ⟨s0, s1, s2, s3, s4, s5, s6⟩ := HS3.out.cells
  go_wp2_with fail
  go_ret
  exact ⟨rfl, HN3.out.bel⟩
set_option maxRecDepth 20000 in
set_option maxHeartbeats 1000000 in
theorem jh6 (n : Nm) (s : Sj) (sd : Bool) (w : World) (hn : n.ok) (hs : s.ok) (h4 : hasB s.fl 4 = false) (h1 : hasB s.fl 1 = false) :
    Calls Try.prog 10 #[.agg n.cs, .agg s.cs, .bool sd] w fun e w' => e = .returned (.int .i64 (halfV n s sd : Nat)) ∧ Below w.heap.size w w' := by
  have hv : halfV n s sd = passV (fitsB n s sd) := by unfold halfV; simp [h4, h1]
  rw [hv]
  clear hv
  obtain ⟨HN0, HS0⟩ := JN.two 25 w n s
  have HN := Lib.hid HN0
  have HS := Lib.hid HS0
  have HOK := Lib.hid hs
  have NOK := Lib.hid hn
  clear HN0 HS0 hs hn
  obtain ⟨n0, n1, n2, n3, n4⟩ := HN.out.cells
  obtain ⟨s0, s1, s2, s3, s4, s5, s6⟩ := HS.out.cells
  unfold Nm.cs Sj.cs at *
  go_enter Try.func10, Try.ntmps10
  go_wp2_with fail
  refine (jhas4 s _ HOK.out).mono ?_
  rintro e w1 ⟨rfl, hb⟩
  have HN1 := Lib.hid (HN.out.into hb)
  have HS1 := Lib.hid (HS.out.into hb)
  clear hb n0 n1 n2 n3 n4 s0 s1 s2 s3 s4 s5 s6
  obtain ⟨n0, n1, n2, n3, n4⟩ := HN1.out.cells
  obtain ⟨s0, s1, s2, s3, s4, s5, s6⟩ := HS1.out.cells
  rw [h4]
  go_wp2_with fail
  refine (jhas1 s _ HOK.out).mono ?_
  rintro e w2 ⟨rfl, hb⟩
  have HN2 := Lib.hid (HN1.out.into hb)
  have HS2 := Lib.hid (HS1.out.into hb)
  clear hb n0 n1 n2 n3 n4 s0 s1 s2 s3 s4 s5 s6
  obtain ⟨n0, n1, n2, n3, n4⟩ := HN2.out.cells
  obtain ⟨s0, s1, s2, s3, s4, s5, s6⟩ := HS2.out.cells
  rw [h1]
  go_wp2_with fail
  refine (jfits_any n s sd _ HOK.out).mono ?_
  rintro e w3 ⟨rfl, hb⟩
  have HN3 := Lib.hid (HN2.out.into hb)
  have HS3 := Lib.hid (HS2.out.into hb)
  clear hb n0 n1 n2 n3 n4 s0 s1 s2 s3 s4 s5 s6
  obtain ⟨n0, n1, n2, n3, n4⟩ := HN3.out.cells
  obtain ⟨s0, s1, s2, s3, s4, s5, s6⟩ := HS3.out.cells
  go_wp2_with fail
  refine (jpassif_any (fitsB n s sd) _).mono ?_
  rintro e w4 ⟨rfl, hb⟩
  have HN4 := Lib.hid (HN3.out.into hb)
  have HS4 := Lib.hid (HS3.out.into hb)
  clear hb n0 n1 n2 n3 n4 s0 s1 s2 s3 s4 s5 s6
  obtain ⟨n0, n1, n2, n3, n4⟩ := HN4.out.cells
  obtain ⟨s0, s1, s2, s3, s4, s5, s6⟩ := HS4.out.cells
  go_wp2_with fail
  go_ret
  exact ⟨rfl, HN4.out.bel⟩
set_option maxRecDepth 20000 in
set_option maxHeartbeats 1000000 in
theorem jhalf_any (n : Nm) (s : Sj) (sd : Bool) (w : World) (hn : n.ok) (hs : s.ok) :
    Calls Try.prog 10 #[.agg n.cs, .agg s.cs, .bool sd] w fun e w' => e = .returned (.int .i64 (halfV n s sd : Nat)) ∧ Below w.heap.size w w' := by
  cases h4 : hasB s.fl 4
  · cases h1 : hasB s.fl 1
    · exact jh6 n s sd w hn hs h4 h1
    cases f1 : ((s.fl : Int) == 1)
    · exact jh3 n s sd w hn hs h4 h1 f1
    cases hq : ((s.seq + 1) % 4294967296 == n.wt)
    · exact jh4 n s sd w hn hs h4 h1 f1 hq
    · exact jh5 n s sd w hn hs h4 h1 f1 hq
  · cases hw : (s.seq == n.wt)
    · exact jh2 n s sd w hn hs h4 hw
    · exact jh1 n s sd w hn hs h4 hw
set_option maxRecDepth 20000 in
set_option maxHeartbeats 1000000 in
theorem ju1 (n : Nm) (s : Sj) (sd : Bool) (w : World) (hn : n.ok) (hs : s.ok) (h4 : hasB s.fl 4 = true) (hw : (s.seq == n.wt) = true) :
    Calls Try.prog 11 #[.agg n.cs, .agg s.cs, .bool sd] w fun e w' => e = .returned (.int .i64 (upV n s sd : Nat)) ∧ Below w.heap.size w w' := by
  have hv : upV n s sd = 4 := by unfold upV; simp [h4, beqt hw]
  rw [hv]
  clear hv
  obtain ⟨HN0, HS0⟩ := JN.two 25 w n s
  have HN := Lib.hid HN0
  have HS := Lib.hid HS0
  have HOK := Lib.hid hs
  have NOK := Lib.hid hn
  clear HN0 HS0 hs hn
  obtain ⟨n0, n1, n2, n3, n4⟩ := HN.out.cells
  obtain ⟨s0, s1, s2, s3, s4, s5, s6⟩ := HS.out.cells
  unfold Nm.cs Sj.cs at *
  go_enter Try.func11, Try.ntmps11
  go_wp2_with fail
  refine (jhas4 s _ HOK.out).mono ?_
  rintro e w1 ⟨rfl, hb⟩
  have HN1 := Lib.hid (HN.out.into hb)
  have HS1 := Lib.hid (HS.out.into hb)
  clear hb n0 n1 n2 n3 n4 s0 s1 s2 s3 s4 s5 s6
  obtain ⟨n0, n1, n2, n3, n4⟩ := HN1.out.cells
  obtain ⟨s0, s1, s2, s3, s4, s5, s6⟩ := HS1.out.cells
  rw [h4]
  go_wp2_with fail
  go_ret
  exact ⟨rfl, HN1.out.bel⟩
set_option maxRecDepth 20000 in
set_option maxHeartbeats 1000000 in
theorem ju2 (n : Nm) (s : Sj) (sd : Bool) (w : World) (hn : n.ok) (hs : s.ok) (h4 : hasB s.fl 4 = true) (hw : (s.seq == n.wt) = false) (hwi : wi s.seq n.wt 1048576 = true) :
    Calls Try.prog 11 #[.agg n.cs, .agg s.cs, .bool sd] w fun e w' => e = .returned (.int .i64 (upV n s sd : Nat)) ∧ Below w.heap.size w w' := by
  have hv : upV n s sd = 3 := by unfold upV; simp [h4, beqf hw, hwi]
  rw [hv]
  clear hv
  obtain ⟨HN0, HS0⟩ := JN.two 25 w n s
  have HN := Lib.hid HN0
  have HS := Lib.hid HS0
  have HOK := Lib.hid hs
  have NOK := Lib.hid hn
  clear HN0 HS0 hs hn
  obtain ⟨n0, n1, n2, n3, n4⟩ := HN.out.cells
  obtain ⟨s0, s1, s2, s3, s4, s5, s6⟩ := HS.out.cells
  unfold Nm.cs Sj.cs at *
  go_enter Try.func11, Try.ntmps11
  go_wp2_with fail
  refine (jhas4 s _ HOK.out).mono ?_
  rintro e w1 ⟨rfl, hb⟩
  have HN1 := Lib.hid (HN.out.into hb)
  have HS1 := Lib.hid (HS.out.into hb)
  clear hb n0 n1 n2 n3 n4 s0 s1 s2 s3 s4 s5 s6
  obtain ⟨n0, n1, n2, n3, n4⟩ := HN1.out.cells
  obtain ⟨s0, s1, s2, s3, s4, s5, s6⟩ := HS1.out.cells
  rw [h4]
  go_wp2_with fail
  refine (within_any s.seq n.wt 1048576 _).mono ?_
  rintro e w2 ⟨rfl, rfl⟩
  rw [hwi]
  go_wp2_with fail
  go_ret
  exact ⟨rfl, HN1.out.bel⟩
set_option maxRecDepth 20000 in
set_option maxHeartbeats 1000000 in
theorem ju3 (n : Nm) (s : Sj) (sd : Bool) (w : World) (hn : n.ok) (hs : s.ok) (h4 : hasB s.fl 4 = true) (hw : (s.seq == n.wt) = false) (hwi : wi s.seq n.wt 1048576 = false) :
    Calls Try.prog 11 #[.agg n.cs, .agg s.cs, .bool sd] w fun e w' => e = .returned (.int .i64 (upV n s sd : Nat)) ∧ Below w.heap.size w w' := by
  have hv : upV n s sd = 2 := by unfold upV; simp [h4, beqf hw, hwi]
  rw [hv]
  clear hv
  obtain ⟨HN0, HS0⟩ := JN.two 25 w n s
  have HN := Lib.hid HN0
  have HS := Lib.hid HS0
  have HOK := Lib.hid hs
  have NOK := Lib.hid hn
  clear HN0 HS0 hs hn
  obtain ⟨n0, n1, n2, n3, n4⟩ := HN.out.cells
  obtain ⟨s0, s1, s2, s3, s4, s5, s6⟩ := HS.out.cells
  unfold Nm.cs Sj.cs at *
  go_enter Try.func11, Try.ntmps11
  go_wp2_with fail
  refine (jhas4 s _ HOK.out).mono ?_
  rintro e w1 ⟨rfl, hb⟩
  have HN1 := Lib.hid (HN.out.into hb)
  have HS1 := Lib.hid (HS.out.into hb)
  clear hb n0 n1 n2 n3 n4 s0 s1 s2 s3 s4 s5 s6
  obtain ⟨n0, n1, n2, n3, n4⟩ := HN1.out.cells
  obtain ⟨s0, s1, s2, s3, s4, s5, s6⟩ := HS1.out.cells
  rw [h4]
  go_wp2_with fail
  refine (within_any s.seq n.wt 1048576 _).mono ?_
  rintro e w2 ⟨rfl, rfl⟩
  rw [hwi]
  go_wp2_with fail
  go_ret
  exact ⟨rfl, HN1.out.bel⟩
set_option maxRecDepth 20000 in
set_option maxHeartbeats 1000000 in
theorem ju4 (n : Nm) (s : Sj) (sd : Bool) (w : World) (hn : n.ok) (hs : s.ok) (h4 : hasB s.fl 4 = false) (h1 : hasB s.fl 1 = true) :
    Calls Try.prog 11 #[.agg n.cs, .agg s.cs, .bool sd] w fun e w' => e = .returned (.int .i64 (upV n s sd : Nat)) ∧ Below w.heap.size w w' := by
  have hv : upV n s sd = 3 := by unfold upV; simp [h4, h1]
  rw [hv]
  clear hv
  obtain ⟨HN0, HS0⟩ := JN.two 25 w n s
  have HN := Lib.hid HN0
  have HS := Lib.hid HS0
  have HOK := Lib.hid hs
  have NOK := Lib.hid hn
  clear HN0 HS0 hs hn
  obtain ⟨n0, n1, n2, n3, n4⟩ := HN.out.cells
  obtain ⟨s0, s1, s2, s3, s4, s5, s6⟩ := HS.out.cells
  unfold Nm.cs Sj.cs at *
  go_enter Try.func11, Try.ntmps11
  go_wp2_with fail
  refine (jhas4 s _ HOK.out).mono ?_
  rintro e w1 ⟨rfl, hb⟩
  have HN1 := Lib.hid (HN.out.into hb)
  have HS1 := Lib.hid (HS.out.into hb)
  clear hb n0 n1 n2 n3 n4 s0 s1 s2 s3 s4 s5 s6
  obtain ⟨n0, n1, n2, n3, n4⟩ := HN1.out.cells
  obtain ⟨s0, s1, s2, s3, s4, s5, s6⟩ := HS1.out.cells
  rw [h4]
  go_wp2_with fail
  refine (jhas1 s _ HOK.out).mono ?_
  rintro e w2 ⟨rfl, hb⟩
  have HN2 := Lib.hid (HN1.out.into hb)
  have HS2 := Lib.hid (HS1.out.into hb)
  clear hb n0 n1 n2 n3 n4 s0 s1 s2 s3 s4 s5 s6
  obtain ⟨n0, n1, n2, n3, n4⟩ := HN2.out.cells
  obtain ⟨s0, s1, s2, s3, s4, s5, s6⟩ := HS2.out.cells
  rw [h1]
  go_wp2_with fail
  go_ret
  exact ⟨rfl, HN2.out.bel⟩
set_option maxRecDepth 20000 in
set_option maxHeartbeats 1000000 in
theorem ju5 (n : Nm) (s : Sj) (sd : Bool) (w : World) (hn : n.ok) (hs : s.ok) (h4 : hasB s.fl 4 = false) (h1 : hasB s.fl 1 = false) :
    Calls Try.prog 11 #[.agg n.cs, .agg s.cs, .bool sd] w fun e w' => e = .returned (.int .i64 (upV n s sd : Nat)) ∧ Below w.heap.size w w' := by
  have hv : upV n s sd = passV (fitsB n s sd) := by unfold upV; simp [h4, h1]
  rw [hv]
  clear hv
  obtain ⟨HN0, HS0⟩ := JN.two 25 w n s
  have HN := Lib.hid HN0
  have HS := Lib.hid HS0
  have HOK := Lib.hid hs
  have NOK := Lib.hid hn
  clear HN0 HS0 hs hn
  obtain ⟨n0, n1, n2, n3, n4⟩ := HN.out.cells
  obtain ⟨s0, s1, s2, s3, s4, s5, s6⟩ := HS.out.cells
  unfold Nm.cs Sj.cs at *
  go_enter Try.func11, Try.ntmps11
  go_wp2_with fail
  refine (jhas4 s _ HOK.out).mono ?_
  rintro e w1 ⟨rfl, hb⟩
  have HN1 := Lib.hid (HN.out.into hb)
  have HS1 := Lib.hid (HS.out.into hb)
  clear hb n0 n1 n2 n3 n4 s0 s1 s2 s3 s4 s5 s6
  obtain ⟨n0, n1, n2, n3, n4⟩ := HN1.out.cells
  obtain ⟨s0, s1, s2, s3, s4, s5, s6⟩ := HS1.out.cells
  rw [h4]
  go_wp2_with fail
  refine (jhas1 s _ HOK.out).mono ?_
  rintro e w2 ⟨rfl, hb⟩
  have HN2 := Lib.hid (HN1.out.into hb)
  have HS2 := Lib.hid (HS1.out.into hb)
  clear hb n0 n1 n2 n3 n4 s0 s1 s2 s3 s4 s5 s6
  obtain ⟨n0, n1, n2, n3, n4⟩ := HN2.out.cells
  obtain ⟨s0, s1, s2, s3, s4, s5, s6⟩ := HS2.out.cells
  rw [h1]
  go_wp2_with fail
  refine (jfits_any n s sd _ HOK.out).mono ?_
  rintro e w3 ⟨rfl, hb⟩
  have HN3 := Lib.hid (HN2.out.into hb)
  have HS3 := Lib.hid (HS2.out.into hb)
  clear hb n0 n1 n2 n3 n4 s0 s1 s2 s3 s4 s5 s6
  obtain ⟨n0, n1, n2, n3, n4⟩ := HN3.out.cells
  obtain ⟨s0, s1, s2, s3, s4, s5, s6⟩ := HS3.out.cells
  go_wp2_with fail
  refine (jpassif_any (fitsB n s sd) _).mono ?_
  rintro e w4 ⟨rfl, hb⟩
  have HN4 := Lib.hid (HN3.out.into hb)
  have HS4 := Lib.hid (HS3.out.into hb)
  clear hb n0 n1 n2 n3 n4 s0 s1 s2 s3 s4 s5 s6
  obtain ⟨n0, n1, n2, n3, n4⟩ := HN4.out.cells
  obtain ⟨s0, s1, s2, s3, s4, s5, s6⟩ := HS4.out.cells
  go_wp2_with fail
  go_ret
  exact ⟨rfl, HN4.out.bel⟩
set_option maxRecDepth 20000 in
set_option maxHeartbeats 1000000 in
theorem jup_any (n : Nm) (s : Sj) (sd : Bool) (w : World) (hn : n.ok) (hs : s.ok) :
    Calls Try.prog 11 #[.agg n.cs, .agg s.cs, .bool sd] w fun e w' => e = .returned (.int .i64 (upV n s sd : Nat)) ∧ Below w.heap.size w w' := by
  cases h4 : hasB s.fl 4
  · cases h1 : hasB s.fl 1
    · exact ju5 n s sd w hn hs h4 h1
    · exact ju4 n s sd w hn hs h4 h1
  · cases hw : (s.seq == n.wt)
    · cases hwi : wi s.seq n.wt 1048576
      · exact ju3 n s sd w hn hs h4 hw hwi
      · exact ju2 n s sd w hn hs h4 hw hwi
    · exact ju1 n s sd w hn hs h4 hw
set_option maxRecDepth 20000 in
set_option maxHeartbeats 1000000 in
theorem jj1 (n : Nm) (s : Sj) (sd : Bool) (w : World) (hn : n.ok) (hs : s.ok) (t1 : (n.st == 1) = true) :
    Calls Try.prog 6 #[.agg n.cs, .agg s.cs, .bool sd] w fun e w' => e = .returned (.int .i64 (judgeV n s sd : Nat)) ∧ Below w.heap.size w w' := by
  have hv : judgeV n s sd = openV n s := by unfold judgeV; simp [beqt t1]
  rw [hv]
  clear hv
  obtain ⟨HN0, HS0⟩ := JN.two 25 w n s
  have HN := Lib.hid HN0
  have HS := Lib.hid HS0
  have HOK := Lib.hid hs
  have NOK := Lib.hid hn
  clear HN0 HS0 hs hn
  obtain ⟨n0, n1, n2, n3, n4⟩ := HN.out.cells
  obtain ⟨s0, s1, s2, s3, s4, s5, s6⟩ := HS.out.cells
  unfold Nm.cs Sj.cs at *
  go_enter Try.func6, Try.ntmps6
  go_wp2_with fail
  refine (jopen_any n s _ NOK.out HOK.out).mono ?_
  rintro e w1 ⟨rfl, hb⟩
  have HN1 := Lib.hid (HN.out.into hb)
  have HS1 := Lib.hid (HS.out.into hb)
  clear hb n0 n1 n2 n3 n4 s0 s1 s2 s3 s4 s5 s6
  obtain ⟨n0, n1, n2, n3, n4⟩ := HN1.out.cells
  obtain ⟨s0, s1, s2, s3, s4, s5, s6⟩ := HS1.out.cells
  go_wp2_with fail
  go_ret
  exact ⟨rfl, HN1.out.bel⟩
set_option maxRecDepth 20000 in
set_option maxHeartbeats 1000000 in
theorem jj2 (n : Nm) (s : Sj) (sd : Bool) (w : World) (hn : n.ok) (hs : s.ok) (t1 : (n.st == 1) = false) (t2 : (n.st == 2) = true) :
    Calls Try.prog 6 #[.agg n.cs, .agg s.cs, .bool sd] w fun e w' => e = .returned (.int .i64 (judgeV n s sd : Nat)) ∧ Below w.heap.size w w' := by
  have hv : judgeV n s sd = halfV n s sd := by unfold judgeV; simp [beqt t2]
  rw [hv]
  clear hv
  obtain ⟨HN0, HS0⟩ := JN.two 25 w n s
  have HN := Lib.hid HN0
  have HS := Lib.hid HS0
  have HOK := Lib.hid hs
  have NOK := Lib.hid hn
  clear HN0 HS0 hs hn
  obtain ⟨n0, n1, n2, n3, n4⟩ := HN.out.cells
  obtain ⟨s0, s1, s2, s3, s4, s5, s6⟩ := HS.out.cells
  unfold Nm.cs Sj.cs at *
  go_enter Try.func6, Try.ntmps6
  go_wp2_with fail
  refine (jhalf_any n s sd _ NOK.out HOK.out).mono ?_
  rintro e w1 ⟨rfl, hb⟩
  have HN1 := Lib.hid (HN.out.into hb)
  have HS1 := Lib.hid (HS.out.into hb)
  clear hb n0 n1 n2 n3 n4 s0 s1 s2 s3 s4 s5 s6
  obtain ⟨n0, n1, n2, n3, n4⟩ := HN1.out.cells
  obtain ⟨s0, s1, s2, s3, s4, s5, s6⟩ := HS1.out.cells
  go_wp2_with fail
  go_ret
  exact ⟨rfl, HN1.out.bel⟩
set_option maxRecDepth 20000 in
set_option maxHeartbeats 1000000 in
theorem jj3 (n : Nm) (s : Sj) (sd : Bool) (w : World) (hn : n.ok) (hs : s.ok) (t1 : (n.st == 1) = false) (t2 : (n.st == 2) = false) (t3 : (n.st == 3) = true) :
    Calls Try.prog 6 #[.agg n.cs, .agg s.cs, .bool sd] w fun e w' => e = .returned (.int .i64 (judgeV n s sd : Nat)) ∧ Below w.heap.size w w' := by
  have hv : judgeV n s sd = upV n s sd := by unfold judgeV; simp [beqt t3]
  rw [hv]
  clear hv
  obtain ⟨HN0, HS0⟩ := JN.two 25 w n s
  have HN := Lib.hid HN0
  have HS := Lib.hid HS0
  have HOK := Lib.hid hs
  have NOK := Lib.hid hn
  clear HN0 HS0 hs hn
  obtain ⟨n0, n1, n2, n3, n4⟩ := HN.out.cells
  obtain ⟨s0, s1, s2, s3, s4, s5, s6⟩ := HS.out.cells
  unfold Nm.cs Sj.cs at *
  go_enter Try.func6, Try.ntmps6
  go_wp2_with fail
  refine (jup_any n s sd _ NOK.out HOK.out).mono ?_
  rintro e w1 ⟨rfl, hb⟩
  have HN1 := Lib.hid (HN.out.into hb)
  have HS1 := Lib.hid (HS.out.into hb)
  clear hb n0 n1 n2 n3 n4 s0 s1 s2 s3 s4 s5 s6
  obtain ⟨n0, n1, n2, n3, n4⟩ := HN1.out.cells
  obtain ⟨s0, s1, s2, s3, s4, s5, s6⟩ := HS1.out.cells
  go_wp2_with fail
  go_ret
  exact ⟨rfl, HN1.out.bel⟩
set_option maxRecDepth 20000 in
set_option maxHeartbeats 1000000 in
theorem jj4 (n : Nm) (s : Sj) (sd : Bool) (w : World) (hn : n.ok) (hs : s.ok) (t1 : (n.st == 1) = false) (t2 : (n.st == 2) = false) (t3 : (n.st == 3) = false) :
    Calls Try.prog 6 #[.agg n.cs, .agg s.cs, .bool sd] w fun e w' => e = .returned (.int .i64 (judgeV n s sd : Nat)) ∧ Below w.heap.size w w' := by
  have hv : judgeV n s sd = 2 := by unfold judgeV; simp [beqf t1, beqf t2, beqf t3]
  rw [hv]
  clear hv
  obtain ⟨HN0, HS0⟩ := JN.two 25 w n s
  have HN := Lib.hid HN0
  have HS := Lib.hid HS0
  have HOK := Lib.hid hs
  have NOK := Lib.hid hn
  clear HN0 HS0 hs hn
  obtain ⟨n0, n1, n2, n3, n4⟩ := HN.out.cells
  obtain ⟨s0, s1, s2, s3, s4, s5, s6⟩ := HS.out.cells
  unfold Nm.cs Sj.cs at *
  go_enter Try.func6, Try.ntmps6
  go_wp2_with fail
  go_ret
  exact ⟨rfl, HN.out.bel⟩
set_option maxRecDepth 20000 in
set_option maxHeartbeats 1000000 in
theorem judge_any (n : Nm) (s : Sj) (sd : Bool) (w : World) (hn : n.ok) (hs : s.ok) :
    Calls Try.prog 6 #[.agg n.cs, .agg s.cs, .bool sd] w fun e w' => e = .returned (.int .i64 (judgeV n s sd : Nat)) ∧ Below w.heap.size w w' := by
  cases t1 : (n.st == 1)
  · cases t2 : (n.st == 2)
    · cases t3 : (n.st == 3)
      · exact jj4 n s sd w hn hs t1 t2 t3
      · exact jj3 n s sd w hn hs t1 t2 t3
    · exact jj2 n s sd w hn hs t1 t2
  · exact jj1 n s sd w hn hs t1
end Go.Proofs.Ytllahldgkpbpoaa
