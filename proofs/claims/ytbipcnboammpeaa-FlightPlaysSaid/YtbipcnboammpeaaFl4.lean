/- Package flight: the predicates; what the calls do. -/
import Derived.Test.YtbipcnboammpeaaFl3
namespace Go.Proofs.Ytbipcnboammpeaa
open Go.RowKit
set_option linter.unusedVariables false
set_option linter.unusedSimpArgs false
set_option maxRecDepth 20000 in
set_option maxHeartbeats 4000000 in
theorem p_gone (c : Chk) (w : World) : Calls Try.prog 35 (#[c.agg] ++ #[]) w fun e w' => e = .returned (.bool true) ∧ Below w.heap.size w w' := by
  rw [chk_agg]
  show Calls _ _ #[.agg #[.int .u64 (c.fr : Nat), .int .i64 c.len, .bool c.fin, .int .i64 c.flow, .int .u32 c.en, .int .i64 c.sent, .int .i64 c.tries, .bool c.came, .bool c.lost]] w _
  go_enter Try.func35, Try.ntmps35
  go_wp2_with fail
  go_ret
  exact ⟨rfl, (Below.refl _ _).alloc (Nat.le_refl _) _⟩
set_option maxRecDepth 20000 in
set_option maxHeartbeats 4000000 in
theorem p_first (c : Chk) (w : World) : Calls Try.prog 33 (#[c.agg] ++ #[]) w fun e w' => e = .returned (.bool true) ∧ Below w.heap.size w w' := by
  rw [chk_agg]
  show Calls _ _ #[.agg #[.int .u64 (c.fr : Nat), .int .i64 c.len, .bool c.fin, .int .i64 c.flow, .int .u32 c.en, .int .i64 c.sent, .int .i64 c.tries, .bool c.came, .bool c.lost]] w _
  go_enter Try.func33, Try.ntmps33
  go_wp2_with fail
  go_ret
  exact ⟨rfl, (Below.refl _ _).alloc (Nat.le_refl _) _⟩
set_option maxRecDepth 20000 in
set_option maxHeartbeats 4000000 in
theorem p_again (c : Chk) (w : World) : Calls Try.prog 31 (#[c.agg] ++ #[]) w fun e w' => e = .returned (.bool c.lost) ∧ Below w.heap.size w w' := by
  rw [chk_agg]
  show Calls _ _ #[.agg #[.int .u64 (c.fr : Nat), .int .i64 c.len, .bool c.fin, .int .i64 c.flow, .int .u32 c.en, .int .i64 c.sent, .int .i64 c.tries, .bool c.came, .bool c.lost]] w _
  go_enter Try.func31, Try.ntmps31
  go_wp2_with fail
  go_ret
  exact ⟨rfl, (Below.refl _ _).alloc (Nat.le_refl _) _⟩
set_option maxRecDepth 20000 in
set_option maxHeartbeats 4000000 in
theorem p_word (c : Chk) (ack : Int) (ba : Nat) (w : World) (hba : Blk w ba 28 #[.int .u32 ack]) : Calls Try.prog 38 (#[c.agg] ++ #[.pointer (some ⟨ba, 0, none⟩)]) w fun e w' => e = .returned (.bool (decide (0 < c.len) && !c.came && decide (0 ≤ sd ack c.en))) ∧ Below w.heap.size w w' := by
  obtain ⟨r, hr⟩ : ∃ r : Bool, r = (decide (0 < c.len) && !c.came && decide (0 ≤ sd ack c.en)) := ⟨_, rfl⟩
  rw [← hr]
  have HRS := Lib.hid hr
  clear hr
  rw [chk_agg]
  show Calls _ _ #[.agg #[.int .u64 (c.fr : Nat), .int .i64 c.len, .bool c.fin, .int .i64 c.flow, .int .u32 c.en, .int .i64 c.sent, .int .i64 c.tries, .bool c.came, .bool c.lost], .pointer (some ⟨ba, 0, none⟩)] w _
  have Lba := hba.lt
  go_enter Try.func38, Try.ntmps38
  go_upto_region 1 with fail
  have K1 := Blk.new w 30 #[.int .u64 (c.fr : Nat), .int .i64 c.len, .bool c.fin, .int .i64 c.flow, .int .u32 c.en, .int .i64 c.sent, .int .i64 c.tries, .bool c.came, .bool c.lost]
  have HB := Lib.hid ((Below.refl w.heap.size w).alloc (Nat.le_refl _) (.cells #[.int .u64 (c.fr : Nat), .int .i64 c.len, .bool c.fin, .int .i64 c.flow, .int .u32 c.en, .int .i64 c.sent, .int .i64 c.tries, .bool c.came, .bool c.lost] 30))
  have x0 : (w.alloc (.cells #[.int .u64 (c.fr : Nat), .int .i64 c.len, .bool c.fin, .int .i64 c.flow, .int .u32 c.en, .int .i64 c.sent, .int .i64 c.tries, .bool c.came, .bool c.lost] 30)).cell? ⟨ba, 0, none⟩ = some (.int .u32 ack) := (hba.alloc _).cell 0
  obtain ⟨b0, b1, b2, b3, b4, b5, b6, b7, b8⟩ := ckb (c := c) K1
  obtain ⟨X, hX⟩ : ∃ X, X = w.heap.size := ⟨_, rfl⟩
  have HXX := Lib.hid hX
  rw [← hX] at b0 b1 b2 b3 b4 b5 b6 b7 b8 ⊢
  clear K1 hX hba
  generalize w.alloc (.cells #[.int .u64 (c.fr : Nat), .int .i64 c.len, .bool c.fin, .int .i64 c.flow, .int .u32 c.en, .int .i64 c.sent, .int .i64 c.tries, .bool c.came, .bool c.lost] 30) = w1 at *
  have HS := Lib.hid (less_any ack c.en)
  by_cases h0 : 0 < c.len
  · cases hcm : c.came
    · rw [hcm] at b7
      by_cases h1 : sd ack c.en < 0
      · have HR1 : Hid (r = false) := Lib.hid (by rw [HRS.out, decide_eq_true h0, decide_eq_false (show ¬ 0 ≤ sd ack c.en by omega)]; simp)
        rw [decide_eq_true h1] at HS
        clear h1
        go_wp2_with fail
        refine (HS.out _).mono ?_
        rintro e w2 ⟨rfl, rfl⟩
        go_wp2_with fail
        go_ret
        exact ⟨ret_bool HR1.out.symm, HB.out⟩
      · have HR1 : Hid (r = true) := Lib.hid (by rw [HRS.out, hcm, decide_eq_true h0, decide_eq_true (show 0 ≤ sd ack c.en by omega)]; rfl)
        rw [decide_eq_false h1] at HS
        clear h1
        go_wp2_with fail
        refine (HS.out _).mono ?_
        rintro e w2 ⟨rfl, rfl⟩
        go_wp2_with fail
        go_ret
        exact ⟨ret_bool HR1.out.symm, HB.out⟩
    · have HR1 : Hid (r = false) := Lib.hid (by rw [HRS.out, hcm]; simp)
      rw [hcm] at b7
      clear HS
      go_wp2_with fail
      go_ret
      exact ⟨ret_bool HR1.out.symm, HB.out⟩
  · have HR1 : Hid (r = false) := Lib.hid (by rw [HRS.out, decide_eq_false h0]; rfl)
    clear HS
    go_wp2_with fail
    go_ret
    exact ⟨ret_bool HR1.out.symm, HB.out⟩
set_option maxRecDepth 20000 in
set_option maxHeartbeats 4000000 in
theorem p_late (c : Chk) (now wait : Int) (bn bw : Nat) (hs : 0 ≤ c.sent ∧ c.sent < 2147483648) (hnow : 0 ≤ now ∧ now < 2147483648) (w : World) (hbn : Blk w bn 3 #[.int .i64 now]) (hbw : Blk w bw 3 #[.int .i64 wait]) : Calls Try.prog 41 (#[c.agg] ++ #[.pointer (some ⟨bn, 0, none⟩), .pointer (some ⟨bw, 0, none⟩)]) w fun e w' => e = .returned (.bool (!c.came && decide (wait ≤ now - c.sent))) ∧ Below w.heap.size w w' := by
  have hwd : IntKind.i64.wrap (now - c.sent) = now - c.sent := by rw [IntKind.wrap_i64]; omega
  obtain ⟨r, hr⟩ : ∃ r : Bool, r = (!c.came && decide (wait ≤ now - c.sent)) := ⟨_, rfl⟩
  rw [← hr]
  have HRS := Lib.hid hr
  clear hr
  rw [chk_agg]
  show Calls _ _ #[.agg #[.int .u64 (c.fr : Nat), .int .i64 c.len, .bool c.fin, .int .i64 c.flow, .int .u32 c.en, .int .i64 c.sent, .int .i64 c.tries, .bool c.came, .bool c.lost], .pointer (some ⟨bn, 0, none⟩), .pointer (some ⟨bw, 0, none⟩)] w _
  have Lbn := hbn.lt
  have Lbw := hbw.lt
  go_enter Try.func41, Try.ntmps41
  go_upto_region 1 with fail
  have K1 := Blk.new w 30 #[.int .u64 (c.fr : Nat), .int .i64 c.len, .bool c.fin, .int .i64 c.flow, .int .u32 c.en, .int .i64 c.sent, .int .i64 c.tries, .bool c.came, .bool c.lost]
  have HB := Lib.hid ((Below.refl w.heap.size w).alloc (Nat.le_refl _) (.cells #[.int .u64 (c.fr : Nat), .int .i64 c.len, .bool c.fin, .int .i64 c.flow, .int .u32 c.en, .int .i64 c.sent, .int .i64 c.tries, .bool c.came, .bool c.lost] 30))
  have x0 : (w.alloc (.cells #[.int .u64 (c.fr : Nat), .int .i64 c.len, .bool c.fin, .int .i64 c.flow, .int .u32 c.en, .int .i64 c.sent, .int .i64 c.tries, .bool c.came, .bool c.lost] 30)).cell? ⟨bn, 0, none⟩ = some (.int .i64 now) := (hbn.alloc _).cell 0
  have x1 : (w.alloc (.cells #[.int .u64 (c.fr : Nat), .int .i64 c.len, .bool c.fin, .int .i64 c.flow, .int .u32 c.en, .int .i64 c.sent, .int .i64 c.tries, .bool c.came, .bool c.lost] 30)).cell? ⟨bw, 0, none⟩ = some (.int .i64 wait) := (hbw.alloc _).cell 0
  obtain ⟨b0, b1, b2, b3, b4, b5, b6, b7, b8⟩ := ckb (c := c) K1
  obtain ⟨X, hX⟩ : ∃ X, X = w.heap.size := ⟨_, rfl⟩
  have HXX := Lib.hid hX
  rw [← hX] at b0 b1 b2 b3 b4 b5 b6 b7 b8 ⊢
  clear K1 hX hbn hbw
  generalize w.alloc (.cells #[.int .u64 (c.fr : Nat), .int .i64 c.len, .bool c.fin, .int .i64 c.flow, .int .u32 c.en, .int .i64 c.sent, .int .i64 c.tries, .bool c.came, .bool c.lost] 30) = w1 at *
  cases hcm : c.came
  · rw [hcm] at b7
    by_cases h1 : wait ≤ now - c.sent
    · have HR1 : Hid (r = true) := Lib.hid (by rw [HRS.out, hcm, decide_eq_true h1]; rfl)
      go_wp2_with fail
      go_ret
      exact ⟨ret_bool HR1.out.symm, HB.out⟩
    · have HR1 : Hid (r = false) := Lib.hid (by rw [HRS.out, decide_eq_false h1]; simp)
      go_wp2_with fail
      go_ret
      exact ⟨ret_bool HR1.out.symm, HB.out⟩
  · have HR1 : Hid (r = false) := Lib.hid (by rw [HRS.out, hcm]; rfl)
    rw [hcm] at b7
    go_wp2_with fail
    go_ret
    exact ⟨ret_bool HR1.out.symm, HB.out⟩
set_option maxRecDepth 20000 in
set_option maxHeartbeats 4000000 in
theorem p_that (c : Chk) (fr : Nat) (fin : Bool) (bf bi : Nat) (w : World) (hbf : Blk w bf 27 #[.int .u64 (fr : Nat)]) (hbi : Blk w bi 4 #[.bool fin]) : Calls Try.prog 43 (#[c.agg] ++ #[.pointer (some ⟨bf, 0, none⟩), .pointer (some ⟨bi, 0, none⟩)]) w fun e w' => e = .returned (.bool (isThat fr fin c)) ∧ Below w.heap.size w w' := by
  obtain ⟨r, hr⟩ : ∃ r : Bool, r = (isThat fr fin c) := ⟨_, rfl⟩
  rw [← hr]
  have HRS := Lib.hid hr
  clear hr
  rw [chk_agg]
  show Calls _ _ #[.agg #[.int .u64 (c.fr : Nat), .int .i64 c.len, .bool c.fin, .int .i64 c.flow, .int .u32 c.en, .int .i64 c.sent, .int .i64 c.tries, .bool c.came, .bool c.lost], .pointer (some ⟨bf, 0, none⟩), .pointer (some ⟨bi, 0, none⟩)] w _
  have Lbf := hbf.lt
  have Lbi := hbi.lt
  go_enter Try.func43, Try.ntmps43
  go_upto_region 1 with fail
  have K1 := Blk.new w 30 #[.int .u64 (c.fr : Nat), .int .i64 c.len, .bool c.fin, .int .i64 c.flow, .int .u32 c.en, .int .i64 c.sent, .int .i64 c.tries, .bool c.came, .bool c.lost]
  have HB := Lib.hid ((Below.refl w.heap.size w).alloc (Nat.le_refl _) (.cells #[.int .u64 (c.fr : Nat), .int .i64 c.len, .bool c.fin, .int .i64 c.flow, .int .u32 c.en, .int .i64 c.sent, .int .i64 c.tries, .bool c.came, .bool c.lost] 30))
  have x0 : (w.alloc (.cells #[.int .u64 (c.fr : Nat), .int .i64 c.len, .bool c.fin, .int .i64 c.flow, .int .u32 c.en, .int .i64 c.sent, .int .i64 c.tries, .bool c.came, .bool c.lost] 30)).cell? ⟨bf, 0, none⟩ = some (.int .u64 (fr : Nat)) := (hbf.alloc _).cell 0
  have x1 : (w.alloc (.cells #[.int .u64 (c.fr : Nat), .int .i64 c.len, .bool c.fin, .int .i64 c.flow, .int .u32 c.en, .int .i64 c.sent, .int .i64 c.tries, .bool c.came, .bool c.lost] 30)).cell? ⟨bi, 0, none⟩ = some (.bool fin) := (hbi.alloc _).cell 0
  obtain ⟨b0, b1, b2, b3, b4, b5, b6, b7, b8⟩ := ckb (c := c) K1
  obtain ⟨X, hX⟩ : ∃ X, X = w.heap.size := ⟨_, rfl⟩
  have HXX := Lib.hid hX
  rw [← hX] at b0 b1 b2 b3 b4 b5 b6 b7 b8 ⊢
  clear K1 hX hbf hbi
  generalize w.alloc (.cells #[.int .u64 (c.fr : Nat), .int .i64 c.len, .bool c.fin, .int .i64 c.flow, .int .u32 c.en, .int .i64 c.sent, .int .i64 c.tries, .bool c.came, .bool c.lost] 30) = w1 at *
  unfold isThat at HRS
  by_cases h1 : c.fr = fr
  · rw [decide_eq_true h1] at HRS
    have h1' : (c.fr : Int) = (fr : Int) := by omega
    clear h1
    cases hcf : c.fin <;> rw [hcf] at b2 <;> cases fin
    all_goals go_wp2_with fail
    all_goals go_ret
    all_goals exact ⟨ret_bool (by rw [HRS.out, hcf]; rfl), HB.out⟩
  · have HR1 : Hid (r = false) := Lib.hid (by rw [HRS.out, decide_eq_false h1]; rfl)
    have h1' : ¬ (c.fr : Int) = (fr : Int) := by omega
    clear h1
    go_wp2_with fail
    go_ret
    exact ⟨ret_bool HR1.out.symm, HB.out⟩
end Go.Proofs.Ytbipcnboammpeaa
