/- Layer 16: Same, again, right; the example. -/
import Derived.Test.YtbipcnboammpeaaFlr1
import Derived.Test.YtbipcnboammpeaaFl8
namespace Go.Proofs.Ytbipcnboammpeaa
open Go.RowKit
set_option linter.unusedVariables false
set_option linter.unusedSimpArgs false
theorem neqC (c : Chk) (w : World) : (binOp .neq 38 (.agg #[.int .u64 (c.fr : Nat), .int .i64 c.len, .bool c.fin, .int .i64 c.flow, .int .u32 c.en, .int .i64 c.sent, .int .i64 c.tries, .bool c.came, .bool c.lost]) (.agg #[.int .u64 (c.fr : Nat), .int .i64 c.len, .bool c.fin, .int .i64 c.flow, .int .u32 c.en, .int .i64 c.sent, .int .i64 c.tries, .bool c.came, .bool c.lost])).run Try.prog w = .ok (.bool false) w := by
  have h : (Op.equalIn 10000 38 (.agg #[.int .u64 (c.fr : Nat), .int .i64 c.len, .bool c.fin, .int .i64 c.flow, .int .u32 c.en, .int .i64 c.sent, .int .i64 c.tries, .bool c.came, .bool c.lost]) (.agg #[.int .u64 (c.fr : Nat), .int .i64 c.len, .bool c.fin, .int .i64 c.flow, .int .u32 c.en, .int .i64 c.sent, .int .i64 c.tries, .bool c.came, .bool c.lost])).run Try.prog w = .ok true w := by
    rw [show (10000 : Nat) = 9999 + 1 from rfl, run_equalIn_agg w 9999 38 _ _ (by kernel_rfl) (by kernel_rfl)]
    simp [go_sem]
  rw [run_neq_struct, h]
  rfl
set_option maxRecDepth 20000 in
set_option maxHeartbeats 4000000 in
theorem rsame_any (A A2 : Option Addr) (n c n2 c2 : Nat) (l : List Chk) (w : World) (hr : Rd w w.heap.size 9 A n (chs l)) (hr2 : Rd w w.heap.size 9 A2 n2 (chs l)) (hl : n ≤ 100) :
    Calls Try.prog 11 #[.slice A n c, .slice A2 n2 c2] w fun e w' => e = .returned (.bool true) ∧ Below w.heap.size w w' := by
  obtain rfl : n2 = n := by have := hr.chkLen; have := hr2.chkLen; omega
  have HR := Lib.hid hr
  have HR2 := Lib.hid hr2
  clear hr hr2
  go_enter Try.func11, Try.ntmps11
  go_wp2_with fail
  go_loopw [5] (fun iv wr => ∃ (k : Nat) , k ≤ n2 ∧ iv = .int .i64 (k : Nat) ∧ Hid (Below w.heap.size w wr)) (fun iv _ => n2 - (intOf iv).toNat)
  case atStart => exact ⟨0, Nat.zero_le _, rfl, Lib.hid (Below.refl _ _)⟩
  case round =>
    obtain ⟨k, hk, rfl, BB⟩ := hrel
    by_cases hlt : k < n2
    · have hlt' : (k : Int) < (n2 : Int) := by omega
      have hk0 : ¬ (k : Int) < 0 := by omega
      obtain ⟨rb, off, x, hA, hrb, HC, HX⟩ := HR.out.chk hlt
      subst hA
      obtain ⟨rb2, off2, x2, hA, hrb2, HC2, HX2⟩ := HR2.out.chk hlt
      subst hA
      obtain rfl : x2 = x := by have h1 := HX.out; rw [HX2.out] at h1; injection h1
      have C1 := Lib.hid (fun j v (hj : x2.el[j]? = some v) => (BB.out.cell (p := ⟨rb, off + k * 9 + j, none⟩) hrb).trans (HC.out j v hj))
      have C2 := Lib.hid (fun j v (hj : x2.el[j]? = some v) => (BB.out.cell (p := ⟨rb2, off2 + k * 9 + j, none⟩) hrb2).trans (HC2.out j v hj))
      have hne := neqC x2
      go_upto_region 6 with fail
      refine wp_ext (by kernel_rfl) (by kernel_rfl) (fun QQ hQ => ?_)
      (first | (refine x_load _ (by rfl) rfl rfl (by assumption) (by kernel_rfl) ?_; simp only [Act.put, List.setIfInBounds_toArray, List.set_cons_zero, List.set_cons_succ]) | (refine x_val (v := ?_) (by rfl) (fun w' hx => ?_) ?_; rotate_left; (focus (go_simp; (try with_reducible rfl))); (try simp only [Act.put, List.setIfInBounds_toArray, List.set_cons_zero, List.set_cons_succ])))
      (first | (refine x_load _ (by rfl) rfl rfl (by assumption) (by kernel_rfl) ?_; simp only [Act.put, List.setIfInBounds_toArray, List.set_cons_zero, List.set_cons_succ]) | (refine x_val (v := ?_) (by rfl) (fun w' hx => ?_) ?_; rotate_left; (focus (go_simp; (try with_reducible rfl))); (try simp only [Act.put, List.setIfInBounds_toArray, List.set_cons_zero, List.set_cons_succ])))
      (first | (refine x_load _ (by rfl) rfl rfl (by assumption) (by kernel_rfl) ?_; simp only [Act.put, List.setIfInBounds_toArray, List.set_cons_zero, List.set_cons_succ]) | (refine x_val (v := ?_) (by rfl) (fun w' hx => ?_) ?_; rotate_left; (focus (go_simp; (try with_reducible rfl))); (try simp only [Act.put, List.setIfInBounds_toArray, List.set_cons_zero, List.set_cons_succ])))
      refine x_loads _ [.int .u64 (x2.fr : Nat), .int .i64 x2.len, .bool x2.fin, .int .i64 x2.flow, .int .u32 x2.en, .int .i64 x2.sent, .int .i64 x2.tries, .bool x2.came, .bool x2.lost] (by rfl) rfl rfl (C1.out) (Nat.succ_pos _) (by kernel_rfl) (by kernel_rfl) ?_; simp only [Act.put, List.setIfInBounds_toArray, List.set_cons_zero, List.set_cons_succ]
      (first | (refine x_load _ (by rfl) rfl rfl (by assumption) (by kernel_rfl) ?_; simp only [Act.put, List.setIfInBounds_toArray, List.set_cons_zero, List.set_cons_succ]) | (refine x_val (v := ?_) (by rfl) (fun w' hx => ?_) ?_; rotate_left; (focus (go_simp; (try with_reducible rfl))); (try simp only [Act.put, List.setIfInBounds_toArray, List.set_cons_zero, List.set_cons_succ])))
      (first | (refine x_load _ (by rfl) rfl rfl (by assumption) (by kernel_rfl) ?_; simp only [Act.put, List.setIfInBounds_toArray, List.set_cons_zero, List.set_cons_succ]) | (refine x_val (v := ?_) (by rfl) (fun w' hx => ?_) ?_; rotate_left; (focus (go_simp; (try with_reducible rfl))); (try simp only [Act.put, List.setIfInBounds_toArray, List.set_cons_zero, List.set_cons_succ])))
      (first | (refine x_load _ (by rfl) rfl rfl (by assumption) (by kernel_rfl) ?_; simp only [Act.put, List.setIfInBounds_toArray, List.set_cons_zero, List.set_cons_succ]) | (refine x_val (v := ?_) (by rfl) (fun w' hx => ?_) ?_; rotate_left; (focus (go_simp; (try with_reducible rfl))); (try simp only [Act.put, List.setIfInBounds_toArray, List.set_cons_zero, List.set_cons_succ])))
      refine x_loads _ [.int .u64 (x2.fr : Nat), .int .i64 x2.len, .bool x2.fin, .int .i64 x2.flow, .int .u32 x2.en, .int .i64 x2.sent, .int .i64 x2.tries, .bool x2.came, .bool x2.lost] (by rfl) rfl rfl (C2.out) (Nat.succ_pos _) (by kernel_rfl) (by kernel_rfl) ?_; simp only [Act.put, List.setIfInBounds_toArray, List.set_cons_zero, List.set_cons_succ]
      (first | (refine x_load _ (by rfl) rfl rfl (by assumption) (by kernel_rfl) ?_; simp only [Act.put, List.setIfInBounds_toArray, List.set_cons_zero, List.set_cons_succ]) | (refine x_val (v := ?_) (by rfl) (fun w' hx => ?_) ?_; rotate_left; (focus (go_simp; (try with_reducible rfl))); (try simp only [Act.put, List.setIfInBounds_toArray, List.set_cons_zero, List.set_cons_succ])))
      refine x_nil (hQ.out _ ?_); clear hQ QQ
      intro w3 hb3
      have B3 := Lib.hid (BB.out.trans (hb3.mono BB.out.size))
      clear hb3 C1 C2
      go_wp2_with fail
      go_roundw
      case rel => exact ⟨k + 1, by omega, by go_num, B3⟩
      case measure => simp [intOf]; omega
    · obtain rfl : k = n2 := by omega
      clear hlt
      go_wp2_with fail
      go_ret
      exact ⟨rfl, BB.out⟩
set_option maxRecDepth 20000 in
set_option maxHeartbeats 4000000 in
theorem lagain_any (A : Option Addr) (n c : Nat) (l : List Chk) (w : World) (hr : Rd w w.heap.size 9 A n (chs l)) (hl : n ≤ 100) :
    Calls Try.prog 10 #[.slice A n c] w fun e w' => e = .returned (fndV (fndC (fun c => c.lost) l)) ∧ Below w.heap.size w w' := by
  have HR := Lib.hid hr
  have HN := Lib.hid hr.chkLen
  have KR := Lib.hid (Blk.new w 38 #[.int .u64 0, .int .i64 0, .bool false, .int .i64 0, .int .u32 0, .int .i64 0, .int .i64 0, .bool false, .bool false])
  have B1 := Lib.hid ((Below.refl w.heap.size w).alloc (Nat.le_refl _) (.cells #[.int .u64 0, .int .i64 0, .bool false, .int .i64 0, .int .u32 0, .int .i64 0, .int .i64 0, .bool false, .bool false] 38))
  clear hr
  go_enter Try.func10, Try.ntmps10
  go_wp2_with fail
  generalize w.alloc (.cells #[.int .u64 0, .int .i64 0, .bool false, .int .i64 0, .int .u32 0, .int .i64 0, .int .i64 0, .bool false, .bool false] 38) = w1 at KR B1 ⊢
  go_loopw [4] (fun iv wr => ∃ (k : Nat) , k ≤ n ∧ iv = .int .i64 (k : Nat) ∧ Hid (Blk wr w.heap.size 38 #[.int .u64 0, .int .i64 0, .bool false, .int .i64 0, .int .u32 0, .int .i64 0, .int .i64 0, .bool false, .bool false]) ∧ Hid (Below w.heap.size w wr) ∧ Hid (∀ d ∈ l.take k, d.lost = false)) (fun iv _ => n - (intOf iv).toNat)
  case atStart => exact ⟨0, Nat.zero_le _, rfl, KR, B1, Lib.hid (by simp)⟩
  case round =>
    clear KR B1
    obtain ⟨k, hk, rfl, KR, BB, HA⟩ := hrel
    by_cases hlt : k < n
    · have hlt' : (k : Int) < (n : Int) := by omega
      have hk0 : ¬ (k : Int) < 0 := by omega
      obtain ⟨rb, off, x, hA, hrb, HC, HX⟩ := HR.out.chk hlt
      subst hA
      obtain ⟨a0, a1, a2, a3, a4, a5, a6, a7, a8⟩ := ck9 (w := wr) (o := off + k * 9) (fun j v hj => (BB.out.cell (p := ⟨rb, off + k * 9 + j, none⟩) hrb).trans (HC.out j v hj))
      cases hpx : x.lost
      · rw [hpx] at a8
        have HA2 := Lib.hid (take_all (p := fun c => c.lost) HX.out hpx HA.out)
        clear hpx
        go_wp2_with fail
        go_roundw
        case rel => exact ⟨k + 1, by omega, by go_num, KR, BB, HA2⟩
        case measure => simp [intOf]; omega
      · have HF := Lib.hid (fndC_hit (p := fun c => c.lost) HX.out hpx HA.out)
        have HLO := Lib.hid hpx
        rw [hpx] at a8
        clear hpx
        go_wp2_with (refine stm_store (cells := #[.int .u64 (x.fr : Nat), .int .i64 x.len, .bool x.fin, .int .i64 x.flow, .int .u32 x.en, .int .i64 x.sent, .int .i64 x.tries, .bool x.came, .bool true]) (cs' := #[.int .u64 (x.fr : Nat), .int .i64 x.len, .bool x.fin, .int .i64 x.flow, .int .u32 x.en, .int .i64 x.sent, .int .i64 x.tries, .bool x.came, .bool true]) KR.out rfl _ _ rfl rfl rfl (by simp) (by kernel_rfl) (by simp [Value.oneCell']) (by simp [setL]) fun w9 hk hs => ?_)
        rw [HF.out]
        have hKF : Blk w9 w.heap.size 38 x.cells := by rw [show x.cells = #[.int .u64 (x.fr : Nat), .int .i64 x.len, .bool x.fin, .int .i64 x.flow, .int .u32 x.en, .int .i64 x.sent, .int .i64 x.tries, .bool x.came, .bool true] by simp [Chk.cells, HLO.out]]; exact hk
        obtain ⟨q0, q1, q2, q3, q4, q5, q6, q7, q8⟩ := ckb (c := x) hKF
        refine bodyPost_ret (v := .tuple #[.agg #[.int .u64 (x.fr : Nat), .int .i64 x.len, .bool x.fin, .int .i64 x.flow, .int .u32 x.en, .int .i64 x.sent, .int .i64 x.tries, .bool x.came, .bool x.lost], .bool true]) (by simp [results, Try.results10, go_sem, q0, q1, q2, q3, q4, q5, q6, q7, q8]) rfl ?_
        exact ⟨rfl, BB.out.trans (hs.1.mono (Nat.le_refl _))⟩
    · obtain rfl : k = n := by omega
      have HF := Lib.hid (fndC_miss (p := fun c => c.lost) (l := l) (by have := HA.out; rw [List.take_of_length_le (by rw [HN.out]; exact Nat.le_refl _)] at this; exact this))
      clear hlt
      go_wp2_with (refine stm_store (cs' := nilC.cells) KR.out rfl _ _ rfl rfl rfl (by simp) (by kernel_rfl) (by simp [Value.oneCell']) (by simp [setL, Chk.cells, nilC]) fun w9 hk hs => ?_)
      rw [HF.out]
      have hKF : Blk w9 w.heap.size 38 nilC.cells := hk
      obtain ⟨q0, q1, q2, q3, q4, q5, q6, q7, q8⟩ := ckb (c := nilC) hKF
      refine bodyPost_ret (v := .tuple #[.agg #[.int .u64 (nilC.fr : Nat), .int .i64 nilC.len, .bool nilC.fin, .int .i64 nilC.flow, .int .u32 nilC.en, .int .i64 nilC.sent, .int .i64 nilC.tries, .bool nilC.came, .bool nilC.lost], .bool false]) (by simp [results, Try.results10, go_sem, q0, q1, q2, q3, q4, q5, q6, q7, q8]) rfl ?_
      exact ⟨rfl, BB.out.trans (hs.1.mono (Nat.le_refl _))⟩
/-- A call of the law's. -/
structure OpF where
  k : Int
  c : Chk
  wt : Int
def OpF.cells (o : OpF) : Array Value := #[.int .i64 o.k, .int .u64 (o.c.fr : Nat), .int .i64 o.c.len, .bool o.c.fin, .int .i64 o.c.flow, .int .u32 o.c.en, .int .i64 o.c.sent, .int .i64 o.c.tries, .bool o.c.came, .bool o.c.lost, .int .i64 o.wt]
def OpF.el (o : OpF) : List Value := o.cells.toList
theorem opf_len (o : OpF) : o.el.length = 11 := rfl
def OpF.rt (o : OpF) : Prop := (0 ≤ o.c.sent ∧ o.c.sent < 2147483648) ∧ (0 ≤ o.wt ∧ o.wt < 2147483648) ∧ (0 ≤ o.c.tries ∧ o.c.tries ≤ 4096)
def RtPost (o : OpF) (w : World) (e : Ending) (w' : World) : Prop := ∃ b, e = .returned (.bool b) ∧ (b = true → o.rt) ∧ Below w.heap.size w w'
theorem RtPost.mk {o : OpF} {w w' : World} {e : Ending} (b : Bool) (he : e = .returned (.bool b)) (h : b = true → o.rt) (hb : Below w.heap.size w w') : RtPost o w e w' := ⟨b, he, h, hb⟩
theorem opb {w : World} {g : Nat} {t : TypeId} {o : OpF} (h : Blk w g t o.cells) :
    w.cell? ⟨g, 0, none⟩ = some (.int .i64 o.k) ∧ w.cell? ⟨g, 1, none⟩ = some (.int .u64 (o.c.fr : Nat)) ∧ w.cell? ⟨g, 2, none⟩ = some (.int .i64 o.c.len) ∧ w.cell? ⟨g, 3, none⟩ = some (.bool o.c.fin) ∧ w.cell? ⟨g, 4, none⟩ = some (.int .i64 o.c.flow) ∧ w.cell? ⟨g, 5, none⟩ = some (.int .u32 o.c.en) ∧ w.cell? ⟨g, 6, none⟩ = some (.int .i64 o.c.sent) ∧ w.cell? ⟨g, 7, none⟩ = some (.int .i64 o.c.tries) ∧ w.cell? ⟨g, 8, none⟩ = some (.bool o.c.came) ∧ w.cell? ⟨g, 9, none⟩ = some (.bool o.c.lost) ∧ w.cell? ⟨g, 10, none⟩ = some (.int .i64 o.wt) :=
  ⟨(h.cell 0).trans rfl, (h.cell 1).trans rfl, (h.cell 2).trans rfl, (h.cell 3).trans rfl, (h.cell 4).trans rfl, (h.cell 5).trans rfl, (h.cell 6).trans rfl, (h.cell 7).trans rfl, (h.cell 8).trans rfl, (h.cell 9).trans rfl, (h.cell 10).trans rfl⟩
set_option maxRecDepth 20000 in
set_option maxHeartbeats 4000000 in
theorem lright_any (o : OpF) (w : World) : Calls Try.prog 6 #[.agg #[.int .i64 o.k, .int .u64 (o.c.fr : Nat), .int .i64 o.c.len, .bool o.c.fin, .int .i64 o.c.flow, .int .u32 o.c.en, .int .i64 o.c.sent, .int .i64 o.c.tries, .bool o.c.came, .bool o.c.lost, .int .i64 o.wt]] w fun e w' => RtPost o w e w' := by
  have K1 := Blk.new w 32 #[.int .i64 o.k, .int .u64 (o.c.fr : Nat), .int .i64 o.c.len, .bool o.c.fin, .int .i64 o.c.flow, .int .u32 o.c.en, .int .i64 o.c.sent, .int .i64 o.c.tries, .bool o.c.came, .bool o.c.lost, .int .i64 o.wt]
  have B1 := Lib.hid ((Below.refl w.heap.size w).alloc (Nat.le_refl _) (.cells #[.int .i64 o.k, .int .u64 (o.c.fr : Nat), .int .i64 o.c.len, .bool o.c.fin, .int .i64 o.c.flow, .int .u32 o.c.en, .int .i64 o.c.sent, .int .i64 o.c.tries, .bool o.c.came, .bool o.c.lost, .int .i64 o.wt] 32))
  have HP : Hid ((0 ≤ o.c.sent ∧ o.c.sent < 2147483648) ∧ (0 ≤ o.wt ∧ o.wt < 2147483648) ∧ (0 ≤ o.c.tries ∧ o.c.tries ≤ 4096) → o.rt) := Lib.hid id
  go_enter Try.func6, Try.ntmps6
  go_upto_region 1 with fail
  obtain ⟨b0, b1, b2, b3, b4, b5, b6, b7, b8, b9, b10⟩ := opb (o := o) K1
  clear K1
  obtain ⟨X, hX⟩ : ∃ X, X = w.heap.size := ⟨_, rfl⟩
  have HXX := Lib.hid hX
  rw [← hX] at b0 b1 b2 b3 b4 b5 b6 b7 b8 b9 b10 ⊢
  clear hX b0 b1 b2 b3 b4 b5 b8 b9
  generalize w.alloc (.cells #[.int .i64 o.k, .int .u64 (o.c.fr : Nat), .int .i64 o.c.len, .bool o.c.fin, .int .i64 o.c.flow, .int .u32 o.c.en, .int .i64 o.c.sent, .int .i64 o.c.tries, .bool o.c.came, .bool o.c.lost, .int .i64 o.wt] 32) = w1 at *
  by_cases h0 : 0 ≤ o.c.sent
  · skip
    by_cases h1 : o.c.sent < 2147483648
    · skip
      by_cases h2 : 0 ≤ o.wt
      · skip
        by_cases h3 : o.wt < 2147483648
        · skip
          by_cases h4 : 0 ≤ o.c.tries
          · skip
            by_cases h5 : o.c.tries ≤ 4096
            · skip
              go_wp2_with fail
              go_ret
              exact RtPost.mk true rfl (fun _ => HP.out (by omega)) B1.out
            · skip
              go_wp2_with fail
              go_ret
              exact RtPost.mk false rfl (fun h => by cases h) B1.out
          · skip
            go_wp2_with fail
            go_ret
            exact RtPost.mk false rfl (fun h => by cases h) B1.out
        · skip
          go_wp2_with fail
          go_ret
          exact RtPost.mk false rfl (fun h => by cases h) B1.out
      · skip
        go_wp2_with fail
        go_ret
        exact RtPost.mk false rfl (fun h => by cases h) B1.out
    · skip
      go_wp2_with fail
      go_ret
      exact RtPost.mk false rfl (fun h => by cases h) B1.out
  · skip
    go_wp2_with fail
    go_ret
    exact RtPost.mk false rfl (fun h => by cases h) B1.out
end Go.Proofs.Ytbipcnboammpeaa
