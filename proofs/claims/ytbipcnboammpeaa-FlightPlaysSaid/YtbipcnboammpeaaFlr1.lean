/- Layer 16 by the document: To, Acked, Same; and what the laws do themselves. -/
import Derived.Test.YtbipcnboammpeaaFl7
namespace Go.Proofs.Ytbipcnboammpeaa
open Go.RowKit
set_option linter.unusedVariables false
set_option linter.unusedSimpArgs false
set_option maxRecDepth 20000 in
set_option maxHeartbeats 4000000 in
theorem rto_any (c : Chk) (w : World) (hc : c.ok) : Calls Try.prog 19 #[.agg #[.int .u64 (c.fr : Nat), .int .i64 c.len, .bool c.fin, .int .i64 c.flow, .int .u32 c.en, .int .i64 c.sent, .int .i64 c.tries, .bool c.came, .bool c.lost]] w fun e w' => e = .returned (.int .u64 (toN c : Nat)) ∧ Below w.heap.size w w' := by
  obtain ⟨m, hm⟩ : ∃ m : Nat, m = c.len.toNat := ⟨_, rfl⟩
  have hl := hc.len
  have hf := hc.fr
  have hmb : m < 9223372036854775808 := by omega
  obtain ⟨s, hs⟩ : ∃ s, s = (c.fr + m) % 18446744073709551616 := ⟨_, rfl⟩
  have hw1 : IntKind.u64.wrap (m : Int) = (m : Nat) := by rw [IntKind.wrap_u64]; omega
  have hw2 : IntKind.u64.wrap ((c.fr : Int) + (m : Int)) = (s : Nat) := by rw [IntKind.wrap_u64]; omega
  obtain ⟨t, ht⟩ : ∃ t, t = (s + 1) % 18446744073709551616 := ⟨_, rfl⟩
  have hw3 : IntKind.u64.wrap ((s : Int) + 1) = (t : Nat) := by rw [IntKind.wrap_u64]; omega
  have hT : Hid (toN c = if c.fin then t else s) := Lib.hid (by unfold toN; rw [← hm]; cases c.fin <;> simp <;> omega)
  have HB := Lib.hid ((Below.refl w.heap.size w).alloc (Nat.le_refl _) (.cells #[.int .u64 (c.fr : Nat), .int .i64 c.len, .bool c.fin, .int .i64 c.flow, .int .u32 c.en, .int .i64 c.sent, .int .i64 c.tries, .bool c.came, .bool c.lost] 38))
  have K1 := Blk.new w 38 #[.int .u64 (c.fr : Nat), .int .i64 c.len, .bool c.fin, .int .i64 c.flow, .int .u32 c.en, .int .i64 c.sent, .int .i64 c.tries, .bool c.came, .bool c.lost]
  have hs2 : Hid (c.len ≤ 0 → s = c.fr) := Lib.hid (by intro h; omega)
  have hlm : Hid (0 < c.len → c.len = (m : Int)) := Lib.hid (by intro h; omega)
  obtain ⟨r, hr⟩ : ∃ r, r = toN c := ⟨_, rfl⟩
  rw [← hr]
  have HRR := Lib.hid hr
  clear hr ht hs hm hl hf hc
  go_enter Try.func19, Try.ntmps19
  go_upto_region 1 with fail
  obtain ⟨b0, b1, b2, b3, b4, b5, b6, b7, b8⟩ := ckb (c := c) K1
  obtain ⟨X, hX⟩ : ∃ X, X = w.heap.size := ⟨_, rfl⟩
  have HXX := Lib.hid hX
  rw [← hX] at b0 b1 b2 b3 b4 b5 b6 b7 b8 ⊢
  clear K1 hX
  generalize w.alloc (.cells #[.int .u64 (c.fr : Nat), .int .i64 c.len, .bool c.fin, .int .i64 c.flow, .int .u32 c.en, .int .i64 c.sent, .int .i64 c.tries, .bool c.came, .bool c.lost] 38) = w1 at *
  by_cases h0 : 0 < c.len
  · have hm := hlm.out h0
    rw [hm] at b1
    have h0' : 0 < m := by omega
    have h0i : (0 : Int) < (m : Int) := by omega
    clear h0 hm
    cases hcf : c.fin
    · rw [hcf] at hT b2
      have HT1 : Hid (r = s) := Lib.hid (HRR.out.trans hT.out)
      go_wp2_with fail
      go_ret
      exact ⟨ret_int (by rw [HT1.out]), HB.out⟩
    · rw [hcf] at hT b2
      have HT1 : Hid (r = t) := Lib.hid (HRR.out.trans hT.out)
      go_wp2_with fail
      go_ret
      exact ⟨ret_int (by rw [HT1.out]), HB.out⟩
  · have hsf := hs2.out (by omega)
    rw [← hsf] at b0
    clear hw2 hsf
    cases hcf : c.fin
    · rw [hcf] at hT b2
      have HT1 : Hid (r = s) := Lib.hid (HRR.out.trans hT.out)
      go_wp2_with fail
      go_ret
      exact ⟨ret_int (by rw [HT1.out]), HB.out⟩
    · rw [hcf] at hT b2
      have HT1 : Hid (r = t) := Lib.hid (HRR.out.trans hT.out)
      go_wp2_with fail
      go_ret
      exact ⟨ret_int (by rw [HT1.out]), HB.out⟩
set_option maxRecDepth 20000 in
set_option maxHeartbeats 4000000 in
theorem lone_any (c : Chk) (w : World) : Calls Try.prog 16 #[.agg #[.int .u64 (c.fr : Nat), .int .i64 c.len, .bool c.fin, .int .i64 c.flow, .int .u32 c.en, .int .i64 c.sent, .int .i64 c.tries, .bool c.came, .bool c.lost]] w fun e w' => e = .returned (.agg #[.int .u64 (c.fr : Nat), .int .i64 c.len, .bool c.fin, .int .i64 c.flow, .int .u32 c.en, .int .i64 c.sent, .int .i64 c.tries, .bool c.came, .bool c.lost]) ∧ Below w.heap.size w w' := by
  have K1 := (Blk.new w 30 #[.int .u64 (c.fr : Nat), .int .i64 c.len, .bool c.fin, .int .i64 c.flow, .int .u32 c.en, .int .i64 c.sent, .int .i64 c.tries, .bool c.came, .bool c.lost]).alloc (.cells #[.int .u64 0, .int .i64 0, .bool false, .int .i64 0, .int .u32 0, .int .i64 0, .int .i64 0, .bool false, .bool false] 38)
  have K2 := Blk.new (w.alloc (.cells #[.int .u64 (c.fr : Nat), .int .i64 c.len, .bool c.fin, .int .i64 c.flow, .int .u32 c.en, .int .i64 c.sent, .int .i64 c.tries, .bool c.came, .bool c.lost] 30)) 38 #[.int .u64 0, .int .i64 0, .bool false, .int .i64 0, .int .u32 0, .int .i64 0, .int .i64 0, .bool false, .bool false]
  have hz : (w.alloc (.cells #[.int .u64 (c.fr : Nat), .int .i64 c.len, .bool c.fin, .int .i64 c.flow, .int .u32 c.en, .int .i64 c.sent, .int .i64 c.tries, .bool c.came, .bool c.lost] 30)).heap.size = w.heap.size + 1 := by simp
  rw [hz] at K2
  have HB := Lib.hid (((Below.refl w.heap.size w).alloc (Nat.le_refl _) (.cells #[.int .u64 (c.fr : Nat), .int .i64 c.len, .bool c.fin, .int .i64 c.flow, .int .u32 c.en, .int .i64 c.sent, .int .i64 c.tries, .bool c.came, .bool c.lost] 30)).alloc (by simp) (.cells #[.int .u64 0, .int .i64 0, .bool false, .int .i64 0, .int .u32 0, .int .i64 0, .int .i64 0, .bool false, .bool false] 38))
  clear hz
  go_enter Try.func16, Try.ntmps16
  go_upto_region 1 with fail
  obtain ⟨b0, b1, b2, b3, b4, b5, b6, b7, b8⟩ := ckb (c := c) K1
  have KR := Lib.hid K2
  clear K1 K2
  generalize (w.alloc (.cells #[.int .u64 (c.fr : Nat), .int .i64 c.len, .bool c.fin, .int .i64 c.flow, .int .u32 c.en, .int .i64 c.sent, .int .i64 c.tries, .bool c.came, .bool c.lost] 30)).alloc (.cells #[.int .u64 0, .int .i64 0, .bool false, .int .i64 0, .int .u32 0, .int .i64 0, .int .i64 0, .bool false, .bool false] 38) = w1 at *
  go_wp2_with (refine stm_store (cs' := c.cells) KR.out rfl _ _ rfl rfl rfl (by simp) (by kernel_rfl) (by simp [Value.oneCell']) (by simp [setL, Chk.cells]) fun w9 hk hs => ?_)
  obtain ⟨q0, q1, q2, q3, q4, q5, q6, q7, q8⟩ := ckb (c := c) hk
  refine bodyPost_ret (v := .agg #[.int .u64 (c.fr : Nat), .int .i64 c.len, .bool c.fin, .int .i64 c.flow, .int .u32 c.en, .int .i64 c.sent, .int .i64 c.tries, .bool c.came, .bool c.lost]) (by simp [results, Try.results16, go_sem, q0, q1, q2, q3, q4, q5, q6, q7, q8]) rfl ?_
  exact ⟨rfl, HB.out.trans (hs.1.mono (by omega))⟩
set_option maxRecDepth 20000 in
set_option maxHeartbeats 4000000 in
theorem lmost_any (n : Int) (w : World) (hn : (Lit.int .i64 n).wf = true) : Calls Try.prog 8 #[.int .i64 n] w fun e w' => e = .returned (.int .i64 (clN 1 64 n : Nat)) ∧ w' = w := by
  by_cases h0 : n < 1
  · rw [clN_lo (by simpa using h0)]
    go_enter Try.func8, Try.ntmps8
    go_wp2
    go_ret
    exact ⟨rfl, rfl⟩
  by_cases h4 : 64 < n
  · rw [clN_hi (by simpa using h0) h4]
    go_enter Try.func8, Try.ntmps8
    go_wp2
    go_ret
    exact ⟨rfl, rfl⟩
  · rw [clN_in (by simpa using h0) h4]
    go_enter Try.func8, Try.ntmps8
    go_wp2
    go_ret
    exact ⟨rfl, rfl⟩
set_option maxRecDepth 20000 in
set_option maxHeartbeats 4000000 in
theorem lplain_any (A : Option Addr) (n c : Nat) (l : List Chk) (w : World) (hr : Rd w w.heap.size 9 A n (chs l)) (hl : n ≤ 100) :
    Calls Try.prog 12 #[.slice A n c] w fun e w' => ∃ v, e = .returned v ∧ w'.ownsRow w.heap.size 38 9 v l.length (chs l) ∧ Below w.heap.size w w' := by
  have HR := Lib.hid hr
  have HN := Lib.hid hr.chkLen
  clear hr
  go_enter Try.func12, Try.ntmps12
  go_wp2_with fail
  have HQ0 : Hid (w.ownsRow w.heap.size 38 9 (.slice none 0 0) (l.take 0).length (chs (l.take 0))) := Lib.hid (World.ownsRow_nil _ _ _ _)
  go_loopw [3, 4] (fun ov iv wr => ∃ (k : Nat) , k ≤ n ∧ iv = .int .i64 (k : Nat) ∧ Hid (wr.ownsRow w.heap.size 38 9 ov (l.take k).length (chs (l.take k))) ∧ Hid (Below w.heap.size w wr)) (fun _ iv _ => n - (intOf iv).toNat)
  case atStart => exact ⟨0, Nat.zero_le _, rfl, HQ0, Lib.hid (Below.refl _ _)⟩
  case round =>
    clear HQ0
    obtain ⟨k, hk, rfl, HQ, BB⟩ := hrel
    by_cases hlt : k < n
    · have hlt' : (k : Int) < (n : Int) := by omega
      have hk0 : ¬ (k : Int) < 0 := by omega
      obtain ⟨rb, off, x, hA, hrb, HC, HX⟩ := HR.out.chk hlt
      subst hA
      obtain ⟨a0, a1, a2, a3, a4, a5, a6, a7, a8⟩ := ck9 (w := wr) (o := off + k * 9) (fun j v hj => (BB.out.cell (p := ⟨rb, off + k * 9 + j, none⟩) hrb).trans (HC.out j v hj))
      have CO := Lib.hid (lone_any x wr)
      go_wp2_with fail
      refine CO.out.mono ?_
      rintro e w3 ⟨rfl, hb3⟩
      have B3 := Lib.hid (BB.out.trans (hb3.mono BB.out.size))
      have Q3 := Lib.hid (own_below HQ.out hb3 fun g hg => (HQ.out.lt g hg).2)
      have hbw : w.heap.size ≤ w3.heap.size := B3.out.size
      have hroom : ((l.take k).length + 1) * 64 ≤ room := room_ge (by rw [List.length_take]; omega)
      clear hb3 a0 a1 a2 a3 a4 a5 a6 a7 a8 CO HQ BB
      go_wp2_with (at_builtin; go_must (refine appZ fcEl x.cells rfl (chk_one _) rfl _ _ rfl rfl Q3.out rfl rfl hroom hbw ?_))
      intro v4 w4 ho4 hg4 hb4
      have Q4 : Hid (w4.ownsRow w.heap.size 38 9 v4 (l.take (k + 1)).length (chs (l.take (k + 1)))) := Lib.hid (by rw [nth_take HX, List.length_append, chs_snoc]; rw [show min k l.length = (l.take k).length by rw [List.length_take]] at ho4; exact ho4)
      have B4 := Lib.hid (B3.out.trans (hb4.mono (Nat.le_refl _)))
      clear ho4 hg4 hb4 Q3 B3 hroom hbw
      go_wp2_with fail
      go_roundw
      case rel => exact ⟨k + 1, by omega, by go_num, Q4, B4⟩
      case measure => simp [intOf]; omega
    · obtain rfl : k = n := by omega
      have hT : l.take k = l := List.take_of_length_le (by rw [HN.out]; exact Nat.le_refl _)
      rw [hT] at HQ
      clear hlt hT
      go_wp2_with fail
      go_ret
      exact ⟨_, rfl, HQ.out, BB.out⟩
end Go.Proofs.Ytbipcnboammpeaa
