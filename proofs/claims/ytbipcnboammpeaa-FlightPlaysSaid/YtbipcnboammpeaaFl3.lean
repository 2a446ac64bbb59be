/- Package flight: find, for whatever is asked. -/
import Derived.Test.YtbipcnboammpeaaFl2
namespace Go.Proofs.Ytbipcnboammpeaa
open Go.RowKit
set_option linter.unusedVariables false
set_option linter.unusedSimpArgs false
theorem nil_agg : nilC.agg = .agg #[.int .u64 0, .int .i64 0, .bool false, .int .i64 0, .int .u32 0, .int .i64 0, .int .i64 0, .bool false, .bool false] := rfl
theorem agg_inj {c d : Chk} (h : c.cells = d.cells) : c.cells = d.cells := h
/-- The first one asked for, and whether there is one. -/
def fndV (o : Option Chk) : Value := .tuple #[(o.getD nilC).agg, .bool o.isSome]
set_option maxRecDepth 20000 in
set_option maxHeartbeats 4000000 in
theorem fl_find (B g most : Nat) (l : List Chk) (f : Nat) (lb : Array Value) (p : Chk → Bool) (w : World)
    (ef : ∀ args w, (callFunc f args).run Try.prog w = .ok (.enter f args) w)
    (hp : ∀ (w' : World) (c : Chk), Below w.heap.size w w' → c ∈ l → Calls Try.prog f (#[c.agg] ++ lb) w' fun e w'' => e = .returned (.bool (p c)) ∧ Below w'.heap.size w' w'')
    (h : FL w B g most l) (hl : l.length ≤ 64) :
    Calls Try.prog 30 #[.pointer (some ⟨g, 0, none⟩), .func (.func f) #[] lb] w fun e w' => e = .returned (fndV (fndC p l)) ∧ Below w.heap.size w w' := by
  obtain ⟨A, n, c, hn, hnc, hcm, HK, HO, HR⟩ := h.open_
  have HP := Lib.hid hp
  have HN := Lib.hid hn
  have hn64 : n ≤ 64 := by omega
  have HGL := Lib.hid HK.out.lt
  have g1 : (w.alloc (.cells #[.int .u64 0, .int .i64 0, .bool false, .int .i64 0, .int .u32 0, .int .i64 0, .int .i64 0, .bool false, .bool false] 30)).cell? ⟨g, 1, none⟩ = some (.slice A n c) := by rw [(HK.out.alloc _).cell]; rfl
  clear h hn hcm hl hp HO
  go_enter Try.func30, Try.ntmps30
  go_wp2_with fail
  have KR := Lib.hid (Blk.new w 30 #[.int .u64 0, .int .i64 0, .bool false, .int .i64 0, .int .u32 0, .int .i64 0, .int .i64 0, .bool false, .bool false])
  have B1 := Lib.hid ((Below.refl w.heap.size w).alloc (Nat.le_refl _) (.cells #[.int .u64 0, .int .i64 0, .bool false, .int .i64 0, .int .u32 0, .int .i64 0, .int .i64 0, .bool false, .bool false] 30))
  clear g1
  generalize w.alloc (.cells #[.int .u64 0, .int .i64 0, .bool false, .int .i64 0, .int .u32 0, .int .i64 0, .int .i64 0, .bool false, .bool false] 30) = w1 at KR B1 ⊢
  go_loopw [13] (fun iv wr => ∃ (k : Nat) , k ≤ n ∧ iv = .int .i64 (k : Nat) ∧ Hid (Blk wr w.heap.size 30 #[.int .u64 0, .int .i64 0, .bool false, .int .i64 0, .int .u32 0, .int .i64 0, .int .i64 0, .bool false, .bool false]) ∧ Hid (Below w.heap.size w wr) ∧ Hid (∀ d ∈ l.take k, p d = false)) (fun iv _ => n - (intOf iv).toNat)
  case atStart => exact ⟨0, Nat.zero_le _, rfl, KR, B1, Lib.hid (by simp)⟩
  case round =>
    clear KR B1
    obtain ⟨k, hk, rfl, KR, BB, HA⟩ := hrel
    by_cases hlt : k < n
    · have hlt' : (k : Int) < (n : Int) := by omega
      have hk0 : ¬ (k : Int) < 0 := by omega
      obtain ⟨rb, off, x, hA, hrb, HC, HX⟩ := HR.out.chk hlt
      subst hA
      have HPX := Lib.hid (fun w' (hb : Below w.heap.size w w') => HP.out w' x hb (List.mem_of_getElem? HX.out))
      obtain ⟨a0, a1, a2, a3, a4, a5, a6, a7, a8⟩ := ck9 (w := wr) (o := off + k * 9) (fun j v hj => (BB.out.cell (p := ⟨rb, off + k * 9 + j, none⟩) hrb).trans (HC.out j v hj))
      have hbz := BB.out.size
      cases hpx : p x
      · rw [hpx] at HPX
        have HA2 := Lib.hid (take_all HX.out hpx HA.out)
        rw [chk_agg] at HPX
        clear hpx HP
        go_upto_region 4 with fail
        have K1 := Lib.hid (Blk.new wr 30 #[.int .u64 (x.fr : Nat), .int .i64 x.len, .bool x.fin, .int .i64 x.flow, .int .u32 x.en, .int .i64 x.sent, .int .i64 x.tries, .bool x.came, .bool x.lost])
        have hb1 := (Below.refl wr.heap.size wr).alloc (Nat.le_refl _) (.cells #[.int .u64 (x.fr : Nat), .int .i64 x.len, .bool x.fin, .int .i64 x.flow, .int .u32 x.en, .int .i64 x.sent, .int .i64 x.tries, .bool x.came, .bool x.lost] 30)
        have B2 := Lib.hid (BB.out.trans (hb1.mono hbz))
        have KR2 := Lib.hid (Blk.below KR.out hb1 KR.out.lt)
        clear hb1 BB KR a0 a1 a2 a3 a4 a5 a6 a7 a8
        generalize wr.heap.size = X at *
        generalize wr.alloc (.cells #[.int .u64 (x.fr : Nat), .int .i64 x.len, .bool x.fin, .int .i64 x.flow, .int .u32 x.en, .int .i64 x.sent, .int .i64 x.tries, .bool x.came, .bool x.lost] 30) = w2 at *
        obtain ⟨b0, b1, b2, b3, b4, b5, b6, b7, b8⟩ := ckb (c := x) K1.out
        go_wp2_with fail
        refine (HPX.out w2 B2.out).mono ?_
        rintro e w3 ⟨rfl, hb3⟩
        have B3 := Lib.hid (B2.out.trans (hb3.mono B2.out.size))
        have KR3 := Lib.hid (Blk.below KR2.out hb3 KR2.out.lt)
        clear hb3 b0 b1 b2 b3 b4 b5 b6 b7 b8 KR2 B2 K1 HPX hbz
        go_wp2_with fail
        go_roundw
        case rel => exact ⟨k + 1, by omega, by go_num, KR3, B3, HA2⟩
        case measure => simp [intOf]; omega
      · rw [hpx] at HPX
        have HF := Lib.hid (fndC_hit HX.out hpx HA.out)
        rw [chk_agg] at HPX
        clear hpx HP
        go_upto_region 4 with fail
        have K1 := Lib.hid (Blk.new wr 30 #[.int .u64 (x.fr : Nat), .int .i64 x.len, .bool x.fin, .int .i64 x.flow, .int .u32 x.en, .int .i64 x.sent, .int .i64 x.tries, .bool x.came, .bool x.lost])
        have hb1 := (Below.refl wr.heap.size wr).alloc (Nat.le_refl _) (.cells #[.int .u64 (x.fr : Nat), .int .i64 x.len, .bool x.fin, .int .i64 x.flow, .int .u32 x.en, .int .i64 x.sent, .int .i64 x.tries, .bool x.came, .bool x.lost] 30)
        have B2 := Lib.hid (BB.out.trans (hb1.mono hbz))
        have KR2 := Lib.hid (Blk.below KR.out hb1 KR.out.lt)
        clear hb1 BB KR a0 a1 a2 a3 a4 a5 a6 a7 a8
        generalize wr.heap.size = X at *
        generalize wr.alloc (.cells #[.int .u64 (x.fr : Nat), .int .i64 x.len, .bool x.fin, .int .i64 x.flow, .int .u32 x.en, .int .i64 x.sent, .int .i64 x.tries, .bool x.came, .bool x.lost] 30) = w2 at *
        obtain ⟨b0, b1, b2, b3, b4, b5, b6, b7, b8⟩ := ckb (c := x) K1.out
        go_wp2_with fail
        refine (HPX.out w2 B2.out).mono ?_
        rintro e w3 ⟨rfl, hb3⟩
        have B3 := Lib.hid (B2.out.trans (hb3.mono B2.out.size))
        have KR3 := Lib.hid (Blk.below KR2.out hb3 KR2.out.lt)
        have K3 := Lib.hid (Blk.below K1.out hb3 K1.out.lt)
        clear hb3 b0 b1 b2 b3 b4 b5 b6 b7 b8 KR2 B2 K1 HPX hbz
        obtain ⟨b0, b1, b2, b3, b4, b5, b6, b7, b8⟩ := ckb (c := x) K3.out
        go_wp2_with (refine stm_store (cs' := x.cells) KR3.out rfl _ _ rfl rfl rfl (by simp) (by kernel_rfl) (by simp [Value.oneCell']) (by simp [setL, Chk.cells]) fun w9 hk hs => ?_)
        rw [HF.out]
        have hKF : Blk w9 w.heap.size 30 x.cells := hk
        obtain ⟨q0, q1, q2, q3, q4, q5, q6, q7, q8⟩ := ckb (c := x) hKF
        refine bodyPost_ret (v := .tuple #[.agg #[.int .u64 (x.fr : Nat), .int .i64 x.len, .bool x.fin, .int .i64 x.flow, .int .u32 x.en, .int .i64 x.sent, .int .i64 x.tries, .bool x.came, .bool x.lost], .bool true]) (by simp [results, Try.results30, go_sem, q0, q1, q2, q3, q4, q5, q6, q7, q8]) rfl ?_
        exact ⟨rfl, B3.out.trans (hs.1.mono (Nat.le_refl _))⟩
    · obtain rfl : k = n := by omega
      have HF := Lib.hid (fndC_miss (p := p) (l := l) (by have := HA.out; rw [List.take_of_length_le (by rw [HN.out]; exact Nat.le_refl _)] at this; exact this))
      clear hlt HP
      go_wp2_with (refine stm_store (cs' := nilC.cells) KR.out rfl _ _ rfl rfl rfl (by simp) (by kernel_rfl) (by simp [Value.oneCell']) (by simp [setL, Chk.cells, nilC]) fun w9 hk hs => ?_)
      rw [HF.out]
      have hKF : Blk w9 w.heap.size 30 nilC.cells := hk
      obtain ⟨q0, q1, q2, q3, q4, q5, q6, q7, q8⟩ := ckb (c := nilC) hKF
      refine bodyPost_ret (v := .tuple #[.agg #[.int .u64 (nilC.fr : Nat), .int .i64 nilC.len, .bool nilC.fin, .int .i64 nilC.flow, .int .u32 nilC.en, .int .i64 nilC.sent, .int .i64 nilC.tries, .bool nilC.came, .bool nilC.lost], .bool false]) (by simp [results, Try.results30, go_sem, q0, q1, q2, q3, q4, q5, q6, q7, q8]) rfl ?_
      exact ⟨rfl, BB.out.trans (hs.1.mono (Nat.le_refl _))⟩
end Go.Proofs.Ytbipcnboammpeaa
