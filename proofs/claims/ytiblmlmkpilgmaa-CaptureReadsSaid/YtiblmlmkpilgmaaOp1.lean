/- Layer 8: the bytes of numbers with a sum behind them; a sum is set. -/
import Derived.Test.YtiblmlmkpilgmaaOpM
import Derived.Test.YtiblmlmkpilgmaaPut
import Derived.Test.YtiblmlmkpilgmaaPk2
import Derived.Test.YtiblmlmkpilgmaaPkQ
import Derived.Test.YtiblmlmkpilgmaaPk3
namespace Go.Proofs.Ytiblmlmkpilgmaa
open Go.RowKit
set_option linter.unusedVariables false

theorem pFlagN_any (b : Bool) (w : World) : Calls Try.prog 74 #[.bool b] w fun e w' => e = .returned (.agg #[.int .i64 1, .int .u64 (bitN b : Int)]) ∧ Below w.heap.size w w' := by
  have h := pFlag_any b w
  cases b <;> exact h
theorem fbs_one (s : Int) (n : Nat) (h : okS s = true) : fbs [(s, n)] = be n s.toNat := by
  unfold fbs
  rw [List.flatMap_cons, List.flatMap_nil, if_pos h, List.append_nil]
/-- What stands behind the block T. -/
theorem nats_past {w : World} {B T : Nat} {e : TypeId} {k : IntKind} {v : Value} {l : List Nat} {w' : World} (h : Nats w e k B v l) (hT : T < B) (hs : Solo T w w') : Nats w' e k B v l :=
  h.kept fun g hg => hs.2.2 g (by have := (h.lt g hg).1; omega)
set_option maxRecDepth 20000 in
set_option maxHeartbeats 2000000 in
theorem body_any (t : Nat) (a : Bool) (C : Option Addr) (m d : Nat) (l : List (Int × Nat)) (w : World) (ht : q64 t) (hs : Rd w w.heap.size 2 C m (fs l)) (hm : m ≤ 100) (h64 : ∀ p ∈ l, p.2 < 18446744073709551616) :
    Calls Try.prog 69 #[.agg #[.int .u64 (t : Int)], .bool a, .slice C m d] w fun e w' => ∃ v, e = .returned v ∧ Nats w' 5 .u8 w.heap.size v (fbs l ++ tagB t a) ∧ Below w.heap.size w w' := by
  have hb0 : Below w.heap.size w (w.alloc (.cells #[.int .u64 (t : Int)] 24)) := (Below.refl _ _).alloc (Nat.le_refl _) _
  have K0 := Lib.hid (Blk.new w 24 #[.int .u64 (t : Int)])
  have HS := Lib.hid (hs.into hb0)
  have HB0 := Lib.hid hb0
  have H64 := Lib.hid h64
  have HQ := Lib.hid ht
  have HLL := Lib.hid (show (fbs l).length ≤ 1000 from by rw [fbs_len]; have := fsz_le l; have := hs.fldLen; omega)
  clear hb0 hs h64 ht
  go_enter Try.func69, Try.ntmps69
  go_wp2_with fail
  generalize w.alloc (.cells #[.int .u64 (t : Int)] 24) = W at *
  obtain ⟨T, hT⟩ : ∃ T, T = w.heap.size := ⟨_, rfl⟩
  rw [← hT] at K0 ⊢
  have HT := Lib.hid hT
  clear hT
  refine (pput_any none C 0 m 0 d [] l W (Rd.nil _ _ _ _) HS.out (by omega) H64.out).mono ?_
  rintro e w1 ⟨v1, rfl, hN, hb1⟩
  rw [List.nil_append] at hN
  have hTW : T ≤ W.heap.size := Nat.le_of_lt K0.out.lt
  have B1 := Lib.hid (HB0.out.trans (hb1.mono HB0.out.size))
  cases a with
  | false =>
    have HN := Lib.hid (hN.mono hTW)
    clear hN hb1 HS
    go_wp2_with fail
    go_ret
    refine ⟨_, rfl, ?_, B1.out⟩
    have := HN.out
    simpa [tagB, ← HT.out] using this
  | true =>
    have K1 := Lib.hid (K0.out.below hb1 K0.out.lt)
    obtain ⟨A1, n1, c1, rfl, hnc1, hl1, hr1⟩ := hN.out
    have s1 := ptc1 K1.out
    clear hN hb1 HS K0
    go_wp2_with fail
    refine (pQ_any (t : Int) w1 (by omega) (by have := HQ.out; unfold q64 at this; omega)).mono ?_
    rintro e w2 ⟨rfl, hb2⟩
    have B2 := Lib.hid (B1.out.trans (hb2.mono B1.out.size))
    have R2 := Lib.hid (hr1.out.into hb2)
    clear hb2 hr1 s1
    go_wp2_with fail
    have hrd : Rd (w2.alloc (.cells #[.int .i64 8, .int .u64 (t : Int)] 139)) (w2.heap.size + 1) 2 (some ⟨w2.heap.size, 0, none⟩) 1 (fs [((8 : Int), t)]) := Rd.made w2 139 #[.int .i64 8, .int .u64 (t : Int)] rfl
    have hz : (w2.alloc (.cells #[.int .i64 8, .int .u64 (t : Int)] 139)).heap.size = w2.heap.size + 1 := by simp
    rw [← hz] at hrd
    have hb3 : Below w2.heap.size w2 (w2.alloc (.cells #[.int .i64 8, .int .u64 (t : Int)] 139)) := (Below.refl _ _).alloc (Nat.le_refl _) _
    have B3 := Lib.hid (B2.out.trans (hb3.mono B2.out.size))
    have R3 := Lib.hid (R2.out.into hb3)
    have HRD := Lib.hid hrd
    clear hrd hz hb3 R2
    generalize w2.alloc (.cells #[.int .i64 8, .int .u64 (t : Int)] 139) = w3 at *
    have hl2 := hl1.out
    refine (pput_any A1 _ n1 1 c1 1 _ _ w3 R3.out HRD.out (by have := HLL.out; omega) (fun p hp => by simp at hp; subst hp; exact HQ.out)).mono ?_
    rintro e w4 ⟨v4, rfl, hN4, hb4⟩
    rw [fbs_one 8 t rfl] at hN4
    have HN := Lib.hid (hN4.mono B3.out.size)
    have B4 := Lib.hid (B3.out.trans (hb4.mono B3.out.size))
    clear hN4 hb4 HRD R3 hl2
    go_wp2_with fail
    go_ret
    exact ⟨_, rfl, by rw [HT.out]; exact HN.out, B4.out⟩
set_option maxRecDepth 20000 in
theorem seal_any (T o t : Nat) (x : Value) (w : World) (hc : w.cell? ⟨T, o, none⟩ = some x) (hf : w.frozen? ⟨T, o, none⟩ = false) :
    Calls Try.prog 76 #[.pointer (some ⟨T, o, none⟩), .int .u64 (t : Int)] w fun e w' => e = .returned (.tuple #[]) ∧ w' = w.setCell ⟨T, o, none⟩ (.int .u64 (t : Int)) := by
  go_enter Try.func76, Try.ntmps76
  go_wp2_with fail
  go_end0
  exact ⟨rfl, rfl⟩
end Go.Proofs.Ytiblmlmkpilgmaa
