/- Package sack: Came. -/
import Derived.Test.YtpnnadnmkiobcaaG41SackBack
import Derived.Laws.Closers25

namespace Go.Proofs.Ytpnnadnmkiobcaa
open Go.RowKit
set_option linter.unusedVariables false
set_option linter.unusedSimpArgs false
theorem wr64 {x : Int} (h0 : -9223372036854775808 ≤ x) (h1 : x ≤ 9223372036854775807) : IntKind.i64.wrap x = x := by
  have := wrap_i64_ediv x 1 h0 h1 (by omega)
  rwa [Int.ediv_one] at this
theorem sd_lt (a b : Int) : -2147483648 ≤ sd a b ∧ sd a b < 2147483648 := by unfold sd; omega
theorem mx_pl {W x : Int} (hx : U32 x) (hW : U32 W) : mx x W = pl W (max (sd x W) 0).toNat := by
  unfold mx
  by_cases h : sd x W < 0
  · rw [if_pos h, show (max (sd x W) 0).toNat = 0 by omega, pl_zero hW]
  · rw [if_neg h, show (max (sd x W) 0).toNat = (sd x W).toNat by omega, pl_of hx (by omega)]
theorem end_pl {W x many : Int} (hx : U32 x) (hW : U32 W) (h : 0 < sd x W + many) : (x + many) % 4294967296 = pl W (sd x W + many).toNat := by
  unfold pl
  rw [show ((sd x W + many).toNat : Int) = sd x W + many by omega]
  unfold sd U32 at *
  omega
set_option maxRecDepth 20000 in
theorem bcame_any (g B : Nat) (W : Int) (most : Nat) (v : Value) (l : List Sp) (x many : Int) (w : World) (h : BdI w g B W most v l) (hx : U32 x) (hm0 : -9223372036854775808 ≤ many) (hm1 : many < 9223372036854775808) :
    Calls Try.prog 25 #[.pointer (some ⟨g, 0, none⟩), .int .u32 x, .int .i64 many] w fun e w' =>
      e = .returned (.bool (cameB W l most x many).2.2) ∧ (∃ v', BdI w' g B (pl W (cameB W l most x many).1) most v' (cameB W l most x many).2.1 ∧ KeptS g v v' w w') ∧ Below B w w' := by
  have HI := Lib.hid h
  have hu := h.u
  obtain ⟨c0, c1, c2⟩ := h.cells
  have hbw : B ≤ w.heap.size := Nat.le_trans h.bg (Nat.le_of_lt h.lt)
  have SAME : Hid (∀ b, cameB W l most x many = (0, l, b) → (Ending.returned (.bool b) = .returned (.bool (cameB W l most x many).2.2)) ∧ (∃ v', BdI w g B (pl W (cameB W l most x many).1) most v' (cameB W l most x many).2.1 ∧ KeptS g v v' w w) ∧ Below B w w) := Lib.hid fun b e => by
    rw [e]
    exact ⟨rfl, ⟨v, by rw [pl_zero hu]; exact HI.out, KeptS.of_below (Below.refl _ _)⟩, Below.refl _ _⟩
  have HU := Lib.hid hu
  have HX := Lib.hid hx
  clear h
  by_cases hz : many = 0
  · have he := SAME.out true (by unfold cameB; rw [if_pos hz])
    subst hz
    have HE := Lib.hid he
    clear he SAME
    go_enter Try.func25, Try.ntmps25
    go_wp2_with fail
    go_ret
    exact HE.out
  have hzb : (many == 0) = false := by simp [hz]
  by_cases hbad : many < 0 ∨ 1024 < many
  · have HE := Lib.hid (SAME.out false (by unfold cameB; rw [if_neg hz, if_pos hbad]))
    clear SAME
    go_enter Try.func25, Try.ntmps25
    by_cases hneg : many < 0
    · clear hbad
      go_wp2_with fail
      go_ret
      exact HE.out
    · have hbig : 1024 < many := by omega
      clear hbad
      go_wp2_with fail
      go_ret
      exact HE.out
  have hneg : ¬ many < 0 := by omega
  have hbig : ¬ 1024 < many := by omega
  have hp : 0 < many := by omega
  obtain ⟨s, hs⟩ : ∃ s, s = sd x W := ⟨_, rfl⟩
  have hsl := sd_lt x W
  rw [← hs] at hsl
  have HS := Lib.hid hs
  have hwn : IntKind.i64.wrap (-many) = -many := wr64 (by omega) (by omega)
  have hws : IntKind.i64.wrap (1048576 - many) = 1048576 - many := wr64 (by omega) (by omega)
  have HC : Hid (cameB W l most x many = if s ≤ -many then (0, l, wi x W 1048576 || wi W x 1048576) else if 1048576 - many < s then (0, l, false) else putB l most (max s 0).toNat (s + many).toNat) := Lib.hid (by unfold cameB; rw [if_neg hz, if_neg hbad, ← hs])
  clear hs hbad hz
  go_enter Try.func25, Try.ntmps25
  go_wp2_with fail
  refine (diff_any x W w).mono ?_
  rintro e w1 ⟨rfl, rfl⟩
  rw [← HS.out]
  by_cases hfar : s ≤ -many
  · have HE := Lib.hid (SAME.out _ (HC.out.trans (if_pos hfar)))
    clear SAME
    go_wp2_with fail
    refine (near_any x W 1048576 w1).mono ?_
    rintro e w2 ⟨rfl, rfl⟩
    generalize (wi x W 1048576 || wi W x 1048576) = b at *
    go_wp2_with fail
    go_ret
    exact HE.out
  · by_cases hahead : 1048576 - many < s
    · have HE := Lib.hid (SAME.out _ (HC.out.trans ((if_neg hfar).trans (if_pos hahead))))
      clear SAME
      go_wp2_with fail
      go_ret
      exact HE.out
    · have HE := Lib.hid (HC.out.trans ((if_neg hfar).trans (if_neg hahead)))
      have HPT := Lib.hid (bput_any g B W most v l (max s 0).toNat (s + many).toNat w1 HI.out (by omega) (by omega))
      have HMX : Hid (∀ w', Calls Try.prog 37 #[.int .u32 x, .int .u32 W] w' fun e w'' => e = .returned (.int .u32 (pl W (max s 0).toNat)) ∧ w'' = w') := Lib.hid fun w' => by
        rw [HS.out, ← mx_pl HX.out HU.out]
        exact max_any x W w'
      have hev : (x + many) % 4294967296 = pl W (s + many).toNat := by rw [HS.out]; exact end_pl HX.out HU.out (by rw [← HS.out]; omega)
      have HEV := Lib.hid hev
      clear SAME hev HC
      go_wp2_with fail
      refine (HMX.out w1).mono ?_
      rintro e w2 ⟨rfl, rfl⟩
      have hev := HEV.out
      generalize pl W (s + many).toNat = z at *
      generalize pl W (max s 0).toNat = y at *
      go_wp2_with fail
      refine (HPT.out).mono ?_
      rintro e w3 ⟨rfl, hv, hb⟩
      have HV := Lib.hid hv
      have HB := Lib.hid hb
      clear hv hb
      generalize (putB l most (max s 0).toNat (s + many).toNat) = q at *
      obtain ⟨q1, q2, q3⟩ := q
      dsimp only at *
      go_wp2_with fail
      go_ret
      rw [HE.out]
      exact ⟨rfl, HV.out, HB.out⟩
end Go.Proofs.Ytpnnadnmkiobcaa
