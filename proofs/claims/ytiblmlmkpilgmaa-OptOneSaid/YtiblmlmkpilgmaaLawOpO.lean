/- Layer 8: the law OptOne answers true, and nothing that was there has turned. -/
import Derived.Test.YtiblmlmkpilgmaaOp10
import Derived.Test.YtiblmlmkpilgmaaOp8
import Derived.Test.YtiblmlmkpilgmaaSg2
import Derived.Test.YtiblmlmkpilgmaaSg5
import Derived.Test.YtiblmlmkpilgmaaOpenSg
namespace Go.Proofs.Ytiblmlmkpilgmaa
open Go.RowKit
set_option linter.unusedVariables false
set_option maxRecDepth 20000 in
set_option maxHeartbeats 4000000 in
theorem optOne_walk (v : Value) (g : Sg) (kd : Nat) (w : World) (hv : SegV w v g) :
    Calls Try.prog 6 #[v, .int .u8 (kd : Int)] w fun e w' => e = .returned (.bool true) ∧ Below w.heap.size w w' := by
  obtain ⟨A, n, c, D, m, d, l, rfl, hO, ho, hD, hmd, hdm⟩ := hv
  have S0 := Lib.hid (SBox.mk' (d := d) hO ho hD)
  have HMD := Lib.hid (And.intro hmd hdm)
  clear hO ho hD hmd hdm
  obtain ⟨s0, s1, s2, s3, s4, s5, s6⟩ := seg_cells S0.out.blk
  obtain ⟨r, hr⟩ : ∃ r, r = greatS g := ⟨_, rfl⟩
  have HGR := Lib.hid (great_any _ g _ (S0.out.val HMD.out.1 HMD.out.2))
  rw [← hr] at HGR
  have HRG := Lib.hid hr
  clear hr
  unfold segCs at *
  go_enter Try.func6, Try.ntmps6
  go_wp2_with fail
  refine HGR.out.mono ?_
  rintro e w1 ⟨rfl, hb1⟩
  have S1 := Lib.hid (S0.out.into hb1)
  clear HGR hb1 s0 s1 s2 s3 s4 s5 s6 S0
  have B1 := Lib.hid S1.out.bel
  cases r with
  | true =>
    go_wp2_with fail
    go_ret
    exact ⟨rfl, B1.out⟩
  | false =>
  obtain ⟨hsm, _⟩ := greatS_small HRG.out.symm
  have HS := Lib.hid hsm
  clear hsm HRG
  obtain ⟨s0, s1, s2, s3, s4, s5, s6⟩ := seg_cells S1.out.blk
  unfold segCs at *
  go_wp2_with fail
  refine (one_any _ g kd w1 (S1.out.val HMD.out.1 HMD.out.2) HS.out).mono ?_
  rintro e w2 ⟨⟨k2, A2, n2, c2, b2, is2, rfl, hr2, ho2⟩, hb2⟩
  have bA : Below w2.heap.size w2 (w2.alloc (.cells #[.int .u8 (k2 : Int), .slice A2 n2 c2] 39)) := (Below.refl _ _).alloc (Nat.le_refl _) _
  have S2 := Lib.hid ((S1.out.into hb2).into bA)
  have R2 := Lib.hid (hr2.into bA)
  have K2 := Lib.hid (Blk.new w2 39 #[.int .u8 (k2 : Int), .slice A2 n2 c2])
  have HO2 := Lib.hid ho2
  clear s0 s1 s2 s3 s4 s5 s6 hb2 bA hr2 ho2 S1 B1
  obtain ⟨s0, s1, s2, s3, s4, s5, s6⟩ := seg_cells S2.out.blk
  unfold segCs at *
  go_wp2_with fail
  generalize w2.alloc (.cells #[.int .u8 (k2 : Int), .slice A2 n2 c2] 39) = W2 at *
  obtain ⟨N2, hN2⟩ : ∃ N, N = w2.heap.size := ⟨_, rfl⟩
  rw [← hN2] at K2 ⊢
  clear hN2
  refine (rone_any _ g kd W2 (S2.out.val HMD.out.1 HMD.out.2) HS.out).mono ?_
  rintro e w3 ⟨⟨k3, A3, n3, c3, b3, is3, rfl, hr3, ho3⟩, hb3⟩
  have e3 := HO2.out.symm.trans ho3
  injection e3 with e4 e5
  injection e5 with e5 e6
  subst e4 e5 e6
  have bA : Below w3.heap.size w3 (w3.alloc (.cells #[.int .u8 (k2 : Int), .slice A3 n3 c3] 39)) := (Below.refl _ _).alloc (Nat.le_refl _) _
  have B3 := Lib.hid ((S2.out.into hb3).into bA).bel
  have R2' := Lib.hid ((R2.out.into hb3).into bA)
  have R3 := Lib.hid (hr3.into bA)
  have K2' := (K2.out.below hb3 K2.out.lt).below bA (K2.out.below hb3 K2.out.lt).lt
  obtain ⟨t0, t1⟩ := ptc2 K2'
  obtain ⟨u0, u1⟩ := ptc2 (Blk.new w3 39 #[.int .u8 (k2 : Int), .slice A3 n3 c3])
  clear s0 s1 s2 s3 s4 s5 s6 hb3 bA hr3 ho3 S2 R2 K2 K2' HO2
  go_wp2_with fail
  generalize w3.alloc (.cells #[.int .u8 (k2 : Int), .slice A3 n3 c3] 39) = W3 at *
  refine (sameo_any k2 A2 A3 n2 c2 n3 c3 b2 W3 R2'.out R3.out).mono ?_
  rintro e w4 ⟨rfl, hb4⟩
  have B4 := Lib.hid (B3.out.trans (hb4.mono B3.out.size))
  clear t0 t1 u0 u1 hb4
  go_wp2_with fail
  refine (oalive_any w4).mono ?_
  rintro e w5 ⟨rfl, hb5⟩
  have B5 := Lib.hid (B4.out.trans (hb5.mono B4.out.size))
  clear hb5
  go_wp2_with fail
  go_ret
  exact ⟨rfl, B5.out⟩
theorem optOne_any (q : Array Value × Sg) (kd : Int) (w : World) (hq : SegV w (.agg q.1) q.2 ∧ q.2.bd) (hk : (Lit.int .u8 kd).wf = true) :
    Calls Try.prog 6 #[.agg q.1, .int .u8 kd] w fun e w' => e = .returned (.bool true) ∧ Below w.heap.size w w' := by
  have b1 := bounds_u8 hk
  obtain ⟨k, rfl⟩ : ∃ k : Nat, kd = (k : Int) := ⟨kd.toNat, by omega⟩
  exact optOne_walk _ q.2 k w hq.1
end Go.Proofs.Ytiblmlmkpilgmaa
