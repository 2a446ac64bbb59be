/- Layer 34: the chapter's example. -/
import Derived.Test.YtcgcglngjfijnaaCapC
import Derived.Test.YtcgcglngjfijnaaCap9
namespace Go.Proofs.Ytcgcglngjfijnaa
open Go.RowKit
set_option linter.unusedVariables false
set_option linter.unusedSimpArgs false
theorem right_nil : rightR [] := ⟨by simp, trivial⟩
theorem capE_nil6 : (capE []).take 6 = [66, 82, 79, 85, 0, 0] := by rfl
theorem capE_nil_byte : ∀ x ∈ capE [], x < 256 := capE_byte right_nil (by simp)
set_option maxRecDepth 20000 in
set_option maxHeartbeats 4000000 in
theorem calive_any (w : World) : Calls Try.prog 49 #[] w fun e w' => e = .returned (.bool true) ∧ Below w.heap.size w w' := by
  go_enter Try.func49, Try.ntmps49
  go_wp2_with fail
  refine (cencode_any none 0 0 [] w (Rs.nil w) (fun _ => by simp [rsay, bsum])).mono ?_
  rintro e w1 ⟨⟨v1, b1, rfl, hiff, hN⟩, hb1⟩
  obtain rfl : b1 = true := hiff.2 right_nil
  have hN2 : Nats w1 5 .u8 w.heap.size v1 (capE []) := hN
  obtain ⟨A1, n1, c1, rfl, hnc1, hl1, hr1⟩ := hN2.out
  have hn1 : n1 = 10 := by rw [← hl1.out, capE_len]; rfl
  subst hn1
  have hcm1 : c1 ≤ maxLen := by
    obtain ⟨_, _, e, _, h, _⟩ := own_form (show w1.ownsRow w.heap.size 5 1 (.slice A1 10 c1) _ _ from hN2)
    injection e with _ _ e
    omega
  have B1 := Lib.hid hb1
  have R1 := Lib.hid hr1.out
  have HCM := Lib.hid hcm1
  clear hN hN2 hb1 hl1 hr1 hiff hcm1
  go_wp2_with fail
  refine (cdecode_any A1 10 c1 (capE []) w1 R1.out hnc1 HCM.out capE_nil_byte (by omega)).mono ?_
  rintro e w2 ⟨hp, hb2⟩
  rcases hp with ⟨A2, n2, c2, lr, rfl, hrs, hrr, hce⟩ | ⟨_, hno⟩
  rotate_left
  · exact absurd ⟨right_nil, rfl⟩ (hno [])
  have hl0 : rsay lr = [] := capE_inj hrr right_nil hce
  have hn2 : n2 = 0 := by
    have h1 := hrs.len
    have h2 : lr.length = 0 := by rw [← rsay_len, hl0]; rfl
    omega
  subst hn2
  have B2 := Lib.hid (B1.out.trans (hb2.mono B1.out.size))
  have R2 := Lib.hid ((R1.out.into hb2).takeN (show 6 ≤ 10 by omega))
  rw [capE_nil6] at R2
  have HU := Lib.hid (show Try.prog.underlying 51 = some (.slice (Try.prog.elem 51)) by unfold Program.elem; rw [Try.underlying51])
  have hs1 : ∀ w, (Instr.slice 51 (.slice A1 10 c1) none (some (.int .i64 6)) none).run Try.prog w = .ok (.slice A1 6 c1) w := fun w => run_cut_h pel8 A1 10 c1 6 (by omega) w
  have hs2 : ∀ w, (Instr.sliceAt 51 (.slice A1 10 c1) none (some (.int .i64 6)) none).run Try.prog w = .ok (.slice A1 6 c1) w := fun w => (run_sliceAt_slice w _ _ _ _ _ HU.out).trans (hs1 w)
  have hstr : (strN [66, 82, 79, 85, 0, 0]).toList = [66, 82, 79, 85, 0, 0] := by rw [strN_toList]; rfl
  clear hb2 hrs hrr hce hl0 R1 B1 HU HCM
  go_wp2_with (refine wpList_conv Try.underlying51 Try.underlying5 Try.underlying9 rfl _ rfl rfl R2.out ?_)
  go_ret
  exact ⟨rfl, B2.out⟩
end Go.Proofs.Ytcgcglngjfijnaa
