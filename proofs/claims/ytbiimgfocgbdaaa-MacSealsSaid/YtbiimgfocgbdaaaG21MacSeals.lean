/- Contract of the reference's take, layer 3. -/
import Derived.Test.YtbiimgfocgbdaaaG20MacSeals

namespace Go.Proofs.Ytbiimgfocgbdaaa
open Go.RowKit
set_option linter.unusedVariables false
theorem vagg_lit (a b c d : Nat) : vagg (a, b, c, d) = .agg #[.int .u64 (a : Nat), .int .u64 (b : Nat), .int .u64 (c : Nat), .int .u64 (d : Nat)] := rfl
theorem Blk.oth {w : World} {g g' o : Nat} {t : TypeId} {cs : Array Value} {v : Value} (h : Blk w g t cs) (hne : g ≠ g') : Blk (w.setCell ⟨g', o, none⟩ v) g t cs := by
  unfold Blk at h ⊢
  rw [Below.heap_setCell w ⟨g', o, none⟩ v g hne]
  exact h
set_option maxRecDepth 20000 in
set_option maxHeartbeats 2000000 in
theorem rtake_any (v : V4) (m : Nat) (w : World) (hv : Ok v) (hm : m < 18446744073709551616) :
    Calls Try.prog 89 #[.agg #[.int .u64 (v.1 : Nat), .int .u64 (v.2.1 : Nat), .int .u64 (v.2.2.1 : Nat), .int .u64 (v.2.2.2 : Nat)], .int .u64 m] w fun e w' => e = .returned (vagg (tk v m)) ∧ Below w.heap.size w w' := by
  have HV := Lib.hid hv
  obtain ⟨a, b, c, d⟩ := v
  have h_d : d < 18446744073709551616 := hv.2.2.2
  obtain ⟨y, ey⟩ : ∃ y, y = d ^^^ m := ⟨_, rfl⟩
  have v1 := val_xor d m h_d hm
  rw [← ey] at v1
  have HV2 := hv.x3 hm
  have HV2 : Ok (a, b, c, d ^^^ m) := HV2
  rw [← ey] at HV2
  have HOK := Lib.hid HV2
  have HY := Lib.hid ey
  have HT : Hid (tk (a, b, c, d) m = ((rndN (a, b, c, y) 2).1 ^^^ m, (rndN (a, b, c, y) 2).2.1, (rndN (a, b, c, y) 2).2.2.1, (rndN (a, b, c, y) 2).2.2.2)) := Lib.hid (by rw [ey]; rfl)
  clear ey hv HV2
  show Calls Try.prog 89 #[.agg #[.int .u64 (a : Nat), .int .u64 (b : Nat), .int .u64 (c : Nat), .int .u64 (d : Nat)], .int .u64 m] w _
  go_enter Try.func89, Try.ntmps89
  go_wp2_with fail
  have hb : Blk ((w.alloc (.cells #[.int .u64 (a : Nat), .int .u64 (b : Nat), .int .u64 (c : Nat), .int .u64 (y : Nat)] 173)).alloc (.cells #[.int .u64 0, .int .u64 0, .int .u64 0, .int .u64 0] 173)) w.heap.size 173 #[.int .u64 (a : Nat), .int .u64 (b : Nat), .int .u64 (c : Nat), .int .u64 (y : Nat)] := (Blk.new w _ _).alloc _
  have hr0 : Blk ((w.alloc (.cells #[.int .u64 (a : Nat), .int .u64 (b : Nat), .int .u64 (c : Nat), .int .u64 (y : Nat)] 173)).alloc (.cells #[.int .u64 0, .int .u64 0, .int .u64 0, .int .u64 0] 173)) (w.heap.size + 1) 173 #[.int .u64 0, .int .u64 0, .int .u64 0, .int .u64 0] := by
    have := Blk.new (w.alloc (.cells #[.int .u64 (a : Nat), .int .u64 (b : Nat), .int .u64 (c : Nat), .int .u64 (y : Nat)] 173)) 173 #[.int .u64 0, .int .u64 0, .int .u64 0, .int .u64 0]
    simpa using this
  have hb0 : Below w.heap.size w ((w.alloc (.cells #[.int .u64 (a : Nat), .int .u64 (b : Nat), .int .u64 (c : Nat), .int .u64 (y : Nat)] 173)).alloc (.cells #[.int .u64 0, .int .u64 0, .int .u64 0, .int .u64 0] 173)) := ((Below.refl _ _).alloc (Nat.le_refl _) _).alloc (by simp) _
  generalize ((w.alloc (.cells #[.int .u64 (a : Nat), .int .u64 (b : Nat), .int .u64 (c : Nat), .int .u64 (y : Nat)] 173)).alloc (.cells #[.int .u64 0, .int .u64 0, .int .u64 0, .int .u64 0] 173)) = w1 at hb hr0 hb0 ⊢
  obtain ⟨g, hg⟩ : ∃ g, g = w.heap.size := ⟨_, rfl⟩
  rw [← hg] at hb hr0 hb0 ⊢
  have HGG := Lib.hid hg
  have HB := Lib.hid hb; have HR := Lib.hid hr0; have HB0 := Lib.hid hb0
  clear hg hb hr0 hb0 v1 h_d
  refine (rround_any (a, b, c, y) w1 HOK.out).mono ?_
  rintro e w2 ⟨rfl, hb2⟩
  have hok := HOK.out.rnd
  obtain ⟨z, hz⟩ : ∃ z, z = rnd (a, b, c, y) := ⟨_, rfl⟩
  rw [← hz] at hok ⊢
  have HZ := Lib.hid hz
  clear hz
  obtain ⟨z0, z1, z2, z3⟩ := z
  rw [vagg_lit]
  have HB := Lib.hid (HB.out.below hb2 HB.out.lt); have HR := Lib.hid (HR.out.below hb2 HR.out.lt); have HB0 := Lib.hid (HB0.out.trans (hb2.mono (show g ≤ w1.heap.size by rw [HGG.out]; exact HB0.out.size)))
  clear hb2
  go_wp2_with fail
  refine (rround_any (z0, z1, z2, z3) w2 hok).mono ?_
  rintro e w3 ⟨rfl, hb3⟩
  have hok2 := hok.rnd
  obtain ⟨q, hq⟩ : ∃ q, q = rnd (z0, z1, z2, z3) := ⟨_, rfl⟩
  rw [← hq] at hok2 ⊢
  have HQ : Hid (rndN (a, b, c, y) 2 = q) := Lib.hid (by rw [hq, HZ.out]; rfl)
  clear hq
  obtain ⟨q0, q1, q2, q3⟩ := q
  have h_q0 : q0 < 18446744073709551616 := hok2.1
  rw [vagg_lit]
  have hb := HB.out.below hb3 HB.out.lt; have hr := HR.out.below hb3 HR.out.lt; have hb0 := HB0.out.trans (hb3.mono (show g ≤ w2.heap.size by rw [HGG.out]; exact HB0.out.size))
  clear hb3 HB HR HB0 hok hok2 HZ
  obtain ⟨x0, ex⟩ : ∃ x, x = q0 ^^^ m := ⟨_, rfl⟩
  have v2 := val_xor q0 m h_q0 hm
  rw [← ex] at v2
  have HX := Lib.hid ex
  clear ex
  have k0 : w3.cell? ⟨g, 0, none⟩ = some (.int .u64 (a : Nat)) := hb.cell 0
  have k1 : w3.cell? ⟨g, 1, none⟩ = some (.int .u64 (b : Nat)) := hb.cell 1
  have k2 : w3.cell? ⟨g, 2, none⟩ = some (.int .u64 (c : Nat)) := hb.cell 2
  have k3 : w3.cell? ⟨g, 3, none⟩ = some (.int .u64 (y : Nat)) := hb.cell 3
  have r0 : w3.cell? ⟨g + 1, 0, none⟩ = some (.int .u64 0) := hr.cell 0
  have r1 : w3.cell? ⟨g + 1, 1, none⟩ = some (.int .u64 0) := hr.cell 1
  have r2 : w3.cell? ⟨g + 1, 2, none⟩ = some (.int .u64 0) := hr.cell 2
  have r3 : w3.cell? ⟨g + 1, 3, none⟩ = some (.int .u64 0) := hr.cell 3
  have f0 := hr.frozen 0; have f1 := hr.frozen 1; have f2 := hr.frozen 2; have f3 := hr.frozen 3
  have e0 := hb.frozen 0; have e1 := hb.frozen 1; have e2 := hb.frozen 2; have e3 := hb.frozen 3
  have HB := Lib.hid hb; have HR := Lib.hid hr; have HB0 := Lib.hid hb0
  clear hb hr hb0
  go_wp2_with fail
  have hrs : Blk (((((((((w3.setCell ⟨g, 0, none⟩ (.int .u64 (q0 : Nat))).setCell ⟨g, 1, none⟩ (.int .u64 (q1 : Nat))).setCell ⟨g, 2, none⟩ (.int .u64 (q2 : Nat))).setCell ⟨g, 3, none⟩ (.int .u64 (q3 : Nat))).setCell ⟨g, 0, none⟩ (.int .u64 (x0 : Nat))).setCell ⟨g + 1, 0, none⟩ (.int .u64 (x0 : Nat))).setCell ⟨g + 1, 1, none⟩ (.int .u64 (q1 : Nat))).setCell ⟨g + 1, 2, none⟩ (.int .u64 (q2 : Nat))).setCell ⟨g + 1, 3, none⟩ (.int .u64 (q3 : Nat))) (g + 1) 173 #[.int .u64 (x0 : Nat), .int .u64 (q1 : Nat), .int .u64 (q2 : Nat), .int .u64 (q3 : Nat)] :=
    ((((((((HR.out.oth (by omega)).oth (by omega)).oth (by omega)).oth (by omega)).oth (by omega)).set 0 _).set 1 _).set 2 _).set 3 _
  have hbs : Below g w (((((((((w3.setCell ⟨g, 0, none⟩ (.int .u64 (q0 : Nat))).setCell ⟨g, 1, none⟩ (.int .u64 (q1 : Nat))).setCell ⟨g, 2, none⟩ (.int .u64 (q2 : Nat))).setCell ⟨g, 3, none⟩ (.int .u64 (q3 : Nat))).setCell ⟨g, 0, none⟩ (.int .u64 (x0 : Nat))).setCell ⟨g + 1, 0, none⟩ (.int .u64 (x0 : Nat))).setCell ⟨g + 1, 1, none⟩ (.int .u64 (q1 : Nat))).setCell ⟨g + 1, 2, none⟩ (.int .u64 (q2 : Nat))).setCell ⟨g + 1, 3, none⟩ (.int .u64 (q3 : Nat))) :=
    ((((((((HB0.out.setCell (p := ⟨g, 0, none⟩) (by simp) _).setCell (p := ⟨g, 1, none⟩) (by simp) _).setCell (p := ⟨g, 2, none⟩) (by simp) _).setCell (p := ⟨g, 3, none⟩) (by simp) _).setCell (p := ⟨g, 0, none⟩) (by simp) _).setCell (p := ⟨g + 1, 0, none⟩) (by simp) _).setCell (p := ⟨g + 1, 1, none⟩) (by simp) _).setCell (p := ⟨g + 1, 2, none⟩) (by simp) _).setCell (p := ⟨g + 1, 3, none⟩) (by simp) _
  clear k0 k1 k2 k3 r0 r1 r2 r3 f0 f1 f2 f3 e0 e1 e2 e3
  generalize (((((((((w3.setCell ⟨g, 0, none⟩ (.int .u64 (q0 : Nat))).setCell ⟨g, 1, none⟩ (.int .u64 (q1 : Nat))).setCell ⟨g, 2, none⟩ (.int .u64 (q2 : Nat))).setCell ⟨g, 3, none⟩ (.int .u64 (q3 : Nat))).setCell ⟨g, 0, none⟩ (.int .u64 (x0 : Nat))).setCell ⟨g + 1, 0, none⟩ (.int .u64 (x0 : Nat))).setCell ⟨g + 1, 1, none⟩ (.int .u64 (q1 : Nat))).setCell ⟨g + 1, 2, none⟩ (.int .u64 (q2 : Nat))).setCell ⟨g + 1, 3, none⟩ (.int .u64 (q3 : Nat))) = wf at hrs hbs ⊢
  have p0 : wf.cell? ⟨g + 1, 0, none⟩ = some (.int .u64 (x0 : Nat)) := hrs.cell 0
  have p1 : wf.cell? ⟨g + 1, 1, none⟩ = some (.int .u64 (q1 : Nat)) := hrs.cell 1
  have p2 : wf.cell? ⟨g + 1, 2, none⟩ = some (.int .u64 (q2 : Nat)) := hrs.cell 2
  have p3 : wf.cell? ⟨g + 1, 3, none⟩ = some (.int .u64 (q3 : Nat)) := hrs.cell 3
  refine bodyPost_ret (v := .agg #[.int .u64 (x0 : Nat), .int .u64 (q1 : Nat), .int .u64 (q2 : Nat), .int .u64 (q3 : Nat)]) (by simp [results, Try.results89, go_sem, p0, p1, p2, p3]) rfl ⟨?_, (by have := hbs; rw [HGG.out] at this; exact this)⟩
  rw [HT.out, HQ.out, HX.out]
  rfl
end Go.Proofs.Ytbiimgfocgbdaaa
