/- Contract of the reference's take, layer 3. -/
import Derived.Test.YtbiimgfocgbdaaaG20MacOpens
import Derived.Test.YtbiimgfocgbdaaaG19MacOpens
import Derived.Test.YtbiimgfocgbdaaaG4MacOpens

namespace Go.Proofs.Ytbiimgfocgbdaaa
open Go.RowKit
set_option linter.unusedVariables false
theorem vagg_lit (a b c d : Nat) : vagg (a, b, c, d) = .agg #[.int .u64 (a : Nat), .int .u64 (b : Nat), .int .u64 (c : Nat), .int .u64 (d : Nat)] := rfl
theorem Blk.oth {w : World} {g g' o : Nat} {t : TypeId} {cs : Array Value} {v : Value} (h : Blk w g t cs) (hne : g ≠ g') : Blk (w.setCell ⟨g', o, none⟩ v) g t cs := by
  unfold Blk at h ⊢
  rw [Below.heap_setCell w ⟨g', o, none⟩ v g hne]
  exact h
set_option maxRecDepth 20000 in
set_option maxHeartbeats 2000000 in
theorem rtake_any (v : V4) (m : Nat) (w : World) (hv : Ok v) (hm : m < 18446744073709551616) :
    Calls Try.prog 89 #[.agg #[.int .u64 (v.1 : Nat), .int .u64 (v.2.1 : Nat), .int .u64 (v.2.2.1 : Nat), .int .u64 (v.2.2.2 : Nat)], .int .u64 m] w fun e w' => e = .returned (vagg (tk v m)) ∧ Below w.heap.size w w' := by
  have HV := Lib.hid hv
  obtain ⟨a, b, c, d⟩ := v
  have h_d : d < 18446744073709551616 := hv.2.2.2
  obtain ⟨y, ey⟩ : ∃ y, y = d ^^^ m := ⟨_, rfl⟩
  have v1 := val_xor d m h_d hm
  rw [← ey] at v1
  have HV2 := hv.x3 hm
  have HV2 : Ok (a, b, c, d ^^^ m) := HV2
  rw [← ey] at HV2
  have HOK := Lib.hid HV2
  have HY := Lib.hid ey
  have HT : Hid (tk (a, b, c, d) m = ((rndN (a, b, c, y) 2).1 ^^^ m, (rndN (a, b, c, y) 2).2.1, (rndN (a, b, c, y) 2).2.2.1, (rndN (a, b, c, y) 2).2.2.2)) := Lib.hid (by rw [ey]; rfl)
  clear ey hv HV2
  show Calls Try.prog 89 #[.agg #[.int .u64 (a : Nat), .int .u64 (b : Nat), .int .u64 (c : Nat), .int .u64 (d : Nat)], .int .u64 m] w _
  go_enter Try.func89, Try.ntmps89
  go_wp2_with fail
  have hb : Blk ((w.alloc (.cells #[.int .u64 (a : Nat), .int .u64 (b : Nat), .int .u64 (c : Nat), .int .u64 (y : Nat)] 173)).alloc (.cells #[.int .u64 0, .int .u64 0, .int .u64 0, .int .u64 0] 173)) w.heap.size 173 #[.int .u64 (a : Nat), .int .u64 (b : Nat), .int .u64 (c : Nat), .int .u64 (y : Nat)] := (Blk.new w _ _).alloc _
  have hr0 : Blk ((w.alloc (.cells #[.int .u64 (a : Nat), .int .u64 (b : Nat), .int .u64 (c : Nat), .int .u64 (y : Nat)] 173)).alloc (.cells #[.int .u64 0, .int .u64 0, .int .u64 0, .int .u64 0] 173)) (w.heap.size + 1) 173 #[.int .u64 0, .int .u64 0, .int .u64 0, .int .u64 0] := by
    have := Blk.new (w.alloc (.cells #[.int .u64 (a : Nat), .int .u64 (b : Nat), .int .u64 (c : Nat), .int .u64 (y : Nat)] 173)) 173 #[.int .u64 0, .int .u64 0, .int .u64 0, .int .u64 0]
    simpa using this
  have hb0 : Below w.heap.size w ((w.alloc (.cells #[.int .u64 (a : Nat), .int .u64 (b : Nat), .int .u64 (c : Nat), .int .u64 (y : Nat)] 173)).alloc (.cells #[.int .u64 0, .int .u64 0, .int .u64 0, .int .u64 0] 173)) := ((Below.refl _ _).alloc (Nat.le_refl _) _).alloc (by simp) _
  generalize ((w.alloc (.cells #[.int .u64 (a : Nat), .int .u64 (b : Nat), .int .u64 (c : Nat), .int .u64 (y : Nat)] 173)).alloc (.cells #[.int .u64 0, .int .u64 0, .int .u64 0, .int .u64 0] 173)) = w1 at hb hr0 hb0 ⊢
  obtain ⟨g, hg⟩ : ∃ g, g = w.heap.size := ⟨_, rfl⟩
  rw [← hg] at hb hr0 hb0 ⊢
  have HGG := Lib.hid hg
  have HB := Lib.hid hb; have HR := Lib.hid hr0; have HB0 := Lib.hid hb0
  clear hg hb hr0 hb0 v1 h_d
  refine (rround_any (a, b, c, y) w1 HOK.out).mono ?_
  rintro e w2 ⟨rfl, hb2⟩
  have hok := HOK.out.rnd
  obtain ⟨z, hz⟩ : ∃ z, z = rnd (a, b, c, y) := ⟨_, rfl⟩
  rw [← hz] at hok ⊢
  have HZ := Lib.hid hz
  clear hz
  obtain ⟨z0, z1, z2, z3⟩ := z
  rw [vagg_lit]
  have HB := Lib.hid (HB.out.below hb2 HB.out.lt); have HR := Lib.hid (HR.out.below hb2 HR.out.lt); have HB0 := Lib.hid (HB0.out.trans (hb2.mono (show g ≤ w1.heap.size by rw [HGG.out]; exact HB0.out.size)))
  clear hb2
  go_wp2_with fail
  refine (rround_any (z0, z1, z2, z3) w2 hok).mono ?_
  rintro e w3 ⟨rfl, hb3⟩
  have hok2 := hok.rnd
  obtain ⟨q, hq⟩ : ∃ q, q = rnd (z0, z1, z2, z3) := ⟨_, rfl⟩
  rw [← hq] at hok2 ⊢
  have HQ : Hid (rndN (a, b, c, y) 2 = q) := Lib.hid (by rw [hq, HZ.out]; rfl)
  clear hq
  obtain ⟨q0, q1, q2, q3⟩ := q
  have h_q0 : q0 < 18446744073709551616 := hok2.1
  rw [vagg_lit]
  have hb := HB.out.below hb3 HB.out.lt; have hr := HR.out.below hb3 HR.out.lt; have hb0 := HB0.out.trans (hb3.mono (show g ≤ w2.heap.size by rw [HGG.out]; exact HB0.out.size))
  clear hb3 HB HR HB0 hok hok2 HZ
  obtain ⟨x0, ex⟩ : ∃ x, x = q0 ^^^ m := ⟨_, rfl⟩
  have v2 := val_xor q0 m h_q0 hm
  rw [← ex] at v2
  have HX := Lib.hid ex
  clear ex
  have k0 : w3.cell? ⟨g, 0, none⟩ = some (.int .u64 (a : Nat)) := hb.cell 0
  have k1 : w3.cell? ⟨g, 1, none⟩ = some (.int .u64 (b : Nat)) := hb.cell 1
  have k2 : w3.cell? ⟨g, 2, none⟩ = some (.int .u64 (c : Nat)) := hb.cell 2
  have k3 : w3.cell? ⟨g, 3, none⟩ = some (.int .u64 (y : Nat)) := hb.cell 3
  have r0 : w3.cell? ⟨g + 1, 0, none⟩ = some (.int .u64 0) := hr.cell 0
  have r1 : w3.cell? ⟨g + 1, 1, none⟩ = some (.int .u64 0) := hr.cell 1
  have r2 : w3.cell? ⟨g + 1, 2, none⟩ = some (.int .u64 0) := hr.cell 2
  have r3 : w3.cell? ⟨g + 1, 3, none⟩ = some (.int .u64 0) := hr.cell 3
  have f0 := hr.frozen 0; have f1 := hr.frozen 1; have f2 := hr.frozen 2; have f3 := hr.frozen 3
  have e0 := hb.frozen 0; have e1 := hb.frozen 1; have e2 := hb.frozen 2; have e3 := hb.frozen 3
  have HB := Lib.hid hb; have HR := Lib.hid hr; have HB0 := Lib.hid hb0
  clear hb hr hb0
  go_wp2_with fail
  have hrs : Blk (((((((((w3.setCell ⟨g, 0, none⟩ (.int .u64 (q0 : Nat))).setCell ⟨g, 1, none⟩ (.int .u64 (q1 : Nat))).setCell ⟨g, 2, none⟩ (.int .u64 (q2 : Nat))).setCell ⟨g, 3, none⟩ (.int .u64 (q3 : Nat))).setCell ⟨g, 0, none⟩ (.int .u64 (x0 : Nat))).setCell ⟨g + 1, 0, none⟩ (.int .u64 (x0 : Nat))).setCell ⟨g + 1, 1, none⟩ (.int .u64 (q1 : Nat))).setCell ⟨g + 1, 2, none⟩ (.int .u64 (q2 : Nat))).setCell ⟨g + 1, 3, none⟩ (.int .u64 (q3 : Nat))) (g + 1) 173 #[.int .u64 (x0 : Nat), .int .u64 (q1 : Nat), .int .u64 (q2 : Nat), .int .u64 (q3 : Nat)] :=
    ((((((((HR.out.oth (by omega)).oth (by omega)).oth (by omega)).oth (by omega)).oth (by omega)).set 0 _).set 1 _).set 2 _).set 3 _
  have hbs : Below g w (((((((((w3.setCell ⟨g, 0, none⟩ (.int .u64 (q0 : Nat))).setCell ⟨g, 1, none⟩ (.int .u64 (q1 : Nat))).setCell ⟨g, 2, none⟩ (.int .u64 (q2 : Nat))).setCell ⟨g, 3, none⟩ (.int .u64 (q3 : Nat))).setCell ⟨g, 0, none⟩ (.int .u64 (x0 : Nat))).setCell ⟨g + 1, 0, none⟩ (.int .u64 (x0 : Nat))).setCell ⟨g + 1, 1, none⟩ (.int .u64 (q1 : Nat))).setCell ⟨g + 1, 2, none⟩ (.int .u64 (q2 : Nat))).setCell ⟨g + 1, 3, none⟩ (.int .u64 (q3 : Nat))) :=
    ((((((((HB0.out.setCell (p := ⟨g, 0, none⟩) (by simp) _).setCell (p := ⟨g, 1, none⟩) (by simp) _).setCell (p := ⟨g, 2, none⟩) (by simp) _).setCell (p := ⟨g, 3, none⟩) (by simp) _).setCell (p := ⟨g, 0, none⟩) (by simp) _).setCell (p := ⟨g + 1, 0, none⟩) (by simp) _).setCell (p := ⟨g + 1, 1, none⟩) (by simp) _).setCell (p := ⟨g + 1, 2, none⟩) (by simp) _).setCell (p := ⟨g + 1, 3, none⟩) (by simp) _
  clear k0 k1 k2 k3 r0 r1 r2 r3 f0 f1 f2 f3 e0 e1 e2 e3
  generalize (((((((((w3.setCell ⟨g, 0, none⟩ (.int .u64 (q0 : Nat))).setCell ⟨g, 1, none⟩ (.int .u64 (q1 : Nat))).setCell ⟨g, 2, none⟩ (.int .u64 (q2 : Nat))).setCell ⟨g, 3, none⟩ (.int .u64 (q3 : Nat))).setCell ⟨g, 0, none⟩ (.int .u64 (x0 : Nat))).setCell ⟨g + 1, 0, none⟩ (.int .u64 (x0 : Nat))).setCell ⟨g + 1, 1, none⟩ (.int .u64 (q1 : Nat))).setCell ⟨g + 1, 2, none⟩ (.int .u64 (q2 : Nat))).setCell ⟨g + 1, 3, none⟩ (.int .u64 (q3 : Nat))) = wf at hrs hbs ⊢
  have p0 : wf.cell? ⟨g + 1, 0, none⟩ = some (.int .u64 (x0 : Nat)) := hrs.cell 0
  have p1 : wf.cell? ⟨g + 1, 1, none⟩ = some (.int .u64 (q1 : Nat)) := hrs.cell 1
  have p2 : wf.cell? ⟨g + 1, 2, none⟩ = some (.int .u64 (q2 : Nat)) := hrs.cell 2
  have p3 : wf.cell? ⟨g + 1, 3, none⟩ = some (.int .u64 (q3 : Nat)) := hrs.cell 3
  refine bodyPost_ret (v := .agg #[.int .u64 (x0 : Nat), .int .u64 (q1 : Nat), .int .u64 (q2 : Nat), .int .u64 (q3 : Nat)]) (by simp [results, Try.results89, go_sem, p0, p1, p2, p3]) rfl ⟨?_, (by have := hbs; rw [HGG.out] at this; exact this)⟩
  rw [HT.out, HQ.out, HX.out]
  rfl
end Go.Proofs.Ytbiimgfocgbdaaa

/- Contracts of package sip: all parts' bytes; the beginning. -/
namespace Go.Proofs.Ytbiimgfocgbdaaa
open Go.RowKit
set_option linter.unusedVariables false

theorem saddL_app (s : V4 × Nat × Nat) (a b : List Nat) : saddL s (a ++ b) = saddL (saddL s a) b := List.foldl_append
theorem saddL_snoc {bs : List Nat} {j x : Nat} (s : V4 × Nat × Nat) (h : bs[j]? = some x) : saddL s (bs.take (j + 1)) = sadd (saddL s (bs.take j)) x := by
  rw [List.take_add_one, h, saddL_app]
  rfl
def SmS (w : World) (g : Nat) (s : V4 × Nat × Nat) : Prop := Sm w g s.1 s.2.1 s.2.2
set_option maxRecDepth 20000 in
set_option maxHeartbeats 1000000 in
theorem whole_any (g B n c : Nat) (s0 : V4 × Nat × Nat) (A : Option Addr) (bss : List (List Nat)) (w : World) (hw : SmS w g s0) (hok : OkS s0) (hB : B ≤ g) (hp : Pts w B A n bss) (hnc : n ≤ c) (hn : n ≤ 100000) (hb : ∀ bs ∈ bss, ∀ x ∈ bs, x < 256) (htot : s0.2.2 + bss.flatten.length < 4294967296) :
    Calls Try.prog 88 #[.pointer (some ⟨g, 0, none⟩), .slice A n c] w fun e w' => e = .returned (.int .u64 ((sfin (saddL s0 bss.flatten) : Nat) : Int)) ∧ Solo g w w' := by
  have HW := Lib.hid hw; have HOK := Lib.hid hok; have HP := Lib.hid hp; have HB := Lib.hid hb; have HT := Lib.hid htot
  clear hw hok hp hb htot
  go_enter Try.func88, Try.ntmps88
  go_wp2_with fail
  go_loopw [11] (fun iv wr => ∃ i : Nat, i ≤ n ∧ iv = .int .i64 i ∧ Hid (SmS wr g (saddL s0 (bss.take i).flatten)) ∧ Hid (Solo g w wr)) (fun iv _ => n - (intOf iv).toNat)
  case atStart => exact ⟨0, Nat.zero_le _, rfl, HW, Lib.hid Solo.refl⟩
  case round =>
    obtain ⟨i, hi, rfl, hsm, hso⟩ := hrel
    by_cases hlt : i < n
    · obtain ⟨bb, off, A1, n1, c1, bs, rfl, hbb, hcell0, hbs, hl1, hc1, hr1⟩ := HP.out.nth hlt
      have hcell := ((hso.out.1.mono hB).cell (p := ⟨bb, off + i, none⟩) hbb).trans hcell0
      clear hcell0
      have hlen := flat_le bss (i + 1)
      rw [flat_take hbs.out, List.length_append, hl1.out] at hlen
      have hnb : n1 < 4294967296 := by have := HT.out; omega
      have HL := Lib.hid hlen
      clear hlen
      go_wp2_with fail
      go_loopw [17] (fun jv wv => ∃ j : Nat, j ≤ n1 ∧ jv = .int .i64 j ∧ Hid (SmS wv g (saddL (saddL s0 (bss.take i).flatten) (bs.take j))) ∧ Hid (Solo g w wv)) (fun jv _ => n1 - (intOf jv).toNat)
      case atStart => exact ⟨0, Nat.zero_le _, rfl, hsm, hso⟩
      case round =>
        obtain ⟨j, hj, rfl, hsv, hsw⟩ := hrel
        by_cases hlt2 : j < n1
        · obtain ⟨b2, o2, x, rfl, hb2, hcx, hx⟩ := (hr1.out.below (hsw.out.1.mono hB)).nth hlt2
          have hx8 := HB.out bs (nth_mem hbs) x (nth_mem hx)
          obtain ⟨s1, es⟩ : ∃ s1, s1 = saddL (saddL s0 (bss.take i).flatten) (bs.take j) := ⟨_, rfl⟩
          have hok : OkS s1 := by rw [es]; exact (HOK.out.addL _).addL _
          have hm : s1.2.2 < 4294967296 := by
            rw [es, saddL_many, saddL_many, List.length_take]
            have := HT.out
            have := HL.out
            omega
          have HN : Hid (saddL (saddL s0 (bss.take i).flatten) (bs.take (j + 1)) = sadd s1 x) := Lib.hid (by rw [saddL_snoc _ hx.out, es])
          rw [← es] at hsv
          clear es hcell
          go_wp2_with fail
          refine (add_any g s1.1 s1.2.1 s1.2.2 x wr hsv.out hok.1 hok.2 hm hx8).mono ?_
          rintro e w3 ⟨⟨u, rfl⟩, hw3, hs3⟩
          go_wp2_with fail
          go_roundw
          case rel => exact ⟨j + 1, by omega, by go_num, Lib.hid (by rw [HN.out]; exact hw3), Lib.hid (hsw.out.trans hs3)⟩
          case measure => simp [intOf]; omega
        · obtain rfl : j = n1 := by omega
          have HN : Hid (SmS wr g (saddL s0 (bss.take (i + 1)).flatten)) := Lib.hid (by
            have := hsv.out
            rw [List.take_of_length_le (Nat.le_of_eq hl1.out), ← saddL_app, ← flat_take hbs.out] at this
            exact this)
          go_wp2_with fail
          go_roundw
          case rel => exact ⟨i + 1, by omega, by go_num, HN, hsw⟩
          case measure => simp [intOf]; omega
    · obtain rfl : i = n := by omega
      have hall : (bss.take i).flatten = bss.flatten := by rw [List.take_of_length_le (Nat.le_of_eq HP.out.1)]
      rw [hall] at hsm
      have hm : (saddL s0 bss.flatten).2.2 < 4294967296 := by rw [saddL_many]; exact HT.out
      have hok := HOK.out.addL bss.flatten
      obtain ⟨s1, es⟩ : ∃ s1, s1 = saddL s0 bss.flatten := ⟨_, rfl⟩
      rw [← es] at hsm hm hok
      have HS := Lib.hid es
      clear es hall
      go_wp2_with fail
      refine (end_any g s1.1 s1.2.1 s1.2.2 wr hsm.out hok.1 hok.2 hm).mono ?_
      rintro e w3 ⟨rfl, hs3⟩
      go_wp2_with fail
      go_ret
      exact ⟨ret_int (by rw [← HS.out]), hso.out.trans hs3⟩
def c0 : Nat := 8317987319222330741
def c1 : Nat := 7237128888997146477
def c2 : Nat := 7816392313619706465
def c3 : Nat := 8387220255154660723
def beg (k0 k1 : Nat) : V4 := (k0 ^^^ c0, k1 ^^^ c1, k0 ^^^ c2, k1 ^^^ c3)
set_option maxRecDepth 20000 in
theorem begin_any (k0 k1 : Nat) (w : World) (h0 : k0 < 18446744073709551616) (h1 : k1 < 18446744073709551616) :
    Calls Try.prog 87 #[.agg #[.int .u64 k0, .int .u64 k1]] w fun e w' => e = .returned (.agg (scell (beg k0 k1).1 (beg k0 k1).2.1 (beg k0 k1).2.2.1 (beg k0 k1).2.2.2 0 0)) ∧ Below w.heap.size w w' := by
  obtain ⟨x0, e0⟩ : ∃ x, x = k0 ^^^ c0 := ⟨_, rfl⟩
  obtain ⟨x1, e1⟩ : ∃ x, x = k1 ^^^ c1 := ⟨_, rfl⟩
  obtain ⟨x2, e2⟩ : ∃ x, x = k0 ^^^ c2 := ⟨_, rfl⟩
  obtain ⟨x3, e3⟩ : ∃ x, x = k1 ^^^ c3 := ⟨_, rfl⟩
  have v0 : bits .xor .u64 ((k0 : Nat) : Int) 8317987319222330741 = ((x0 : Nat) : Int) := by rw [e0]; exact val_xor k0 c0 h0 (by decide)
  have v1 : bits .xor .u64 ((k1 : Nat) : Int) 7237128888997146477 = ((x1 : Nat) : Int) := by rw [e1]; exact val_xor k1 c1 h1 (by decide)
  have v2 : bits .xor .u64 ((k0 : Nat) : Int) 7816392313619706465 = ((x2 : Nat) : Int) := by rw [e2]; exact val_xor k0 c2 h0 (by decide)
  have v3 : bits .xor .u64 ((k1 : Nat) : Int) 8387220255154660723 = ((x3 : Nat) : Int) := by rw [e3]; exact val_xor k1 c3 h1 (by decide)
  have HE : Hid (beg k0 k1 = (x0, x1, x2, x3)) := Lib.hid (by rw [e0, e1, e2, e3]; rfl)
  clear e0 e1 e2 e3
  go_enter Try.func87, Try.ntmps87
  go_wp2
  refine bodyPost_ret (v := .agg (scell x0 x1 x2 x3 0 0)) (by simp [results, Try.results87, go_sem, scell]) rfl ⟨?_, ((Below.refl _ _).alloc (Nat.le_refl _) _).alloc (by simp) _⟩
  rw [HE.out]
/-- The sum of bytes under a key. -/
def sumB (k0 k1 : Nat) (bs : List Nat) : Nat := sfin (saddL (beg k0 k1, 0, 0) bs)
theorem beg_ok (k0 k1 : Nat) (h0 : k0 < 18446744073709551616) (h1 : k1 < 18446744073709551616) : OkS (beg k0 k1, 0, 0) :=
  ⟨⟨xor_lt h0 (by decide), xor_lt h1 (by decide), xor_lt h0 (by decide), xor_lt h1 (by decide)⟩, by simp⟩
set_option maxRecDepth 20000 in
theorem sum_any (k0 k1 n c : Nat) (A : Option Addr) (bss : List (List Nat)) (w : World) (h0 : k0 < 18446744073709551616) (h1 : k1 < 18446744073709551616) (hp : Pts w w.heap.size A n bss) (hnc : n ≤ c) (hn : n ≤ 100000) (hb : ∀ bs ∈ bss, ∀ x ∈ bs, x < 256) (htot : bss.flatten.length < 4000000000) :
    Calls Try.prog 58 #[.agg #[.int .u64 k0, .int .u64 k1], .slice A n c] w fun e w' => e = .returned (.int .u64 ((sumB k0 k1 bss.flatten : Nat) : Int)) ∧ Below w.heap.size w w' := by
  have HP := Lib.hid hp; have HB := Lib.hid hb; have HT := Lib.hid htot
  clear hp hb htot
  go_enter Try.func58, Try.ntmps58
  go_wp2_with fail
  refine (begin_any k0 k1 (w.alloc (.cells #[.int .u64 k0, .int .u64 k1] 24)) h0 h1).mono ?_
  rintro e w1 ⟨rfl, hb1⟩
  have hb0 : Below w.heap.size w w1 := ((Below.refl _ _).alloc (Nat.le_refl _) _).trans (hb1.mono (by simp))
  have hok := beg_ok k0 k1 h0 h1
  obtain ⟨v, hv⟩ : ∃ v, v = beg k0 k1 := ⟨_, rfl⟩
  rw [← hv] at hok ⊢
  have HV : Hid (sumB k0 k1 bss.flatten = sfin (saddL (v, 0, 0) bss.flatten)) := Lib.hid (by rw [hv]; rfl)
  have HOK := Lib.hid hok
  clear hv hb1 hok
  obtain ⟨a, b, c', d⟩ := v
  simp only [scell]
  go_wp2_with fail
  have hw2 : SmS (w1.alloc (.cells #[.int .u64 (a : Nat), .int .u64 (b : Nat), .int .u64 (c' : Nat), .int .u64 (d : Nat), .int .u64 0, .int .u64 0] 169)) w1.heap.size ((a, b, c', d), 0, 0) := Blk.new w1 _ _
  have hb2 := hb0.alloc hb0.size (.cells #[.int .u64 (a : Nat), .int .u64 (b : Nat), .int .u64 (c' : Nat), .int .u64 (d : Nat), .int .u64 0, .int .u64 0] 169)
  generalize (w1.alloc (.cells #[.int .u64 (a : Nat), .int .u64 (b : Nat), .int .u64 (c' : Nat), .int .u64 (d : Nat), .int .u64 0, .int .u64 0] 169)) = w2 at hw2 hb2 ⊢
  refine (whole_any w1.heap.size w.heap.size n c ((a, b, c', d), 0, 0) A bss w2 hw2 HOK.out hb0.size (HP.out.keep hb2) hnc hn HB.out (by have := HT.out; simp only []; omega)).mono ?_
  rintro e w3 ⟨rfl, hs3⟩
  go_wp2_with fail
  go_ret
  exact ⟨ret_int (by rw [HV.out]), hb2.trans (hs3.1.mono hb0.size)⟩
end Go.Proofs.Ytbiimgfocgbdaaa

/- Plain mathematics of the bytes that make numbers of eight bytes. -/
namespace Go.Proofs.Ytbiimgfocgbdaaa
open Go.RowKit
set_option linter.unusedVariables false

/-- The number that bytes make, the lowest ahead. -/
def lv : List Nat → Nat
  | [] => 0
  | x :: r => x + 256 * lv r
theorem lv_lt : ∀ (bs : List Nat), (∀ x ∈ bs, x < 256) → lv bs < 256 ^ bs.length
  | [], _ => by simp [lv]
  | x :: r, h => by
    have h1 := h x (by simp)
    have h2 := lv_lt r (fun y hy => h y (by simp [hy]))
    simp only [lv, List.length_cons, Nat.pow_succ]
    omega
theorem lv_snoc (x : Nat) : ∀ (bs : List Nat), lv (bs ++ [x]) = lv bs + 256 ^ bs.length * x
  | [] => by simp [lv]
  | y :: r => by
    simp only [List.cons_append, lv, lv_snoc x r, List.length_cons, Nat.pow_succ]
    rw [Nat.mul_add, ← Nat.mul_assoc, Nat.mul_comm 256 (256 ^ r.length)]
    omega
theorem pow8 (j : Nat) : (2 : Nat) ^ (8 * j) = 256 ^ j := by rw [Nat.pow_mul]
theorem or_part (l x j m : Nat) (hj : j < 8) (hm : m % 8 = j) (hl : l < 256 ^ j) (hx : x < 256) : l ||| sh8 x m = l + 256 ^ j * x := by
  unfold sh8 M64
  rw [hm, pow8]
  have h1 : x * 256 ^ j < 18446744073709551616 := by
    have h2 : 256 ^ j ≤ 256 ^ 7 := Nat.pow_le_pow_right (by omega) (by omega)
    have h3 : x * 256 ^ j ≤ 255 * 256 ^ 7 := Nat.mul_le_mul (by omega) h2
    omega
  rw [Nat.mod_eq_of_lt h1, Nat.mul_comm x, ← pow8, Nat.or_comm, ← Nat.two_pow_add_eq_or_of_lt (by rw [pow8]; exact hl)]
  omega
/-- Fewer than eight bytes more. -/
theorem part7 (v : V4) (m0 : Nat) (h0 : m0 % 8 = 0) : ∀ (n : Nat) (bs : List Nat), bs.length = n → n < 8 → (∀ x ∈ bs, x < 256) → saddL (v, 0, m0) bs = (v, lv bs, m0 + n)
  | 0, bs, hn, _, _ => by
    obtain rfl := List.eq_nil_of_length_eq_zero hn
    rfl
  | n + 1, bs, hn, h8, hb => by
    obtain ⟨cs, x, rfl⟩ : ∃ cs x, bs = cs ++ [x] := ⟨bs.dropLast, bs.getLast (by intro e; rw [e] at hn; simp at hn), (List.dropLast_concat_getLast _).symm⟩
    have hc : cs.length = n := by simpa using hn
    have ih := part7 v m0 h0 n cs hc (by omega) (fun y hy => hb y (by simp [hy]))
    rw [saddL_app, ih]
    show sadd (v, lv cs, m0 + n) x = _
    unfold sadd
    simp only []
    rw [if_neg (by omega), or_part _ _ n _ (by omega) (by omega) (by rw [← hc]; exact lv_lt cs (fun y hy => hb y (by simp [hy]))) (hb x (by simp)), lv_snoc, hc]
    rfl
/-- Eight bytes more. -/
theorem part8 (v : V4) (m0 : Nat) (h0 : m0 % 8 = 0) (bs : List Nat) (hn : bs.length = 8) (hb : ∀ x ∈ bs, x < 256) : saddL (v, 0, m0) bs = (tk v (lv bs), 0, m0 + 8) := by
  obtain ⟨cs, x, rfl⟩ : ∃ cs x, bs = cs ++ [x] := ⟨bs.dropLast, bs.getLast (by intro e; rw [e] at hn; simp at hn), (List.dropLast_concat_getLast _).symm⟩
  have hc : cs.length = 7 := by simpa using hn
  rw [saddL_app, part7 v m0 h0 7 cs hc (by omega) (fun y hy => hb y (by simp [hy]))]
  show sadd (v, lv cs, m0 + 7) x = _
  unfold sadd
  simp only []
  rw [if_pos (by omega), or_part _ _ 7 _ (by omega) (by omega) (by rw [← hc]; exact lv_lt cs (fun y hy => hb y (by simp [hy]))) (hb x (by simp)), lv_snoc, hc]
theorem lv_drop {bs : List Nat} {j x : Nat} (h : bs[j]? = some x) : lv (bs.drop j) = x + 256 * lv (bs.drop (j + 1)) := by
  obtain ⟨hj, e⟩ := List.getElem?_eq_some_iff.1 h
  rw [List.drop_eq_getElem_cons hj, e]
  rfl
theorem lv_drop_none {bs : List Nat} {j : Nat} (h : bs.length ≤ j) : lv (bs.drop j) = 0 := by
  rw [List.drop_eq_nil_of_le h]
  rfl
theorem lv_le (bs : List Nat) (n : Nat) (h : ∀ x ∈ bs, x < 256) (hn : bs.length ≤ n) : lv bs < 256 ^ n :=
  Nat.lt_of_lt_of_le (lv_lt bs h) (Nat.pow_le_pow_right (by omega) hn)
/-- After k times eight bytes. -/
theorem eights (s0 : V4) (bs : List Nat) (hb : ∀ x ∈ bs, x < 256) : ∀ k, 8 * k ≤ bs.length → (saddL (s0, 0, 0) (bs.take (8 * k))).2 = (0, 8 * k)
  | 0, _ => rfl
  | k + 1, hk => by
    have ih := eights s0 bs hb k (by omega)
    have e : bs.take (8 * (k + 1)) = bs.take (8 * k) ++ (bs.drop (8 * k)).take 8 := by rw [show 8 * (k + 1) = 8 * k + 8 by omega, List.take_add]
    obtain ⟨s1, hs⟩ : ∃ s1, s1 = saddL (s0, 0, 0) (bs.take (8 * k)) := ⟨_, rfl⟩
    rw [← hs] at ih
    obtain ⟨v, l, m⟩ := s1
    simp only [Prod.mk.injEq] at ih
    obtain ⟨rfl, rfl⟩ := ih
    rw [e, saddL_app, ← hs, part8 v (8 * k) (by omega) _ (by simp; omega) (fun x hx => hb x (List.mem_of_mem_drop (List.mem_of_mem_take hx)))]
    simp only [Prod.mk.injEq, true_and]
    omega
theorem eights_next (s0 : V4) (bs : List Nat) (hb : ∀ x ∈ bs, x < 256) (k : Nat) (hk : 8 * (k + 1) ≤ bs.length) :
    (saddL (s0, 0, 0) (bs.take (8 * (k + 1)))).1 = tk (saddL (s0, 0, 0) (bs.take (8 * k))).1 (lv ((bs.drop (8 * k)).take 8)) := by
  have ih := eights s0 bs hb k (by omega)
  have e : bs.take (8 * (k + 1)) = bs.take (8 * k) ++ (bs.drop (8 * k)).take 8 := by rw [show 8 * (k + 1) = 8 * k + 8 by omega, List.take_add]
  obtain ⟨s1, hs⟩ : ∃ s1, s1 = saddL (s0, 0, 0) (bs.take (8 * k)) := ⟨_, rfl⟩
  rw [← hs] at ih
  obtain ⟨v, l, m⟩ := s1
  simp only [Prod.mk.injEq] at ih
  obtain ⟨rfl, rfl⟩ := ih
  rw [e, saddL_app, ← hs, part8 v (8 * k) (by omega) _ (by simp; omega) (fun x hx => hb x (List.mem_of_mem_drop (List.mem_of_mem_take hx)))]
/-- The last number. -/
theorem sfin_last (s0 : V4) (bs : List Nat) (hb : ∀ x ∈ bs, x < 256) (k : Nat) (hk : 8 * k ≤ bs.length) (hr : bs.length < 8 * k + 8) :
    sfin (saddL (s0, 0, 0) bs) = fin4 (rndN ((tk (saddL (s0, 0, 0) (bs.take (8 * k))).1 (bs.length % 256 * 256 ^ 7 + lv (bs.drop (8 * k)))).1, (tk (saddL (s0, 0, 0) (bs.take (8 * k))).1 (bs.length % 256 * 256 ^ 7 + lv (bs.drop (8 * k)))).2.1, (tk (saddL (s0, 0, 0) (bs.take (8 * k))).1 (bs.length % 256 * 256 ^ 7 + lv (bs.drop (8 * k)))).2.2.1 ^^^ 255, (tk (saddL (s0, 0, 0) (bs.take (8 * k))).1 (bs.length % 256 * 256 ^ 7 + lv (bs.drop (8 * k)))).2.2.2) 4) := by
  have ih := eights s0 bs hb k hk
  have e : saddL (s0, 0, 0) bs = saddL (saddL (s0, 0, 0) (bs.take (8 * k))) (bs.drop (8 * k)) := by rw [← saddL_app, List.take_append_drop]
  obtain ⟨s1, hs⟩ : ∃ s1, s1 = saddL (s0, 0, 0) (bs.take (8 * k)) := ⟨_, rfl⟩
  rw [← hs] at ih
  obtain ⟨v, l, m⟩ := s1
  simp only [Prod.mk.injEq] at ih
  obtain ⟨rfl, rfl⟩ := ih
  have hd : ∀ x ∈ bs.drop (8 * k), x < 256 := fun x hx => hb x (List.mem_of_mem_drop hx)
  have hlen : (bs.drop (8 * k)).length = bs.length - 8 * k := by simp
  rw [e, ← hs, part7 v (8 * k) (by omega) (bs.length - 8 * k) _ hlen (by omega) hd]
  unfold sfin
  have hl := lv_le (bs.drop (8 * k)) 7 hd (by omega)
  have hm : lv (bs.drop (8 * k)) ||| ((8 * k + (bs.length - 8 * k)) * 2 ^ 56 % M64) = bs.length % 256 * 256 ^ 7 + lv (bs.drop (8 * k)) := by
    rw [show 8 * k + (bs.length - 8 * k) = bs.length by omega]
    have e2 : bs.length * 2 ^ 56 % M64 = 2 ^ 56 * (bs.length % 256) := by unfold M64; omega
    rw [e2, Nat.or_comm, ← Nat.two_pow_add_eq_or_of_lt (by omega)]
    omega
  simp only [hm]
end Go.Proofs.Ytbiimgfocgbdaaa
