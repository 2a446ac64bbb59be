/- Contract of the reference's Sum, layer 3. -/
import Derived.Test.YtbiimgfocgbdaaaG21MacOpens
import Derived.Deep.Cut

namespace Go.Proofs.Ytbiimgfocgbdaaa
open Go.RowKit
set_option linter.unusedVariables false
def SV (w : World) (g : Nat) (v : V4) : Prop := Blk w g 173 #[.int .u64 (v.1 : Nat), .int .u64 (v.2.1 : Nat), .int .u64 (v.2.2.1 : Nat), .int .u64 (v.2.2.2 : Nat)]
theorem fin4_eq (a b c d : Nat) : fin4 (a, b, c, d) = a ^^^ b ^^^ c ^^^ d := by
  unfold fin4
  rw [Nat.zero_xor]
set_option maxRecDepth 20000 in
set_option maxHeartbeats 6000000 in
theorem rsum_any (k0 k1 n c : Nat) (A : Option Addr) (bs : List Nat) (w : World) (h0 : k0 < 18446744073709551616) (h1 : k1 < 18446744073709551616) (hr : Rd w w.heap.size 1 A n (ns .u8 bs)) (hnc : n ≤ c) (hn : n ≤ 100000) (hb : ∀ x ∈ bs, x < 256) :
    Calls Try.prog 59 #[.agg #[.int .u64 k0, .int .u64 k1], .slice A n c] w fun e w' => e = .returned (.int .u64 ((sumB k0 k1 bs : Nat) : Int)) ∧ Below w.heap.size w w' := by
  have HL := Lib.hid hr.natLen
  have HR := Lib.hid hr; have HB := Lib.hid hb
  clear hr hb
  obtain ⟨x0, e0⟩ : ∃ x, x = k0 ^^^ c0 := ⟨_, rfl⟩
  obtain ⟨x1, e1⟩ : ∃ x, x = k1 ^^^ c1 := ⟨_, rfl⟩
  obtain ⟨x2, e2⟩ : ∃ x, x = k0 ^^^ c2 := ⟨_, rfl⟩
  obtain ⟨x3, e3⟩ : ∃ x, x = k1 ^^^ c3 := ⟨_, rfl⟩
  have v0 : bits .xor .u64 ((k0 : Nat) : Int) 8317987319222330741 = ((x0 : Nat) : Int) := by rw [e0]; exact val_xor k0 c0 h0 (by decide)
  have v1 : bits .xor .u64 ((k1 : Nat) : Int) 7237128888997146477 = ((x1 : Nat) : Int) := by rw [e1]; exact val_xor k1 c1 h1 (by decide)
  have v2 : bits .xor .u64 ((k0 : Nat) : Int) 7816392313619706465 = ((x2 : Nat) : Int) := by rw [e2]; exact val_xor k0 c2 h0 (by decide)
  have v3 : bits .xor .u64 ((k1 : Nat) : Int) 8387220255154660723 = ((x3 : Nat) : Int) := by rw [e3]; exact val_xor k1 c3 h1 (by decide)
  have HE : Hid (sumB k0 k1 bs = sfin (saddL ((x0, x1, x2, x3), 0, 0) bs)) := Lib.hid (by rw [e0, e1, e2, e3]; rfl)
  have HO : Hid (OkS ((x0, x1, x2, x3), 0, 0)) := Lib.hid (by rw [e0, e1, e2, e3]; exact beg_ok k0 k1 h0 h1)
  clear e0 e1 e2 e3
  obtain ⟨g, hg⟩ : ∃ g, g = w.heap.size + 1 := ⟨_, rfl⟩
  have HG := Lib.hid hg
  go_enter Try.func59, Try.ntmps59
  clear hg
  go_wp2_with fail
  have hv0 : SV ((w.alloc (.cells #[.int .u64 (k0 : Nat), .int .u64 (k1 : Nat)] 24)).alloc (.cells #[.int .u64 (x0 : Nat), .int .u64 (x1 : Nat), .int .u64 (x2 : Nat), .int .u64 (x3 : Nat)] 173)) g (x0, x1, x2, x3) := by
    have := Blk.new (w.alloc (.cells #[.int .u64 (k0 : Nat), .int .u64 (k1 : Nat)] 24)) 173 #[.int .u64 (x0 : Nat), .int .u64 (x1 : Nat), .int .u64 (x2 : Nat), .int .u64 (x3 : Nat)]
    rw [HG.out]
    simpa [SV] using this
  have hb0 : Below w.heap.size w ((w.alloc (.cells #[.int .u64 (k0 : Nat), .int .u64 (k1 : Nat)] 24)).alloc (.cells #[.int .u64 (x0 : Nat), .int .u64 (x1 : Nat), .int .u64 (x2 : Nat), .int .u64 (x3 : Nat)] 173)) := ((Below.refl _ _).alloc (Nat.le_refl _) _).alloc (by simp) _
  generalize ((w.alloc (.cells #[.int .u64 (k0 : Nat), .int .u64 (k1 : Nat)] 24)).alloc (.cells #[.int .u64 (x0 : Nat), .int .u64 (x1 : Nat), .int .u64 (x2 : Nat), .int .u64 (x3 : Nat)] 173)) = wa at hv0 hb0 ⊢
  rw [← HG.out]
  have HV0 := Lib.hid hv0
  have HB0 := Lib.hid hb0
  clear hv0 hb0 v0 v1 v2 v3
  have HOKV : Hid (∀ q, Ok (saddL ((x0, x1, x2, x3), 0, 0) (bs.take q)).1) := Lib.hid fun q => (HO.out.addL _).1
  go_loopw [6, 7, 8] (fun av mv iv wr => ∃ p : Nat, p ≤ n ∧ av = .int .i64 (p : Nat) ∧ Hid (∃ k, p = 8 * k) ∧ Hid (SV wr g (saddL ((x0, x1, x2, x3), 0, 0) (bs.take p)).1) ∧ Hid (Below w.heap.size w wr)) (fun av _ _ _ => n - (intOf av).toNat)
  case atStart => exact ⟨0, Nat.zero_le _, rfl, Lib.hid ⟨0, rfl⟩, HV0, HB0⟩
  case round =>
    obtain ⟨p, hp, rfl, hk, hsv, hbl⟩ := hrel
    by_cases h8 : p + 8 ≤ n
    · have h8i : (8 : Int) ≤ ((n : Nat) : Int) - ((p : Nat) : Int) := by omega
      obtain ⟨blk, hblk⟩ : ∃ blk, blk = (bs.drop p).take 8 := ⟨_, rfl⟩
      have hlen : blk.length = 8 := by rw [hblk]; simp; rw [HL.out]; omega
      have hget : ∀ t, t < 8 → blk[t]? = bs[p + t]? := fun t ht => by rw [hblk, List.getElem?_take, if_pos ht, List.getElem?_drop]
      have hbb : ∀ x ∈ blk, x < 256 := fun x hx => by rw [hblk] at hx; exact HB.out x (List.mem_of_mem_drop (List.mem_of_mem_take hx))
      have hnext : (saddL ((x0, x1, x2, x3), 0, 0) (bs.take (p + 8))).1 = tk (saddL ((x0, x1, x2, x3), 0, 0) (bs.take p)).1 (lv blk) := by
        obtain ⟨k, rfl⟩ := hk.out
        rw [hblk]
        exact eights_next (x0, x1, x2, x3) bs HB.out k (by rw [HL.out]; omega)
      have HLEN := Lib.hid hlen; have HGET := Lib.hid hget; have HBB := Lib.hid hbb; have HN := Lib.hid hnext
      clear hblk hlen hget hbb hnext
      go_wp2_with fail
      go_loopw [7, 8] (fun mv iv wv => wv = wr ∧ ∃ j : Nat, j ≤ 8 ∧ mv = .int .u64 ((lv (blk.drop j) : Nat) : Int) ∧ ((j = 0 ∧ iv = .int .i64 (-1)) ∨ ∃ t : Nat, j = t + 1 ∧ iv = .int .i64 (t : Nat))) (fun _ iv _ => (intOf iv + 1).toNat)
      case atStart => exact ⟨rfl, 8, Nat.le_refl _, by rw [lv_drop_none (Nat.le_of_eq HLEN.out)]; rfl, Or.inr ⟨7, rfl, rfl⟩⟩
      case round =>
        obtain ⟨rfl, j, hj, rfl, ⟨rfl, rfl⟩ | ⟨t, rfl, rfl⟩⟩ := hrel
        · have hok := HOKV.out p
          have hm : lv (blk.drop 0) < 18446744073709551616 := lv_le blk 8 HBB.out (Nat.le_of_eq HLEN.out)
          have hn0 := HN.out
          obtain ⟨m, em⟩ : ∃ m, m = lv (blk.drop 0) := ⟨_, rfl⟩
          have em2 : m = lv blk := em
          rw [← em] at hm ⊢
          rw [← em2] at hn0
          clear em em2
          obtain ⟨v, ev⟩ : ∃ v, v = (saddL ((x0, x1, x2, x3), 0, 0) (bs.take p)).1 := ⟨_, rfl⟩
          rw [← ev] at hok hsv hn0
          clear ev
          obtain ⟨a, b, c', d⟩ := v
          have hb := hsv.out
          have kc0 : wr.cell? ⟨g, 0, none⟩ = some (.int .u64 (a : Nat)) := Blk.cell hb 0
          have kc1 : wr.cell? ⟨g, 1, none⟩ = some (.int .u64 (b : Nat)) := Blk.cell hb 1
          have kc2 : wr.cell? ⟨g, 2, none⟩ = some (.int .u64 (c' : Nat)) := Blk.cell hb 2
          have kc3 : wr.cell? ⟨g, 3, none⟩ = some (.int .u64 (d : Nat)) := Blk.cell hb 3
          have HN2 := Lib.hid hn0
          clear hb hn0
          go_wp2_with fail
          refine (rtake_any (a, b, c', d) m wr hok hm).mono ?_
          rintro e w2 ⟨rfl, hb2⟩
          obtain ⟨z, ez⟩ : ∃ z, z = tk (a, b, c', d) m := ⟨_, rfl⟩
          rw [← ez] at HN2 ⊢
          clear ez
          obtain ⟨z0, z1, z2, z3⟩ := z
          rw [vagg_lit]
          have hb := Blk.below hsv.out hb2 (Blk.lt hsv.out)
          have q0 : w2.cell? ⟨g, 0, none⟩ = some (.int .u64 (a : Nat)) := Blk.cell hb 0
          have q1 : w2.cell? ⟨g, 1, none⟩ = some (.int .u64 (b : Nat)) := Blk.cell hb 1
          have q2 : w2.cell? ⟨g, 2, none⟩ = some (.int .u64 (c' : Nat)) := Blk.cell hb 2
          have q3 : w2.cell? ⟨g, 3, none⟩ = some (.int .u64 (d : Nat)) := Blk.cell hb 3
          have f0 := Blk.frozen hb 0; have f1 := Blk.frozen hb 1; have f2 := Blk.frozen hb 2; have f3 := Blk.frozen hb 3
          have HBW := Lib.hid hb
          have HB2 := Lib.hid (hbl.out.trans (hb2.mono hbl.out.size))
          clear hb hb2 kc0 kc1 kc2 kc3
          go_wp2_with fail
          exact ⟨⟨p + 8, by omega, by go_num, Lib.hid (by obtain ⟨k, rfl⟩ := hk.out; exact ⟨k + 1, by omega⟩), Lib.hid (by rw [HN2.out]; exact (((HBW.out.set 0 _).set 1 _).set 2 _).set 3 _), Lib.hid ((((HB2.out.setCell (p := ⟨g, 0, none⟩) (by rw [HG.out]; simp) _).setCell (p := ⟨g, 1, none⟩) (by rw [HG.out]; simp) _).setCell (p := ⟨g, 2, none⟩) (by rw [HG.out]; simp) _).setCell (p := ⟨g, 3, none⟩) (by rw [HG.out]; simp) _)⟩, by simp [intOf]; omega⟩
        · obtain ⟨bb, off, x, rfl, hbk, hcell, hx⟩ := (HR.out.below hbl.out).nth (i := p + t) (by omega)
          have hx8 := HB.out x (nth_mem hx)
          have hd := lv_drop (bs := blk) (j := t) (x := x) (by rw [HGET.out t (by omega)]; exact hx.out)
          have hm7 : lv (blk.drop (t + 1)) < 72057594037927936 := lv_le _ 7 (fun y hy => HBB.out y (List.mem_of_mem_drop hy)) (by rw [List.length_drop, HLEN.out]; omega)
          obtain ⟨m, em⟩ : ∃ m, m = lv (blk.drop (t + 1)) := ⟨_, rfl⟩
          rw [← em] at hd hm7 ⊢
          obtain ⟨m', em'⟩ : ∃ m', m' = lv (blk.drop t) := ⟨_, rfl⟩
          rw [← em'] at hd
          have ve : ((m : Nat) : Int) * 256 + ((x : Nat) : Int) = ((m' : Nat) : Int) := by omega
          have HM := Lib.hid em'
          clear em em' hd
          have hi : ((p : Nat) : Int) + ((t : Nat) : Int) < ((n : Nat) : Int) := by omega
          go_wp2_with fail
          refine ⟨⟨trivial, t, by omega, by rw [HM.out], ?_⟩, by simp [intOf]⟩
          cases t with
          | zero => exact Or.inl ⟨rfl, rfl⟩
          | succ t => exact Or.inr ⟨t, rfl, congrArg (Value.int .i64) (by omega)⟩
    · have h8i : ((n : Nat) : Int) - ((p : Nat) : Int) < 8 := by omega
      obtain ⟨rest, hrest⟩ : ∃ rest, rest = bs.drop p := ⟨_, rfl⟩
      have hlen : rest.length = n - p := by rw [hrest]; simp [HL.out]
      have hget : ∀ t, rest[t]? = bs[p + t]? := fun t => by rw [hrest, List.getElem?_drop]
      have hbb : ∀ x ∈ rest, x < 256 := fun x hx => by rw [hrest] at hx; exact HB.out x (List.mem_of_mem_drop hx)
      have hlast : sumB k0 k1 bs = fin4 (rndN ((tk (saddL ((x0, x1, x2, x3), 0, 0) (bs.take p)).1 (n % 256 * 256 ^ 7 + lv rest)).1, (tk (saddL ((x0, x1, x2, x3), 0, 0) (bs.take p)).1 (n % 256 * 256 ^ 7 + lv rest)).2.1, (tk (saddL ((x0, x1, x2, x3), 0, 0) (bs.take p)).1 (n % 256 * 256 ^ 7 + lv rest)).2.2.1 ^^^ 255, (tk (saddL ((x0, x1, x2, x3), 0, 0) (bs.take p)).1 (n % 256 * 256 ^ 7 + lv rest)).2.2.2) 4) := by
        obtain ⟨k, rfl⟩ := hk.out
        rw [hrest, HE.out, sfin_last (x0, x1, x2, x3) bs HB.out k (by rw [HL.out]; omega) (by rw [HL.out]; omega), HL.out]
      have HLEN := Lib.hid hlen; have HGET := Lib.hid hget; have HBB := Lib.hid hbb; have HLAST := Lib.hid hlast
      clear hrest hlen hget hbb hlast
      have hmod : ((n : Nat) : Int) % 256 = ((n % 256 : Nat) : Int) := by omega
      obtain ⟨nm, hnm⟩ : ∃ nm, nm = n % 256 := ⟨_, rfl⟩
      rw [← hnm] at hmod HLAST
      have hnm8 : nm < 256 := by omega
      have HNM := Lib.hid hnm
      clear hnm
      go_wp2_with fail
      go_loopw [9, 10] (fun mv iv wv => wv = wr ∧ ∃ j : Nat, j ≤ 7 ∧ mv = .int .u64 ((nm * 256 ^ (7 - j) + lv (rest.drop j) : Nat) : Int) ∧ ((j = 0 ∧ iv = .int .i64 (-1)) ∨ ∃ t : Nat, j = t + 1 ∧ iv = .int .i64 (t : Nat))) (fun _ iv _ => (intOf iv + 1).toNat)
      case atStart => exact ⟨rfl, 7, Nat.le_refl _, by rw [lv_drop_none (by rw [HLEN.out]; omega)]; simp, Or.inr ⟨6, rfl, rfl⟩⟩
      case round =>
        obtain ⟨rfl, j, hj, rfl, ⟨rfl, rfl⟩ | ⟨t, rfl, rfl⟩⟩ := hrel
        · have hm : nm * 256 ^ 7 + lv rest < 18446744073709551616 := by
            have := lv_le rest 7 HBB.out (by rw [HLEN.out]; omega)
            omega
          obtain ⟨m, em⟩ : ∃ m, m = nm * 256 ^ (7 - 0) + lv (rest.drop 0) := ⟨_, rfl⟩
          have em2 : nm * 256 ^ 7 + lv rest = m := em.symm
          rw [em2] at hm HLAST
          rw [← em]
          clear em em2
          have hok := HOKV.out p
          obtain ⟨v, ev⟩ : ∃ v, v = (saddL ((x0, x1, x2, x3), 0, 0) (bs.take p)).1 := ⟨_, rfl⟩
          rw [← ev] at hok hsv HLAST
          clear ev
          obtain ⟨a, b, c', d⟩ := v
          have hb := hsv.out
          have kc0 : wr.cell? ⟨g, 0, none⟩ = some (.int .u64 (a : Nat)) := Blk.cell hb 0
          have kc1 : wr.cell? ⟨g, 1, none⟩ = some (.int .u64 (b : Nat)) := Blk.cell hb 1
          have kc2 : wr.cell? ⟨g, 2, none⟩ = some (.int .u64 (c' : Nat)) := Blk.cell hb 2
          have kc3 : wr.cell? ⟨g, 3, none⟩ = some (.int .u64 (d : Nat)) := Blk.cell hb 3
          clear hb
          go_wp2_with fail
          refine (rtake_any (a, b, c', d) m wr hok hm).mono ?_
          rintro e w2 ⟨rfl, hb2⟩
          have hok2 := hok.tk hm
          obtain ⟨z, ez⟩ : ∃ z, z = tk (a, b, c', d) m := ⟨_, rfl⟩
          rw [← ez] at HLAST hok2 ⊢
          clear ez
          obtain ⟨z0, z1, z2, z3⟩ := z
          rw [vagg_lit]
          have h_z2 : z2 < 18446744073709551616 := hok2.2.2.1
          obtain ⟨y2, ey⟩ : ∃ y, y = z2 ^^^ 255 := ⟨_, rfl⟩
          have vx : bits .xor .u64 ((z2 : Nat) : Int) 255 = ((y2 : Nat) : Int) := by rw [ey]; exact val_xor z2 255 h_z2 (by omega)
          have hok3 : Ok (z0, z1, z2 ^^^ 255, z3) := hok2.x2 (m := 255) (by omega)
          have HLAST : Hid (sumB k0 k1 bs = fin4 (rndN (z0, z1, z2 ^^^ 255, z3) 4)) := HLAST
          rw [← ey] at hok3 HLAST
          clear ey hok2
          have hb := Blk.below hsv.out hb2 (Blk.lt hsv.out)
          have q0 : w2.cell? ⟨g, 0, none⟩ = some (.int .u64 (a : Nat)) := Blk.cell hb 0
          have q1 : w2.cell? ⟨g, 1, none⟩ = some (.int .u64 (b : Nat)) := Blk.cell hb 1
          have q2 : w2.cell? ⟨g, 2, none⟩ = some (.int .u64 (c' : Nat)) := Blk.cell hb 2
          have q3 : w2.cell? ⟨g, 3, none⟩ = some (.int .u64 (d : Nat)) := Blk.cell hb 3
          have f0 := Blk.frozen hb 0; have f1 := Blk.frozen hb 1; have f2 := Blk.frozen hb 2; have f3 := Blk.frozen hb 3
          have HBW := Lib.hid hb
          have HB2 := Lib.hid (hbl.out.trans (hb2.mono hbl.out.size))
          clear hb hb2 kc0 kc1 kc2 kc3
          go_upto_region 20 with (fail)
          have hw3 := (((HBW.out.set 0 (.int .u64 (z0 : Nat))).set 1 (.int .u64 (z1 : Nat))).set 2 (.int .u64 (z2 : Nat))).set 3 (.int .u64 (z3 : Nat))
          have hb3 := (((HB2.out.setCell (p := ⟨g, 0, none⟩) (by rw [HG.out]; simp) (.int .u64 (z0 : Nat))).setCell (p := ⟨g, 1, none⟩) (by rw [HG.out]; simp) (.int .u64 (z1 : Nat))).setCell (p := ⟨g, 2, none⟩) (by rw [HG.out]; simp) (.int .u64 (z2 : Nat))).setCell (p := ⟨g, 3, none⟩) (by rw [HG.out]; simp) (.int .u64 (z3 : Nat))
          generalize (((w2.setCell ⟨g, 0, none⟩ (.int .u64 (z0 : Nat))).setCell ⟨g, 1, none⟩ (.int .u64 (z1 : Nat))).setCell ⟨g, 2, none⟩ (.int .u64 (z2 : Nat))).setCell ⟨g, 3, none⟩ (.int .u64 (z3 : Nat)) = w3 at hw3 hb3 ⊢
          clear q0 q1 q2 q3 f0 f1 f2 f3 HBW HB2
          have hw3 : Blk w3 g 173 #[.int .u64 (z0 : Nat), .int .u64 (z1 : Nat), .int .u64 (z2 : Nat), .int .u64 (z3 : Nat)] := hw3
          have q2 : w3.cell? ⟨g, 2, none⟩ = some (.int .u64 (z2 : Nat)) := hw3.cell 2
          have f2 := hw3.frozen 2
          have HW3 := Lib.hid hw3; have HB3 := Lib.hid hb3
          clear hw3 hb3
          go_upto_region 21 with (fail)
          have hw4 := HW3.out.set 2 (.int .u64 (y2 : Nat))
          have hb4 := HB3.out.setCell (p := ⟨g, 2, none⟩) (by rw [HG.out]; simp) (.int .u64 (y2 : Nat))
          generalize w3.setCell ⟨g, 2, none⟩ (.int .u64 (y2 : Nat)) = w4 at hw4 hb4 ⊢
          clear q2 f2 HW3 HB3
          have hw4 : Blk w4 g 173 #[.int .u64 (z0 : Nat), .int .u64 (z1 : Nat), .int .u64 (y2 : Nat), .int .u64 (z3 : Nat)] := hw4
          have q0 : w4.cell? ⟨g, 0, none⟩ = some (.int .u64 (z0 : Nat)) := hw4.cell 0
          have q1 : w4.cell? ⟨g, 1, none⟩ = some (.int .u64 (z1 : Nat)) := hw4.cell 1
          have q2 : w4.cell? ⟨g, 2, none⟩ = some (.int .u64 (y2 : Nat)) := hw4.cell 2
          have q3 : w4.cell? ⟨g, 3, none⟩ = some (.int .u64 (z3 : Nat)) := hw4.cell 3
          have HW4 := Lib.hid hw4; have HB4 := Lib.hid hb4
          clear hw4 hb4 vx h_z2
          go_wp2_with fail
          clear q0 q1 q2 q3
          obtain ⟨zz, hzz⟩ : ∃ zz, zz = rndN (z0, z1, y2, z3) 4 := ⟨_, rfl⟩
          rw [← hzz] at HLAST
          have HZZ := Lib.hid hzz
          clear hzz
          refine (rround_any (z0, z1, y2, z3) w4 hok3).mono ?_
          rintro e w5 ⟨rfl, hbb0⟩
          have ok0 := Ok.rnd hok3
          obtain ⟨v0, e0⟩ : ∃ v, v = rnd (z0, z1, y2, z3) := ⟨_, rfl⟩
          rw [← e0] at ok0 ⊢
          have EE0 := Lib.hid e0
          clear e0
          obtain ⟨r0a, r0b, r0c, r0d⟩ := v0
          rw [vagg_lit]
          have HW4 := Lib.hid (HW4.out.below hbb0 HW4.out.lt)
          have HB4 := Lib.hid (HB4.out.trans (hbb0.mono HB4.out.size))
          clear hbb0
          go_wp2_with fail
          refine (rround_any (r0a, r0b, r0c, r0d) w5 ok0).mono ?_
          rintro e w6 ⟨rfl, hbb1⟩
          have ok1 := Ok.rnd ok0
          obtain ⟨v1, e1⟩ : ∃ v, v = rnd (r0a, r0b, r0c, r0d) := ⟨_, rfl⟩
          rw [← e1] at ok1 ⊢
          have EE1 := Lib.hid e1
          clear e1
          obtain ⟨r1a, r1b, r1c, r1d⟩ := v1
          rw [vagg_lit]
          have HW4 := Lib.hid (HW4.out.below hbb1 HW4.out.lt)
          have HB4 := Lib.hid (HB4.out.trans (hbb1.mono HB4.out.size))
          clear hbb1
          go_wp2_with fail
          refine (rround_any (r1a, r1b, r1c, r1d) w6 ok1).mono ?_
          rintro e w7 ⟨rfl, hbb2⟩
          have ok2 := Ok.rnd ok1
          obtain ⟨v2, e2⟩ : ∃ v, v = rnd (r1a, r1b, r1c, r1d) := ⟨_, rfl⟩
          rw [← e2] at ok2 ⊢
          have EE2 := Lib.hid e2
          clear e2
          obtain ⟨r2a, r2b, r2c, r2d⟩ := v2
          rw [vagg_lit]
          have HW4 := Lib.hid (HW4.out.below hbb2 HW4.out.lt)
          have HB4 := Lib.hid (HB4.out.trans (hbb2.mono HB4.out.size))
          clear hbb2
          go_wp2_with fail
          refine (rround_any (r2a, r2b, r2c, r2d) w7 ok2).mono ?_
          rintro e w8 ⟨rfl, hbb3⟩
          have ok3 := Ok.rnd ok2
          obtain ⟨v3, e3⟩ : ∃ v, v = rnd (r2a, r2b, r2c, r2d) := ⟨_, rfl⟩
          rw [← e3] at ok3 ⊢
          have EE3 := Lib.hid e3
          clear e3
          obtain ⟨r3a, r3b, r3c, r3d⟩ := v3
          rw [vagg_lit]
          have HW4 := Lib.hid (HW4.out.below hbb3 HW4.out.lt)
          have HB4 := Lib.hid (HB4.out.trans (hbb3.mono HB4.out.size))
          clear hbb3
          have HLAST : Hid (sumB k0 k1 bs = r3a ^^^ r3b ^^^ r3c ^^^ r3d) := Lib.hid (by
            rw [HLAST.out, HZZ.out]
            show fin4 (rnd (rnd (rnd (rnd (z0, z1, y2, z3))))) = _
            rw [← EE0.out, ← EE1.out, ← EE2.out, ← EE3.out, fin4_eq])
          have ha : r3a < 18446744073709551616 := ok3.1
          have hb : r3b < 18446744073709551616 := ok3.2.1
          have hc : r3c < 18446744073709551616 := ok3.2.2.1
          have hd : r3d < 18446744073709551616 := ok3.2.2.2
          obtain ⟨p1, e1⟩ : ∃ p1, p1 = r3a ^^^ r3b := ⟨_, rfl⟩
          have g1 : p1 < 18446744073709551616 := by rw [e1]; exact xor_lt ha hb
          have t1 : bits .xor .u64 ((r3a : Nat) : Int) ((r3b : Nat) : Int) = ((p1 : Nat) : Int) := by rw [e1]; exact val_xor r3a r3b ha hb
          obtain ⟨p2, e2⟩ : ∃ p2, p2 = p1 ^^^ r3c := ⟨_, rfl⟩
          have g2 : p2 < 18446744073709551616 := by rw [e2]; exact xor_lt g1 hc
          have t2 : bits .xor .u64 ((p1 : Nat) : Int) ((r3c : Nat) : Int) = ((p2 : Nat) : Int) := by rw [e2]; exact val_xor p1 r3c g1 hc
          obtain ⟨p3, e3⟩ : ∃ p3, p3 = p2 ^^^ r3d := ⟨_, rfl⟩
          have t3 : bits .xor .u64 ((p2 : Nat) : Int) ((r3d : Nat) : Int) = ((p3 : Nat) : Int) := by rw [e3]; exact val_xor p2 r3d g2 hd
          have HP : Hid (sumB k0 k1 bs = p3) := Lib.hid (by rw [HLAST.out, e3, e2, e1])
          clear e1 e2 e3 HLAST EE0 EE1 EE2 EE3 HZZ ok0 ok1 ok2 ok3 hok3
          have q0 : w8.cell? ⟨g, 0, none⟩ = some (.int .u64 (z0 : Nat)) := HW4.out.cell 0
          have q1 : w8.cell? ⟨g, 1, none⟩ = some (.int .u64 (z1 : Nat)) := HW4.out.cell 1
          have q2 : w8.cell? ⟨g, 2, none⟩ = some (.int .u64 (y2 : Nat)) := HW4.out.cell 2
          have q3 : w8.cell? ⟨g, 3, none⟩ = some (.int .u64 (z3 : Nat)) := HW4.out.cell 3
          have f0 := HW4.out.frozen 0; have f1 := HW4.out.frozen 1; have f2 := HW4.out.frozen 2; have f3 := HW4.out.frozen 3
          go_upto_region 22 with (fail)
          have hw9 := (((HW4.out.set 0 (.int .u64 (r3a : Nat))).set 1 (.int .u64 (r3b : Nat))).set 2 (.int .u64 (r3c : Nat))).set 3 (.int .u64 (r3d : Nat))
          have hb9 := (((HB4.out.setCell (p := ⟨g, 0, none⟩) (by rw [HG.out]; simp) (.int .u64 (r3a : Nat))).setCell (p := ⟨g, 1, none⟩) (by rw [HG.out]; simp) (.int .u64 (r3b : Nat))).setCell (p := ⟨g, 2, none⟩) (by rw [HG.out]; simp) (.int .u64 (r3c : Nat))).setCell (p := ⟨g, 3, none⟩) (by rw [HG.out]; simp) (.int .u64 (r3d : Nat))
          generalize (((w8.setCell ⟨g, 0, none⟩ (.int .u64 (r3a : Nat))).setCell ⟨g, 1, none⟩ (.int .u64 (r3b : Nat))).setCell ⟨g, 2, none⟩ (.int .u64 (r3c : Nat))).setCell ⟨g, 3, none⟩ (.int .u64 (r3d : Nat)) = w9 at hw9 hb9 ⊢
          clear q0 q1 q2 q3 f0 f1 f2 f3 HW4 HB4
          have q0 : w9.cell? ⟨g, 0, none⟩ = some (.int .u64 (r3a : Nat)) := Blk.cell hw9 0
          have q1 : w9.cell? ⟨g, 1, none⟩ = some (.int .u64 (r3b : Nat)) := Blk.cell hw9 1
          have q2 : w9.cell? ⟨g, 2, none⟩ = some (.int .u64 (r3c : Nat)) := Blk.cell hw9 2
          have q3 : w9.cell? ⟨g, 3, none⟩ = some (.int .u64 (r3d : Nat)) := Blk.cell hw9 3
          have HB9 := Lib.hid hb9
          clear hw9 hb9
          go_wp2_with fail
          go_ret
          exact ⟨ret_int (by rw [HP.out]), HB9.out⟩
        · have hdl : lv (rest.drop (t + 1)) < 256 ^ (6 - t) := lv_le _ (6 - t) (fun y hy => HBB.out y (List.mem_of_mem_drop hy)) (by rw [List.length_drop, HLEN.out]; omega)
          have hpw : 256 ^ (7 - t) = 256 ^ (6 - t) * 256 := by rw [show 7 - t = (6 - t) + 1 by omega, Nat.pow_succ]
          have hp6 : 256 ^ (6 - t) ≤ 281474976710656 := Nat.pow_le_pow_right (show 0 < 256 by omega) (show 6 - t ≤ 6 by omega)
          have hmul : nm * 256 ^ (6 - t) ≤ 255 * 256 ^ (6 - t) := Nat.mul_le_mul_right _ (by omega)
          obtain ⟨m, em⟩ : ∃ m, m = nm * 256 ^ (7 - (t + 1)) + lv (rest.drop (t + 1)) := ⟨_, rfl⟩
          rw [← em]
          rw [show 7 - (t + 1) = 6 - t by omega] at em
          have hm7 : m < 72057594037927936 := by omega
          by_cases hlt : p + t < n
          · obtain ⟨bb, off, x, rfl, hbk, hcell, hx⟩ := (HR.out.below hbl.out).nth (i := p + t) hlt
            have hx8 := HB.out x (nth_mem hx)
            have hd := lv_drop (bs := rest) (j := t) (x := x) (by rw [HGET.out t]; exact hx.out)
            obtain ⟨m', em'⟩ : ∃ m', m' = nm * 256 ^ (7 - t) + lv (rest.drop t) := ⟨_, rfl⟩
            have hmm : m * 256 + x = m' := by
              rw [em', hpw, hd, em, ← Nat.mul_assoc, Nat.add_mul]
              omega
            have ve : ((m : Nat) : Int) * 256 + ((x : Nat) : Int) = ((m' : Nat) : Int) := by omega
            have HM := Lib.hid em'
            have hi : ((p : Nat) : Int) + ((t : Nat) : Int) < ((n : Nat) : Int) := by omega
            clear em em' hd hmm hmul hp6 hpw hdl
            go_wp2_with fail
            refine ⟨⟨trivial, t, by omega, by rw [HM.out], ?_⟩, by simp [intOf]⟩
            cases t with
            | zero => exact Or.inl ⟨rfl, rfl⟩
            | succ t => exact Or.inr ⟨t, rfl, congrArg (Value.int .i64) (by omega)⟩
          · have hd : lv (rest.drop t) = 0 := lv_drop_none (by rw [HLEN.out]; omega)
            have hd2 : lv (rest.drop (t + 1)) = 0 := lv_drop_none (by rw [HLEN.out]; omega)
            obtain ⟨m', em'⟩ : ∃ m', m' = nm * 256 ^ (7 - t) + lv (rest.drop t) := ⟨_, rfl⟩
            have hmm : m * 256 = m' := by
              rw [em', hpw, hd, em, hd2, ← Nat.mul_assoc]
              omega
            have ve : ((m : Nat) : Int) * 256 = ((m' : Nat) : Int) := by omega
            have HM := Lib.hid em'
            have hi : ¬ ((p : Nat) : Int) + ((t : Nat) : Int) < ((n : Nat) : Int) := by omega
            clear em em' hd hd2 hmm hmul hp6 hpw hdl
            go_wp2_with fail
            refine ⟨⟨trivial, t, by omega, by rw [HM.out], ?_⟩, by simp [intOf]⟩
            cases t with
            | zero => exact Or.inl ⟨rfl, rfl⟩
            | succ t => exact Or.inr ⟨t, rfl, congrArg (Value.int .i64) (by omega)⟩
end Go.Proofs.Ytbiimgfocgbdaaa
