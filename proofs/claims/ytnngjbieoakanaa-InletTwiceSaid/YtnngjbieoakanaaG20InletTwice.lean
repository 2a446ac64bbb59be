/- Package ring: New, Set, Grow, Skip. -/
import Derived.Test.YtnngjbieoakanaaG19InletTwice
import Derived.Laws.OwnMore

namespace Go.Proofs.Ytnngjbieoakanaa
open Go.RowKit
set_option linter.unusedVariables false
set_option maxRecDepth 20000

/-- A row of the call's own, as a block known whole. -/
theorem Nats.mem {w : World} {e : TypeId} {k : IntKind} {B n g : Nat} {l : List Nat} (h : Nats w e k B (.slice (some ⟨g, 0, none⟩) n n) l) : Mem w g e k l ∧ B ≤ g ∧ l.length = n := by
  have hn : l.length = n := by obtain ⟨A', c', e, _⟩ := h.form; injection e with _ e _; exact e.symm
  obtain ⟨hlen, h0⟩ := h
  rcases h0 with ⟨hv, h0⟩ | ⟨g', cap, cur, hv, hb, hh, hc, hm, hsz, htk⟩
  · cases hv
  · injection hv with ha hnn hcc
    injection ha with ha
    injection ha with ha
    subst ha hcc
    refine ⟨?_, hb, hn⟩
    have e1 : cur.toList = ns k l := by
      rw [← htk, List.take_of_length_le]
      simp at hsz
      simp; omega
    unfold Mem Blk
    rw [hh, ← e1]
theorem Mem.nats {w : World} {e : TypeId} {k : IntKind} {B g n : Nat} {l : List Nat} (h : Mem w g e k l) (hB : B ≤ g) (hn : l.length = n) (hm : n ≤ 1000000) : Nats w e k B (.slice (some ⟨g, 0, none⟩) n n) l := by
  subst hn
  exact ⟨by simp [ns], .inr ⟨g, l.length, _, rfl, hB, h, Nat.le_refl _, by unfold maxLen; omega, by simp [ns], by simp only [ns]; exact List.take_of_length_le (by simp)⟩⟩
theorem Nats.zerosB {w : World} {e : TypeId} {B m : Nat} {v : Value} (h : w.ownsRow B e 1 v m (madeCells (Value.int .u8 0).cells (m * 1)).toList) : Nats w e .u8 B v (List.replicate m 0) := by
  have h1 : (madeCells (Value.int .u8 0).cells (m * 1)).toList = ns .u8 (List.replicate m 0) := by
    show (madeCells #[Value.int .u8 0] (m * 1)).toList = _
    rw [toList_madeCells_one, Nat.mul_one]
    simp [ns]
  rw [h1] at h
  unfold Nats
  rw [List.length_replicate]
  exact h
/-- make of bytes. -/
theorem mkB (w : World) (n : Nat) (hn : n ≤ 100000) : ∃ w', (Instr.makeSlice 24 (.int .i64 (n : Int)) (.int .i64 (n : Int))).run Try.prog w = .ok (.slice (some ⟨w.heap.size, 0, none⟩) n n) w' ∧
    Mem w' w.heap.size 5 .u8 (List.replicate n 0) ∧ Below w.heap.size w w' := by
  obtain ⟨i0, hi, hz0, hz1, hz2⟩ := info_parts elB.2.1
  obtain ⟨w1, hrun, ho1, hgr⟩ := run_make_full w w.heap.size 24 5 i0 (.int .u8 0) 1 Try.underlying24 hi hz0 hz1 .i64 .i64 n (by rw [hz2]; omega) (by unfold maxLen; omega) (Nat.le_refl _)
  exact ⟨w1, hrun, (Nats.zerosB ho1).mem.1, (Below.refl _ _).grown hgr (Nat.le_refl _) fun k hk => by cases hk⟩

/-- What New gives. -/
def NewR (size : Nat) (w : World) (e : Ending) (w' : World) : Prop := ∃ g p, e = .returned (.tuple #[.pointer (some ⟨g, 0, none⟩), .int .i64 0]) ∧ w.heap.size ≤ g ∧ w.heap.size ≤ p ∧ Below w.heap.size w w' ∧ Ring w' g p size 0 (List.replicate size 0)
theorem new_any (size : Nat) (w : World) (h1 : 1 ≤ size) (h2 : size ≤ 65536) : Calls Try.prog 15 #[.int .i64 (size : Int)] w fun e w' => NewR size w e w' := by
  obtain ⟨w1, hrun, hm, hb⟩ := mkB w size (by omega)
  have HR := Lib.hid hrun
  clear hrun
  have h1' : (1 : Int) ≤ (size : Int) := by omega
  have h2' : (size : Int) ≤ 65536 := by omega
  go_enter Try.func15, Try.ntmps15
  go_wp2_with fail
  rw [HR.out]
  simp only [Result.andThen]
  rw [Oper.upon_value]
  have hlt := hm.lt
  have HM := Lib.hid hm
  clear hm
  go_wp2_with fail
  go_ret2
  refine ⟨w1.heap.size, w.heap.size, rfl, hb.size, Nat.le_refl _, hb.alloc hb.size _, 0, List.replicate size 0, ⟨Blk.new _ _ _, HM.out.alloc _, by simp, by omega, by omega, h2, by omega⟩, by unfold rrow; simp, ?_⟩
  intro x hx
  rw [List.eq_of_mem_replicate hx]
  omega

theorem zeroB : ∀ w, (zeroValue 5).run Try.prog w = .ok (.int .u8 0) w := fun w => rfl
theorem skip_any (g p size there : Nat) (many : Int) (L : List Nat) (w : World) (h : Ring w g p size there L) (k : Nat) (hk : k = min many.toNat there) (hmany : many < 9223372036854775808) :
    Calls Try.prog 41 #[.pointer (some ⟨g, 0, none⟩), .int .i64 many] w fun e w' =>
      e = .returned (.int .i64 (k : Int)) ∧ Duo g p w w' ∧ Ring w' g p size (there - k) (L.drop k ++ List.replicate k 0) := by
  obtain ⟨first, m, hi, rfl, hm⟩ := h
  have hs := hi.sz
  have hts := hi.ts
  have hfs := hi.fs
  have hc2 := hi.c2
  have hkt : k ≤ there := by omega
  have hpc := pieces_any g p size first there 0 k m w hi (by omega)
  have hx := rix_lt (j := 0) hi.fs (by omega)
  have hsk := rskip (m := m) (first := first) (k := k) (by rw [hi.len]; omega) (by rw [hi.len]; omega) (min k (size - rix size first 0)) (by rw [hi.len])
  rw [hi.len] at hsk
  generalize hxx : rix size first 0 = x at hpc hx hsk
  generalize hcc : min k (size - x) = c at hpc hsk
  have hc1 : c ≤ k := by omega
  have hc3 : x + c ≤ size := by omega
  have HI := Lib.hid hi
  have HM := Lib.hid hm
  have HK := Lib.hid hsk
  clear hi hm hsk hcc hxx
  rcases (show (many < 0 ∧ k = 0) ∨ (many = 0 ∧ k = 0) ∨ (0 < many ∧ many ≤ there ∧ (k : Int) = many) ∨ (there < many ∧ k = there ∧ 0 < many) by omega) with ⟨a1, a2⟩ | ⟨a1, a2⟩ | ⟨a1, a2, a3⟩ | ⟨a1, a2, a3⟩
  · subst a2
    obtain rfl : c = 0 := by omega
    clear hk
    go_enter Try.func41, Try.ntmps41
    go_wp2_with fail
    refine hpc.mono ?_
    rintro e w1 ⟨rfl, q, hq⟩
    have HI1 := Lib.hid (hq ▸ HI.out.drewN q : RI w1 g p size first there m)
    have hd1 : Duo g p w w1 := hq ▸ Duo.refl.drewN q
    clear hpc hq hc2
    go_wp2_with fail
    obtain ⟨r2, m2, s2⟩ := run_clr (P := Try.prog) (w := w1) (m := m) (off := x) (n := 0) (c := size - x) Try.underlying24 zeroB HI1.out.mem (by rw [HI1.out.len]; exact hc3)
    rw [r2]
    have hi2 : RI _ g p size first there (spl m x (List.replicate 0 0)) := ⟨s2.blk HI1.out.blk HI1.out.ne, m2, by rw [spl_len (by rw [HI1.out.len, List.length_replicate]; exact hc3)]; exact HI1.out.len, hfs, hts, hs, HI1.out.ne⟩
    have hd2 := hd1.trans (Duo.of_p s2)
    generalize w1.setCells p x (ns .u8 (List.replicate 0 0)) = w2 at hi2 hd2 ⊢
    clear r2 m2 s2 hd1 HI1
    have HI2 := Lib.hid hi2
    clear hi2
    go_wp2_with fail
    have hkc : 0 + (0) ≤ size := by omega
    obtain ⟨r3, m3, s3⟩ := run_clr (P := Try.prog) (w := w2) (m := spl m x (List.replicate 0 0)) (off := 0) (n := 0) (c := size) Try.underlying24 zeroB HI2.out.mem (by rw [HI2.out.len]; exact hkc)
    rw [r3]
    have hi3 : RI _ g p size first there (spl (spl m x (List.replicate 0 0)) 0 (List.replicate (0) 0)) := ⟨s3.blk HI2.out.blk HI2.out.ne, m3, by rw [spl_len (by rw [HI2.out.len, List.length_replicate]; exact hkc)]; exact HI2.out.len, hfs, hts, hs, HI2.out.ne⟩
    have hd3 := hd2.trans (Duo.of_p s3)
    generalize w2.setCells p 0 (ns .u8 (List.replicate (0) 0)) = w3 at hi3 hd3 ⊢
    clear r3 m3 s3 hd2 HI2
    have hc2 := hi3.c2
    have hf1 := hi3.blk.frozen 1
    have hf2 := hi3.blk.frozen 2
    have hc1' := hi3.c1
    have HI3 := Lib.hid hi3
    clear hi3
    go_wp2_with fail
    refine (at_any g p size first there 0 _ w3 HI3.out (by omega)).mono ?_
    rintro e w4 ⟨rfl, rfl⟩
    have hx2 := rix_lt (j := 0) hfs (by omega)
    obtain ⟨y, hy⟩ : ∃ y, y = rix size first 0 := ⟨_, rfl⟩
    rw [← hy] at hx2 ⊢
    have HY := Lib.hid hy
    clear hy
    go_wp2_with fail
    go_ret
    refine ⟨rfl, (hd3.trans (Duo.of_g (Solo.refl.setCell 1 _))).trans (Duo.of_g (Solo.refl.setCell 2 _)), y, spl (spl m x (List.replicate 0 0)) 0 (List.replicate (0) 0), ⟨?_, ?_, HI3.out.len, hx2, by omega, hs, HI3.out.ne⟩, by rw [HY.out]; exact HK.out.symm, ?_⟩
    · have := (HI3.out.blk.set 1 (.int .i64 (y : Int))).set 2 (.int .i64 ((there - 0 : Nat) : Int))
      simpa [hkt] using this
    · exact (Solo.refl.setCell 2 _).blk ((Solo.refl.setCell 1 _).blk HI3.out.mem (Ne.symm HI3.out.ne)) (Ne.symm HI3.out.ne)
    · exact spl_lt (spl_lt HM.out fun u hu => by rw [List.eq_of_mem_replicate hu]; omega) fun u hu => by rw [List.eq_of_mem_replicate hu]; omega
  · subst a2
    subst a1
    obtain rfl : c = 0 := by omega
    clear hk
    go_enter Try.func41, Try.ntmps41
    go_wp2_with fail
    refine hpc.mono ?_
    rintro e w1 ⟨rfl, q, hq⟩
    have HI1 := Lib.hid (hq ▸ HI.out.drewN q : RI w1 g p size first there m)
    have hd1 : Duo g p w w1 := hq ▸ Duo.refl.drewN q
    clear hpc hq hc2
    go_wp2_with fail
    obtain ⟨r2, m2, s2⟩ := run_clr (P := Try.prog) (w := w1) (m := m) (off := x) (n := 0) (c := size - x) Try.underlying24 zeroB HI1.out.mem (by rw [HI1.out.len]; exact hc3)
    rw [r2]
    have hi2 : RI _ g p size first there (spl m x (List.replicate 0 0)) := ⟨s2.blk HI1.out.blk HI1.out.ne, m2, by rw [spl_len (by rw [HI1.out.len, List.length_replicate]; exact hc3)]; exact HI1.out.len, hfs, hts, hs, HI1.out.ne⟩
    have hd2 := hd1.trans (Duo.of_p s2)
    generalize w1.setCells p x (ns .u8 (List.replicate 0 0)) = w2 at hi2 hd2 ⊢
    clear r2 m2 s2 hd1 HI1
    have HI2 := Lib.hid hi2
    clear hi2
    go_wp2_with fail
    have hkc : 0 + (0) ≤ size := by omega
    obtain ⟨r3, m3, s3⟩ := run_clr (P := Try.prog) (w := w2) (m := spl m x (List.replicate 0 0)) (off := 0) (n := 0) (c := size) Try.underlying24 zeroB HI2.out.mem (by rw [HI2.out.len]; exact hkc)
    rw [r3]
    have hi3 : RI _ g p size first there (spl (spl m x (List.replicate 0 0)) 0 (List.replicate (0) 0)) := ⟨s3.blk HI2.out.blk HI2.out.ne, m3, by rw [spl_len (by rw [HI2.out.len, List.length_replicate]; exact hkc)]; exact HI2.out.len, hfs, hts, hs, HI2.out.ne⟩
    have hd3 := hd2.trans (Duo.of_p s3)
    generalize w2.setCells p 0 (ns .u8 (List.replicate (0) 0)) = w3 at hi3 hd3 ⊢
    clear r3 m3 s3 hd2 HI2
    have hc2 := hi3.c2
    have hf1 := hi3.blk.frozen 1
    have hf2 := hi3.blk.frozen 2
    have hc1' := hi3.c1
    have HI3 := Lib.hid hi3
    clear hi3
    go_wp2_with fail
    refine (at_any g p size first there 0 _ w3 HI3.out (by omega)).mono ?_
    rintro e w4 ⟨rfl, rfl⟩
    have hx2 := rix_lt (j := 0) hfs (by omega)
    obtain ⟨y, hy⟩ : ∃ y, y = rix size first 0 := ⟨_, rfl⟩
    rw [← hy] at hx2 ⊢
    have HY := Lib.hid hy
    clear hy
    go_wp2_with fail
    go_ret
    refine ⟨rfl, (hd3.trans (Duo.of_g (Solo.refl.setCell 1 _))).trans (Duo.of_g (Solo.refl.setCell 2 _)), y, spl (spl m x (List.replicate 0 0)) 0 (List.replicate (0) 0), ⟨?_, ?_, HI3.out.len, hx2, by omega, hs, HI3.out.ne⟩, by rw [HY.out]; exact HK.out.symm, ?_⟩
    · have := (HI3.out.blk.set 1 (.int .i64 (y : Int))).set 2 (.int .i64 ((there - 0 : Nat) : Int))
      simpa [hkt] using this
    · exact (Solo.refl.setCell 2 _).blk ((Solo.refl.setCell 1 _).blk HI3.out.mem (Ne.symm HI3.out.ne)) (Ne.symm HI3.out.ne)
    · exact spl_lt (spl_lt HM.out fun u hu => by rw [List.eq_of_mem_replicate hu]; omega) fun u hu => by rw [List.eq_of_mem_replicate hu]; omega
  · subst a3
    clear hk
    go_enter Try.func41, Try.ntmps41
    go_wp2_with fail
    refine hpc.mono ?_
    rintro e w1 ⟨rfl, q, hq⟩
    have HI1 := Lib.hid (hq ▸ HI.out.drewN q : RI w1 g p size first there m)
    have hd1 : Duo g p w w1 := hq ▸ Duo.refl.drewN q
    clear hpc hq hc2
    go_wp2_with fail
    obtain ⟨r2, m2, s2⟩ := run_clr (P := Try.prog) (w := w1) (m := m) (off := x) (n := c) (c := size - x) Try.underlying24 zeroB HI1.out.mem (by rw [HI1.out.len]; exact hc3)
    rw [r2]
    have hi2 : RI _ g p size first there (spl m x (List.replicate c 0)) := ⟨s2.blk HI1.out.blk HI1.out.ne, m2, by rw [spl_len (by rw [HI1.out.len, List.length_replicate]; exact hc3)]; exact HI1.out.len, hfs, hts, hs, HI1.out.ne⟩
    have hd2 := hd1.trans (Duo.of_p s2)
    generalize w1.setCells p x (ns .u8 (List.replicate c 0)) = w2 at hi2 hd2 ⊢
    clear r2 m2 s2 hd1 HI1
    have HI2 := Lib.hid hi2
    clear hi2
    go_wp2_with fail
    have hkc : 0 + (k - c) ≤ size := by omega
    obtain ⟨r3, m3, s3⟩ := run_clr (P := Try.prog) (w := w2) (m := spl m x (List.replicate c 0)) (off := 0) (n := k - c) (c := size) Try.underlying24 zeroB HI2.out.mem (by rw [HI2.out.len]; exact hkc)
    rw [r3]
    have hi3 : RI _ g p size first there (spl (spl m x (List.replicate c 0)) 0 (List.replicate (k - c) 0)) := ⟨s3.blk HI2.out.blk HI2.out.ne, m3, by rw [spl_len (by rw [HI2.out.len, List.length_replicate]; exact hkc)]; exact HI2.out.len, hfs, hts, hs, HI2.out.ne⟩
    have hd3 := hd2.trans (Duo.of_p s3)
    generalize w2.setCells p 0 (ns .u8 (List.replicate (k - c) 0)) = w3 at hi3 hd3 ⊢
    clear r3 m3 s3 hd2 HI2
    have hc2 := hi3.c2
    have hf1 := hi3.blk.frozen 1
    have hf2 := hi3.blk.frozen 2
    have hc1' := hi3.c1
    have HI3 := Lib.hid hi3
    clear hi3
    go_wp2_with fail
    refine (at_any g p size first there k _ w3 HI3.out (by omega)).mono ?_
    rintro e w4 ⟨rfl, rfl⟩
    have hx2 := rix_lt (j := k) hfs (by omega)
    obtain ⟨y, hy⟩ : ∃ y, y = rix size first k := ⟨_, rfl⟩
    rw [← hy] at hx2 ⊢
    have HY := Lib.hid hy
    clear hy
    go_wp2_with fail
    go_ret
    refine ⟨rfl, (hd3.trans (Duo.of_g (Solo.refl.setCell 1 _))).trans (Duo.of_g (Solo.refl.setCell 2 _)), y, spl (spl m x (List.replicate c 0)) 0 (List.replicate (k - c) 0), ⟨?_, ?_, HI3.out.len, hx2, by omega, hs, HI3.out.ne⟩, by rw [HY.out]; exact HK.out.symm, ?_⟩
    · have := (HI3.out.blk.set 1 (.int .i64 (y : Int))).set 2 (.int .i64 ((there - k : Nat) : Int))
      have e : ((there - k : Nat) : Int) = (there : Int) - (k : Int) := by omega
      simpa [e] using this
    · exact (Solo.refl.setCell 2 _).blk ((Solo.refl.setCell 1 _).blk HI3.out.mem (Ne.symm HI3.out.ne)) (Ne.symm HI3.out.ne)
    · exact spl_lt (spl_lt HM.out fun u hu => by rw [List.eq_of_mem_replicate hu]; omega) fun u hu => by rw [List.eq_of_mem_replicate hu]; omega
  · subst a2
    clear hk
    go_enter Try.func41, Try.ntmps41
    go_wp2_with fail
    refine hpc.mono ?_
    rintro e w1 ⟨rfl, q, hq⟩
    have HI1 := Lib.hid (hq ▸ HI.out.drewN q : RI w1 g p size first k m)
    have hd1 : Duo g p w w1 := hq ▸ Duo.refl.drewN q
    clear hpc hq hc2
    go_wp2_with fail
    obtain ⟨r2, m2, s2⟩ := run_clr (P := Try.prog) (w := w1) (m := m) (off := x) (n := c) (c := size - x) Try.underlying24 zeroB HI1.out.mem (by rw [HI1.out.len]; exact hc3)
    rw [r2]
    have hi2 : RI _ g p size first k (spl m x (List.replicate c 0)) := ⟨s2.blk HI1.out.blk HI1.out.ne, m2, by rw [spl_len (by rw [HI1.out.len, List.length_replicate]; exact hc3)]; exact HI1.out.len, hfs, hts, hs, HI1.out.ne⟩
    have hd2 := hd1.trans (Duo.of_p s2)
    generalize w1.setCells p x (ns .u8 (List.replicate c 0)) = w2 at hi2 hd2 ⊢
    clear r2 m2 s2 hd1 HI1
    have HI2 := Lib.hid hi2
    clear hi2
    go_wp2_with fail
    have hkc : 0 + (k - c) ≤ size := by omega
    obtain ⟨r3, m3, s3⟩ := run_clr (P := Try.prog) (w := w2) (m := spl m x (List.replicate c 0)) (off := 0) (n := k - c) (c := size) Try.underlying24 zeroB HI2.out.mem (by rw [HI2.out.len]; exact hkc)
    rw [r3]
    have hi3 : RI _ g p size first k (spl (spl m x (List.replicate c 0)) 0 (List.replicate (k - c) 0)) := ⟨s3.blk HI2.out.blk HI2.out.ne, m3, by rw [spl_len (by rw [HI2.out.len, List.length_replicate]; exact hkc)]; exact HI2.out.len, hfs, hts, hs, HI2.out.ne⟩
    have hd3 := hd2.trans (Duo.of_p s3)
    generalize w2.setCells p 0 (ns .u8 (List.replicate (k - c) 0)) = w3 at hi3 hd3 ⊢
    clear r3 m3 s3 hd2 HI2
    have hc2 := hi3.c2
    have hf1 := hi3.blk.frozen 1
    have hf2 := hi3.blk.frozen 2
    have hc1' := hi3.c1
    have HI3 := Lib.hid hi3
    clear hi3
    go_wp2_with fail
    refine (at_any g p size first k k _ w3 HI3.out (by omega)).mono ?_
    rintro e w4 ⟨rfl, rfl⟩
    have hx2 := rix_lt (j := k) hfs (by omega)
    obtain ⟨y, hy⟩ : ∃ y, y = rix size first k := ⟨_, rfl⟩
    rw [← hy] at hx2 ⊢
    have HY := Lib.hid hy
    clear hy
    go_wp2_with fail
    go_ret
    refine ⟨rfl, (hd3.trans (Duo.of_g (Solo.refl.setCell 1 _))).trans (Duo.of_g (Solo.refl.setCell 2 _)), y, spl (spl m x (List.replicate c 0)) 0 (List.replicate (k - c) 0), ⟨?_, ?_, HI3.out.len, hx2, by omega, hs, HI3.out.ne⟩, by rw [HY.out]; exact HK.out.symm, ?_⟩
    · have := (HI3.out.blk.set 1 (.int .i64 (y : Int))).set 2 (.int .i64 ((k - k : Nat) : Int))
      simpa [hkt] using this
    · exact (Solo.refl.setCell 2 _).blk ((Solo.refl.setCell 1 _).blk HI3.out.mem (Ne.symm HI3.out.ne)) (Ne.symm HI3.out.ne)
    · exact spl_lt (spl_lt HM.out fun u hu => by rw [List.eq_of_mem_replicate hu]; omega) fun u hu => by rw [List.eq_of_mem_replicate hu]; omega
end Go.Proofs.Ytnngjbieoakanaa
