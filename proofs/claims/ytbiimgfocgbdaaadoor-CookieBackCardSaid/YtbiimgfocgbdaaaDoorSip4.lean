/- Contracts of package sip: all parts' bytes; the beginning. -/
import Derived.Test.YtbiimgfocgbdaaaDoorSip3
import Derived.Test.YtbiimgfocgbdaaaDoorPts
namespace Go.Proofs.YtbiimgfocgbdaaaDoor
open Go.RowKit
set_option linter.unusedVariables false

theorem saddL_app (s : V4 × Nat × Nat) (a b : List Nat) : saddL s (a ++ b) = saddL (saddL s a) b := List.foldl_append
theorem saddL_snoc {bs : List Nat} {j x : Nat} (s : V4 × Nat × Nat) (h : bs[j]? = some x) : saddL s (bs.take (j + 1)) = sadd (saddL s (bs.take j)) x := by
  rw [List.take_add_one, h, saddL_app]
  rfl
def SmS (w : World) (g : Nat) (s : V4 × Nat × Nat) : Prop := Sm w g s.1 s.2.1 s.2.2
set_option maxRecDepth 20000 in
set_option maxHeartbeats 1000000 in
theorem whole_any (g B n c : Nat) (s0 : V4 × Nat × Nat) (A : Option Addr) (bss : List (List Nat)) (w : World) (hw : SmS w g s0) (hok : OkS s0) (hB : B ≤ g) (hp : Pts w B A n bss) (hnc : n ≤ c) (hn : n ≤ 100000) (hb : ∀ bs ∈ bss, ∀ x ∈ bs, x < 256) (htot : s0.2.2 + bss.flatten.length < 4294967296) :
    Calls Tryd.prog 16 #[.pointer (some ⟨g, 0, none⟩), .slice A n c] w fun e w' => e = .returned (.int .u64 ((sfin (saddL s0 bss.flatten) : Nat) : Int)) ∧ Solo g w w' := by
  have HW := Lib.hid hw; have HOK := Lib.hid hok; have HP := Lib.hid hp; have HB := Lib.hid hb; have HT := Lib.hid htot
  clear hw hok hp hb htot
  go_enter Tryd.func16, Tryd.ntmps16
  go_wp2_with fail
  go_loopw [11] (fun iv wr => ∃ i : Nat, i ≤ n ∧ iv = .int .i64 i ∧ Hid (SmS wr g (saddL s0 (bss.take i).flatten)) ∧ Hid (Solo g w wr)) (fun iv _ => n - (intOf iv).toNat)
  case atStart => exact ⟨0, Nat.zero_le _, rfl, HW, Lib.hid Solo.refl⟩
  case round =>
    obtain ⟨i, hi, rfl, hsm, hso⟩ := hrel
    by_cases hlt : i < n
    · obtain ⟨bb, off, A1, n1, c1, bs, rfl, hbb, hcell0, hbs, hl1, hc1, hr1⟩ := HP.out.nth hlt
      have hcell := ((hso.out.1.mono hB).cell (p := ⟨bb, off + i, none⟩) hbb).trans hcell0
      clear hcell0
      have hlen := flat_le bss (i + 1)
      rw [flat_take hbs.out, List.length_append, hl1.out] at hlen
      have hnb : n1 < 4294967296 := by have := HT.out; omega
      have HL := Lib.hid hlen
      clear hlen
      go_wp2_with fail
      go_loopw [17] (fun jv wv => ∃ j : Nat, j ≤ n1 ∧ jv = .int .i64 j ∧ Hid (SmS wv g (saddL (saddL s0 (bss.take i).flatten) (bs.take j))) ∧ Hid (Solo g w wv)) (fun jv _ => n1 - (intOf jv).toNat)
      case atStart => exact ⟨0, Nat.zero_le _, rfl, hsm, hso⟩
      case round =>
        obtain ⟨j, hj, rfl, hsv, hsw⟩ := hrel
        by_cases hlt2 : j < n1
        · obtain ⟨b2, o2, x, rfl, hb2, hcx, hx⟩ := (hr1.out.below (hsw.out.1.mono hB)).nth hlt2
          have hx8 := HB.out bs (nth_mem hbs) x (nth_mem hx)
          obtain ⟨s1, es⟩ : ∃ s1, s1 = saddL (saddL s0 (bss.take i).flatten) (bs.take j) := ⟨_, rfl⟩
          have hok : OkS s1 := by rw [es]; exact (HOK.out.addL _).addL _
          have hm : s1.2.2 < 4294967296 := by
            rw [es, saddL_many, saddL_many, List.length_take]
            have := HT.out
            have := HL.out
            omega
          have HN : Hid (saddL (saddL s0 (bss.take i).flatten) (bs.take (j + 1)) = sadd s1 x) := Lib.hid (by rw [saddL_snoc _ hx.out, es])
          rw [← es] at hsv
          clear es hcell
          go_wp2_with fail
          refine (add_any g s1.1 s1.2.1 s1.2.2 x wr hsv.out hok.1 hok.2 hm hx8).mono ?_
          rintro e w3 ⟨⟨u, rfl⟩, hw3, hs3⟩
          go_wp2_with fail
          go_roundw
          case rel => exact ⟨j + 1, by omega, by go_num, Lib.hid (by rw [HN.out]; exact hw3), Lib.hid (hsw.out.trans hs3)⟩
          case measure => simp [intOf]; omega
        · obtain rfl : j = n1 := by omega
          have HN : Hid (SmS wr g (saddL s0 (bss.take (i + 1)).flatten)) := Lib.hid (by
            have := hsv.out
            rw [List.take_of_length_le (Nat.le_of_eq hl1.out), ← saddL_app, ← flat_take hbs.out] at this
            exact this)
          go_wp2_with fail
          go_roundw
          case rel => exact ⟨i + 1, by omega, by go_num, HN, hsw⟩
          case measure => simp [intOf]; omega
    · obtain rfl : i = n := by omega
      have hall : (bss.take i).flatten = bss.flatten := by rw [List.take_of_length_le (Nat.le_of_eq HP.out.1)]
      rw [hall] at hsm
      have hm : (saddL s0 bss.flatten).2.2 < 4294967296 := by rw [saddL_many]; exact HT.out
      have hok := HOK.out.addL bss.flatten
      obtain ⟨s1, es⟩ : ∃ s1, s1 = saddL s0 bss.flatten := ⟨_, rfl⟩
      rw [← es] at hsm hm hok
      have HS := Lib.hid es
      clear es hall
      go_wp2_with fail
      refine (end_any g s1.1 s1.2.1 s1.2.2 wr hsm.out hok.1 hok.2 hm).mono ?_
      rintro e w3 ⟨rfl, hs3⟩
      go_wp2_with fail
      go_ret
      exact ⟨ret_int (by rw [← HS.out]), hso.out.trans hs3⟩
def c0 : Nat := 8317987319222330741
def c1 : Nat := 7237128888997146477
def c2 : Nat := 7816392313619706465
def c3 : Nat := 8387220255154660723
def beg (k0 k1 : Nat) : V4 := (k0 ^^^ c0, k1 ^^^ c1, k0 ^^^ c2, k1 ^^^ c3)
set_option maxRecDepth 20000 in
theorem begin_any (k0 k1 : Nat) (w : World) (h0 : k0 < 18446744073709551616) (h1 : k1 < 18446744073709551616) :
    Calls Tryd.prog 15 #[.agg #[.int .u64 k0, .int .u64 k1]] w fun e w' => e = .returned (.agg (scell (beg k0 k1).1 (beg k0 k1).2.1 (beg k0 k1).2.2.1 (beg k0 k1).2.2.2 0 0)) ∧ Below w.heap.size w w' := by
  obtain ⟨x0, e0⟩ : ∃ x, x = k0 ^^^ c0 := ⟨_, rfl⟩
  obtain ⟨x1, e1⟩ : ∃ x, x = k1 ^^^ c1 := ⟨_, rfl⟩
  obtain ⟨x2, e2⟩ : ∃ x, x = k0 ^^^ c2 := ⟨_, rfl⟩
  obtain ⟨x3, e3⟩ : ∃ x, x = k1 ^^^ c3 := ⟨_, rfl⟩
  have v0 : bits .xor .u64 ((k0 : Nat) : Int) 8317987319222330741 = ((x0 : Nat) : Int) := by rw [e0]; exact val_xor k0 c0 h0 (by decide)
  have v1 : bits .xor .u64 ((k1 : Nat) : Int) 7237128888997146477 = ((x1 : Nat) : Int) := by rw [e1]; exact val_xor k1 c1 h1 (by decide)
  have v2 : bits .xor .u64 ((k0 : Nat) : Int) 7816392313619706465 = ((x2 : Nat) : Int) := by rw [e2]; exact val_xor k0 c2 h0 (by decide)
  have v3 : bits .xor .u64 ((k1 : Nat) : Int) 8387220255154660723 = ((x3 : Nat) : Int) := by rw [e3]; exact val_xor k1 c3 h1 (by decide)
  have HE : Hid (beg k0 k1 = (x0, x1, x2, x3)) := Lib.hid (by rw [e0, e1, e2, e3]; rfl)
  clear e0 e1 e2 e3
  go_enter Tryd.func15, Tryd.ntmps15
  go_wp2
  refine bodyPost_ret (v := .agg (scell x0 x1 x2 x3 0 0)) (by simp [results, Tryd.results15, go_sem, scell]) rfl ⟨?_, ((Below.refl _ _).alloc (Nat.le_refl _) _).alloc (by simp) _⟩
  rw [HE.out]
/-- The sum of bytes under a key. -/
def sumB (k0 k1 : Nat) (bs : List Nat) : Nat := sfin (saddL (beg k0 k1, 0, 0) bs)
theorem beg_ok (k0 k1 : Nat) (h0 : k0 < 18446744073709551616) (h1 : k1 < 18446744073709551616) : OkS (beg k0 k1, 0, 0) :=
  ⟨⟨xor_lt h0 (by decide), xor_lt h1 (by decide), xor_lt h0 (by decide), xor_lt h1 (by decide)⟩, by simp⟩
set_option maxRecDepth 20000 in
theorem sum_any (k0 k1 n c : Nat) (A : Option Addr) (bss : List (List Nat)) (w : World) (h0 : k0 < 18446744073709551616) (h1 : k1 < 18446744073709551616) (hp : Pts w w.heap.size A n bss) (hnc : n ≤ c) (hn : n ≤ 100000) (hb : ∀ bs ∈ bss, ∀ x ∈ bs, x < 256) (htot : bss.flatten.length < 4000000000) :
    Calls Tryd.prog 11 #[.agg #[.int .u64 k0, .int .u64 k1], .slice A n c] w fun e w' => e = .returned (.int .u64 ((sumB k0 k1 bss.flatten : Nat) : Int)) ∧ Below w.heap.size w w' := by
  have HP := Lib.hid hp; have HB := Lib.hid hb; have HT := Lib.hid htot
  clear hp hb htot
  go_enter Tryd.func11, Tryd.ntmps11
  go_wp2_with fail
  refine (begin_any k0 k1 (w.alloc (.cells #[.int .u64 k0, .int .u64 k1] 24)) h0 h1).mono ?_
  rintro e w1 ⟨rfl, hb1⟩
  have hb0 : Below w.heap.size w w1 := ((Below.refl _ _).alloc (Nat.le_refl _) _).trans (hb1.mono (by simp))
  have hok := beg_ok k0 k1 h0 h1
  obtain ⟨v, hv⟩ : ∃ v, v = beg k0 k1 := ⟨_, rfl⟩
  rw [← hv] at hok ⊢
  have HV : Hid (sumB k0 k1 bss.flatten = sfin (saddL (v, 0, 0) bss.flatten)) := Lib.hid (by rw [hv]; rfl)
  have HOK := Lib.hid hok
  clear hv hb1 hok
  obtain ⟨a, b, c', d⟩ := v
  simp only [scell]
  go_wp2_with fail
  have hw2 : SmS (w1.alloc (.cells #[.int .u64 (a : Nat), .int .u64 (b : Nat), .int .u64 (c' : Nat), .int .u64 (d : Nat), .int .u64 0, .int .u64 0] 51)) w1.heap.size ((a, b, c', d), 0, 0) := Blk.new w1 _ _
  have hb2 := hb0.alloc hb0.size (.cells #[.int .u64 (a : Nat), .int .u64 (b : Nat), .int .u64 (c' : Nat), .int .u64 (d : Nat), .int .u64 0, .int .u64 0] 51)
  generalize (w1.alloc (.cells #[.int .u64 (a : Nat), .int .u64 (b : Nat), .int .u64 (c' : Nat), .int .u64 (d : Nat), .int .u64 0, .int .u64 0] 51)) = w2 at hw2 hb2 ⊢
  refine (whole_any w1.heap.size w.heap.size n c ((a, b, c', d), 0, 0) A bss w2 hw2 HOK.out hb0.size (HP.out.keep hb2) hnc hn HB.out (by have := HT.out; simp only []; omega)).mono ?_
  rintro e w3 ⟨rfl, hs3⟩
  go_wp2_with fail
  go_ret
  exact ⟨ret_int (by rw [HV.out]), hb2.trans (hs3.1.mono hb0.size)⟩
end Go.Proofs.YtbiimgfocgbdaaaDoor
