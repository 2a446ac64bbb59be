/- Layer 34: the sum of bytes. -/
import Derived.Test.YtcgcglngjfijnaaCap3
import Derived.Test.YtcgcglngjfijnaaSg7
namespace Go.Proofs.Ytcgcglngjfijnaa
open Go.RowKit
set_option linter.unusedVariables false
/-- Fletcher's sum: by twos, an odd last one with a 0 behind. -/
def sumF : Nat → Nat → List Nat → Nat × Nat
  | x, y, [] => (x, y)
  | x, y, [a] => ((x + a * 256) % 65535, (y + (x + a * 256) % 65535) % 65535)
  | x, y, a :: b :: l => sumF ((x + (a * 256 + b)) % 65535) ((y + (x + (a * 256 + b)) % 65535) % 65535) l
def sumS (l : List Nat) : Nat := (sumF 0 0 l).2 * 65536 + (sumF 0 0 l).1
theorem two_or (a b : Nat) (ha : a < 256) (hb : b < 256) : bits .or .u32 ((a * 256 : Nat) : Int) (b : Int) = ((a * 256 + b : Nat) : Int) := by
  rw [u32_or_nat _ _ (by omega) (by omega), Nat.or_comm]
  have := or_above b a 8 (by omega) (by omega)
  rw [show (2 : Nat) ^ 8 = 256 by rfl, Nat.mod_eq_of_lt (by omega), Nat.mod_eq_of_lt (by omega)] at this
  rw [this, Nat.add_comm]
theorem wide_or (y x : Nat) (hy : y < 65536) (hx : x < 65536) : bits .or .u32 ((y * 65536 : Nat) : Int) (x : Int) = ((y * 65536 + x : Nat) : Int) := by
  rw [u32_or_nat _ _ (by omega) (by omega), Nat.or_comm]
  have := or_above x y 16 (by omega) (by omega)
  rw [show (2 : Nat) ^ 16 = 65536 by rfl, Nat.mod_eq_of_lt (by omega), Nat.mod_eq_of_lt (by omega)] at this
  rw [this, Nat.add_comm]
set_option maxRecDepth 20000 in
set_option maxHeartbeats 4000000 in
theorem csum_any (A : Option Addr) (n c : Nat) (l : List Nat) (w : World) (h : Rd w w.heap.size 1 A n (ns .u8 l)) (hnc : n ≤ c) (hcm : c ≤ maxLen) (hb : ∀ x ∈ l, x < 256) :
    Calls Try.prog 116 #[.slice A n c] w fun e w' => e = .returned (.int .u32 (sumS l : Int)) ∧ Below w.heap.size w w' := by
  have HR := Lib.hid h
  have HB := Lib.hid hb
  have HNC := Lib.hid (And.intro hnc hcm)
  clear h hb hnc hcm
  go_enter Try.func116, Try.ntmps116
  go_wp2_with fail
  go_loopw [0, 3, 4] (fun bv xv yv wr => ∃ (A' : Option Addr) (n' c' : Nat) (l' : List Nat) (x y : Nat), bv = .slice A' n' c' ∧ xv = .int .u32 (x : Int) ∧ yv = .int .u32 (y : Int) ∧ x < 65535 ∧ y < 65535 ∧ Hid (n' ≤ c' ∧ c' ≤ maxLen) ∧ Hid (Rd w w.heap.size 1 A' n' (ns .u8 l')) ∧ Hid (∀ x ∈ l', x < 256) ∧ Hid (sumF 0 0 l = sumF x y l') ∧ Hid (wr = w)) (fun bv _ _ _ => lenOf bv)
  case atStart => exact ⟨A, n, c, l, 0, 0, rfl, rfl, rfl, by omega, by omega, HNC, HR, HB, Lib.hid rfl, Lib.hid rfl⟩
  case round =>
    clear HR HB HNC
    obtain ⟨A', n', c', l', x, y, rfl, rfl, rfl, hx, hy, HNC, HR, HB, HS, hw⟩ := hrel
    have hw := hw.out
    subst hw
    have hlen := HR.out.natLen
    have hu : Try.prog.underlying 51 = some (.slice (Try.prog.elem 51)) := by unfold Program.elem; rw [Try.underlying51]
    match l', hlen, HR, HB, HS with
    | [], hlen, HR, HB, HS =>
      obtain rfl : n' = 0 := hlen.symm
      obtain ⟨y2, hy2⟩ : ∃ y2, y2 = y * 65536 := ⟨_, rfl⟩
      have e1 : (y : Int) * 65536 = (y2 : Int) := by omega
      have w1 : IntKind.u32.wrap ((y : Int) * 65536) = (y2 : Int) := by rw [e1, IntKind.wrap_u32]; omega
      have w2 : bits .or .u32 (y2 : Int) (x : Int) = ((y2 + x : Nat) : Int) := by rw [hy2]; exact wide_or y x (by omega) (by omega)
      obtain ⟨s, hs⟩ : ∃ s, s = y2 + x := ⟨_, rfl⟩
      rw [← hs] at w2
      have HF := Lib.hid (show sumS l = s by unfold sumS; rw [HS.out, hs, hy2]; rfl)
      clear hu hs hy2 e1 hlen HS
      go_wp2_with fail
      go_ret
      exact ⟨ret_int (by rw [HF.out]), Below.refl _ _⟩
    | [a], hlen, HR, HB, HS =>
      obtain rfl : n' = 1 := hlen.symm
      have ha : a < 256 := HB.out a (by simp)
      obtain ⟨bb, off, rfl, hbb, hcc⟩ := HR.out.2 (by omega)
      have q0 : wr.cell? ⟨bb, off, none⟩ = some (.int .u8 (a : Int)) := by
        have h1 := hcc 0 (by omega)
        rw [Nat.add_zero] at h1
        rw [h1]
        rfl
      have hmin : min (2 : Int) (1 : Int) = 1 := by omega
      have hc1 : ∀ w, (Instr.slice 51 (.slice (some ⟨bb, off, none⟩) 1 c') (some (.int .i64 1)) none none).run Try.prog w = _ := fun w => run_cut_l pel8 (some ⟨bb, off, none⟩) 1 c' 1 (by omega) w
      have hc2 : ∀ w, (Instr.sliceAt 51 (.slice (some ⟨bb, off, none⟩) 1 c') (some (.int .i64 1)) none none).run Try.prog w = _ := fun w => (run_sliceAt_slice w _ _ _ _ _ hu).trans (hc1 w)
      have HD := Lib.hid (show Rd wr wr.heap.size 1 (cutA (some ⟨bb, off, none⟩) c' 1 1) (1 - 1) (ns .u8 []) from HR.out.drop (k := 1) (by omega) HNC.out.1)
      obtain ⟨a2, ha2⟩ : ∃ a2, a2 = a * 256 := ⟨_, rfl⟩
      have e1 : (a : Int) * 256 = (a2 : Int) := by omega
      have v0 : IntKind.u32.wrap (a : Int) = (a : Int) := by rw [IntKind.wrap_u32]; omega
      have v1 : IntKind.u32.wrap ((a : Int) * 256) = (a2 : Int) := by rw [e1, IntKind.wrap_u32]; omega
      obtain ⟨m, hm⟩ : ∃ m, m = a2 := ⟨_, rfl⟩
      have em : (a2 : Int) = (m : Int) := by omega
      rw [em] at v1
      obtain ⟨s1, hs1⟩ : ∃ s1, s1 = x + m := ⟨_, rfl⟩
      have e2 : (x : Int) + (m : Int) = (s1 : Int) := by omega
      have v3 : IntKind.u32.wrap ((x : Int) + (m : Int)) = (s1 : Int) := by rw [e2, IntKind.wrap_u32]; omega
      obtain ⟨x2, hx2⟩ : ∃ x2, x2 = s1 % 65535 := ⟨_, rfl⟩
      have e3 : (s1 : Int).tmod 65535 = (x2 : Int) := by rw [hx2, Int.tmod_eq_emod_of_nonneg (by omega)]; omega
      have v4 : IntKind.u32.wrap (x2 : Int) = (x2 : Int) := by rw [IntKind.wrap_u32]; omega
      obtain ⟨s2, hs2⟩ : ∃ s2, s2 = y + x2 := ⟨_, rfl⟩
      have e4 : (y : Int) + (x2 : Int) = (s2 : Int) := by omega
      have v5 : IntKind.u32.wrap ((y : Int) + (x2 : Int)) = (s2 : Int) := by rw [e4, IntKind.wrap_u32]; omega
      obtain ⟨y2, hy2⟩ : ∃ y2, y2 = s2 % 65535 := ⟨_, rfl⟩
      have e5 : (s2 : Int).tmod 65535 = (y2 : Int) := by rw [hy2, Int.tmod_eq_emod_of_nonneg (by omega)]; omega
      have v6 : IntKind.u32.wrap (y2 : Int) = (y2 : Int) := by rw [IntKind.wrap_u32]; omega
      have hx2b : x2 < 65535 := by omega
      have hy2b : y2 < 65535 := by omega
      have HSN : Hid (sumF 0 0 l = sumF x2 y2 []) := Lib.hid (by rw [HS.out, hy2, hs2, hx2, hs1, hm, ha2]; rfl)
      have HBN : Hid (∀ x ∈ [], x < 256) := Lib.hid (fun z hz => HB.out z (by simp at hz ⊢))
      have HNC2 : Hid (1 - 1 ≤ c' - 1 ∧ c' - 1 ≤ maxLen) := Lib.hid ⟨by have := HNC.out; omega, by have := HNC.out; omega⟩
      generalize cutA (some ⟨bb, off, none⟩) c' 1 1 = A2 at *
      clear hu e1 e2 e4 ha2 hs1 hx2 hs2 hy2 hcc HS HB HR hlen HNC
      go_wp2_with fail
      go_roundw
      case rel => exact ⟨_, _, _, [], x2, y2, rfl, (by first | rfl | rw [EX.out]), (by first | rfl | rw [EY.out]), hx2b, hy2b, HNC2, HD, HBN, HSN, Lib.hid (by first | trivial | rfl)⟩
      case measure => simp [lenOf]
    | a :: b :: r, hlen, HR, HB, HS =>
      have ha : a < 256 := HB.out a (by simp)
      have hb : b < 256 := HB.out b (by simp)
      have hn2 : 2 ≤ n' := by simp at hlen; omega
      obtain ⟨bb, off, rfl, hbb, hcc⟩ := HR.out.2 (by omega)
      have q0 : wr.cell? ⟨bb, off, none⟩ = some (.int .u8 (a : Int)) := by
        have h1 := hcc 0 (by omega)
        rw [Nat.add_zero] at h1
        rw [h1]
        rfl
      have q1 : wr.cell? ⟨bb, off + 1, none⟩ = some (.int .u8 (b : Int)) := by
        rw [hcc 1 (by omega)]
        rfl
      have hmin : min (2 : Int) (n' : Int) = 2 := by omega
      have hc1 : ∀ w, (Instr.slice 51 (.slice (some ⟨bb, off, none⟩) n' c') (some (.int .i64 2)) none none).run Try.prog w = _ := fun w => run_cut_l pel8 (some ⟨bb, off, none⟩) n' c' 2 (by omega) w
      have hc2 : ∀ w, (Instr.sliceAt 51 (.slice (some ⟨bb, off, none⟩) n' c') (some (.int .i64 2)) none none).run Try.prog w = _ := fun w => (run_sliceAt_slice w _ _ _ _ _ hu).trans (hc1 w)
      have HD := Lib.hid (show Rd wr wr.heap.size 1 (cutA (some ⟨bb, off, none⟩) c' 2 1) (n' - 2) (ns .u8 r) from HR.out.drop (k := 2) (by omega) HNC.out.1)
      obtain ⟨a2, ha2⟩ : ∃ a2, a2 = a * 256 := ⟨_, rfl⟩
      have e1 : (a : Int) * 256 = (a2 : Int) := by omega
      have v0 : IntKind.u32.wrap (a : Int) = (a : Int) := by rw [IntKind.wrap_u32]; omega
      have v1 : IntKind.u32.wrap ((a : Int) * 256) = (a2 : Int) := by rw [e1, IntKind.wrap_u32]; omega
      have v7 : IntKind.u32.wrap (b : Int) = (b : Int) := by rw [IntKind.wrap_u32]; omega
      have v2 : bits .or .u32 (a2 : Int) (b : Int) = ((a * 256 + b : Nat) : Int) := by rw [ha2]; exact two_or a b ha hb
      obtain ⟨m, hm⟩ : ∃ m, m = a * 256 + b := ⟨_, rfl⟩
      rw [← hm] at v2
      obtain ⟨s1, hs1⟩ : ∃ s1, s1 = x + m := ⟨_, rfl⟩
      have e2 : (x : Int) + (m : Int) = (s1 : Int) := by omega
      have v3 : IntKind.u32.wrap ((x : Int) + (m : Int)) = (s1 : Int) := by rw [e2, IntKind.wrap_u32]; omega
      obtain ⟨x2, hx2⟩ : ∃ x2, x2 = s1 % 65535 := ⟨_, rfl⟩
      have e3 : (s1 : Int).tmod 65535 = (x2 : Int) := by rw [hx2, Int.tmod_eq_emod_of_nonneg (by omega)]; omega
      have v4 : IntKind.u32.wrap (x2 : Int) = (x2 : Int) := by rw [IntKind.wrap_u32]; omega
      obtain ⟨s2, hs2⟩ : ∃ s2, s2 = y + x2 := ⟨_, rfl⟩
      have e4 : (y : Int) + (x2 : Int) = (s2 : Int) := by omega
      have v5 : IntKind.u32.wrap ((y : Int) + (x2 : Int)) = (s2 : Int) := by rw [e4, IntKind.wrap_u32]; omega
      obtain ⟨y2, hy2⟩ : ∃ y2, y2 = s2 % 65535 := ⟨_, rfl⟩
      have e5 : (s2 : Int).tmod 65535 = (y2 : Int) := by rw [hy2, Int.tmod_eq_emod_of_nonneg (by omega)]; omega
      have v6 : IntKind.u32.wrap (y2 : Int) = (y2 : Int) := by rw [IntKind.wrap_u32]; omega
      have hx2b : x2 < 65535 := by omega
      have hy2b : y2 < 65535 := by omega
      have HSN : Hid (sumF 0 0 l = sumF x2 y2 r) := Lib.hid (by rw [HS.out, hy2, hs2, hx2, hs1, hm]; rfl)
      have HBN : Hid (∀ x ∈ r, x < 256) := Lib.hid (fun z hz => HB.out z (by simp at hz ⊢; simp [hz]))
      have HNC2 : Hid (n' - 2 ≤ c' - 2 ∧ c' - 2 ≤ maxLen) := Lib.hid ⟨by have := HNC.out; omega, by have := HNC.out; omega⟩
      have EX := Lib.hid (show (x2 : Int) = ((x : Int) + ((a : Int) * 256 + (b : Int))) % 65535 by omega)
      have EY := Lib.hid (show (y2 : Int) = ((y : Int) + ((x : Int) + ((a : Int) * 256 + (b : Int))) % 65535) % 65535 by omega)
      have h1' : (1 : Int) < (n' : Int) := by omega
      have h0' : (0 : Int) < (n' : Int) := by omega
      have h0n : 0 < n' := by omega
      have h1n : 1 < n' := by omega
      generalize cutA (some ⟨bb, off, none⟩) c' 2 1 = A2 at *
      clear hu e1 e2 e4 ha2 hs1 hx2 hs2 hy2 hcc HS HB HR hlen HNC
      go_wp2_with fail
      go_roundw
      case rel => exact ⟨_, _, _, r, x2, y2, rfl, (by first | rfl | rw [EX.out]), (by first | rfl | rw [EY.out]), hx2b, hy2b, HNC2, HD, HBN, HSN, Lib.hid (by first | trivial | rfl)⟩
      case measure => simp [lenOf]; omega
end Go.Proofs.Ytcgcglngjfijnaa
