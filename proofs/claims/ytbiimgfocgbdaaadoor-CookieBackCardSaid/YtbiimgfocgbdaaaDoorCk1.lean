/- Layer 30: sizes, epochs, and what a cookie is: mathematics, and sizeNumber, Size, epoch. -/
import Derived.Test.YtbiimgfocgbdaaaDoorProg
import Derived.Test.YtbiimgfocgbdaaaDoorLib
import Derived.Lib.LaidTab
import Derived.Laws.BitsAllLaws
namespace Go.Proofs.YtbiimgfocgbdaaaDoor
open Go.RowKit
set_option linter.unusedVariables false
set_option linter.unusedSimpArgs false
def ckTab : List Int := [1, 16, 64, 128, 256, 512, 768, 1024]
def ckSz (n : Nat) : Nat := [1, 16, 64, 128, 256, 512, 768, 1024].getD n 0
def ckDown (m : Int) : Nat → Nat
  | 0 => 0
  | n + 1 => if m < (ckSz (n + 1) : Int) then ckDown m n else n + 1
def ckNum (m : Int) : Nat := ckDown m 7
theorem ckDown_le (m : Int) : ∀ n, ckDown m n ≤ n := by
  intro n
  induction n with
  | zero => exact Nat.le_refl _
  | succ n ih => unfold ckDown; split <;> omega
theorem ckNum_le (m : Int) : ckNum m ≤ 7 := ckDown_le m 7
theorem ckDown_fits (m : Int) : ∀ n, ckDown m n = 0 ∨ (ckSz (ckDown m n) : Int) ≤ m := by
  intro n
  induction n with
  | zero => exact .inl rfl
  | succ n ih =>
    unfold ckDown
    split
    · exact ih
    · rename_i h; exact .inr (by omega)
theorem ckNum_fits (m : Int) : (ckSz (ckNum m) : Int) ≤ m ∨ ckSz (ckNum m) = 1 := by
  rcases ckDown_fits m 7 with h | h
  · exact .inr (by unfold ckNum; rw [h]; rfl)
  · exact .inl h
theorem ckSz_le {n : Nat} (h : n ≤ 7) : ckSz n ≤ 1024 := by
  match n, h with
  | 0, _ => decide
  | 1, _ => decide
  | 2, _ => decide
  | 3, _ => decide
  | 4, _ => decide
  | 5, _ => decide
  | 6, _ => decide
  | 7, _ => decide
  | n + 8, h => omega
/-- The epoch of a tick. -/
def ckEp (t : Int) : Nat := (max t 0 / 64 % 4294967296).toNat
theorem ckEp_lt (t : Int) : ckEp t < 4294967296 := by unfold ckEp; omega
/-- A cookie of an epoch, a size's number and a sum. -/
def ckMk (e n s : Nat) : Nat := (e % 32) * 134217728 + n * 16777216 + s % 16777216
theorem ckMk_lt {e n s : Nat} (hn : n < 8) : ckMk e n s < 4294967296 := by unfold ckMk; omega
theorem ckMk_size {e n s : Nat} (hn : n < 8) : ckMk e n s / 16777216 % 8 = n := by unfold ckMk; omega
theorem or_add (a b i K : Nat) (hK : K = 2 ^ i) (hb : b < K) : (a * K) ||| b = a * K + b := by
  subst hK
  rw [← Nat.shiftLeft_eq, ← Nat.shiftLeft_add_eq_or_of_lt hb]
set_option maxRecDepth 20000 in
theorem ck_or {e n s : Nat} (hn : n < 8) : ((e * 134217728 % 4294967296) ||| (n * 16777216 % 4294967296)) ||| (s % 16777216) = ckMk e n s := by
  have h1 : e * 134217728 % 4294967296 = (e % 32) * 134217728 := Nat.mul_mod_mul_right 134217728 e 32
  have h2 : n * 16777216 % 4294967296 = n * 16777216 := Nat.mod_eq_of_lt (by omega)
  have h3 : e % 32 * 134217728 + n * 16777216 = (e % 32 * 8 + n) * 16777216 := by omega
  have h4 : n * 16777216 < 134217728 := by omega
  have h5 : s % 16777216 < 16777216 := Nat.mod_lt _ (by decide)
  rw [h1, h2, or_add (e % 32) (n * 16777216) 27 134217728 rfl h4, h3, or_add _ _ 24 16777216 rfl h5, ← h3]
  rfl
/-- What is laid: the sizes. -/
def Tz (w : World) : Prop := ∀ i, i < 8 → w.cell? ⟨0, i, none⟩ = some (.int .i64 (ckSz i : Nat))
theorem Tz.lt {w : World} (h : Tz w) : 0 < w.heap.size := by
  have h0 := h 0 (by omega)
  rcases Nat.lt_or_ge 0 w.heap.size with hlt | hge
  · exact hlt
  · rw [World.cell?, Array.getElem?_eq_none hge] at h0
    cases h0
theorem Tz.below {w w' : World} (h : Tz w) (hb : Below w.heap.size w w') : Tz w' := fun i hi => (hb.cell (p := ⟨0, i, none⟩) h.lt).trans (h i hi)
theorem Tz.of {w : World} (h : Lib.TabIs Tryd.prog w "brougham/cookie.sizes" .i64 ckTab) : Tz w := by
  intro i hi
  have := Lib.TabIs.cell (g := 0) h (by kernel_rfl) i hi
  rw [this]
  match i, hi with
  | 0, _ => rfl
  | 1, _ => rfl
  | 2, _ => rfl
  | 3, _ => rfl
  | 4, _ => rfl
  | 5, _ => rfl
  | 6, _ => rfl
  | 7, _ => rfl
  | n + 8, h => omega
theorem sizeNumber_any (m : Int) (w : World) (hT : Tz w) :
    Calls Tryd.prog 10 #[.int .i64 m] w fun e w' => e = .returned (.int .u32 (ckNum m : Nat)) ∧ w' = w := by
  go_enter Tryd.func10, Tryd.ntmps10
  go_wp2_with fail
  go_loop [3] (fun v => ∃ i : Nat, i ≤ 7 ∧ v = .int .i64 (i : Nat) ∧ Hid (ckDown m 7 = ckDown m i)) (fun v => (intOf v).toNat)
  case atStart => exact ⟨7, by omega, rfl, Lib.hid rfl⟩
  case round =>
    obtain ⟨i, hi, rfl, hd⟩ := hrel
    cases i with
    | zero =>
      go_wp2_with fail
      go_ret
      have : ckNum m = 0 := by unfold ckNum; rw [hd.out]; rfl
      rw [this]
      exact ⟨rfl, rfl⟩
    | succ i =>
      have hc := hT (i + 1) (by omega)
      obtain ⟨z, hz⟩ : ∃ z, z = ckSz (i + 1) := ⟨_, rfl⟩
      rw [← hz] at hc
      have hp : (0 : Int) < ((i + 1 : Nat) : Int) := by omega
      by_cases hlt : m < (z : Int)
      · have hk : ckDown m (i + 1) = ckDown m i := by rw [ckDown, ← hz, if_pos hlt]
        go_wp2_with fail
        go_round
        case rel => exact ⟨i, by omega, by go_num, Lib.hid (hd.out.trans hk)⟩
        case measure => simp [intOf]
      · have hk : ckDown m (i + 1) = i + 1 := by rw [ckDown, ← hz, if_neg hlt]
        have hn : ckNum m = i + 1 := by unfold ckNum; rw [hd.out, hk]
        go_wp2_with fail
        go_ret
        have hn' : ((ckNum m : Nat) : Int) = (i : Int) + 1 := by rw [hn]; rfl
        exact ⟨by first | rfl | (rw [hn']; rfl), rfl⟩
theorem size_any (m : Int) (w : World) (hT : Tz w) :
    Calls Tryd.prog 6 #[.int .i64 m] w fun e w' => e = .returned (.int .i64 (ckSz (ckNum m) : Nat)) ∧ w' = w := by
  go_enter Tryd.func6, Tryd.ntmps6
  go_wp2_with fail
  refine (sizeNumber_any m w hT).mono ?_
  rintro e w1 ⟨rfl, rfl⟩
  have hn := ckNum_le m
  have hc := hT (ckNum m) (by omega)
  obtain ⟨z, hz⟩ : ∃ z, z = ckSz (ckNum m) := ⟨_, rfl⟩
  rw [← hz] at hc
  have HZ := Lib.hid hz
  clear hz
  go_wp2_with fail
  go_ret
  exact ⟨by rw [← HZ.out]; rfl, rfl⟩
theorem epoch_any (t : Int) (w : World) (h0 : -9223372036854775808 ≤ t) (h1 : t < 9223372036854775808) :
    Calls Tryd.prog 9 #[.int .i64 t] w fun e w' => e = .returned (.int .u32 (ckEp t : Nat)) ∧ w' = w := by
  have hv : ((ckEp t : Nat) : Int) = if 0 ≤ t then t / 64 % 4294967296 else 0 := by
    unfold ckEp
    split <;> omega
  go_enter Tryd.func9, Tryd.ntmps9
  by_cases ht : 0 ≤ t
  · rw [if_pos ht] at hv
    go_wp2_with fail
    all_goals go_ret
    all_goals exact ⟨by first | rfl | (rw [hv]; rfl) | (rw [hv]), rfl⟩
  · rw [if_neg ht] at hv
    go_wp2_with fail
    all_goals go_ret
    all_goals exact ⟨by first | rfl | (rw [hv]; rfl) | (rw [hv]), rfl⟩
end Go.Proofs.YtbiimgfocgbdaaaDoor
