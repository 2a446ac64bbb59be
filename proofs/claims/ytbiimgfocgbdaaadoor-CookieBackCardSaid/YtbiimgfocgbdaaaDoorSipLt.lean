/- A sum has 64 bits. -/
import Derived.Test.YtbiimgfocgbdaaaDoorKy1
namespace Go.Proofs.YtbiimgfocgbdaaaDoor
open Go.RowKit
theorem fin4_lt (z : V4) (h : Ok z) : fin4 z < 18446744073709551616 := by
  obtain ⟨a, b, c, d⟩ := z
  obtain ⟨h1, h2, h3, h4⟩ := h
  unfold fin4
  exact xor_lt (xor_lt (xor_lt (xor_lt (by omega) h1) h2) h3) h4
theorem sfin_lt (v : V4) (l m : Nat) (h : OkS (v, l, m)) : sfin (v, l, m) < 18446744073709551616 := by
  obtain ⟨y, hy⟩ : ∃ y, y = l ||| (m * 2 ^ 56 % M64) := ⟨_, rfl⟩
  have h_y : y < 18446744073709551616 := by rw [hy]; exact or_lt h.2 (Nat.mod_lt _ (by decide))
  have e : sfin (v, l, m) = fin4 (rndN ((tk v y).1, (tk v y).2.1, (tk v y).2.2.1 ^^^ 255, (tk v y).2.2.2) 4) := by rw [hy]; rfl
  rw [e]
  have h1 : Ok (tk v y) := h.1.tk h_y
  generalize tk v y = z at h1 ⊢
  have h2 : Ok (z.1, z.2.1, z.2.2.1 ^^^ 255, z.2.2.2) := h1.x2 (m := 255) (by omega)
  generalize (z.1, z.2.1, z.2.2.1 ^^^ 255, z.2.2.2) = q at h2 ⊢
  exact fin4_lt _ (h2.rndN 4)
theorem sumB_lt (k0 k1 : Nat) (l : List Nat) (h0 : k0 < 18446744073709551616) (h1 : k1 < 18446744073709551616) : sumB k0 k1 l < 18446744073709551616 := by
  have h := (beg_ok k0 k1 h0 h1).addL l
  unfold sumB
  generalize saddL (beg k0 k1, 0, 0) l = s at h ⊢
  obtain ⟨v, x, m⟩ := s
  exact sfin_lt v x m h
theorem kvA_lt (k0 k1 : Nat) (l : List Nat) (h0 : k0 < 18446744073709551616) (h1 : k1 < 18446744073709551616) : kvA k0 k1 l < 18446744073709551616 := sumB_lt k0 k1 _ h0 h1
theorem kvB_lt (k0 k1 : Nat) (l : List Nat) (h0 : k0 < 18446744073709551616) (h1 : k1 < 18446744073709551616) : kvB k0 k1 l < 18446744073709551616 := sumB_lt k0 k1 _ h0 h1
end Go.Proofs.YtbiimgfocgbdaaaDoor
