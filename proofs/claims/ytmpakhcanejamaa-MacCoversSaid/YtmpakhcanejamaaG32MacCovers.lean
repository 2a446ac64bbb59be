/- Package keys: keys of two drawn numbers. -/
import Derived.Test.YtmpakhcanejamaaG4MacCovers
import Derived.Test.YtmpakhcanejamaaG31MacCovers
import Derived.Test.YtmpakhcanejamaaUnd
import Derived.Test.YtmpakhcanejamaaG28MacCovers

namespace Go.Proofs.Ytmpakhcanejamaa
open Go.RowKit
set_option linter.unusedVariables false
set_option linter.unusedSimpArgs false
/-- A key that is made of bytes. -/
def kvA (k0 k1 : Nat) (l : List Nat) : Nat := sumB k0 k1 (1 :: l)
def kvB (k0 k1 : Nat) (l : List Nat) : Nat := sumB k0 k1 (2 :: l)
theorem sum_one (k0 k1 n c : Nat) (A : Option Addr) (l : List Nat) (w : World) (h0 : k0 < 18446744073709551616) (h1 : k1 < 18446744073709551616) (hp : Pts w w.heap.size A n [l]) (hnc : n ≤ c) (hn : [l].length = n) (hb : (l.all fun x => decide (x < 256)) = true) (hl : l.length ≤ 1000) :
    Calls Try.prog 75 #[.agg #[.int .u64 k0, .int .u64 k1], .slice A n c] w fun e w' => e = .returned (.int .u64 (sumB k0 k1 l : Nat)) ∧ Below w.heap.size w w' := by
  have hb' : ∀ bs ∈ [l], ∀ x ∈ bs, x < 256 := fun bs hbs x hx => by
    obtain rfl : bs = l := by simpa using hbs
    simpa using List.all_eq_true.1 hb x hx
  refine (sum_any k0 k1 n c A [l] w h0 h1 hp hnc (by simp at hn; omega) hb' (by simp; omega)).mono ?_
  rintro e w' ⟨rfl, hbl⟩
  rw [show [l].flatten = l by simp]
  exact ⟨rfl, hbl⟩
def tkn (c s : Nat) : Nat := sumB c s [116, 111, 107, 101, 110] % 4294967296
/-- The cells of a connection's keys. -/
def keyC (c s : Nat) : List Value := [.int .u64 (kvA c s [105, 100] : Nat), .int .u64 (kvB c s [105, 100] : Nat), .int .u64 (kvA c s [99, 108, 105, 101, 110, 116] : Nat), .int .u64 (kvB c s [99, 108, 105, 101, 110, 116] : Nat), .int .u64 (kvA c s [115, 101, 114, 118, 101, 114] : Nat), .int .u64 (kvB c s [115, 101, 114, 118, 101, 114] : Nat), .int .u64 (kvA c s [106, 111, 105, 110] : Nat), .int .u64 (kvB c s [106, 111, 105, 110] : Nat), .int .u32 (tkn c s : Nat)]
def keyV (c s : Nat) : Value := .agg (keyC c s).toArray
end Go.Proofs.Ytmpakhcanejamaa

/- A sum has 64 bits. -/
namespace Go.Proofs.Ytmpakhcanejamaa
open Go.RowKit
theorem fin4_lt (z : V4) (h : Ok z) : fin4 z < 18446744073709551616 := by
  obtain ⟨a, b, c, d⟩ := z
  obtain ⟨h1, h2, h3, h4⟩ := h
  unfold fin4
  exact xor_lt (xor_lt (xor_lt (xor_lt (by omega) h1) h2) h3) h4
theorem sfin_lt (v : V4) (l m : Nat) (h : OkS (v, l, m)) : sfin (v, l, m) < 18446744073709551616 := by
  obtain ⟨y, hy⟩ : ∃ y, y = l ||| (m * 2 ^ 56 % M64) := ⟨_, rfl⟩
  have h_y : y < 18446744073709551616 := by rw [hy]; exact or_lt h.2 (Nat.mod_lt _ (by decide))
  have e : sfin (v, l, m) = fin4 (rndN ((tk v y).1, (tk v y).2.1, (tk v y).2.2.1 ^^^ 255, (tk v y).2.2.2) 4) := by rw [hy]; rfl
  rw [e]
  have h1 : Ok (tk v y) := h.1.tk h_y
  generalize tk v y = z at h1 ⊢
  have h2 : Ok (z.1, z.2.1, z.2.2.1 ^^^ 255, z.2.2.2) := h1.x2 (m := 255) (by omega)
  generalize (z.1, z.2.1, z.2.2.1 ^^^ 255, z.2.2.2) = q at h2 ⊢
  exact fin4_lt _ (h2.rndN 4)
theorem sumB_lt (k0 k1 : Nat) (l : List Nat) (h0 : k0 < 18446744073709551616) (h1 : k1 < 18446744073709551616) : sumB k0 k1 l < 18446744073709551616 := by
  have h := (beg_ok k0 k1 h0 h1).addL l
  unfold sumB
  generalize saddL (beg k0 k1, 0, 0) l = s at h ⊢
  obtain ⟨v, x, m⟩ := s
  exact sfin_lt v x m h
theorem kvA_lt (k0 k1 : Nat) (l : List Nat) (h0 : k0 < 18446744073709551616) (h1 : k1 < 18446744073709551616) : kvA k0 k1 l < 18446744073709551616 := sumB_lt k0 k1 _ h0 h1
theorem kvB_lt (k0 k1 : Nat) (l : List Nat) (h0 : k0 < 18446744073709551616) (h1 : k1 < 18446744073709551616) : kvB k0 k1 l < 18446744073709551616 := sumB_lt k0 k1 _ h0 h1
end Go.Proofs.Ytmpakhcanejamaa

/- Layer 8: options' bytes are bytes, and not many. -/
namespace Go.Proofs.Ytmpakhcanejamaa
set_option linter.unusedVariables false
theorem keyW {k t : Nat} {a : Bool} (hk : q64 k) (ht : q64 t) : KeyIs 1 (keyB k t a) k (if a then t else 0) a := by
  cases a
  · exact ⟨rfl, rfl, hk, by show q64 0; unfold q64; omega, fun _ => rfl⟩
  · exact ⟨rfl, rfl, hk, ht, fun h => by cases h⟩
theorem joinW' {tk nc id t : Nat} {bk a : Bool} (h1 : q32 tk) (h2 : q32 nc) (h3 : id < 256) (ht : q64 t) : JoinIs 2 (joinB tk nc id bk a t) tk nc id bk a (if a then t else 0) := by
  cases a
  · exact ⟨rfl, rfl, h1, h2, h3, by show q64 0; unfold q64; omega, fun _ => rfl⟩
  · exact ⟨rfl, rfl, h1, h2, h3, ht, fun h => by cases h⟩
theorem tagB_byte (t : Nat) (a : Bool) : ∀ x ∈ tagB t a, x < 256 := by
  cases a
  · simp [tagB]
  · exact be_byte 8 t
theorem keyB_byte (k t : Nat) (a : Bool) : ∀ x ∈ keyB k t a, x < 256 := by
  intro x hx
  rcases List.mem_append.1 hx with h | h
  · exact be_byte 8 k x h
  · exact tagB_byte t a x h
theorem joinB_byte {tk nc id t : Nat} {bk a : Bool} (h : id < 256) : ∀ x ∈ joinB tk nc id bk a t, x < 256 := by
  intro x hx
  have hb := bitN_lt bk
  unfold joinB at hx
  simp only [List.mem_append, List.mem_cons] at hx
  rcases hx with hx | hx | hx | hx | hx
  · exact be_byte 4 tk x hx
  · exact be_byte 4 nc x hx
  · omega
  · omega
  · exact tagB_byte t a x hx
theorem dataB_byte (f p : Bool) (sq ak wn t : Nat) : ∀ x ∈ dataB f p sq ak wn t, x < 256 := by
  intro x hx
  have hf := bitN_lt f
  have hp := bitN_lt p
  unfold dataB at hx
  simp only [List.mem_append, List.mem_cons] at hx
  rcases hx with hx | hx | hx | hx | hx
  · omega
  · exact be_byte 8 sq x hx
  · exact be_byte 8 ak x hx
  · exact be_byte 4 wn x hx
  · exact be_byte 8 t x hx
theorem wordB_byte {nm id pa t : Nat} {bk : Bool} (h : id < 256) (h2 : pa < 256) : ∀ x ∈ wordB nm id pa bk t, x < 256 := by
  intro x hx
  have hb := bitN_lt bk
  unfold wordB at hx
  simp only [List.mem_append, List.mem_cons] at hx
  rcases hx with hx | hx | hx | hx | hx
  · exact be_byte 4 nm x hx
  · omega
  · omega
  · omega
  · exact be_byte 8 t x hx
theorem keyB_len (k t : Nat) (a : Bool) : (keyB k t a).length ≤ 10000 := by cases a <;> simp [keyB, tagB, be_len]
theorem joinB_len (tk nc id t : Nat) (bk a : Bool) : (joinB tk nc id bk a t).length ≤ 10000 := by cases a <;> simp [joinB, tagB, be_len]
theorem wordB_len (nm id pa t : Nat) (bk : Bool) : (wordB nm id pa bk t).length ≤ 10000 := by simp [wordB, be_len]
theorem dataB_len2 (f p : Bool) (sq ak wn t : Nat) : (dataB f p sq ak wn t).length ≤ 10000 := by simp [dataB, be_len]
end Go.Proofs.Ytmpakhcanejamaa
