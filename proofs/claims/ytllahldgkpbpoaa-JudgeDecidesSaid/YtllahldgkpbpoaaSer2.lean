/- Contract of Wide, the program's and the reference's. -/
import Derived.Test.YtllahldgkpbpoaaSer
namespace Go.Proofs.Ytllahldgkpbpoaa
open Go.RowKit
set_option linter.unusedVariables false

def U64 (a : Int) : Prop := 0 ≤ a ∧ a < 18446744073709551616
/-- The number nearest to one whose lowest bits are these. -/
def wd (n l : Int) : Int :=
  if 18446744073709551616 ≤ n + (l - n) % 4294967296 then n + (l - n) % 4294967296 - 4294967296 else if n + (l - n) % 4294967296 < 4294967296 then n + (l - n) % 4294967296
  else if 2147483648 < (l - n) % 4294967296 then n + (l - n) % 4294967296 - 4294967296 else n + (l - n) % 4294967296

def fa (a b : Int) : Int := if b < a then a - b else b - a
def pk (n b x : Int) : Int := if fa x n < fa b n ∨ (fa x n = fa b n ∧ b < x) then x else b
def w0 (n l : Int) : Int := n / 4294967296 * 4294967296 + l
def w1 (n l : Int) : Int := if n / 4294967296 = 4294967295 then w0 n l else pk n (w0 n l) ((n / 4294967296 + 1) * 4294967296 + l)
def w2 (n l : Int) : Int := if n / 4294967296 = 0 then w1 n l else pk n (w1 n l) ((n / 4294967296 - 1) * 4294967296 + l)
theorem w2_wd (n l : Int) (hn : U64 n) (hl : U32 l) : w2 n l = wd n l := by
  obtain ⟨n0, n1⟩ := hn
  obtain ⟨l0, l1⟩ := hl
  unfold w2 w1 wd pk w0 fa
  obtain ⟨q, hq⟩ : ∃ q, q = n / 4294967296 := ⟨_, rfl⟩
  obtain ⟨r, hr⟩ : ∃ r, r = n % 4294967296 := ⟨_, rfl⟩
  have hnq : n = 4294967296 * q + r := by omega
  rw [← hq]
  (repeat' split) <;> omega
theorem w0_u64 (n l : Int) (hn : U64 n) (hl : U32 l) : U64 (w0 n l) := by
  obtain ⟨n0, n1⟩ := hn
  obtain ⟨l0, l1⟩ := hl
  unfold w0 U64
  omega
theorem w1_u64 (n l : Int) (hn : U64 n) (hl : U32 l) : U64 (w1 n l) := by
  have h0 := w0_u64 n l hn hl
  obtain ⟨n0, n1⟩ := hn
  obtain ⟨l0, l1⟩ := hl
  unfold w1
  split
  · exact h0
  · unfold pk
    split
    · unfold U64; omega
    · exact h0
end Go.Proofs.Ytllahldgkpbpoaa
