/- Layer 15: what becomes of a segment, as numbers. -/
import Derived.Test.YtllahldgkpbpoaaSer2
import Derived.Test.YtllahldgkpbpoaaBlkS
namespace Go.Proofs.Ytllahldgkpbpoaa
open Go.RowKit
set_option linter.unusedVariables false
set_option linter.unusedSimpArgs false
/-- A flag of a segment: 1, 2 or 4. -/
def hasB (fl k : Nat) : Bool := fl / k % 2 == 1
theorem has1 {fl : Nat} (h : fl < 256) : (bits BinOp.and IntKind.u8 (fl : Int) 1 != 0) = hasB fl 1 := by
  have : ∀ x : Fin 256, (bits BinOp.and IntKind.u8 (x.val : Int) 1 != 0) = hasB x.val 1 := by decide +kernel
  exact this ⟨fl, h⟩
theorem rhas1 {fl : Nat} (h : fl < 256) : ((fl : Int) % 2 == 1) = hasB fl 1 := by
  have : ∀ x : Fin 256, ((x.val : Int) % 2 == 1) = hasB x.val 1 := by decide +kernel
  exact this ⟨fl, h⟩
theorem has2 {fl : Nat} (h : fl < 256) : (bits BinOp.and IntKind.u8 (fl : Int) 2 != 0) = hasB fl 2 := by
  have : ∀ x : Fin 256, (bits BinOp.and IntKind.u8 (x.val : Int) 2 != 0) = hasB x.val 2 := by decide +kernel
  exact this ⟨fl, h⟩
theorem rhas2 {fl : Nat} (h : fl < 256) : ((fl : Int) / 2 % 2 == 1) = hasB fl 2 := by
  have : ∀ x : Fin 256, ((x.val : Int) / 2 % 2 == 1) = hasB x.val 2 := by decide +kernel
  exact this ⟨fl, h⟩
theorem has4 {fl : Nat} (h : fl < 256) : (bits BinOp.and IntKind.u8 (fl : Int) 4 != 0) = hasB fl 4 := by
  have : ∀ x : Fin 256, (bits BinOp.and IntKind.u8 (x.val : Int) 4 != 0) = hasB x.val 4 := by decide +kernel
  exact this ⟨fl, h⟩
theorem rhas4 {fl : Nat} (h : fl < 256) : ((fl : Int) / 4 % 2 == 1) = hasB fl 4 := by
  have : ∀ x : Fin 256, ((x.val : Int) / 4 % 2 == 1) = hasB x.val 4 := by decide +kernel
  exact this ⟨fl, h⟩
/-- A path's numbers. -/
structure Nm where
  st : Int
  fst : Int
  ak : Int
  nx : Int
  wt : Int
structure Nm.ok (n : Nm) : Prop where
  st : (Lit.int .i64 n.st).wf = true
  fst : U32 n.fst
  ak : U32 n.ak
  nx : U32 n.nx
  wt : U32 n.wt
def Nm.cs (n : Nm) : Array Value := #[.int .i64 n.st, .int .u32 n.fst, .int .u32 n.ak, .int .u32 n.nx, .int .u32 n.wt]
/-- A segment's cells; what its slices lead to does not matter. -/
structure Sj where
  p : Int
  q : Int
  seq : Int
  ack : Int
  fl : Nat
  A : Option Addr
  n : Nat
  c : Nat
  D : Option Addr
  m : Nat
  d : Nat
structure Sj.ok (s : Sj) : Prop where
  seq : U32 s.seq
  ack : U32 s.ack
  fl : s.fl < 256
def Sj.cs (s : Sj) : Array Value := #[.int .u16 s.p, .int .u16 s.q, .int .u32 s.seq, .int .u32 s.ack, .int .u8 (s.fl : Nat), .slice s.A s.n s.c, .slice s.D s.m s.d]
def ackB (n : Nm) (a : Int) : Bool := btw a n.ak n.nx || wi n.ak a 1048576
def nearB (n : Nm) (s : Sj) : Bool := wi s.seq n.wt 1048576 || wi n.wt s.seq 1048576
def fitsB (n : Nm) (s : Sj) (sd : Bool) : Bool := sd && (s.fl == 2) && nearB n s && ackB n s.ack
def passV (b : Bool) : Nat := if b then 1 else 2
def openV (n : Nm) (s : Sj) : Nat :=
  if !(hasB s.fl 2 && decide (s.ack = (n.fst + 1) % 4294967296)) then (if s.fl = 2 then 5 else 2) else if hasB s.fl 4 then 4 else passV (hasB s.fl 1)
def halfV (n : Nm) (s : Sj) (sd : Bool) : Nat :=
  if hasB s.fl 4 then (if s.seq = n.wt then 4 else 2) else if hasB s.fl 1 then passV ((s.fl == 1) && decide ((s.seq + 1) % 4294967296 = n.wt)) else passV (fitsB n s sd)
def upV (n : Nm) (s : Sj) (sd : Bool) : Nat :=
  if hasB s.fl 4 then (if s.seq = n.wt then 4 else if wi s.seq n.wt 1048576 then 3 else 2) else if hasB s.fl 1 then 3 else passV (fitsB n s sd)
def judgeV (n : Nm) (s : Sj) (sd : Bool) : Nat :=
  if n.st = 1 then openV n s else if n.st = 2 then halfV n s sd else if n.st = 3 then upV n s sd else 2
theorem judgeV_lt (n : Nm) (s : Sj) (sd : Bool) : judgeV n s sd < 6 := by
  unfold judgeV openV halfV upV passV
  (repeat' split) <;> omega
theorem wi_self {a : Int} (h : U32 a) : wi a a 1048576 = true := by unfold wi rd; simp
theorem flOne {fl : Nat} (h : fl < 256) (h1 : hasB fl 2 = false) : fl ≠ 2 := by
  intro e; subst e; exact absurd h1 (by decide)
/-- The blind one: nothing of what isn't sealed is looked at. -/
theorem blind_pass (n : Nm) (s : Sj) (h : n.st = 3) : judgeV n s false ≠ 1 := by
  unfold judgeV upV
  rw [if_neg (by omega), if_neg (by omega), if_pos h]
  have : fitsB n s false = false := by unfold fitsB; rfl
  rw [this]
  unfold passV
  (repeat' split) <;> simp_all
theorem hasB4 (fl : Nat) (h : fl < 8) : hasB fl 4 = true ↔ 4 ≤ fl := by
  have : ∀ x : Fin 8, hasB x.val 4 = true ↔ 4 ≤ x.val := by decide
  exact this ⟨fl, h⟩
theorem blind_remove (n : Nm) (s : Sj) (h : n.st = 3) (hf : s.fl < 8) : judgeV n s false = 4 ↔ (4 ≤ s.fl ∧ s.fl < 8 ∧ s.seq = n.wt) := by
  unfold judgeV upV
  rw [if_neg (by omega), if_neg (by omega), if_pos h]
  have : fitsB n s false = false := by unfold fitsB; rfl
  rw [this]
  have h4 := hasB4 s.fl hf
  unfold passV
  by_cases hh : hasB s.fl 4 = true
  · rw [if_pos hh]
    have := h4.1 hh
    by_cases e : s.seq = n.wt
    · rw [if_pos e]; simp [this, hf, e]
    · rw [if_neg e]; split <;> simp [e]
  · rw [if_neg hh]
    have : ¬ 4 ≤ s.fl := fun c => hh (h4.2 c)
    split <;> simp [this]
/-- All moved by the same way round. -/
def Nm.mv (n : Nm) (a b : Int) : Nm := ⟨n.st, (n.fst + a) % 4294967296, (n.ak + a) % 4294967296, (n.nx + a) % 4294967296, (n.wt + b) % 4294967296⟩
def Sj.mv (s : Sj) (a b : Int) : Sj := { s with seq := (s.seq + b) % 4294967296, ack := (s.ack + a) % 4294967296 }
theorem rd_mv (f x a : Int) : rd ((f + a) % 4294967296) ((x + a) % 4294967296) = rd f x := by unfold rd; omega
theorem rd_mv1 (f x a : Int) : rd (((f + a) % 4294967296 + 1) % 4294967296) ((x + a) % 4294967296) = rd ((f + 1) % 4294967296) x := by unfold rd; omega
theorem sd_mv (f x a : Int) : sd ((f + a) % 4294967296) ((x + a) % 4294967296) = sd f x := by unfold sd; omega
theorem wi_mv (f x a k : Int) : wi ((f + a) % 4294967296) ((x + a) % 4294967296) k = wi f x k := by unfold wi; rw [rd_mv]
theorem btw_mv (x f t a : Int) : btw ((x + a) % 4294967296) ((f + a) % 4294967296) ((t + a) % 4294967296) = btw x f t := by unfold btw; rw [sd_mv, rd_mv1, rd_mv]
theorem eq_mv {x y a : Int} (hx : U32 x) (hy : U32 y) : ((x + a) % 4294967296 = (y + a) % 4294967296) = (x = y) := by
  obtain ⟨x0, x1⟩ := hx
  obtain ⟨y0, y1⟩ := hy
  exact propext ⟨fun h => by omega, fun h => by rw [h]⟩
theorem eq_mv1 {x y a : Int} (hx : U32 x) (hy : U32 y) : ((x + a) % 4294967296 = ((y + a) % 4294967296 + 1) % 4294967296) = (x = (y + 1) % 4294967296) := by
  obtain ⟨x0, x1⟩ := hx
  obtain ⟨y0, y1⟩ := hy
  exact propext ⟨fun h => by omega, fun h => by omega⟩
theorem eq_mv2 {x y a : Int} (hx : U32 x) (hy : U32 y) : (((x + a) % 4294967296 + 1) % 4294967296 = (y + a) % 4294967296) = ((x + 1) % 4294967296 = y) := by
  obtain ⟨x0, x1⟩ := hx
  obtain ⟨y0, y1⟩ := hy
  exact propext ⟨fun h => by omega, fun h => by omega⟩
theorem judge_mv (n : Nm) (s : Sj) (sd : Bool) (a b : Int) (hn : n.ok) (hs : s.ok) : judgeV (n.mv a b) (s.mv a b) sd = judgeV n s sd := by
  have e1 := eq_mv1 (a := a) hs.ack hn.fst
  have e2 := eq_mv (a := b) hs.seq hn.wt
  have e3 := eq_mv2 (a := b) hs.seq hn.wt
  simp only [judgeV, openV, halfV, upV, fitsB, nearB, ackB, Nm.mv, Sj.mv, wi_mv, btw_mv, e1, e2, e3]
  congr
end Go.Proofs.Ytllahldgkpbpoaa
