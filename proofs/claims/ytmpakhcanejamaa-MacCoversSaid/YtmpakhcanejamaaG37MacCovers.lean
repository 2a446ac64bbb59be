/- Layer 8: a key, as it is read. -/
import Derived.Test.YtmpakhcanejamaaG35MacCovers
import Derived.Test.YtmpakhcanejamaaOrd

namespace Go.Proofs.Ytmpakhcanejamaa
open Go.RowKit
set_option linter.unusedVariables false
/-- What ParseKey answers. -/
def KeyPost (kd : Nat) (lb : List Nat) (e : Ending) : Prop :=
  (∃ (k t : Nat) (a : Bool), e = .returned (.tuple #[.agg #[.int .u64 (k : Int), .bool a, .int .u64 (t : Int)], .bool true]) ∧ KeyIs kd lb k t a) ∨ (e = .returned (.tuple #[.agg #[.int .u64 0, .bool false, .int .u64 0], .bool false]) ∧ ∀ (k t : Nat) (a : Bool), ¬ KeyIs kd lb k t a)
theorem KeyPost.no {kd : Nat} {lb : List Nat} (h : ∀ (k t : Nat) (a : Bool), ¬ KeyIs kd lb k t a) : KeyPost kd lb (.returned (.tuple #[.agg #[.int .u64 0, .bool false, .int .u64 0], .bool false])) := .inr ⟨rfl, h⟩
end Go.Proofs.Ytmpakhcanejamaa

/- Layer 8: a join, as it is read. -/
namespace Go.Proofs.Ytmpakhcanejamaa
open Go.RowKit
set_option linter.unusedVariables false
/-- What ParseJoin answers. -/
def JoinPost (kd : Nat) (lb : List Nat) (e : Ending) : Prop :=
  (∃ (tk nc id : Nat) (bk a : Bool) (t : Nat), e = .returned (.tuple #[.agg #[.int .u32 (tk : Int), .int .u32 (nc : Int), .int .u8 (id : Int), .bool bk, .bool a, .int .u64 (t : Int)], .bool true]) ∧ JoinIs kd lb tk nc id bk a t) ∨ (e = .returned (.tuple #[.agg #[.int .u32 0, .int .u32 0, .int .u8 0, .bool false, .bool false, .int .u64 0], .bool false]) ∧ ∀ (tk nc id : Nat) (bk a : Bool) (t : Nat), ¬ JoinIs kd lb tk nc id bk a t)
theorem JoinPost.no {kd : Nat} {lb : List Nat} (h : ∀ (tk nc id : Nat) (bk a : Bool) (t : Nat), ¬ JoinIs kd lb tk nc id bk a t) : JoinPost kd lb (.returned (.tuple #[.agg #[.int .u32 0, .int .u32 0, .int .u8 0, .bool false, .bool false, .int .u64 0], .bool false])) := .inr ⟨rfl, h⟩
end Go.Proofs.Ytmpakhcanejamaa
