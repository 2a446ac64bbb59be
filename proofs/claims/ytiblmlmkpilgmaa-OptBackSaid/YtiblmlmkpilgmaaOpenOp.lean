/- Layer 8: one of each option, as an argument. -/
import Derived.Test.YtiblmlmkpilgmaaOpM
import Derived.Test.YtiblmlmkpilgmaaOpenN
import Derived.Test.YtiblmlmkpilgmaaOpenSg
namespace Go.Proofs.Ytiblmlmkpilgmaa
open Go.RowKit Go.ChangeShapes Go.WideShapes Go.ChangeAt
set_option linter.unusedVariables false
set_option linter.unusedSimpArgs false

structure OA where
  kk : Nat
  ka : Bool
  kt : Nat
  tk : Nat
  nc : Nat
  id : Nat
  bk : Bool
  ja : Bool
  jt : Nat
  f : Bool
  p : Bool
  sq : Nat
  ak : Nat
  wn : Nat
  dt : Nat
  kd : Nat
  nm : Nat
  wi : Nat
  pa : Nat
  wb : Bool
  wt : Nat
def OA.cs (x : OA) : Array Value := #[.int .u64 (x.kk : Int), .bool x.ka, .int .u64 (x.kt : Int), .int .u32 (x.tk : Int), .int .u32 (x.nc : Int), .int .u8 (x.id : Int), .bool x.bk, .bool x.ja, .int .u64 (x.jt : Int), .bool x.f, .bool x.p, .int .u64 (x.sq : Int), .int .u64 (x.ak : Int), .int .u32 (x.wn : Int), .int .u64 (x.dt : Int), .int .u8 (x.kd : Int), .int .u32 (x.nm : Int), .int .u8 (x.wi : Int), .int .u8 (x.pa : Int), .bool x.wb, .int .u64 (x.wt : Int)]
structure OA.bd (x : OA) : Prop where
  hkk : q64 x.kk
  hkt : q64 x.kt
  htk : q32 x.tk
  hnc : q32 x.nc
  hid : x.id < 256
  hjt : q64 x.jt
  hsq : q64 x.sq
  hak : q64 x.ak
  hwn : q32 x.wn
  hdt : q64 x.dt
  hkd : x.kd < 256
  hnm : q32 x.nm
  hwi : x.wi < 256
  hpa : x.pa < 256
  hwt : q64 x.wt
section
variable {H : Type} {enc : TypeId × Value → H} {w : World} {held : Bool}
theorem open_all {cs : Array Value} {d : DataW H} {ps : List MemPlace} (h : DataW.Trod enc Try.prog w 0 (fun _ => true) held 35 (.agg cs) d ps) : ∃ q : OA, cs = q.cs ∧ q.bd := by
  obtain ⟨⟨⟨kk, ka, kt⟩, ⟨tk, nc, id, bk, ja, jt⟩, ⟨f, p, sq, ak, wn, dt⟩, kd, nm, wi, pa, wb, wt⟩, h1, ⟨k1, _, k2⟩, ⟨k3, k4, k5, _, _, k6⟩, ⟨_, _, k7, k8, k9, k10⟩, k11, k12, k13, k14, _, k15⟩ := open_agg (opens_z_3_6_6_6 (enc := enc) (w := w) (held := held) Try.underlying35 (by kernel_rfl) rfl (by kernel_rfl) (opens_z_1_1_1 (enc := enc) (w := w) (held := held) Try.underlying26 (by kernel_rfl) rfl (by kernel_rfl) (opens_u64 Try.underlying22) rfl (by kernel_rfl) (opens_bool Try.underlying4) rfl (by kernel_rfl) (opens_z_1 Try.underlying24 (by kernel_rfl) rfl (by kernel_rfl) (opens_u64 Try.underlying22))) rfl (by kernel_rfl) (opens_z_1_1_1_1_1_1 (enc := enc) (w := w) (held := held) Try.underlying29 (by kernel_rfl) rfl (by kernel_rfl) (opens_u32 Try.underlying27) rfl (by kernel_rfl) (opens_u32 Try.underlying27) rfl (by kernel_rfl) (opens_u8 Try.underlying5) rfl (by kernel_rfl) (opens_bool Try.underlying4) rfl (by kernel_rfl) (opens_bool Try.underlying4) rfl (by kernel_rfl) (opens_z_1 Try.underlying24 (by kernel_rfl) rfl (by kernel_rfl) (opens_u64 Try.underlying22))) rfl (by kernel_rfl) (opens_z_1_1_1_1_1_1 (enc := enc) (w := w) (held := held) Try.underlying31 (by kernel_rfl) rfl (by kernel_rfl) (opens_bool Try.underlying4) rfl (by kernel_rfl) (opens_bool Try.underlying4) rfl (by kernel_rfl) (opens_u64 Try.underlying22) rfl (by kernel_rfl) (opens_u64 Try.underlying22) rfl (by kernel_rfl) (opens_u32 Try.underlying27) rfl (by kernel_rfl) (opens_z_1 Try.underlying24 (by kernel_rfl) rfl (by kernel_rfl) (opens_u64 Try.underlying22))) rfl (by kernel_rfl) (opens_z_1_1_1_1_1_1 (enc := enc) (w := w) (held := held) Try.underlying33 (by kernel_rfl) rfl (by kernel_rfl) (opens_u8 Try.underlying5) rfl (by kernel_rfl) (opens_u32 Try.underlying27) rfl (by kernel_rfl) (opens_u8 Try.underlying5) rfl (by kernel_rfl) (opens_u8 Try.underlying5) rfl (by kernel_rfl) (opens_bool Try.underlying4) rfl (by kernel_rfl) (opens_z_1 Try.underlying24 (by kernel_rfl) rfl (by kernel_rfl) (opens_u64 Try.underlying22)))) h
  refine ⟨⟨kk, ka, kt, tk, nc, id, bk, ja, jt, f, p, sq, ak, wn, dt, kd, nm, wi, pa, wb, wt⟩, ?_, ⟨k1, k2, k3, k4, k5, k6, k7, k8, k9, k10, k11, k12, k13, k14, k15⟩⟩
  rw [← Array.toArray_toList (xs := cs), h1]
  rfl
theorem open_option {cs : Array Value} {d : DataW H} {ps : List MemPlace} (h : DataW.Trod enc Try.prog w 0 (fun _ => true) held 39 (.agg cs) d ps) : ∃ q : Ob, cs = (oel q).toArray ∧ q.1 < 256 ∧ Body.ok w q.2 := by
  obtain ⟨q, h1, h2⟩ := open_agg opens_option h
  refine ⟨q, ?_, h2⟩
  rw [← Array.toArray_toList (xs := cs), h1]
end
end Go.Proofs.Ytiblmlmkpilgmaa
