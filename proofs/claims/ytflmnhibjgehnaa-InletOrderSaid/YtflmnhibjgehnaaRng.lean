/- Contracts of package ring that only read. -/
import Derived.Test.YtflmnhibjgehnaaCpy
import Derived.Test.YtflmnhibjgehnaaRows
import Derived.OwnWalk
import Derived.BigQuiet
import Derived.Deep.QuietTactic
import Derived.RegionTactic
import Derived.ChangeAlike
namespace Go.Proofs.Ytflmnhibjgehnaa
open Go.RowKit
set_option linter.unusedVariables false

/-- A ring in memory. -/
structure RI (w : World) (g p size first there : Nat) (m : List Nat) : Prop where
  blk : Blk w g 62 #[.slice (some ⟨p, 0, none⟩) size size, .int .i64 (first : Int), .int .i64 (there : Int)]
  mem : Mem w p 5 .u8 m
  len : m.length = size
  fs : first < size
  ts : there ≤ size
  sz : size ≤ 65536
  ne : g ≠ p
section
variable {w w' : World} {g p size first there : Nat} {m : List Nat}
theorem RI.c0 (h : RI w g p size first there m) : w.cell? ⟨g, 0, none⟩ = some (.slice (some ⟨p, 0, none⟩) size size) := by rw [h.blk.cell]; rfl
theorem RI.c1 (h : RI w g p size first there m) : w.cell? ⟨g, 1, none⟩ = some (.int .i64 (first : Int)) := by rw [h.blk.cell]; rfl
theorem RI.c2 (h : RI w g p size first there m) : w.cell? ⟨g, 2, none⟩ = some (.int .i64 (there : Int)) := by rw [h.blk.cell]; rfl
theorem RI.drewN (h : RI w g p size first there m) (n : Nat) : RI (w.drewN n) g p size first there m := ⟨h.blk, h.mem, h.len, h.fs, h.ts, h.sz, h.ne⟩
theorem RI.drew (h : RI w g p size first there m) : RI w.drew g p size first there m := ⟨h.blk, h.mem, h.len, h.fs, h.ts, h.sz, h.ne⟩
theorem RI.alloc (h : RI w g p size first there m) (o : Obj) : RI (w.alloc o) g p size first there m := ⟨h.blk.alloc o, h.mem.alloc o, h.len, h.fs, h.ts, h.sz, h.ne⟩
theorem RI.below {B : Nat} (h : RI w g p size first there m) (hb : Below B w w') (hg : g < B) (hp : p < B) : RI w' g p size first there m := ⟨h.blk.below hb hg, h.mem.below hb hp, h.len, h.fs, h.ts, h.sz, h.ne⟩
end
theorem size_any (g p size first there : Nat) (m : List Nat) (w : World) (h : RI w g p size first there m) :
    Calls Try.prog 30 #[.pointer (some ⟨g, 0, none⟩)] w fun e w' => e = .returned (.int .i64 (size : Int)) ∧ w' = w := by
  have c0 := h.c0
  have hs := h.sz
  clear h
  go_enter Try.func30, Try.ntmps30
  go_wp2_with fail
  go_ret
  exact ⟨rfl, rfl⟩
theorem len_any (g p size first there : Nat) (m : List Nat) (w : World) (h : RI w g p size first there m) :
    Calls Try.prog 23 #[.pointer (some ⟨g, 0, none⟩)] w fun e w' => e = .returned (.int .i64 (there : Int)) ∧ w' = w := by
  have c2 := h.c2
  clear h
  go_enter Try.func23, Try.ntmps23
  go_wp2_with fail
  go_ret
  exact ⟨rfl, rfl⟩
theorem free_any (g p size first there : Nat) (m : List Nat) (w : World) (h : RI w g p size first there m) :
    Calls Try.prog 57 #[.pointer (some ⟨g, 0, none⟩)] w fun e w' => e = .returned (.int .i64 ((size - there : Nat) : Int)) ∧ ∃ n, w' = w.drewN n := by
  have c2 := h.c2
  have hs := h.sz
  have ht := h.ts
  have HS := fun w' (hx : ∃ n, w' = World.drewN w n) => size_any g p size first there m w' (by obtain ⟨n, rfl⟩ := hx; exact h.drewN n)
  have HH := Lib.hid h
  clear h HS
  go_enter Try.func57, Try.ntmps57
  go_wp2_with fail
  go_quiet ((go_at_call 30; exact Calls.quiet_of_same (size_any g p size first there m _ (by exact HH.out.drewN _))))
  go_wp2
  go_ret
  exact ⟨ret_int (by omega), _, rfl⟩
end Go.Proofs.Ytflmnhibjgehnaa
