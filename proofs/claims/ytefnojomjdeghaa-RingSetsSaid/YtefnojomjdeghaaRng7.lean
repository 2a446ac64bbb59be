/- Layer 5: the chapter's example. -/
import Derived.Test.YtefnojomjdeghaaRng6
import Derived.Test.YtefnojomjdeghaaOpen
import Derived.Lib.SlBytesConst
import Derived.Laws.IdiomStrings
namespace Go.Proofs.Ytefnojomjdeghaa
open Go.RowKit
set_option linter.unusedVariables false
/-- A constant as bytes, just made. -/
theorem Rd.litm {w : World} {k : IntKind} {n : Nat} {t : TypeId} {cs : Array Value} {fr : Nat × Nat} (l : List Nat) (hc : cs.toList = ns k l) (hn : n = l.length) : Rd (w.alloc (.cells cs t fr)) (w.heap.size + 1) 1 (some ⟨w.heap.size, 0, none⟩) n (ns k l) := by
  subst hn
  refine ⟨by simp [ns], fun _ => ⟨_, _, rfl, by omega, fun j hj => ?_⟩⟩
  rw [Nat.zero_add, World.cell?_alloc_mark, ← hc]
  simp
set_option maxRecDepth 20000 in
theorem alive05 (w : World) : Calls Try.prog 10 #[] w fun e w' => e = .returned (.bool true) ∧ Below w.heap.size w w' := by
  have kc := fun (w : World) (C : Array Value) (n c : Nat) => Lib.run_convert_bytes_const (P := Try.prog) w 28 5 C n c Try.underlying28 Try.underlying5
  go_enter Try.func10, Try.ntmps10
  go_wp2_with fail
  refine (new_any 4 w (by omega) (by omega)).mono ?_
  rintro e w1 ⟨g, p, rfl, hg, hp, hb1, hr1⟩
  have hbl := hr1.bl
  have HR1 := Lib.hid hr1
  clear hr1
  go_wp2_with fail
  have hl2 : Rd (w1.alloc (.cells #[.int .u8 97, .int .u8 98, .int .u8 99] 5 (3, 4))) (w1.heap.size + 1) 1 (some ⟨w1.heap.size, 0, none⟩) 3 (ns .u8 [97, 98, 99]) := Rd.litm [97, 98, 99] rfl rfl
  refine (write_any g p 4 0 3 3 _ _ _ [97, 98, 99] _ (HR1.out.alloc _) hl2 (by decide) (Apart.new (by omega)) (by omega) (by omega)).mono ?_
  rintro e w2 ⟨rfl, hd2, hr2⟩
  have HR2 := Lib.hid (show Ring w2 g p 4 3 [97, 98, 99, 0] from hr2)
  have hb2 := (hb1.alloc (o := .cells #[.int .u8 97, .int .u8 98, .int .u8 99] 5 (3, 4)) hb1.size).trans (hd2.below hg hp)
  have hbl2 := HR2.out.bl
  clear hr2 hl2 hd2 hb1 hbl HR1
  go_wp2_with fail
  refine (skip_any g p 4 3 2 _ w2 HR2.out 2 (by decide) (by omega)).mono ?_
  rintro e w3 ⟨rfl, hd3, hr3⟩
  have HR3 := Lib.hid (show Ring w3 g p 4 1 [99, 0, 0, 0] from hr3)
  have hb3 := hb2.trans (hd3.below hg hp)
  have hbl3 := HR3.out.bl
  clear hr3 hd3 hb2 hbl2 HR2
  go_wp2_with fail
  have hl2 : Rd (w3.alloc (.cells #[.int .u8 100, .int .u8 101, .int .u8 102, .int .u8 103] 5 (4, 5))) (w3.heap.size + 1) 1 (some ⟨w3.heap.size, 0, none⟩) 4 (ns .u8 [100, 101, 102, 103]) := Rd.litm [100, 101, 102, 103] rfl rfl
  refine (write_any g p 4 1 4 4 _ _ _ [100, 101, 102, 103] _ (HR3.out.alloc _) hl2 (by decide) (Apart.new (by omega)) (by omega) (by omega)).mono ?_
  rintro e w4 ⟨rfl, hd4, hr4⟩
  have HR4 := Lib.hid (show Ring w4 g p 4 4 [99, 100, 101, 102] from hr4)
  have hb4 := (hb3.alloc (o := .cells #[.int .u8 100, .int .u8 101, .int .u8 102, .int .u8 103] 5 (4, 5)) hb3.size).trans (hd4.below hg hp)
  clear hr4 hl2 hd4 hb3 hbl3 HR3
  go_wp2_with fail
  refine (read_any g p 4 4 9 _ w4 HR4.out (by omega) 4 (by decide)).mono ?_
  rintro e w5 ⟨v, rfl, hn5, hb5, hr5⟩
  have HR5 := Lib.hid (show Ring w5 g p 4 0 [0, 0, 0, 0] from hr5)
  have hb6 := hb4.trans (hb5.mono (by omega))
  obtain ⟨A, n, c, rfl, hc, hln, hrd⟩ := hn5.out
  have HRD := hrd
  clear hr5 hb5 hb4 HR4 hn5 hrd
  have hs : (strN [99, 100, 101, 102]).toList = [99, 100, 101, 102] := by rw [strN_toList]; rfl
  go_wp2_with (refine wpList_conv Try.underlying28 Try.underlying5 Try.underlying9 rfl _ rfl rfl HRD.out ?_)
  go_wp2_with fail
  refine (lenR g p 4 0 _ w5 HR5.out).mono ?_
  rintro e w6 ⟨rfl, rfl⟩
  go_wp2_with fail
  refine (freeR g p 4 0 _ w6 HR5.out).mono ?_
  rintro e w7 ⟨rfl, q, rfl⟩
  go_wp2_with fail
  go_ret
  exact ⟨rfl, below_drewN hb6 q⟩
end Go.Proofs.Ytefnojomjdeghaa
