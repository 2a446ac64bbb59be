/- The law's examples. -/
import Derived.Test.YtefnojomjdeghaaDoorNum6
namespace Go.Proofs.YtefnojomjdeghaaDoor
open Go.RowKit
set_option linter.unusedVariables false
set_option maxRecDepth 20000 in
theorem alive_any (w : World) : Calls Tryd.prog 10 #[] w fun e w' => e = .returned (.bool true) ∧ Below w.heap.size w w' := by
  go_enter Tryd.func10, Tryd.ntmps10
  go_wp2_with fail
  refine (parse_07 _).mono ?_
  rintro e w1 ⟨rfl, rfl⟩
  go_wp2_with fail
  refine (text_7 _).mono ?_
  rintro e w1 ⟨rfl, rfl⟩
  go_wp2_with fail
  have hr1 : Rd (w1.alloc (.cells #[.int .u8 11, .int .u8 65] 5)) (w1.alloc (.cells #[.int .u8 11, .int .u8 65] 5)).heap.size 1 (some ⟨w1.heap.size, 0, none⟩) 2 (ns .u8 [11, 65]) := Rd.lit [11, 65] rfl (by simp) rfl rfl
  have hx := hex_any (some ⟨w1.heap.size, 0, none⟩) 2 2 [11, 65] _ hr1 (by decide) (by omega)
  have hxt : strN (hexT [11, 65]) = ⟨#[48, 98, 52, 49]⟩ := by decide +kernel
  rw [hxt] at hx
  refine hx.mono ?_
  rintro e w2 ⟨rfl, b2⟩
  have hb2 : Below w1.heap.size w1 w2 := ((Below.refl _ w1).alloc (Nat.le_refl _) _).trans (b2.mono (by simp))
  clear hr1 hx b2
  go_wp2_with fail
  have hr2 : Rd (w2.alloc (.cells #[.string ⟨#[97]⟩, .string ⟨#[]⟩, .string ⟨#[98]⟩] 9)) (w2.alloc (.cells #[.string ⟨#[97]⟩, .string ⟨#[]⟩, .string ⟨#[98]⟩] 9)).heap.size 1 (some ⟨w2.heap.size, 0, none⟩) 3 (ss [⟨#[97]⟩, ⟨#[]⟩, ⟨#[98]⟩]) :=
    Rd.made w2 9 #[.string ⟨#[97]⟩, .string ⟨#[]⟩, .string ⟨#[98]⟩] rfl |>.mono (by simp)
  have hy := line_any (some ⟨w2.heap.size, 0, none⟩) 3 3 [⟨#[97]⟩, ⟨#[]⟩, ⟨#[98]⟩] _ hr2 (by omega) (by
    intro x hx
    simp only [List.mem_cons, List.not_mem_nil, or_false] at hx
    rcases hx with rfl | rfl | rfl
    · show 1 ≤ 100000; omega
    · show 0 ≤ 100000; omega
    · show 1 ≤ 100000; omega)
  have hyt : (lineU [⟨#[97]⟩, ⟨#[]⟩, ⟨#[98]⟩]).toArray = #[97, 32, 98] := by decide +kernel
  rw [hyt] at hy
  refine hy.mono ?_
  rintro e w3 ⟨rfl, b3⟩
  have hs2 := hb2.size
  have hb3 : Below w1.heap.size w1 w3 := (hb2.alloc (by omega) _).trans (b3.mono (by simp; omega))
  clear hr2 hy b3
  go_wp2_with fail
  go_ret
  exact ⟨rfl, hb3⟩
end Go.Proofs.YtefnojomjdeghaaDoor
