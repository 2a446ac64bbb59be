/- Package slices at []api.Option: Clone. -/
import Derived.Test.YtiabafnfiedlcaaSz2
import Derived.Test.YtiabafnfiedlcaaRows
import Derived.OwnWalk
import Derived.RegionTactic
import Derived.LoopTactic
import Derived.Laws.Externs
import Derived.WalkSpells
namespace Go.Proofs.Ytiabafnfiedlcaa
open Go.RowKit
set_option linter.unusedVariables false
theorem sgsEl : El Try.prog 53 74 (.agg #[.int .u8 0, .slice none 0 0]) 2 32 := ⟨Try.underlying53, by kernel_rfl, rfl, by omega, by omega⟩
theorem sgsZ1 : ∀ v ∈ ((.agg #[.int .u8 0, .slice none 0 0]) : Value).cells.toList, v.oneCell' = true := by
  intro v hv
  simp [Value.cells] at hv
  first | (subst hv; rfl) | (rcases hv with rfl | rfl <;> rfl) | (rcases hv with rfl | rfl | rfl <;> rfl) | (rcases hv with rfl | rfl | rfl | rfl <;> rfl) | (rcases hv with rfl | rfl | rfl | rfl | rfl <;> rfl)
theorem sgsClone (A : Option Addr) (n c B : Nat) (xs : List Value) (w : World) (h : Rd w B 2 A n xs) (hB : B ≤ w.heap.size) (h1 : ∀ v ∈ xs, v.oneCell' = true) (hn : n ≤ 1000000) :
    Calls Try.prog 77 #[.slice A n c] w fun e w' => ∃ v, e = .returned v ∧ w'.ownsRow w.heap.size 74 2 v n xs ∧ Below w.heap.size w w' := by
  have HR := Lib.hid h
  have H1 := Lib.hid h1
  have HL := Lib.hid h.len
  clear h h1
  have hnil := fun (w : World) (A : Option Addr) (n c n' c' : Nat) => Lib.run_eql_slice_nil w 53 74 A n c n' c' Try.underlying53
  cases A with
  | none =>
    have h0 : n = 0 := by
      rcases Nat.eq_zero_or_pos n with h | h
      · exact h
      · obtain ⟨_, _, e, _⟩ := HR.out.2 h; cases e
    subst h0
    have hx : xs = [] := List.eq_nil_of_length_eq_zero (by rw [HL.out, Nat.zero_mul])
    subst hx
    clear HR H1 HL
    go_enter Try.func77, Try.ntmps77
    go_wp2_with fail
    go_ret
    exact ⟨_, rfl, World.ownsRow_nil _ _ _ _, Below.refl _ _⟩
  | some ad =>
    have hroom : (0 + n) * 32 ≤ room := room_ge (by omega)
    have hown : (w.alloc (.cells #[] 74)).ownsRow w.heap.size 74 2 (.slice (some ⟨w.heap.size, 0, none⟩) 0 0) 0 [] := World.ownsRow_made w #[] 0 (Nat.le_refl _) (Nat.zero_le _) (by simp)
    have hb0 : Below w.heap.size w (w.alloc (.cells #[] 74)) := (Below.refl _ _).alloc (Nat.le_refl _) _
    have HO := Lib.hid hown
    have HB0 := Lib.hid hb0
    have HB := Lib.hid hB
    clear hown hb0 hB
    go_enter Try.func77, Try.ntmps77
    go_wp2_with (refine app sgsEl rfl (.tmp 5) (.tmp 6) rfl rfl HO.out rfl (HR.out.alloc HB.out _) H1.out hroom (by simp) ?_)
    intro v' w1 ho hg hb
    have HO1 := Lib.hid ho
    clear ho hg
    go_wp2
    go_ret
    exact ⟨_, rfl, HO1.out, HB0.out.trans hb⟩
end Go.Proofs.Ytiabafnfiedlcaa
