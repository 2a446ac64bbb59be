/- Package slices at []flight.Chunk: Clone. -/
import Derived.Test.YtbipcnboammpeaaSz2
import Derived.Test.YtbipcnboammpeaaRows
import Derived.OwnWalk
import Derived.RegionTactic
import Derived.LoopTactic
import Derived.Laws.Externs
import Derived.WalkSpells
namespace Go.Proofs.Ytbipcnboammpeaa
open Go.RowKit
set_option linter.unusedVariables false
theorem flkEl : El Try.prog 43 30 (.agg #[.int .u64 0, .int .i64 0, .bool false, .int .i64 0, .int .u32 0, .int .i64 0, .int .i64 0, .bool false, .bool false]) 9 64 := ⟨Try.underlying43, by kernel_rfl, rfl, by omega, by omega⟩
theorem flkZ1 : ∀ v ∈ ((.agg #[.int .u64 0, .int .i64 0, .bool false, .int .i64 0, .int .u32 0, .int .i64 0, .int .i64 0, .bool false, .bool false]) : Value).cells.toList, v.oneCell' = true := by
  intro v hv
  simp only [Value.cells, List.mem_cons, List.not_mem_nil, or_false] at hv
  rcases hv with rfl | rfl | rfl | rfl | rfl | rfl | rfl | rfl | rfl <;> rfl
theorem flkClone (A : Option Addr) (n c B : Nat) (xs : List Value) (w : World) (h : Rd w B 9 A n xs) (hB : B ≤ w.heap.size) (h1 : ∀ v ∈ xs, v.oneCell' = true) (hn : n ≤ 1000000) :
    Calls Try.prog 32 #[.slice A n c] w fun e w' => ∃ v, e = .returned v ∧ w'.ownsRow w.heap.size 30 9 v n xs ∧ Below w.heap.size w w' := by
  have HR := Lib.hid h
  have H1 := Lib.hid h1
  have HL := Lib.hid h.len
  clear h h1
  have hnil := fun (w : World) (A : Option Addr) (n c n' c' : Nat) => Lib.run_eql_slice_nil w 43 30 A n c n' c' Try.underlying43
  cases A with
  | none =>
    have h0 : n = 0 := by
      rcases Nat.eq_zero_or_pos n with h | h
      · exact h
      · obtain ⟨_, _, e, _⟩ := HR.out.2 h; cases e
    subst h0
    have hx : xs = [] := List.eq_nil_of_length_eq_zero (by rw [HL.out, Nat.zero_mul])
    subst hx
    clear HR H1 HL
    go_enter Try.func32, Try.ntmps32
    go_wp2_with fail
    go_ret
    exact ⟨_, rfl, World.ownsRow_nil _ _ _ _, Below.refl _ _⟩
  | some ad =>
    have hroom : (0 + n) * 64 ≤ room := room_ge (by omega)
    have hown : (w.alloc (.cells #[] 30)).ownsRow w.heap.size 30 9 (.slice (some ⟨w.heap.size, 0, none⟩) 0 0) 0 [] := World.ownsRow_made w #[] 0 (Nat.le_refl _) (Nat.zero_le _) (by simp)
    have hb0 : Below w.heap.size w (w.alloc (.cells #[] 30)) := (Below.refl _ _).alloc (Nat.le_refl _) _
    have HO := Lib.hid hown
    have HB0 := Lib.hid hb0
    have HB := Lib.hid hB
    clear hown hb0 hB
    go_enter Try.func32, Try.ntmps32
    go_wp2_with (refine app flkEl rfl (.tmp 5) (.tmp 6) rfl rfl HO.out rfl (HR.out.alloc HB.out _) H1.out hroom (by simp) ?_)
    intro v' w1 ho hg hb
    have HO1 := Lib.hid ho
    clear ho hg
    go_wp2
    go_ret
    exact ⟨_, rfl, HO1.out, HB0.out.trans hb⟩
end Go.Proofs.Ytbipcnboammpeaa
