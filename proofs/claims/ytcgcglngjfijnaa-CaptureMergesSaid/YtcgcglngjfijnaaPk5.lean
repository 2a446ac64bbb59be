/- Contracts of package pack: Get, All. -/
import Derived.Test.YtcgcglngjfijnaaPk4
namespace Go.Proofs.Ytcgcglngjfijnaa
open Go.RowKit
set_option linter.unusedVariables false

theorem clone_any (A : Option Addr) (n c : Nat) (l : List Nat) (w : World) (hr : Rd w w.heap.size 1 A n (ns .u8 l)) (hn : n ≤ 100000) :
    Calls Try.prog 112 #[.slice A n c] w fun e w' => ∃ v, e = .returned v ∧ Nats w' 5 .u8 w.heap.size v l ∧ Below w.heap.size w w' := by
  have hl := hr.natLen
  rcases A with _ | a
  · have h0 : n = 0 := by
      rcases Nat.eq_zero_or_pos n with h | h
      · exact h
      · obtain ⟨b, off, h1, _⟩ := hr.2 h; cases h1
    subst h0
    obtain rfl := List.eq_nil_of_length_eq_zero hl
    refine (Try.bytes_Clone_nil 0 c w).mono ?_
    rintro e w' ⟨rfl, rfl⟩
    exact ⟨_, rfl, Nats.nil _ _ _ _, Below.refl _ _⟩
  · refine (Try.bytes_Clone_at a n c (l.map fun x : Nat => (x : Int)) w (by simpa using hl) (by omega) (fun i hi => ?_)).mono ?_
    · obtain ⟨b, off, h1, _, hc⟩ := hr.2 (by omega)
      injection h1 with h1
      subst h1
      rw [addr_add, hc i (by omega)]
      simp [ns, show i < l.length by omega]
    · rintro e w' ⟨v', rfl, ho, _, hb⟩
      refine ⟨v', rfl, ?_, hb⟩
      unfold Nats
      rw [hl]
      simpa [ns, List.map_map, Function.comp_def] using ho

set_option maxRecDepth 20000 in
theorem pall_any (A C : Option Addr) (n m c d : Nat) (lb : List Nat) (ss : List Int) (w : World) (hr : Rd w w.heap.size 1 A n (ns .u8 lb)) (hs : Rd w w.heap.size 1 C m (zs .i64 ss)) (hnc : n ≤ c) (hb : ∀ x ∈ lb, x < 256) (hn : n ≤ 100000) (hm : m ≤ 100000) :
    Calls Try.prog 73 #[.slice A n c, .slice C m d] w fun e w' => Below w.heap.size w w' ∧
      ((∃ (xs : List Nat) (v : Value), cut lb ss = some (xs, []) ∧ e = .returned (.tuple #[v, .bool true]) ∧ Nats w' 22 .u64 w.heap.size v xs) ∨
      ((∀ xs, cut lb ss ≠ some (xs, [])) ∧ e = .returned (.tuple #[.slice none 0 0, .bool false]))) := by
  have HP := Lib.hid (psplit_any A C n m c d lb ss w hr hs hnc hb hn hm)
  clear hr hs hb
  go_enter Try.func73, Try.ntmps73
  go_wp2_with fail
  refine HP.out.mono ?_
  clear HP
  rintro e w1 ⟨hb1, hc1⟩
  rcases hc1 with ⟨xs, rest, v, A', n', c', hcut, rfl, hv, hn1, hn2, hrest⟩ | ⟨hcut, rfl⟩
  · have HC := Lib.hid hcut; have HRL := Lib.hid hrest.natLen
    clear hcut hrest
    by_cases h0 : n' = 0
    · subst h0
      obtain rfl : rest = [] := List.eq_nil_of_length_eq_zero HRL.out
      go_wp2_with fail
      go_ret2
      exact ⟨hb1, .inl ⟨xs, v, HC.out, rfl, hv⟩⟩
    · have hp : (0 : Int) < (n' : Int) := by omega
      have HNE : Hid (rest ≠ []) := Lib.hid (by intro h; have := HRL.out; rw [h] at this; simp at this; omega)
      clear h0
      go_wp2_with fail
      go_ret2
      exact ⟨hb1, .inr ⟨fun ys h => by rw [HC.out] at h; injection h with h; injection h with _ h; exact HNE.out h, rfl⟩⟩
  · have HC := Lib.hid hcut
    clear hcut
    go_wp2_with fail
    go_ret2
    exact ⟨hb1, .inr ⟨fun ys h => (by rw [HC.out] at h; cases h), rfl⟩⟩
end Go.Proofs.Ytcgcglngjfijnaa
