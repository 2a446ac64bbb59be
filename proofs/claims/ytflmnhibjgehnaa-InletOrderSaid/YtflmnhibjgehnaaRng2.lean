/- Package ring: at, pieces. -/
import Derived.Test.YtflmnhibjgehnaaRng
namespace Go.Proofs.Ytflmnhibjgehnaa
open Go.RowKit
set_option linter.unusedVariables false

theorem at_any (g p size first there from_ : Nat) (m : List Nat) (w : World) (h : RI w g p size first there m) (hf : from_ ≤ size) :
    Calls Try.prog 49 #[.pointer (some ⟨g, 0, none⟩), .int .i64 (from_ : Int)] w fun e w' => e = .returned (.int .i64 ((rix size first from_ : Nat) : Int)) ∧ w' = w := by
  have c1 := h.c1
  have hs := h.sz
  have hfs := h.fs
  have HH := Lib.hid h
  clear h
  unfold rix
  by_cases h1 : first + from_ < size
  · rw [if_pos h1]
    go_enter Try.func49, Try.ntmps49
    go_wp2_with fail
    refine (size_any g p size first there m _ HH.out).mono ?_
    rintro e w1 ⟨rfl, rfl⟩
    go_wp2_with fail
    go_ret
    exact ⟨ret_int (by omega), rfl⟩
  · rw [if_neg h1]
    go_enter Try.func49, Try.ntmps49
    go_wp2_with fail
    refine (size_any g p size first there m _ HH.out).mono ?_
    rintro e w1 ⟨rfl, rfl⟩
    go_wp2_with fail
    refine (size_any g p size first there m _ HH.out).mono ?_
    rintro e w1 ⟨rfl, rfl⟩
    go_wp2_with fail
    go_ret
    exact ⟨ret_int (by omega), rfl⟩

theorem pieces_any (g p size first there from_ many : Nat) (m : List Nat) (w : World) (h : RI w g p size first there m) (hf : from_ + many ≤ size) :
    Calls Try.prog 48 #[.pointer (some ⟨g, 0, none⟩), .int .i64 (from_ : Int), .int .i64 (many : Int)] w fun e w' =>
      e = .returned (.tuple #[.slice (some ⟨p, rix size first from_, none⟩) (min many (size - rix size first from_)) (size - rix size first from_), .slice (some ⟨p, 0, none⟩) (many - min many (size - rix size first from_)) size]) ∧ ∃ n, w' = w.drewN n := by
  have c0 := h.c0
  have hs := h.sz
  have hfs := h.fs
  have hx := rix_lt (j := from_) hfs (by omega)
  have hat := at_any g p size first there from_ m w h (by omega)
  have HH := Lib.hid h
  clear h
  generalize rix size first from_ = x at hx hat ⊢
  by_cases hc : x + many ≤ size
  · have e1 : min many (size - x) = many := by omega
    rw [e1]
    clear e1
    go_enter Try.func48, Try.ntmps48
    go_wp2_with fail
    refine hat.mono ?_
    rintro e w1 ⟨rfl, rfl⟩
    go_wp2_with fail
    go_quiet ((go_at_call 30; exact Calls.quiet_of_same (size_any g p size first there m _ (by exact HH.out.drewN _))))
    rw [Nat.add_sub_cancel_left]
    go_wp2_with fail
    go_quiet (fail)
    go_wp2
    go_ret2
    refine ⟨?_, _, World.drewN_drewN _ _ _⟩
    rw [Nat.sub_self]
    rfl
  · have e1 : min many (size - x) = size - x := by omega
    rw [e1]
    clear e1
    go_enter Try.func48, Try.ntmps48
    go_wp2_with fail
    refine hat.mono ?_
    rintro e w1 ⟨rfl, rfl⟩
    go_wp2_with fail
    go_quiet ((go_at_call 30; exact Calls.quiet_of_same (size_any g p size first there m _ (by exact HH.out.drewN _))))
    go_wp2_with fail
    go_quiet (fail)
    go_wp2
    go_ret2
    refine ⟨?_, _, World.drewN_drewN _ _ _⟩
    rfl
end Go.Proofs.Ytflmnhibjgehnaa
