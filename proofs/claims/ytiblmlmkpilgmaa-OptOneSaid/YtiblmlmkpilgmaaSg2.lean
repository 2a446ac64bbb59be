/- A segment's header. -/
import Derived.Test.YtiblmlmkpilgmaaSg1
import Derived.Test.YtiblmlmkpilgmaaPk6
import Derived.Test.YtiblmlmkpilgmaaPk2
import Derived.Test.YtiblmlmkpilgmaaOrd
namespace Go.Proofs.Ytiblmlmkpilgmaa
open Go.RowKit
set_option linter.unusedVariables false
theorem be1 {x : Nat} (h : x < 256) : be x 1 = [x] := by show [] ++ [x % 256] = [x]; rw [Nat.mod_eq_of_lt h]; rfl
theorem fbs_hdr (g : Sg) (h : g.flags < 256) : [] ++ fbs [((2 : Int), g.src), (2, g.dst), (4, g.seq), (4, g.ack), (1, g.flags)] = hdrS g := by
  unfold hdrS fbs
  simp only [List.flatMap_cons, List.flatMap_nil]
  rw [if_pos (by decide), if_pos (by decide), if_pos (by decide), if_pos (by decide), if_pos (by decide)]
  show [] ++ (be g.src 2 ++ (be g.dst 2 ++ (be g.seq 4 ++ (be g.ack 4 ++ (be g.flags 1 ++ []))))) = _
  rw [be1 h]
  simp
/-- What is asked of the size. -/
def greatS (g : Sg) : Bool := decide (120 < g.opts.length) || decide (2000 < g.data.length) || g.opts.any fun p => decide (400 < p.2.length)
theorem greatS_small {g : Sg} (h : greatS g = false) : g.small ∧ g.opts.length ≤ 120 ∧ g.data.length ≤ 2000 ∧ ∀ p ∈ g.opts, p.2.length ≤ 400 := by
  unfold greatS at h
  simp only [Bool.or_eq_false_iff, decide_eq_false_iff_not, List.any_eq_false, decide_eq_true_eq] at h
  obtain ⟨⟨h1, h2⟩, h3⟩ := h
  exact ⟨⟨by omega, fun p hp => by have := h3 p hp; omega, by omega⟩, by omega, by omega, fun p hp => by have := h3 p hp; omega⟩
theorem greatS_false {g : Sg} (h1 : g.opts.length ≤ 120) (h2 : g.data.length ≤ 2000) (h3 : ∀ p ∈ g.opts, p.2.length ≤ 400) : greatS g = false := by
  unfold greatS
  simp only [Bool.or_eq_false_iff, decide_eq_false_iff_not, List.any_eq_false, decide_eq_true_eq]
  exact ⟨⟨by omega, by omega⟩, fun p hp => by have := h3 p hp; omega⟩
set_option maxRecDepth 20000 in
set_option maxHeartbeats 2000000 in
theorem great_any (v : Value) (g : Sg) (w : World) (h : SegV w v g) :
    Calls Try.prog 36 #[v] w fun e w' => e = .returned (.bool (greatS g)) ∧ Below w.heap.size w w' := by
  obtain ⟨A, n, c, D, m, d, l, rfl, hO, ho, hD, hmd, hdm⟩ := h
  have HSB := Lib.hid (SBox.mk' (d := d) hO ho hD)
  have HSAY := Lib.hid ho
  clear hO hD ho hmd hdm
  obtain ⟨_, _, _, _, _, t5, t6⟩ := seg_cells HSB.out.blk
  have hol := HSB.out.olen
  have hdl := HSB.out.dlen
  have HOL := Lib.hid hol
  have HDL := Lib.hid hdl
  clear hol hdl
  have htrue : (120 < n ∨ 2000 < m) → greatS g = true := by
    intro h
    unfold greatS
    rw [HOL.out, HDL.out]
    rcases h with h | h <;> simp [h]
  have HTR := Lib.hid htrue
  clear htrue
  obtain ⟨r, hr⟩ : ∃ r, r = greatS g := ⟨_, rfl⟩
  rw [← hr] at HTR ⊢
  have HRR := Lib.hid hr
  clear hr
  unfold segCs at *
  go_enter Try.func36, Try.ntmps36
  by_cases c1 : 120 < n
  · have c1' : (120 : Int) < (n : Int) := by omega
    have hr := HTR.out (.inl c1)
    subst hr
    clear HTR
    go_wp2_with fail
    go_ret
    exact ⟨rfl, HSB.out.bel⟩
  · have c1' : ¬ (120 : Int) < (n : Int) := by omega
    have c1d : decide (120 < n) = false := decide_eq_false c1
    by_cases c2 : 2000 < m
    · have c2' : (2000 : Int) < (m : Int) := by omega
      have hr := HTR.out (.inr c2)
      subst hr
      clear HTR
      go_wp2_with fail
      go_ret
      exact ⟨rfl, HSB.out.bel⟩
    · have c2' : ¬ (2000 : Int) < (m : Int) := by omega
      have c2d : decide (2000 < m) = false := decide_eq_false c2
      clear HTR
      go_wp2_with fail
      generalize w.alloc (.cells #[.int .u16 (g.src : Int), .int .u16 (g.dst : Int), .int .u32 (g.seq : Int), .int .u32 (g.ack : Int), .int .u8 (g.flags : Int), .slice A n c, .slice D m d] 78) = W at *
      go_loopw [3] (fun iv wr => ∃ k : Nat, k ≤ n ∧ iv = .int .i64 k ∧ Hid (∀ p ∈ (osay l).take k, p.2.length ≤ 400) ∧ wr = W) (fun iv _ => n - (intOf iv).toNat)
      case atStart => exact ⟨0, Nat.zero_le _, rfl, Lib.hid (by simp), rfl⟩
      case round =>
        obtain ⟨k, hk, rfl, hbo, rfl⟩ := hrel
        by_cases hlt : k < n
        · have hlt' : (k : Int) < (n : Int) := by omega
          obtain ⟨b, off, kd, q, rfl, hbb, p0, p1, hp, hq, hql⟩ := HSB.out.os.at_ hlt
          have hp2 := osay_at hp
          obtain ⟨qA, qn, qc, ql⟩ := q
          dsimp only at *
          have HP2 := Lib.hid hp2
          clear hp hp2 hq
          by_cases c3 : 400 < qn
          · have c3' : (400 : Int) < (qn : Int) := by omega
            have hr : r = true := by
              rw [HRR.out]
              unfold greatS
              have : (g.opts.any fun p => decide (400 < p.2.length)) = true := List.any_eq_true.2 ⟨_, HSAY.out ▸ List.mem_of_getElem? HP2.out, by dsimp only; rw [hql.out]; simpa using c3⟩
              rw [this, Bool.or_true]
            subst hr
            go_wp2_with fail
            go_ret
            exact ⟨rfl, HSB.out.bel⟩
          · have c3' : ¬ (400 : Int) < (qn : Int) := by omega
            have HBO : Hid (∀ p ∈ (osay l).take (k + 1), p.2.length ≤ 400) := Lib.hid (by
              rw [nth_take (Lib.hid HP2.out)]
              intro p hp
              rcases List.mem_append.1 hp with hp | hp
              · exact hbo.out p hp
              · simp at hp; subst hp; dsimp only; rw [hql.out]; omega)
            go_wp2_with fail
            go_roundw
            case rel => exact ⟨k + 1, by omega, by go_num, HBO, trivial⟩
            case measure => simp [intOf]; omega
        · have hge : ¬ (k : Int) < (n : Int) := by omega
          have hr : r = false := by
            rw [HRR.out]
            have h1 := hbo.out
            rw [List.take_of_length_le (by unfold osay; rw [List.length_map, HSB.out.os.len]; omega), ← HSAY.out] at h1
            exact greatS_false (by rw [HOL.out]; omega) (by rw [HDL.out]; omega) h1
          subst hr
          go_wp2_with fail
          go_ret
          exact ⟨rfl, HSB.out.bel⟩
end Go.Proofs.Ytiblmlmkpilgmaa
