/- Layer 34: the records of a time. -/
import Derived.Test.YtcgcglngjfijnaaCapG
namespace Go.Proofs.Ytcgcglngjfijnaa
open Go.RowKit
set_option linter.unusedVariables false
set_option linter.unusedSimpArgs false
/-- Is a record of this time? -/
def inT (f t : Int) (p : Rb) : Bool := decide (f ≤ p.1) && decide (p.1 < t)
def btR (f t : Int) (l : List Rb) : List Rb := l.filter (inT f t)
theorem btR_next {f t : Int} {l : List Rb} {k : Nat} {p : Rb} (h : l[k]? = some p) : btR f t (l.take (k + 1)) = btR f t (l.take k) ++ (if inT f t p then [p] else []) := by
  unfold btR
  rw [nth_take (Lib.hid h), List.filter_append]
  congr 1
  by_cases hh : inT f t p <;> simp [hh]
theorem btR_le (f t : Int) (l : List Rb) : (btR f t l).length ≤ l.length := List.length_filter_le _ _
set_option maxRecDepth 20000 in
set_option maxHeartbeats 8000000 in
theorem cbetween_any (A1 : Option Addr) (n1 c1 : Nat) (f t : Int) (l1 : List Rb) (w : World) (h1 : Rs w A1 n1 c1 l1) (hn1 : n1 ≤ 10000) (hs1 : ∀ p ∈ l1, p.2.2.2.n ≤ 100000) :
    Calls Try.prog 48 #[.slice A1 n1 c1, .int .i64 f, .int .i64 t] w fun e w' => MergeP (btR f t l1) w' e ∧ Below w.heap.size w w' := by
  have H1 := Lib.hid h1
  have HL := Lib.hid h1.len
  have HS := Lib.hid (show ∀ p ∈ btR f t l1, p.2.2.2.n ≤ 100000 from fun p hp => hs1 p ((List.mem_filter.1 hp).1))
  clear h1 hs1
  go_enter Try.func48, Try.ntmps48
  go_wp2_with fail
  go_loopw [7, 12] (fun ov iv wr => ∃ (k NL : Nat) (lo : List Rb), k ≤ n1 ∧ iv = .int .i64 (k : Int) ∧ Hid (lo = btR f t (l1.take k)) ∧ Hid (lo.length = NL) ∧ NL ≤ k ∧ Hid (wr.ownsRow w.heap.size 93 4 ov NL (rbcs lo)) ∧ Below w.heap.size w wr) (fun _ iv _ => n1 - (intOf iv).toNat)
  case atStart => exact ⟨0, 0, [], Nat.zero_le _, rfl, Lib.hid rfl, Lib.hid rfl, Nat.le_refl _, Lib.hid (World.ownsRow_nil _ _ _ _), Below.refl _ _⟩
  case round =>
    obtain ⟨k, n7, lo, hk, rfl, hlo, HN7, hn7, hown, hbw⟩ := hrel
    obtain ⟨A7, c7, rfl, _, _, _⟩ := own_form hown.out
    by_cases hlt : k < n1
    · have hlt' : (k : Int) < (n1 : Int) := by omega
      obtain ⟨b, off, tk, sd, p, q, rfl, hbb, p0, p1, p2, p3, hp, hq, hql, hbs⟩ := (H1.out.into hbw).at_ hlt
      have hp' := hp.out
      obtain ⟨qA, qn, qc, ql⟩ := q
      dsimp only at *
      have HNX := Lib.hid (show btR f t (l1.take (k + 1)) = lo ++ (if inT f t (tk, sd, p, (⟨qA, qn, qc, ql⟩ : Body)) then [(tk, sd, p, (⟨qA, qn, qc, ql⟩ : Body))] else []) from by rw [btR_next hp', hlo.out])
      have hA : Below wr.heap.size wr (wr.alloc (.cells #[.int .i64 tk, .int .i64 sd, .int .i64 p, .slice qA qn qc] 93)) := (Below.refl _ _).alloc (Nat.le_refl _) _
      have OA := Lib.hid (own_below hown.out hA fun g hg => (own_lt4 hown.out g hg).2)
      have BA := Lib.hid (hbw.trans (hA.mono hbw.size))
      clear hA hown hbw hp hp' hq hql hbs hlo
      by_cases cf : tk < f
      · have hin : inT f t (tk, sd, p, (⟨qA, qn, qc, ql⟩ : Body)) = false := by unfold inT; dsimp only; rw [decide_eq_false (by omega)]; rfl
        have HNY := Lib.hid (show lo = btR f t (l1.take (k + 1)) from by rw [HNX.out, hin]; simp)
        clear HNX hin
        go_wp2_with fail
        go_roundw
        case rel => exact ⟨k + 1, n7, lo, by omega, by go_num, HNY, HN7, by omega, OA, BA.out⟩
        case measure => simp [intOf]; omega
      by_cases ct : tk < t
      · have hin : inT f t (tk, sd, p, (⟨qA, qn, qc, ql⟩ : Body)) = true := by unfold inT; dsimp only; rw [decide_eq_true (by omega), decide_eq_true ct]; rfl
        have HNY := Lib.hid (show lo ++ [(tk, sd, p, (⟨qA, qn, qc, ql⟩ : Body))] = btR f t (l1.take (k + 1)) from by rw [HNX.out, hin]; simp)
        clear HNX hin
        have hn7m : n7 + 1 ≤ 100000 := by omega
        go_wp2_with (at_builtin; go_must (refine appZ recel #[.int .i64 tk, .int .i64 sd, .int .i64 p, .slice qA qn qc] rfl (rbcs_one [(tk, sd, p, (⟨qA, qn, qc, ql⟩ : Body))]) rfl _ _ rfl rfl OA.out rfl (by first | rfl | simp) (room_ge (by omega)) BA.out.size ?_))
        intro v3 w3 ho3 _ hb3
        have O3 := Lib.hid (show w3.ownsRow w.heap.size 93 4 v3 (n7 + 1) (rbcs (lo ++ [(tk, sd, p, (⟨qA, qn, qc, ql⟩ : Body))])) from by rw [rbcs_append]; exact ho3)
        have HN8 := Lib.hid (show (lo ++ [(tk, sd, p, (⟨qA, qn, qc, ql⟩ : Body))]).length = n7 + 1 from by rw [List.length_append, HN7.out]; rfl)
        have B3 := Lib.hid (BA.out.trans hb3)
        obtain ⟨A8, c8, rfl, _, _, _⟩ := own_form O3.out
        clear ho3 hb3 OA BA
        go_wp2_with fail
        go_roundw
        case rel => exact ⟨k + 1, n7 + 1, _, by omega, by go_num, HNY, HN8, by omega, O3, B3.out⟩
        case measure => simp [intOf]; omega
      · have hin : inT f t (tk, sd, p, (⟨qA, qn, qc, ql⟩ : Body)) = false := by unfold inT; dsimp only; rw [decide_eq_false ct, Bool.and_false]
        have HNY := Lib.hid (show lo = btR f t (l1.take (k + 1)) from by rw [HNX.out, hin]; simp)
        clear HNX hin
        go_wp2_with fail
        go_roundw
        case rel => exact ⟨k + 1, n7, lo, by omega, by go_num, HNY, HN7, by omega, OA, BA.out⟩
        case measure => simp [intOf]; omega
    · have hge : ¬ (k : Int) < (n1 : Int) := by omega
      have hlo2 := hlo.out
      rw [List.take_of_length_le (by rw [HL.out]; omega)] at hlo2
      subst hlo2
      have HBOD := Lib.hid (show ∀ p ∈ btR f t l1, Rd w w.heap.size 1 p.2.2.2.A p.2.2.2.n (ns .u8 p.2.2.2.l) ∧ p.2.2.2.n ≤ p.2.2.2.c ∧ p.2.2.2.c ≤ maxLen from fun p hp => H1.out.bod p ((List.mem_filter.1 hp).1))
      have HBDS := Lib.hid (show ∀ p ∈ rsay (btR f t l1), i64ok p.1 ∧ i64ok p.2.1 ∧ i64ok p.2.2.1 ∧ ∀ x ∈ p.2.2.2, x < 256 from fun p hp => by
        obtain ⟨q, hq, rfl⟩ := List.mem_map.1 hp
        exact H1.out.bds q ((List.mem_filter.1 hq).1))
      have HBW := Lib.hid hbw
      clear hbw hlo
      go_wp2_with fail
      refine (copied_any A7 n7 c7 w.heap.size (btR f t l1) wr hown.out HBW.out.size (fun p hp => ⟨(HBOD.out p hp).1.below HBW.out, (HBOD.out p hp).2⟩) HBDS.out (by omega) HS.out).mono ?_
      rintro e w5 ⟨⟨rfl, lo5, hrs, hsay⟩, hb5⟩
      have B5 := Lib.hid (HBW.out.trans hb5)
      have HR5 := Lib.hid hrs
      have HY5 := Lib.hid hsay
      clear hb5 hrs hsay hown HBW
      go_wp2_with fail
      go_ret
      exact ⟨⟨A7, _, c7, lo5, rfl, HR5.out, HY5.out⟩, B5.out⟩
end Go.Proofs.Ytcgcglngjfijnaa
