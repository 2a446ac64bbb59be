/- Layer 34: the document's Right; two rows of records that are the same. -/
import Derived.Test.YtcgcglngjfijnaaCap6
import Derived.Test.YtcgcglngjfijnaaQx
import Derived.Test.YtcgcglngjfijnaaPut
import Derived.Laws.StructEq
namespace Go.Proofs.Ytcgcglngjfijnaa
open Go.RowKit
set_option linter.unusedVariables false
set_option linter.unusedSimpArgs false
theorem strN_size (l : List Nat) : (strN l).size = l.length := by
  show ((l.map UInt8.ofNat).toArray).size = _
  simp
theorem rgo_step {l : List Rcd} {k : Nat} {a : Int} {p : Rcd} (h : rightGo 0 l ↔ rightGo a (l.drop k)) (hp : l[k]? = some p) : rightGo 0 l ↔ recOk a p ∧ rightGo p.1 (l.drop (k + 1)) := by
  rw [h, drop_at hp]
  rfl
theorem neqR (t s p : Int) (x : ByteArray) (w : World) : (binOp .neq 95 (.agg #[.int .i64 t, .int .i64 s, .int .i64 p, .string x]) (.agg #[.int .i64 t, .int .i64 s, .int .i64 p, .string x])).run Try.prog w = .ok (.bool false) w := by
  have h : (Op.equalIn 10000 95 (.agg #[.int .i64 t, .int .i64 s, .int .i64 p, .string x]) (.agg #[.int .i64 t, .int .i64 s, .int .i64 p, .string x])).run Try.prog w = .ok true w := by
    rw [show (10000 : Nat) = 9999 + 1 from rfl, run_equalIn_agg w 9999 95 _ _ (by kernel_rfl) (by kernel_rfl)]
    simp [go_sem]
  rw [run_neq_struct, h]
  rfl
set_option maxRecDepth 20000 in
set_option maxHeartbeats 4000000 in
/-- Two rows of the same records. -/
theorem csame_true (A C : Option Addr) (n c d : Nat) (l : List Rcd) (w : World) (h1 : Rd w w.heap.size 4 A n (rcs l)) (h2 : Rd w w.heap.size 4 C n (rcs l)) (hn : n ≤ 100000) :
    Calls Try.prog 47 #[.slice A n c, .slice C n d] w fun e w' => e = .returned (.bool true) ∧ Below w.heap.size w w' := by
  have H1 := Lib.hid h1
  have H2 := Lib.hid h2
  have hnn : ((n : Int) != (n : Int)) = false := by simp
  clear h1 h2
  go_enter Try.func47, Try.ntmps47
  go_wp2_with fail
  go_loopw [5] (fun iv wr => ∃ k : Nat, k ≤ n ∧ iv = .int .i64 k ∧ Below w.heap.size w wr) (fun iv _ => n - (intOf iv).toNat)
  case atStart => exact ⟨0, Nat.zero_le _, rfl, Below.refl _ _⟩
  case round =>
    obtain ⟨k, hk, rfl, hbw⟩ := hrel
    by_cases hlt : k < n
    · have hlt' : (k : Int) < (n : Int) := by omega
      obtain ⟨b, off, t, s, p, bs, rfl, hbb, p0, p1, p2, p3, hp⟩ := (H1.out.below hbw).rec4 hlt
      obtain ⟨b', off', t', s', p', bs', rfl, hbb', r0, r1, r2, r3, hq⟩ := (H2.out.below hbw).rec4 hlt
      have e := hp.out.symm.trans hq.out
      injection e with e
      injection e with e1 e
      injection e with e2 e
      injection e with e3 e4
      subst e1 e2 e3 e4
      have hnR := neqR t s p (strN bs)
      clear hp hq
      have c1 : ∀ j x, [Value.int .i64 t, .int .i64 s, .int .i64 p, .string (strN bs)][j]? = some x → wr.cell? ⟨b, off + k * 4 + j, none⟩ = some x := by
        intro j x hx
        match j, hx with
        | 0, hx => simp at hx; subst hx; exact p0
        | 1, hx => simp at hx; subst hx; exact p1
        | 2, hx => simp at hx; subst hx; exact p2
        | 3, hx => simp at hx; subst hx; exact p3
      have c2 : ∀ j x, [Value.int .i64 t, .int .i64 s, .int .i64 p, .string (strN bs)][j]? = some x → wr.cell? ⟨b', off' + k * 4 + j, none⟩ = some x := by
        intro j x hx
        match j, hx with
        | 0, hx => simp at hx; subst hx; exact r0
        | 1, hx => simp at hx; subst hx; exact r1
        | 2, hx => simp at hx; subst hx; exact r2
        | 3, hx => simp at hx; subst hx; exact r3
      have C1 := Lib.hid c1
      have C2 := Lib.hid c2
      clear c1 c2 p0 p1 p2 p3 r0 r1 r2 r3
      go_wp2_with fail
      refine wp_ext (by kernel_rfl) (by kernel_rfl) (fun QQ hQ => ?_)
      (first | (refine x_load _ (by rfl) rfl rfl (by assumption) (by kernel_rfl) ?_; simp only [Act.put, List.setIfInBounds_toArray, List.set_cons_zero, List.set_cons_succ]) | (refine x_val (v := ?_) (by rfl) (fun w' hx => ?_) ?_; rotate_left; (focus (go_simp; (try with_reducible rfl))); (try simp only [Act.put, List.setIfInBounds_toArray, List.set_cons_zero, List.set_cons_succ])))
      (first | (refine x_load _ (by rfl) rfl rfl (by assumption) (by kernel_rfl) ?_; simp only [Act.put, List.setIfInBounds_toArray, List.set_cons_zero, List.set_cons_succ]) | (refine x_val (v := ?_) (by rfl) (fun w' hx => ?_) ?_; rotate_left; (focus (go_simp; (try with_reducible rfl))); (try simp only [Act.put, List.setIfInBounds_toArray, List.set_cons_zero, List.set_cons_succ])))
      (first | (refine x_load _ (by rfl) rfl rfl (by assumption) (by kernel_rfl) ?_; simp only [Act.put, List.setIfInBounds_toArray, List.set_cons_zero, List.set_cons_succ]) | (refine x_val (v := ?_) (by rfl) (fun w' hx => ?_) ?_; rotate_left; (focus (go_simp; (try with_reducible rfl))); (try simp only [Act.put, List.setIfInBounds_toArray, List.set_cons_zero, List.set_cons_succ])))
      refine x_loads _ [.int .i64 t, .int .i64 s, .int .i64 p, .string (strN bs)] (by rfl) rfl rfl (C1.out) (Nat.succ_pos _) (by kernel_rfl) (by kernel_rfl) ?_; simp only [Act.put, List.setIfInBounds_toArray, List.set_cons_zero, List.set_cons_succ]
      (first | (refine x_load _ (by rfl) rfl rfl (by assumption) (by kernel_rfl) ?_; simp only [Act.put, List.setIfInBounds_toArray, List.set_cons_zero, List.set_cons_succ]) | (refine x_val (v := ?_) (by rfl) (fun w' hx => ?_) ?_; rotate_left; (focus (go_simp; (try with_reducible rfl))); (try simp only [Act.put, List.setIfInBounds_toArray, List.set_cons_zero, List.set_cons_succ])))
      (first | (refine x_load _ (by rfl) rfl rfl (by assumption) (by kernel_rfl) ?_; simp only [Act.put, List.setIfInBounds_toArray, List.set_cons_zero, List.set_cons_succ]) | (refine x_val (v := ?_) (by rfl) (fun w' hx => ?_) ?_; rotate_left; (focus (go_simp; (try with_reducible rfl))); (try simp only [Act.put, List.setIfInBounds_toArray, List.set_cons_zero, List.set_cons_succ])))
      (first | (refine x_load _ (by rfl) rfl rfl (by assumption) (by kernel_rfl) ?_; simp only [Act.put, List.setIfInBounds_toArray, List.set_cons_zero, List.set_cons_succ]) | (refine x_val (v := ?_) (by rfl) (fun w' hx => ?_) ?_; rotate_left; (focus (go_simp; (try with_reducible rfl))); (try simp only [Act.put, List.setIfInBounds_toArray, List.set_cons_zero, List.set_cons_succ])))
      refine x_loads _ [.int .i64 t, .int .i64 s, .int .i64 p, .string (strN bs)] (by rfl) rfl rfl (C2.out) (Nat.succ_pos _) (by kernel_rfl) (by kernel_rfl) ?_; simp only [Act.put, List.setIfInBounds_toArray, List.set_cons_zero, List.set_cons_succ]
      (first | (refine x_load _ (by rfl) rfl rfl (by assumption) (by kernel_rfl) ?_; simp only [Act.put, List.setIfInBounds_toArray, List.set_cons_zero, List.set_cons_succ]) | (refine x_val (v := ?_) (by rfl) (fun w' hx => ?_) ?_; rotate_left; (focus (go_simp; (try with_reducible rfl))); (try simp only [Act.put, List.setIfInBounds_toArray, List.set_cons_zero, List.set_cons_succ])))
      refine x_nil (hQ.out _ ?_); clear hQ QQ
      intro w5 hb5
      have B5 := Lib.hid (hbw.trans (hb5.mono hbw.size))
      clear hb5
      go_wp2_with fail
      go_roundw
      case rel => exact ⟨k + 1, by omega, by go_num, B5.out⟩
      case measure => simp [intOf]; omega
    · have hge : ¬ (k : Int) < (n : Int) := by omega
      go_wp2_with fail
      go_ret
      exact ⟨rfl, hbw⟩
end Go.Proofs.Ytcgcglngjfijnaa
