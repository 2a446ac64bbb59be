/- append of one struct, of whatever cells. No program. -/
import Derived.Test.YtpnnadnmkiobcaaG2SackBack
import Derived.Test.YtpnnadnmkiobcaaG4SackBack
import Derived.Test.YtpnnadnmkiobcaaOrd

namespace Go.Proofs.Ytpnnadnmkiobcaa
open Go.RowKit
set_option linter.unusedVariables false
section
variable {P : Program} {ops : Array Oper} {rest : List Oper} {o : Oper} {a : Act} {Q : Exit → Act → World → Prop} {t e : TypeId} {z : Value} {bytes size : Nat}
theorem appZ {w0 : World} (el : El P t e z size bytes) (cs : Array Value) (hcs : cs.size = size) (hone : ∀ u ∈ cs.toList, u.oneCell' = true) (hgd : o.guard = none) (s d : Operand) (ho : o.op = .call { callee := .builtin .append, args := #[s, d], argTypes := #[t, t] })
    {base : Nat} {v : Value} {n : Nat} {xs : List Value} (hs : a.eval s = v) (hown : w0.ownsRow base e size v n xs) {gz : Nat} (hx : a.eval d = .slice (some ⟨gz, 0, none⟩) 1 1) (hgz : gz = w0.heap.size) (hroom : (n + 1) * bytes ≤ room) (hbase : base ≤ w0.heap.size)
    (h : ∀ v' w', w'.ownsRow base e size v' (n + 1) (xs ++ cs.toList) → w0.grownBy w' v.ownBlock → Below base w0 w' → wpList P ops Q rest (a.put o.dst v') w') : wpList P ops Q (o :: rest) a (w0.alloc (.cells cs e)) := by
  subst hgz
  have hr : Rd (w0.alloc (.cells cs e)) (w0.heap.size + 1) size (some ⟨w0.heap.size, 0, none⟩) 1 cs.toList := Rd.made w0 e cs (by omega)
  refine app el hgd s d ho hs (hown.alloc _) hx hr hone hroom (by simp; omega) fun v' w' h1 h2 h3 => ?_
  have hA := World.grownBy_alloc w0 (.cells cs e) v.ownBlock
  refine h v' w' h1 ?_ (((Below.refl _ _).alloc hbase _).trans h3)
  exact ⟨h2.os.trans hA.os, h2.tape.trans hA.tape, h2.output.trans hA.output, Nat.le_trans hA.size h2.size, fun k hk hne => (h2.block k (by simp; omega) hne).trans (hA.block k hk hne)⟩
end
end Go.Proofs.Ytpnnadnmkiobcaa

/- Layer 31: pieces as the document's; two rows of them; the document's Right. -/
namespace Go.Proofs.Ytpnnadnmkiobcaa
open Go.RowKit
set_option linter.unusedVariables false
set_option linter.unusedSimpArgs false
theorem relB : El Try.prog 31 51 (.agg #[.int .u32 0, .int .u32 0]) 2 8 := ⟨Try.underlying31, by kernel_rfl, rfl, by omega, by omega⟩
/-- A row of the document's pieces, of one's own. -/
def BO (w : World) (B : Nat) (v : Value) (l : List Bk) : Prop := w.ownsRow B 51 2 v l.length (bks l)
theorem BO.nil (w : World) (B : Nat) : BO w B (.slice none 0 0) [] := World.ownsRow_nil w B _ _
theorem BO.out {w : World} {B : Nat} {v : Value} {l : List Bk} (h : BO w B v l) : ∃ (A : Option Addr) (n c : Nat), v = .slice A n c ∧ n ≤ c ∧ Hid (l.length = n) ∧ Hid (Rd w w.heap.size 2 A n (bks l)) := by
  obtain ⟨A, c, e, h1, _, h2⟩ := own_form h
  exact ⟨A, l.length, c, e, h1, rfl, h2⟩
theorem BO.below {w w' : World} {B : Nat} {v : Value} {l : List Bk} (h : BO w B v l) (hb : Below w.heap.size w w') : BO w' B v l := own_below h hb fun g hg => (h.lt g hg).2
set_option maxRecDepth 20000 in
set_option maxHeartbeats 4000000 in
theorem splain_any (A : Option Addr) (n c : Nat) (l : List Bk) (w : World) (h : Rd w w.heap.size 2 A n (bks l)) (hn : n ≤ 100000) :
    Calls Try.prog 7 #[.slice A n c] w fun e w' => ∃ v, e = .returned v ∧ BO w' w.heap.size v l ∧ Below w.heap.size w w' := by
  have HO := Lib.hid h
  have HL := Lib.hid h.bkLen
  clear h
  go_enter Try.func7, Try.ntmps7
  go_wp2_with fail
  go_loopw [3, 4] (fun ov iv wr => ∃ k : Nat, k ≤ n ∧ iv = .int .i64 k ∧ Hid (BO wr w.heap.size ov (l.take k)) ∧ Below w.heap.size w wr) (fun _ iv _ => n - (intOf iv).toNat)
  case atStart => exact ⟨0, Nat.zero_le _, rfl, Lib.hid (BO.nil w _), Below.refl _ _⟩
  case round =>
    obtain ⟨k, hk, rfl, hO, hbw⟩ := hrel
    by_cases hlt : k < n
    · have hlt' : (k : Int) < (n : Int) := by omega
      obtain ⟨b, off, x, y, rfl, hbb, p0, p1, hp⟩ := (HO.out.into hbw).bk hlt
      obtain ⟨vA, vn, vc, rfl, _, hvl, _⟩ := hO.out.out
      have hnk : vn = k := by have := hvl.out; rw [List.length_take, HL.out] at this; omega
      subst hnk
      go_wp2_with fail
      refine wp_ord [(0, .pure), (1, .pure), (2, .pure), (3, .pure), (4, .pure), (5, .read), (6, .pure), (7, .pure), (8, .pure), (9, .pure), (10, .read), (11, .pure), (12, .sole), (13, .sole), (14, .pure)] [13] (by kernel_rfl) (by kernel_rfl) (fun QQ hQ wd hwd => ?_); simp only [List.map_cons, List.map_nil, List.getD_cons_zero, List.getD_cons_succ]
      have y0 : wd.cell? ⟨b, off + vn * 2, none⟩ = some (.int .u32 x) := by rw [hwd.out]; exact p0
      have y1 : wd.cell? ⟨b, off + vn * 2 + 1, none⟩ = some (.int .u32 y) := by rw [hwd.out]; exact p1
      have hD : Below wr.heap.size wr wd := by rw [hwd.out]; exact (Below.refl _ _).drew
      have OD := Lib.hid (hO.out.below hD)
      have BD := Lib.hid (hbw.trans (hD.mono hbw.size))
      have HP := Lib.hid hp.out
      clear p0 p1 hD hwd hO hbw hp hvl
      (refine o_pure (v := ?_) (by rfl) (fun w' => ?_) ?_; rotate_left; (focus (go_simp; (try with_reducible rfl); (try (rw [if_pos (by omega)]; (try with_reducible rfl))))); (try simp only [Act.put, List.setIfInBounds_toArray, List.set_cons_zero, List.set_cons_succ]))
      (refine o_pure (v := ?_) (by rfl) (fun w' => ?_) ?_; rotate_left; (focus (go_simp; (try with_reducible rfl); (try (rw [if_pos (by omega)]; (try with_reducible rfl))))); (try simp only [Act.put, List.setIfInBounds_toArray, List.set_cons_zero, List.set_cons_succ]))
      (refine o_pure (v := ?_) (by rfl) (fun w' => ?_) ?_; rotate_left; (focus (go_simp; (try with_reducible rfl); (try (rw [if_pos (by omega)]; (try with_reducible rfl))))); (try simp only [Act.put, List.setIfInBounds_toArray, List.set_cons_zero, List.set_cons_succ]))
      (refine o_pure (v := ?_) (by rfl) (fun w' => ?_) ?_; rotate_left; (focus (go_simp; (try with_reducible rfl); (try (rw [if_pos (by omega)]; (try with_reducible rfl))))); (try simp only [Act.put, List.setIfInBounds_toArray, List.set_cons_zero, List.set_cons_succ]))
      (refine o_pure (v := ?_) (by rfl) (fun w' => ?_) ?_; rotate_left; (focus (go_simp; (try with_reducible rfl); (try (rw [if_pos (by omega)]; (try with_reducible rfl))))); (try simp only [Act.put, List.setIfInBounds_toArray, List.set_cons_zero, List.set_cons_succ]))
      (refine o_load _ (by rfl) rfl rfl (by assumption) (by kernel_rfl) ?_; simp only [Act.put, List.setIfInBounds_toArray, List.set_cons_zero, List.set_cons_succ])
      (refine o_pure (v := ?_) (by rfl) (fun w' => ?_) ?_; rotate_left; (focus (go_simp; (try with_reducible rfl); (try (rw [if_pos (by omega)]; (try with_reducible rfl))))); (try simp only [Act.put, List.setIfInBounds_toArray, List.set_cons_zero, List.set_cons_succ]))
      (refine o_pure (v := ?_) (by rfl) (fun w' => ?_) ?_; rotate_left; (focus (go_simp; (try with_reducible rfl); (try (rw [if_pos (by omega)]; (try with_reducible rfl))))); (try simp only [Act.put, List.setIfInBounds_toArray, List.set_cons_zero, List.set_cons_succ]))
      (refine o_pure (v := ?_) (by rfl) (fun w' => ?_) ?_; rotate_left; (focus (go_simp; (try with_reducible rfl); (try (rw [if_pos (by omega)]; (try with_reducible rfl))))); (try simp only [Act.put, List.setIfInBounds_toArray, List.set_cons_zero, List.set_cons_succ]))
      (refine o_pure (v := ?_) (by rfl) (fun w' => ?_) ?_; rotate_left; (focus (go_simp; (try with_reducible rfl); (try (rw [if_pos (by omega)]; (try with_reducible rfl))))); (try simp only [Act.put, List.setIfInBounds_toArray, List.set_cons_zero, List.set_cons_succ]))
      (refine o_load _ (by rfl) rfl rfl (by assumption) (by kernel_rfl) ?_; simp only [Act.put, List.setIfInBounds_toArray, List.set_cons_zero, List.set_cons_succ])
      (refine o_pure (v := ?_) (by rfl) (fun w' => ?_) ?_; rotate_left; (focus (go_simp; (try with_reducible rfl); (try (rw [if_pos (by omega)]; (try with_reducible rfl))))); (try simp only [Act.put, List.setIfInBounds_toArray, List.set_cons_zero, List.set_cons_succ]))
      clear y0 y1
      refine o_sole (fun K hK => ?_)
      go_wp2_with fail
      refine hK _ _ (fun _ => Ext.of ((Below.refl _ _).alloc (Nat.le_refl _) _)) ?_; clear hK K
      refine o_sole (fun K hK => ?_)
      have hsk : (l.take vn).length = vn := by rw [List.length_take, HL.out]; omega
      refine appZ relB #[.int .u32 x, .int .u32 y] rfl (bks_one [(x, y)]) rfl (.tmp 11) (.tmp 23) rfl rfl (show wd.ownsRow w.heap.size 51 2 (.slice vA vn vc) vn (bks (l.take vn)) from by have h := OD.out; unfold BO at h; rwa [hsk] at h) rfl rfl (room_ge (by omega)) BD.out.size ?_
      intro v24 w24 ho24 _ hb24
      have O24 := Lib.hid (show BO w24 w.heap.size v24 (l.take (vn + 1)) from by
        unfold BO
        rw [nth_take (Lib.hid HP.out), List.length_append, hsk, bks_append]
        exact ho24)
      have B24 := Lib.hid (BD.out.trans hb24)
      obtain ⟨A24, n24, c24, rfl, _, _, _⟩ := O24.out.out
      refine wpList_nil ?_
      refine hK _ _ (fun h => by cases h) ?_; clear hK K
      clear ho24 hb24 OD BD
      (refine o_pure (v := ?_) (by rfl) (fun w' => ?_) ?_; rotate_left; (focus (go_simp; (try with_reducible rfl); (try (rw [if_pos (by omega)]; (try with_reducible rfl))))); (try simp only [Act.put, List.setIfInBounds_toArray, List.set_cons_zero, List.set_cons_succ]))
      refine o_nil (hQ.out _ _ ?_); clear hQ QQ
      go_wp2_with fail
      go_roundw
      case rel => exact ⟨vn + 1, by omega, by go_num, O24, B24.out⟩
      case measure => simp [intOf]; omega
    · have hge : ¬ (k : Int) < (n : Int) := by omega
      have hall : l.take k = l := List.take_of_length_le (by rw [HL.out]; omega)
      have h1 := hO.out
      rw [hall] at h1
      have H1 := Lib.hid h1
      clear h1 hall hO
      go_wp2_with fail
      go_ret
      exact ⟨_, rfl, H1.out, hbw⟩
theorem neqB (x y : Int) (w : World) : (binOp .neq 51 (.agg #[.int .u32 x, .int .u32 y]) (.agg #[.int .u32 x, .int .u32 y])).run Try.prog w = .ok (.bool false) w := by
  have h : (Op.equalIn 10000 51 (.agg #[.int .u32 x, .int .u32 y]) (.agg #[.int .u32 x, .int .u32 y])).run Try.prog w = .ok true w := by
    rw [show (10000 : Nat) = 9999 + 1 from rfl, run_equalIn_agg w 9999 51 _ _ (by kernel_rfl) (by kernel_rfl)]
    simp [go_sem]
  rw [run_neq_struct, h]
  rfl
set_option maxRecDepth 20000 in
set_option maxHeartbeats 4000000 in
/-- Two rows of the same pieces. -/
theorem ssame_true (A C : Option Addr) (n c d : Nat) (l : List Bk) (w : World) (h1 : Rd w w.heap.size 2 A n (bks l)) (h2 : Rd w w.heap.size 2 C n (bks l)) (hn : n ≤ 100000) :
    Calls Try.prog 13 #[.slice A n c, .slice C n d] w fun e w' => e = .returned (.bool true) ∧ Below w.heap.size w w' := by
  have H1 := Lib.hid h1
  have H2 := Lib.hid h2
  have hnn : ((n : Int) != (n : Int)) = false := by simp
  clear h1 h2
  go_enter Try.func13, Try.ntmps13
  go_wp2_with fail
  go_loopw [5] (fun iv wr => ∃ k : Nat, k ≤ n ∧ iv = .int .i64 k ∧ Below w.heap.size w wr) (fun iv _ => n - (intOf iv).toNat)
  case atStart => exact ⟨0, Nat.zero_le _, rfl, Below.refl _ _⟩
  case round =>
    obtain ⟨k, hk, rfl, hbw⟩ := hrel
    by_cases hlt : k < n
    · have hlt' : (k : Int) < (n : Int) := by omega
      obtain ⟨b, off, x, y, rfl, hbb, p0, p1, hp⟩ := (H1.out.below hbw).bk hlt
      obtain ⟨b', off', x', y', rfl, hbb', r0, r1, hq⟩ := (H2.out.below hbw).bk hlt
      have e := hp.out.symm.trans hq.out
      injection e with e
      injection e with e1 e2
      subst e1 e2
      have hnR := neqB x y
      have c1 : ∀ j v, [Value.int .u32 x, .int .u32 y][j]? = some v → wr.cell? ⟨b, off + k * 2 + j, none⟩ = some v := by
        intro j v hx
        match j, hx with
        | 0, hx => simp at hx; subst hx; exact p0
        | 1, hx => simp at hx; subst hx; exact p1
      have c2 : ∀ j v, [Value.int .u32 x, .int .u32 y][j]? = some v → wr.cell? ⟨b', off' + k * 2 + j, none⟩ = some v := by
        intro j v hx
        match j, hx with
        | 0, hx => simp at hx; subst hx; exact r0
        | 1, hx => simp at hx; subst hx; exact r1
      have C1 := Lib.hid c1
      have C2 := Lib.hid c2
      clear c1 c2 p0 p1 r0 r1 hp hq
      go_wp2_with fail
      refine wp_ext (by kernel_rfl) (by kernel_rfl) (fun QQ hQ => ?_)
      (first | (refine x_load _ (by rfl) rfl rfl (by assumption) (by kernel_rfl) ?_; simp only [Act.put, List.setIfInBounds_toArray, List.set_cons_zero, List.set_cons_succ]) | (refine x_val (v := ?_) (by rfl) (fun w' hx => ?_) ?_; rotate_left; (focus (go_simp; (try with_reducible rfl))); (try simp only [Act.put, List.setIfInBounds_toArray, List.set_cons_zero, List.set_cons_succ])))
      (first | (refine x_load _ (by rfl) rfl rfl (by assumption) (by kernel_rfl) ?_; simp only [Act.put, List.setIfInBounds_toArray, List.set_cons_zero, List.set_cons_succ]) | (refine x_val (v := ?_) (by rfl) (fun w' hx => ?_) ?_; rotate_left; (focus (go_simp; (try with_reducible rfl))); (try simp only [Act.put, List.setIfInBounds_toArray, List.set_cons_zero, List.set_cons_succ])))
      (first | (refine x_load _ (by rfl) rfl rfl (by assumption) (by kernel_rfl) ?_; simp only [Act.put, List.setIfInBounds_toArray, List.set_cons_zero, List.set_cons_succ]) | (refine x_val (v := ?_) (by rfl) (fun w' hx => ?_) ?_; rotate_left; (focus (go_simp; (try with_reducible rfl))); (try simp only [Act.put, List.setIfInBounds_toArray, List.set_cons_zero, List.set_cons_succ])))
      refine x_loads _ [.int .u32 x, .int .u32 y] (by rfl) rfl rfl (C1.out) (Nat.succ_pos _) (by kernel_rfl) (by kernel_rfl) ?_; simp only [Act.put, List.setIfInBounds_toArray, List.set_cons_zero, List.set_cons_succ]
      (first | (refine x_load _ (by rfl) rfl rfl (by assumption) (by kernel_rfl) ?_; simp only [Act.put, List.setIfInBounds_toArray, List.set_cons_zero, List.set_cons_succ]) | (refine x_val (v := ?_) (by rfl) (fun w' hx => ?_) ?_; rotate_left; (focus (go_simp; (try with_reducible rfl))); (try simp only [Act.put, List.setIfInBounds_toArray, List.set_cons_zero, List.set_cons_succ])))
      (first | (refine x_load _ (by rfl) rfl rfl (by assumption) (by kernel_rfl) ?_; simp only [Act.put, List.setIfInBounds_toArray, List.set_cons_zero, List.set_cons_succ]) | (refine x_val (v := ?_) (by rfl) (fun w' hx => ?_) ?_; rotate_left; (focus (go_simp; (try with_reducible rfl))); (try simp only [Act.put, List.setIfInBounds_toArray, List.set_cons_zero, List.set_cons_succ])))
      (first | (refine x_load _ (by rfl) rfl rfl (by assumption) (by kernel_rfl) ?_; simp only [Act.put, List.setIfInBounds_toArray, List.set_cons_zero, List.set_cons_succ]) | (refine x_val (v := ?_) (by rfl) (fun w' hx => ?_) ?_; rotate_left; (focus (go_simp; (try with_reducible rfl))); (try simp only [Act.put, List.setIfInBounds_toArray, List.set_cons_zero, List.set_cons_succ])))
      refine x_loads _ [.int .u32 x, .int .u32 y] (by rfl) rfl rfl (C2.out) (Nat.succ_pos _) (by kernel_rfl) (by kernel_rfl) ?_; simp only [Act.put, List.setIfInBounds_toArray, List.set_cons_zero, List.set_cons_succ]
      (first | (refine x_load _ (by rfl) rfl rfl (by assumption) (by kernel_rfl) ?_; simp only [Act.put, List.setIfInBounds_toArray, List.set_cons_zero, List.set_cons_succ]) | (refine x_val (v := ?_) (by rfl) (fun w' hx => ?_) ?_; rotate_left; (focus (go_simp; (try with_reducible rfl))); (try simp only [Act.put, List.setIfInBounds_toArray, List.set_cons_zero, List.set_cons_succ])))
      refine x_nil (hQ.out _ ?_); clear hQ QQ
      intro w5 hb5
      have B5 := Lib.hid (hbw.trans (hb5.mono hbw.size))
      clear hb5
      go_wp2_with fail
      go_roundw
      case rel => exact ⟨k + 1, by omega, by go_num, B5.out⟩
      case measure => simp [intOf]; omega
    · have hge : ¬ (k : Int) < (n : Int) := by omega
      go_wp2_with fail
      go_ret
      exact ⟨rfl, hbw⟩
end Go.Proofs.Ytpnnadnmkiobcaa
