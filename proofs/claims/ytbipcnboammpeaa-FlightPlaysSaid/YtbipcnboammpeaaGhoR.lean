/- Regions that draw: append to an empty literal; rows of elements of several cells. No program. -/
import Derived.Test.YtbipcnboammpeaaGhoP
import Derived.Test.YtbipcnboammpeaaGho2
import Derived.Test.YtbipcnboammpeaaSz2
namespace Go.Proofs.Ytbipcnboammpeaa.GH
open Go.RowKit Go.Proofs.Ytbipcnboammpeaa
set_option linter.unusedVariables false
/-- A literal of no element. -/
def SP.row0 (e : TypeId) (B : Nat) : SP false := ⟨fun v w => ∃ g, v = .slice (some ⟨g, 0, none⟩) 0 0 ∧ B ≤ g ∧ Blk w g e #[], fun B' v w w' h hb => by
  obtain ⟨g, h1, h2, h3⟩ := h
  exact ⟨g, h1, h2, (hb.block rfl g h3.lt).trans h3⟩⟩
/-- A row of the call's own. -/
def SP.row (e : TypeId) (sz B n : Nat) (xs : List Value) : SP false := ⟨fun v w => w.ownsRow B e sz v n xs, fun _ v w w' h hb => own_kept h fun k hk => hb.block rfl k (h.lt k hk).2⟩
section
variable {P : Program} {B : Nat} {ops : Array Oper} {o : Oper} {a : Act} {w : World} {t e : TypeId} {z : Value} {sz bytes : Nat}
/-- append of a row to an empty literal: always a new row. -/
theorem st_app0 (el : El P t e z sz bytes) (s x : Operand) (hw : Region.wanted o (yielded ops a.tmps) = true) (ho : o.op = .call { callee := .builtin .append, args := #[s, x], argTypes := #[t, t] })
    {g n c : Nat} {A : Option Addr} {xs : List Value} (hes : a.eval s = .slice (some ⟨g, 0, none⟩) 0 0) (hx : a.eval x = .slice A n c) (hg : Blk w g e #[]) (hB : B ≤ g) (hbase : B ≤ w.heap.size) {B' : Nat} (hr : Rd w B' sz A n xs) (h1 : ∀ u ∈ xs, u.oneCell' = true) (hroom : n * bytes ≤ room) :
    St P false B ops o a w (SP.row e sz B n xs) := by
  have key : ∃ v' w', (Builtin.append_ #[t, t] o.type #[.slice (some ⟨g, 0, none⟩) 0 0, .slice A n c]).run P w = .ok v' w' ∧ w'.ownsRow B e sz v' n xs ∧ Gr false B w w' := by
    rcases Nat.eq_zero_or_pos n with rfl | h0
    · have hxs : xs = [] := List.eq_nil_of_length_eq_zero (by rw [hr.1, Nat.zero_mul])
      subst hxs
      obtain ⟨w', hrun, hb, hs⟩ := run_app_blk (P := P) (ty := o.type) (n := 0) (c := 0) (m := 0) (mc := c) (sp := A) (L := []) (cs := []) el hg (by simp) (fun h => absurd h (by omega)) (by omega) (by simp) (by simp)
      have hb2 : Blk w' g e #[] := by simpa [splv] using hb
      have hall : ∀ k : Nat, w'.heap[k]? = w.heap[k]? := fun k => by
        by_cases ek : k = g
        · rw [ek]; exact Eq.trans hb2 (Eq.symm hg)
        · exact hs.2.2 k ek
      refine ⟨_, _, hrun, ?_, ⟨hs.1.mono hB, fun k q hk => World.cell?_of_block (a := ⟨k, q, none⟩) (hall k), fun _ k hk => hall k⟩⟩
      exact own_shut (L := []) (n := 0) (c := 0) hB hb2 (Nat.le_refl _) (by unfold maxLen; omega) (by simp) (by simp)
    · obtain ⟨ht, hinf, hzs, hsz, hb1⟩ := el
      obtain ⟨i, hi, hz, hsize, hby⟩ := info_parts hinf
      subst hsize
      subst hby
      have hbytes := room_le hroom
      have h63 : n ≤ 140737488355328 := Nat.le_trans (Nat.le_mul_of_pos_right _ hb1) hbytes
      obtain ⟨b, off, rfl, _, hc⟩ := hr.2 h0
      have hnews : ∀ j u, xs[j]? = some u → w.cell? ((⟨b, off, none⟩ : Addr).add j) = some u := by
        intro j u hu
        have hj : j < n * i.size := by
          have := (List.getElem?_eq_some_iff.1 hu).1
          have := hr.1
          omega
        rw [addr_add, hc j hj, hu]
      have hown : w.ownsRow B e i.size (.slice (some ⟨g, 0, none⟩) 0 0) 0 [] := own_shut (L := []) (n := 0) (c := 0) hB hg (Nat.le_refl _) (by unfold maxLen; omega) (by simp) (by simp)
      obtain ⟨v', w', hrun, h2, h3, _⟩ := run_append_own (P := P) w B t o.type e i z i.size i.bytes ht hi hz rfl rfl hzs hsz _ 0 [] hown ⟨b, off, none⟩ n c xs hr.1 hnews h1 (by unfold maxLen; omega) (by rw [Nat.zero_add]; exact hbytes) hbase
      have hr2 := run_append_grow (P := P) w t o.type e i z ht hi hz ⟨g, 0, none⟩ 0 0 [] (by simp) (by simp) ⟨b, off, none⟩ n c xs hr.1 hnews (by omega) (by omega) (growslice_fits (by omega) (by rw [Nat.zero_add]; exact hbytes))
      rw [hr2] at hrun
      injection hrun with e1 e2
      refine ⟨v', w', by rw [hr2, e1, e2], by simpa using h2, ?_⟩
      rw [← e2]
      exact Gr.of ((Below.refl _ _).drew.alloc (Nat.le_refl _) _) hbase
  obtain ⟨v', w', hrun, ho2, hgr⟩ := key
  refine st_do hw ?_ hgr ho2
  unfold execOp
  simp only [ho, resolve, invoke, builtin, Sem.run_bind, Sem.run_pure, Result.andThen_ok, List.map_toArray, List.map_cons, List.map_nil, hes, hx, hrun]
end
end Go.Proofs.Ytbipcnboammpeaa.GH
