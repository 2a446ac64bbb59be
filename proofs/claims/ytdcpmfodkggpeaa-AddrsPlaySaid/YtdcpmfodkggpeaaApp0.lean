/- append onto an empty row without room: all that is there stays. No program. -/
import Derived.Test.YtdcpmfodkggpeaaSz2
import Derived.ArgAppend
namespace Go.Proofs.Ytdcpmfodkggpeaa
open Go.RowKit
set_option linter.unusedVariables false
section
variable {P : Program} {w : World} {ops : Array Oper} {rest : List Oper} {o : Oper} {a : Act} {Q : Exit → Act → World → Prop} {t e : TypeId} {z : Value} {sz bytes : Nat}
theorem app0 (el : El P t e z sz bytes) (hgd : o.guard = none) (s x : Operand) (ho : o.op = .call { callee := .builtin .append, args := #[s, x], argTypes := #[t, t] })
    {base : Nat} {g : Nat} (hs : a.eval s = .slice (some ⟨g, 0, none⟩) 0 0) (hown : w.ownsRow base e sz (.slice (some ⟨g, 0, none⟩) 0 0) 0 [])
    {B : Nat} {A : Option Addr} {m c : Nat} {news : List Value} (hx : a.eval x = .slice A m c) (hr : Rd w B sz A m news) (h1 : ∀ u ∈ news, u.oneCell' = true)
    (hroom : m * bytes ≤ room) (hbase : base ≤ w.heap.size)
    (h : ∀ v' w', w'.ownsRow base e sz v' m news → Below w.heap.size w w' → wpList P ops Q rest (a.put o.dst v') w') : wpList P ops Q (o :: rest) a w := by
  obtain ⟨ht, hinf, hzs, hsz, hb1⟩ := el
  have hbytes := room_le hroom
  have h63 : m ≤ 140737488355328 := Nat.le_trans (Nat.le_mul_of_pos_right _ hb1) hbytes
  obtain ⟨i, hi, hz, hsize, hby⟩ := info_parts hinf
  rcases Nat.eq_zero_or_pos m with h0 | h0
  · subst h0
    have hn : news = [] := List.eq_nil_of_length_eq_zero (by simpa using hr.1)
    subst hn
    have hrun : (Builtin.append_ #[t, t] o.type #[.slice (some ⟨g, 0, none⟩) 0 0, .slice A 0 c]).run P w = .ok (.slice (some ⟨g, 0, none⟩) 0 0) w := by
      cases A <;> simp [Builtin.append_, run_underlying ht, sizeOf, typeInfo, hi, Builtin.lenOf, Builtin.firstCells, storeCells, loadCells, loadCellsFrom]
    exact wpList_runa hgd s x ho hs hx hrun (h _ _ hown (Below.refl _ _))
  · obtain ⟨b, off, rfl, _, hc⟩ := hr.2 h0
    have hnews : ∀ j u, news[j]? = some u → w.cell? ((⟨b, off, none⟩ : Addr).add j) = some u := by
      intro j u hu
      have hj : j < m * sz := by
        have := (List.getElem?_eq_some_iff.1 hu).1
        have := hr.1
        omega
      rw [addr_add, hc j hj, hu]
    refine wpList_append_grows w hgd s x t ho e i z sz bytes ht hi hz hsize hby hzs hsz (some ⟨g, 0, none⟩) 0 0 [] hs (by simp) (by simp) (by simp) ⟨b, off, none⟩ m c news hx hr.1 hnews h1 (by omega) (by unfold maxLen; omega) (by simpa using hbytes) fun v' w' h2 h3 => ?_
    rw [Nat.zero_add, List.nil_append] at h2
    exact h v' w' (own_mono h2 hbase) ((Below.refl _ _).grown h3 (Nat.le_refl _) fun k hk => by cases hk)
end
end Go.Proofs.Ytdcpmfodkggpeaa
