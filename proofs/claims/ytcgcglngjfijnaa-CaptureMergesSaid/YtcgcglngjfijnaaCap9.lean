/- Layer 34: the document's bytes of a capture. -/
import Derived.Test.YtcgcglngjfijnaaCap7
import Derived.Test.YtcgcglngjfijnaaCap8
import Derived.Test.YtcgcglngjfijnaaPk6
import Derived.Lib.AppendStr
namespace Go.Proofs.Ytcgcglngjfijnaa
open Go.RowKit
set_option linter.unusedVariables false
set_option linter.unusedSimpArgs false
theorem strCells_strN {bs : List Nat} (h : ∀ x ∈ bs, x < 256) : Lib.strCells (strN bs) = ns .u8 bs := by
  unfold Lib.strCells ns
  rw [show (strN bs).data.toList = bs.map UInt8.ofNat by simp [strN], List.map_map]
  refine List.map_congr_left fun x hx => ?_
  have := h x hx
  simp
  omega
section
variable {P : Program} {w : World} {ops : Array Oper} {rest : List Oper} {o : Oper} {a : Act} {Q : Exit → Act → World → Prop} {t u e : TypeId}
/-- append of a text's bytes. -/
theorem appstr (el : El P t e (.int .u8 0) 1 1) (hu : P.underlying u = some .string) (hgd : o.guard = none) (sl x : Operand) (ho : o.op = .call { callee := .builtin .append, args := #[sl, x], argTypes := #[t, u] })
    {base : Nat} {v : Value} {l bs : List Nat} (hs : a.eval sl = v) (hown : Nats w e .u8 base v l) (hx : a.eval x = .string (strN bs)) (hb : ∀ x ∈ bs, x < 256) (hroom : l.length + bs.length ≤ room) (hbase : base ≤ w.heap.size)
    (h : ∀ v' w', Nats w' e .u8 base v' (l ++ bs) → w.grownBy w' v.ownBlock → Below base w w' → wpList P ops Q rest (a.put o.dst v') w') : wpList P ops Q (o :: rest) a w := by
  obtain ⟨ht, hinf, hzs, hsz, hb1⟩ := el
  obtain ⟨i, hi, hz, hsize, hby⟩ := info_parts hinf
  have hbytes := room_le hroom
  have hss := strN_size bs
  refine Lib.wpList_append_own_string w hgd sl x t u ho base e i ht hu hi hz hsize hby v l.length (ns .u8 l) hs hown (strN bs) hx (by unfold maxLen; omega) (by omega) hbase fun v' w' h1 h2 _ => ?_
  rw [strCells_strN hb, hss] at h1
  refine h v' w' ?_ h2 ((Below.refl _ _).grown h2 hbase fun k hk => (hown.lt k hk).1)
  unfold Nats
  rw [ns_append, List.length_append]
  exact h1
end
end Go.Proofs.Ytcgcglngjfijnaa
