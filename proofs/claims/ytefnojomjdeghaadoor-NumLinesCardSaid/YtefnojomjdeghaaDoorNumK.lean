/- Package num: keep; rows of texts. -/
import Derived.Test.YtefnojomjdeghaaDoorNum6
import Derived.Test.YtefnojomjdeghaaDoorNumL
import Derived.Test.YtefnojomjdeghaaDoorShelf
namespace Go.Proofs.YtefnojomjdeghaaDoor
open Go.RowKit
set_option linter.unusedVariables false
theorem elS : El Tryd.prog 37 9 (.string ByteArray.empty) 1 16 := ⟨Tryd.underlying37, by kernel_rfl, rfl, by omega, by omega⟩
theorem clone_any (s : ByteArray) (w : World) (hs : s.size ≤ 100000) : Calls Tryd.prog 32 #[.string s] w fun e w' => e = .returned (.string s) ∧ Below w.heap.size w w' := by
  go_enter Tryd.func32, Tryd.ntmps32
  go_wp2_with fail
  refine (Tryd.stringslite_Clone s w (by omega)).mono ?_
  rintro e w1 ⟨rfl, hb⟩
  go_wp2_with fail
  go_ret
  exact ⟨rfl, hb⟩
/-- A row of the call's own that reads as these texts. -/
def Strs (w : World) (B : Nat) (v : Value) (l : List ByteArray) : Prop := w.ownsRow B 9 1 v l.length (ss l)
section
variable {w w' : World} {B : Nat} {v : Value} {l : List ByteArray}
theorem Strs.nil (w : World) (B : Nat) : Strs w B (.slice none 0 0) [] := World.ownsRow_nil w B 9 1
theorem Strs.kept (h : Strs w B v l) (hk : ∀ g, v.ownBlock = some g → w'.heap[g]? = w.heap[g]?) : Strs w' B v l := by
  refine ⟨h.1, ?_⟩
  rcases h.2 with h0 | ⟨g, cap, cur, hv, hb, hg, r⟩
  · exact .inl h0
  · exact .inr ⟨g, cap, cur, hv, hb, by rw [hk g (by rw [hv]; rfl)]; exact hg, r⟩
theorem Strs.below (h : Strs w B v l) (hb : Below w.heap.size w w') : Strs w' B v l := h.kept fun g hg => hb.block g (h.lt g hg).2
theorem Strs.form (h : Strs w B v l) : ∃ A c, v = .slice A l.length c ∧ l.length ≤ c := by
  rcases h.2 with ⟨hv, h0⟩ | ⟨g, cap, cur, hv, _, _, hc, _⟩
  · exact ⟨none, 0, by rw [hv, h0], by omega⟩
  · exact ⟨_, cap, hv, hc⟩
theorem Strs.rd {A : Option Addr} {n c : Nat} (h : Strs w B (.slice A n c) l) : Rd w w.heap.size 1 A l.length (ss l) := by
  have hn : n = l.length := by
    rcases h.2 with ⟨hv, h0⟩ | ⟨g, cap, cur, hv, _⟩
    · injection hv with _ h1 _; omega
    · injection hv
  subst hn
  exact Rd.of_own h
theorem Strs.out (h : Strs w B v l) : ∃ (A : Option Addr) (n c : Nat), v = .slice A n c ∧ n ≤ c ∧ Hid (l.length = n) ∧ Hid (Rd w w.heap.size 1 A n (ss l)) := by
  obtain ⟨A, c, rfl, hc⟩ := h.form
  exact ⟨A, l.length, c, rfl, hc, rfl, h.rd⟩
theorem Strs.alloc (h : Strs w B v l) (o : Obj) : Strs (w.alloc o) B v l := World.ownsRow.alloc h o
end
section
variable {P : Program} {ops : Array Oper} {rest : List Oper} {o : Oper} {a : Act} {Q : Exit → Act → World → Prop}
/-- append of one text. -/
theorem app1s {w0 : World} {y : Value} (x : ByteArray) (hgd : o.guard = none) (s d : Operand) (ho : o.op = .call { callee := .builtin .append, args := #[s, d], argTypes := #[37, 37] })
    {base : Nat} {v : Value} {l : List ByteArray} (hs : a.eval s = v) (hown : Strs w0 base v l)
    (hx : a.eval d = .slice (some ⟨w0.heap.size, 0, none⟩) 1 1) (hy : y = .string x) (hroom : (l.length + 1) * 16 ≤ room) (hbase : base ≤ w0.heap.size)
    (h : ∀ v' w', Strs w' base v' (l ++ [x]) → w0.grownBy w' v.ownBlock → Below base w0 w' → wpList Tryd.prog ops Q rest (a.put o.dst v') w') : wpList Tryd.prog ops Q (o :: rest) a (w0.alloc (.cells #[y] 9)) := by
  subst hy
  refine app1 elS hgd s d ho hs hown hx rfl hroom hbase fun v' w' h1 h2 h3 => h v' w' ?_ h2 h3
  unfold Strs
  rw [show ss (l ++ [x]) = ss l ++ [Value.string x] from by simp [ss], List.length_append]
  exact h1
end
def adds (l : List ByteArray) (x : ByteArray) : List ByteArray := if x.size = 0 then l else l ++ [x]
/-- What keep gives. -/
def Kp (B : Nat) (l : List ByteArray) (w : World) (e : Ending) (w' : World) : Prop := ∃ v, e = .returned v ∧ Strs w' B v l ∧ Below B w w'
theorem size_toList (s : ByteArray) : s.toList.length = s.size := by rcases s with ⟨a⟩; rw [ByteArray.toList_mk]; rfl
theorem keep_any (B : Nat) (v : Value) (l : List ByteArray) (x : ByteArray) (w : World) (h : Strs w B v l) (hB : B ≤ w.heap.size) (hx : x.size ≤ 100000) (hl : l.length ≤ 100000) :
    Calls Tryd.prog 26 #[v, .string x] w fun e w' => Kp B (adds l x) w e w' := by
  have HS := Lib.hid h
  obtain ⟨A, n, c, hv, hc, hln, hrd⟩ := h.out
  clear h hrd
  unfold adds
  by_cases h0 : x.size = 0
  · rw [if_pos h0]
    have g2 : x.toList.isEmpty = true := by rw [List.isEmpty_iff]; exact List.eq_nil_of_length_eq_zero (by rw [size_toList]; exact h0)
    subst hv
    clear h0
    go_enter Tryd.func26, Tryd.ntmps26
    go_wp2_with fail
    go_ret
    exact ⟨_, rfl, HS.out, Below.refl _ _⟩
  · rw [if_neg h0]
    have g2 : x.toList.isEmpty = false := by
      cases h : x.toList with
      | nil => have := size_toList x; rw [h] at this; exact absurd this.symm h0
      | cons _ _ => rfl
    subst hv
    clear h0
    go_enter Tryd.func26, Tryd.ntmps26
    go_wp2_with fail
    refine (clone_any x w hx).mono ?_
    rintro e w1 ⟨rfl, hb1⟩
    have HS1 := Lib.hid (HS.out.below hb1)
    have hB1 : B ≤ w1.heap.size := Nat.le_trans hB hb1.size
    have hb1' : Below B w w1 := hb1.mono hB
    clear hb1
    go_wp2_with (at_builtin; go_must (refine app1s x rfl _ _ rfl rfl HS1.out rfl rfl ?_ ?_ ?_))
    · exact room_ge (by omega)
    · exact hB1
    intro v2 w2 hn2 _ hb2
    go_wp2
    go_ret
    exact ⟨_, rfl, hn2, hb1'.trans hb2⟩
end Go.Proofs.YtefnojomjdeghaaDoor
