/- The options that some bytes are. -/
import Derived.Test.YtcgcglngjfijnaaSg1
import Derived.Test.YtcgcglngjfijnaaSz
import Derived.Test.YtcgcglngjfijnaaOrd
namespace Go.Proofs.Ytcgcglngjfijnaa
open Go.RowKit
set_option linter.unusedVariables false
section
variable {P : Program} {ops : Array Oper} {rest : List Oper} {o : Oper} {a : Act} {Q : Exit → Act → World → Prop} {t e : TypeId} {z : Value} {bytes : Nat}
theorem app1o {w0 : World} (el : El P t e z 2 bytes) (p : Ob) (hgd : o.guard = none) (s d : Operand) (ho : o.op = .call { callee := .builtin .append, args := #[s, d], argTypes := #[t, t] })
    {base : Nat} {v : Value} {l : List Ob} (hs : a.eval s = v) (hown : w0.ownsRow base e 2 v l.length (ocs l)) {gz : Nat} (hx : a.eval d = .slice (some ⟨gz, 0, none⟩) 1 1) (hgz : gz = w0.heap.size) (hroom : (l.length + 1) * bytes ≤ room) (hbase : base ≤ w0.heap.size)
    (h : ∀ v' w', w'.ownsRow base e 2 v' (l ++ [p]).length (ocs (l ++ [p])) → w0.grownBy w' v.ownBlock → Below base w0 w' → wpList P ops Q rest (a.put o.dst v') w') : wpList P ops Q (o :: rest) a (w0.alloc (.cells #[.int .u8 (p.1 : Int), .slice p.2.A p.2.n p.2.c] e)) := by
  subst hgz
  have hr : Rd (w0.alloc (.cells #[.int .u8 (p.1 : Int), .slice p.2.A p.2.n p.2.c] e)) (w0.heap.size + 1) 2 (some ⟨w0.heap.size, 0, none⟩) 1 (ocs [p]) := Rd.made w0 e #[.int .u8 (p.1 : Int), .slice p.2.A p.2.n p.2.c] rfl
  refine app el hgd s d ho hs (hown.alloc _) hx hr (ocs_one _) hroom (by simp; omega) fun v' w' h1 h2 h3 => ?_
  refine h v' w' ?_ ?_ (((Below.refl _ _).alloc hbase _).trans h3)
  · rw [ocs_append, List.length_append]
    exact h1
  · have hA := World.grownBy_alloc w0 (.cells #[.int .u8 (p.1 : Int), .slice p.2.A p.2.n p.2.c] e) v.ownBlock
    exact grownBy_trans hA h2
end
/-- What can't be options. -/
def badO (r : List Nat) : Prop := 0 < r.length ∧ (r.length < 2 ∨ r[0]? = some 0 ∨ ∃ y, r[1]? = some y ∧ r.length < 2 + y)
theorem badO_no {os : List Opn} {l : List Nat} {k : Nat} (h : oBytes os = l.take k) (hb : badO (l.drop k)) : ¬ ∃ o, isOpts l o := by
  rintro ⟨o, ho, hk⟩
  rw [← List.take_append_drop k l, ← h] at ho
  obtain ⟨m, rfl, hm⟩ := oBytes_pre ho
  rw [← hm] at hb
  obtain ⟨h0, hb⟩ := hb
  cases m with
  | nil => simp [oBytes] at h0
  | cons p m =>
    rw [oBytes_cons] at hb
    rcases hb with hb | hb | ⟨y, hy, hb⟩
    · simp at hb
      omega
    · simp at hb
      exact hk p (by simp) hb
    · simp at hy
      subst hy
      simp at hb
      omega
theorem okO_step {os : List Opn} {l : List Nat} {k x0 x1 : Nat} (h : oBytes os = l.take k) (h0 : (l.drop k)[0]? = some x0) (h1 : (l.drop k)[1]? = some x1) (hl : 2 + x1 ≤ (l.drop k).length) :
    oBytes (os ++ [(x0, ((l.drop k).take (2 + x1)).drop 2)]) = l.take (k + (2 + x1)) := by
  have e : l.take (k + (2 + x1)) = l.take k ++ (l.drop k).take (2 + x1) := List.take_add ..
  rw [oBytes_append, h, e]
  clear e h
  congr 1
  generalize l.drop k = r at *
  have hlen : ((r.take (2 + x1)).drop 2).length = x1 := by rw [List.length_drop, List.length_take]; omega
  match r, h0, h1 with
  | a :: b :: r, h0, h1 =>
    simp at h0 h1
    subst h0 h1
    rw [oBytes_cons]
    dsimp only
    rw [hlen]
    rw [show 2 + b = b + 1 + 1 by omega]
    simp [oBytes]
/-- Of the same block. -/
def SameB (A Y : Option Addr) : Prop := ∀ b o, Y = some ⟨b, o, none⟩ → ∃ o', A = some ⟨b, o', none⟩
theorem SameB.refl (A : Option Addr) : SameB A A := fun b o h => ⟨o, h⟩
theorem SameB.trans {A B C : Option Addr} (h : SameB A B) (k : SameB B C) : SameB A C := fun b o e => by
  obtain ⟨o', h1⟩ := k b o e
  exact h b o' h1
theorem sameB_cut (b off c h sz : Nat) : SameB (some ⟨b, off, none⟩) (cutA (some ⟨b, off, none⟩) c h sz) := by
  intro b' o' e
  unfold cutA at e
  split at e
  · injection e with e; injection e with e1 e2; subst e1; exact ⟨off, rfl⟩
  · rw [Option.map_some, addr_add] at e
    injection e with e; injection e with e1 e2; subst e1; exact ⟨off, rfl⟩
/-- What cut answers. -/
def CutPost (A : Option Addr) (l : List Nat) (B : Nat) (w w' : World) (e : Ending) : Prop :=
  (∃ v os, e = .returned (.tuple #[v, .bool true]) ∧ w'.ownsRow w.heap.size 53 2 v os.length (ocs os) ∧ (∀ p ∈ os, Rd w B 1 p.2.A p.2.n (ns .u8 p.2.l) ∧ p.2.n ≤ p.2.c ∧ p.2.c ≤ 2 ^ 63 - 1) ∧ (∀ p ∈ os, SameB A p.2.A) ∧ isOpts l (osay os)) ∨
  ((¬ ∃ o, isOpts l o) ∧ e = .returned (.tuple #[.slice none 0 0, .bool false]))
end Go.Proofs.Ytcgcglngjfijnaa
