/- Two segments held against each other: they are the same. -/
import Derived.Test.YtbiimgfocgbdaaaG9MacBack
import Derived.Test.YtbiimgfocgbdaaaOrd
import Derived.Test.YtbiimgfocgbdaaaG12MacBack
import Derived.Test.YtbiimgfocgbdaaaG8MacBack

namespace Go.Proofs.Ytbiimgfocgbdaaa
open Go.RowKit
set_option linter.unusedVariables false
theorem cells2v {w : World} {b off : Nat} {u v : Value} (h1 : w.cell? ⟨b, off, none⟩ = some u) (h2 : w.cell? ⟨b, off + 1, none⟩ = some v) :
    ∀ j x, [u, v][j]? = some x → w.cell? ⟨b, off + j, none⟩ = some x := by
  intro j x hx
  match j, hx with
  | 0, hx => simp at hx; subst hx; exact h1
  | 1, hx => simp at hx; subst hx; exact h2
set_option maxRecDepth 20000 in
set_option maxHeartbeats 1000000 in
theorem sameo_any (kd : Nat) (A B : Option Addr) (n c m d : Nat) (l : List Nat) (w : World) (h1 : Rd w w.heap.size 1 A n (ns .u8 l)) (h2 : Rd w w.heap.size 1 B m (ns .u8 l)) :
    Calls Try.prog 31 #[.agg #[.int .u8 (kd : Int), .slice A n c], .agg #[.int .u8 (kd : Int), .slice B m d]] w fun e w' => e = .returned (.bool true) ∧ Below w.heap.size w w' := by
  have hb : Below w.heap.size w ((w.alloc (.cells #[.int .u8 (kd : Int), .slice A n c] 45)).alloc (.cells #[.int .u8 (kd : Int), .slice B m d] 45)) := ((Below.refl _ _).alloc (Nat.le_refl _) _).alloc (by simp) _
  have H1 := Lib.hid (h1.below hb)
  have H2 := Lib.hid (h2.below hb)
  have HB := Lib.hid hb
  clear h1 h2 hb
  go_enter Try.func31, Try.ntmps31
  go_wp2_with (first | refine wpList_conv Try.underlying28 Try.underlying5 Try.underlying9 rfl _ rfl rfl H1.out ?_ | refine wpList_conv Try.underlying28 Try.underlying5 Try.underlying9 rfl _ rfl rfl H2.out ?_)
  go_ret
  exact ⟨ret_bool (by simp), HB.out⟩
end Go.Proofs.Ytbiimgfocgbdaaa

/- The options that some bytes are. -/
namespace Go.Proofs.Ytbiimgfocgbdaaa
open Go.RowKit
set_option linter.unusedVariables false
theorem poel : El Try.prog 27 45 (.agg #[.int .u8 0, .slice none 0 0]) 2 32 := ⟨Try.underlying27, by kernel_rfl, rfl, by omega, by omega⟩
section
variable {P : Program} {ops : Array Oper} {rest : List Oper} {o : Oper} {a : Act} {Q : Exit → Act → World → Prop} {t e : TypeId} {z : Value} {bytes : Nat}
theorem app1o {w0 : World} (el : El P t e z 2 bytes) (p : Ob) (hgd : o.guard = none) (s d : Operand) (ho : o.op = .call { callee := .builtin .append, args := #[s, d], argTypes := #[t, t] })
    {base : Nat} {v : Value} {l : List Ob} (hs : a.eval s = v) (hown : w0.ownsRow base e 2 v l.length (ocs l)) {gz : Nat} (hx : a.eval d = .slice (some ⟨gz, 0, none⟩) 1 1) (hgz : gz = w0.heap.size) (hroom : (l.length + 1) * bytes ≤ room) (hbase : base ≤ w0.heap.size)
    (h : ∀ v' w', w'.ownsRow base e 2 v' (l ++ [p]).length (ocs (l ++ [p])) → w0.grownBy w' v.ownBlock → Below base w0 w' → wpList P ops Q rest (a.put o.dst v') w') : wpList P ops Q (o :: rest) a (w0.alloc (.cells #[.int .u8 (p.1 : Int), .slice p.2.A p.2.n p.2.c] e)) := by
  subst hgz
  have hr : Rd (w0.alloc (.cells #[.int .u8 (p.1 : Int), .slice p.2.A p.2.n p.2.c] e)) (w0.heap.size + 1) 2 (some ⟨w0.heap.size, 0, none⟩) 1 (ocs [p]) := Rd.made w0 e #[.int .u8 (p.1 : Int), .slice p.2.A p.2.n p.2.c] rfl
  refine app el hgd s d ho hs (hown.alloc _) hx hr (ocs_one _) hroom (by simp; omega) fun v' w' h1 h2 h3 => ?_
  refine h v' w' ?_ ?_ (((Below.refl _ _).alloc hbase _).trans h3)
  · rw [ocs_append, List.length_append]
    exact h1
  · have hA := World.grownBy_alloc w0 (.cells #[.int .u8 (p.1 : Int), .slice p.2.A p.2.n p.2.c] e) v.ownBlock
    exact grownBy_trans hA h2
end
/-- What can't be options. -/
def badO (r : List Nat) : Prop := 0 < r.length ∧ (r.length < 2 ∨ r[0]? = some 0 ∨ ∃ y, r[1]? = some y ∧ r.length < 2 + y)
theorem badO_no {os : List Opn} {l : List Nat} {k : Nat} (h : oBytes os = l.take k) (hb : badO (l.drop k)) : ¬ ∃ o, isOpts l o := by
  rintro ⟨o, ho, hk⟩
  rw [← List.take_append_drop k l, ← h] at ho
  obtain ⟨m, rfl, hm⟩ := oBytes_pre ho
  rw [← hm] at hb
  obtain ⟨h0, hb⟩ := hb
  cases m with
  | nil => simp [oBytes] at h0
  | cons p m =>
    rw [oBytes_cons] at hb
    rcases hb with hb | hb | ⟨y, hy, hb⟩
    · simp at hb
      omega
    · simp at hb
      exact hk p (by simp) hb
    · simp at hy
      subst hy
      simp at hb
      omega
theorem okO_step {os : List Opn} {l : List Nat} {k x0 x1 : Nat} (h : oBytes os = l.take k) (h0 : (l.drop k)[0]? = some x0) (h1 : (l.drop k)[1]? = some x1) (hl : 2 + x1 ≤ (l.drop k).length) :
    oBytes (os ++ [(x0, ((l.drop k).take (2 + x1)).drop 2)]) = l.take (k + (2 + x1)) := by
  have e : l.take (k + (2 + x1)) = l.take k ++ (l.drop k).take (2 + x1) := List.take_add ..
  rw [oBytes_append, h, e]
  clear e h
  congr 1
  generalize l.drop k = r at *
  have hlen : ((r.take (2 + x1)).drop 2).length = x1 := by rw [List.length_drop, List.length_take]; omega
  match r, h0, h1 with
  | a :: b :: r, h0, h1 =>
    simp at h0 h1
    subst h0 h1
    rw [oBytes_cons]
    dsimp only
    rw [hlen]
    rw [show 2 + b = b + 1 + 1 by omega]
    simp [oBytes]
/-- Of the same block. -/
def SameB (A Y : Option Addr) : Prop := ∀ b o, Y = some ⟨b, o, none⟩ → ∃ o', A = some ⟨b, o', none⟩
theorem SameB.refl (A : Option Addr) : SameB A A := fun b o h => ⟨o, h⟩
theorem SameB.trans {A B C : Option Addr} (h : SameB A B) (k : SameB B C) : SameB A C := fun b o e => by
  obtain ⟨o', h1⟩ := k b o e
  exact h b o' h1
theorem sameB_cut (b off c h sz : Nat) : SameB (some ⟨b, off, none⟩) (cutA (some ⟨b, off, none⟩) c h sz) := by
  intro b' o' e
  unfold cutA at e
  split at e
  · injection e with e; injection e with e1 e2; subst e1; exact ⟨off, rfl⟩
  · rw [Option.map_some, addr_add] at e
    injection e with e; injection e with e1 e2; subst e1; exact ⟨off, rfl⟩
/-- What cut answers. -/
def CutPost (A : Option Addr) (l : List Nat) (B : Nat) (w w' : World) (e : Ending) : Prop :=
  (∃ v os, e = .returned (.tuple #[v, .bool true]) ∧ w'.ownsRow w.heap.size 45 2 v os.length (ocs os) ∧ (∀ p ∈ os, Rd w B 1 p.2.A p.2.n (ns .u8 p.2.l) ∧ p.2.n ≤ p.2.c ∧ p.2.c ≤ 2 ^ 63 - 1) ∧ (∀ p ∈ os, SameB A p.2.A) ∧ isOpts l (osay os)) ∨
  ((¬ ∃ o, isOpts l o) ∧ e = .returned (.tuple #[.slice none 0 0, .bool false]))
end Go.Proofs.Ytbiimgfocgbdaaa

/- The segment of some bytes. -/
namespace Go.Proofs.Ytbiimgfocgbdaaa
open Go.RowKit
set_option linter.unusedVariables false
theorem cut14 {l : List Nat} (h : 14 ≤ l.length) : cut (l.take 14) [2, 2, 4, 4, 1, 1] = some ([ub (l.take 2), ub ((l.drop 2).take 2), ub ((l.drop 4).take 4), ub ((l.drop 8).take 4), l.getD 12 0, l.getD 13 0], []) := by
  match l, h with
  | a0 :: a1 :: a2 :: a3 :: a4 :: a5 :: a6 :: a7 :: a8 :: a9 :: a10 :: a11 :: a12 :: a13 :: r, _ => simp [cut, okS, ub]
theorem cut_len {b : List Nat} {ss : List Int} {xs r : List Nat} (h : cut b ss = some (xs, r)) : (ss.map Int.toNat).sum + r.length = b.length := by
  induction ss generalizing b xs with
  | nil =>
    simp [cut] at h
    rw [h.2]
    simp
  | cons s ss ih =>
    rw [cut] at h
    split at h
    · rename_i hc
      simp at hc
      rw [Option.map_eq_some_iff] at h
      obtain ⟨⟨ys, q⟩, h1, h2⟩ := h
      injection h2 with h2 h3
      subst h3
      have := ih h1
      rw [List.length_drop] at this
      rw [List.map_cons, List.sum_cons]
      omega
    · cases h
theorem cut_short {l : List Nat} (h : l.length < 14) (xs : List Nat) : cut l [2, 2, 4, 4, 1, 1] ≠ some (xs, []) := by
  intro h1
  have := cut_len h1
  simp at this
  omega
theorem ub_bd {l : List Nat} (hb : ∀ x ∈ l, x < 256) (k n : Nat) : ub ((l.drop k).take n) < 256 ^ n := by
  have := ub_lt _ ((l.drop k).take n) rfl (fun x hx => hb x (List.mem_of_mem_drop (List.mem_of_mem_take hx)))
  exact Nat.lt_of_lt_of_le this (Nat.pow_le_pow_right (by omega) (List.length_take_le _ _))
/-- What Parse answers. -/
def ParPost (l : List Nat) (w' : World) (e : Ending) : Prop := ∃ (v : Value) (cd : Nat) (g : Sg), e = .returned (.tuple #[v, .int .i64 (cd : Int)]) ∧ parC l cd ∧ SegV w' v g ∧ g.bd ∧ (cd = 0 → encS g = l ∧ rightS g = 0) ∧ (cd ≠ 0 → g = zeroS)
theorem parPost_err {l : List Nat} {w' : World} {cd : Nat} (h : parC l cd) (h0 : cd ≠ 0) : ParPost l w' (.returned (.tuple #[.agg (segCs zeroS none 0 0 none 0 0), .int .i64 (cd : Int)])) :=
  ⟨_, cd, zeroS, rfl, h, SegV.zero w', zeroS_bd, fun h => absurd h h0, fun _ => rfl⟩
section
variable {w w0 : World} {T B : Nat} {b0 b1 b2 b3 b4 b5 b6 : Value} (a0 a1 a2 a3 a4 a5 a6 : Value)
/-- A segment is stored whole. -/
def put7 (w : World) (T : Nat) (a0 a1 a2 a3 a4 a5 a6 : Value) : World := ((((((w.setCell ⟨T, 0, none⟩ a0).setCell ⟨T, 1, none⟩ a1).setCell ⟨T, 2, none⟩ a2).setCell ⟨T, 3, none⟩ a3).setCell ⟨T, 4, none⟩ a4).setCell ⟨T, 5, none⟩ a5).setCell ⟨T, 6, none⟩ a6
theorem seg7 {t : TypeId} (h : Blk w T t #[b0, b1, b2, b3, b4, b5, b6]) : Blk (put7 w T a0 a1 a2 a3 a4 a5 a6) T t #[a0, a1, a2, a3, a4, a5, a6] := by
  have h1 : Blk (w.setCell ⟨T, 0, none⟩ a0) T t #[a0, b1, b2, b3, b4, b5, b6] := h.set 0 a0
  have h2 : Blk ((w.setCell ⟨T, 0, none⟩ a0).setCell ⟨T, 1, none⟩ a1) T t #[a0, a1, b2, b3, b4, b5, b6] := h1.set 1 a1
  have h3 : Blk (((w.setCell ⟨T, 0, none⟩ a0).setCell ⟨T, 1, none⟩ a1).setCell ⟨T, 2, none⟩ a2) T t #[a0, a1, a2, b3, b4, b5, b6] := h2.set 2 a2
  have h4 : Blk ((((w.setCell ⟨T, 0, none⟩ a0).setCell ⟨T, 1, none⟩ a1).setCell ⟨T, 2, none⟩ a2).setCell ⟨T, 3, none⟩ a3) T t #[a0, a1, a2, a3, b4, b5, b6] := h3.set 3 a3
  have h5 : Blk (((((w.setCell ⟨T, 0, none⟩ a0).setCell ⟨T, 1, none⟩ a1).setCell ⟨T, 2, none⟩ a2).setCell ⟨T, 3, none⟩ a3).setCell ⟨T, 4, none⟩ a4) T t #[a0, a1, a2, a3, a4, b5, b6] := h4.set 4 a4
  have h6 : Blk ((((((w.setCell ⟨T, 0, none⟩ a0).setCell ⟨T, 1, none⟩ a1).setCell ⟨T, 2, none⟩ a2).setCell ⟨T, 3, none⟩ a3).setCell ⟨T, 4, none⟩ a4).setCell ⟨T, 5, none⟩ a5) T t #[a0, a1, a2, a3, a4, a5, b6] := h5.set 5 a5
  have h7 : Blk (((((((w.setCell ⟨T, 0, none⟩ a0).setCell ⟨T, 1, none⟩ a1).setCell ⟨T, 2, none⟩ a2).setCell ⟨T, 3, none⟩ a3).setCell ⟨T, 4, none⟩ a4).setCell ⟨T, 5, none⟩ a5).setCell ⟨T, 6, none⟩ a6) T t #[a0, a1, a2, a3, a4, a5, a6] := h6.set 6 a6
  exact h7
theorem bel7 (h : Below B w0 w) (hT : B ≤ T) : Below B w0 (put7 w T a0 a1 a2 a3 a4 a5 a6) :=
  ((((((h.setCell (p := ⟨T, 0, none⟩) hT a0).setCell (p := ⟨T, 1, none⟩) hT a1).setCell (p := ⟨T, 2, none⟩) hT a2).setCell (p := ⟨T, 3, none⟩) hT a3).setCell (p := ⟨T, 4, none⟩) hT a4).setCell (p := ⟨T, 5, none⟩) hT a5).setCell (p := ⟨T, 6, none⟩) hT a6
theorem Rd.solo {w w' : World} {T : Nat} {A : Option Addr} {n sz : Nat} {xs : List Value} (h : Rd w w.heap.size sz A n xs) (hs : Solo T w w') (hA : ∀ b o, A = some ⟨b, o, none⟩ → T < b) : Rd w' w'.heap.size sz A n xs := by
  refine ⟨h.1, fun hn => ?_⟩
  obtain ⟨b, off, e, hb, hc⟩ := h.2 hn
  exact ⟨b, off, e, by rw [hs.2.1]; exact hb, fun j hj => (World.cell?_of_block (a := ⟨b, off + j, none⟩) (hs.2.2 b (by have := hA b off e; omega))).trans (hc j hj)⟩
theorem solo7 : Solo T w (put7 w T a0 a1 a2 a3 a4 a5 a6) := ((((((Solo.refl.setCell 0 a0).setCell 1 a1).setCell 2 a2).setCell 3 a3).setCell 4 a4).setCell 5 a5).setCell 6 a6
end
end Go.Proofs.Ytbiimgfocgbdaaa
