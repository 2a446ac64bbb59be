/- Segments in memory; how many bytes options take, and which error a segment has. -/
import Derived.Test.YtpnnadnmkiobcaaG44SackBack
import Derived.Test.YtpnnadnmkiobcaaOpenG
import Derived.Test.YtpnnadnmkiobcaaG14SackBack
import Derived.Test.YtpnnadnmkiobcaaG1SackBack
import Derived.Test.YtpnnadnmkiobcaaOrd

namespace Go.Proofs.Ytpnnadnmkiobcaa
open Go.RowKit
set_option linter.unusedVariables false
/-- Options as cells: kinds, and the slices of their bodies. -/
abbrev Ob := Nat × Body
def oel (p : Ob) : List Value := [.int .u8 (p.1 : Int), .slice p.2.A p.2.n p.2.c]
def ocs (l : List Ob) : List Value := l.flatMap oel
theorem ocs_cons (p : Ob) (l : List Ob) : ocs (p :: l) = .int .u8 (p.1 : Int) :: .slice p.2.A p.2.n p.2.c :: ocs l := rfl
theorem ocs_append (l m : List Ob) : ocs (l ++ m) = ocs l ++ ocs m := by simp [ocs]
theorem ocs_len (l : List Ob) : (ocs l).length = l.length * 2 := by
  induction l with
  | nil => rfl
  | cons p l ih => rw [ocs_cons, List.length_cons, List.length_cons, ih, List.length_cons]; omega
theorem ocs_get {l : List Ob} {i : Nat} {p : Ob} (h : l[i]? = some p) : (ocs l)[i * 2]? = some (.int .u8 (p.1 : Int)) ∧ (ocs l)[i * 2 + 1]? = some (.slice p.2.A p.2.n p.2.c) := by
  induction l generalizing i with
  | nil => simp at h
  | cons q l ih =>
    cases i with
    | zero => simp at h; subst h; exact ⟨rfl, rfl⟩
    | succ i =>
      have := ih (i := i) (by simpa using h)
      rw [show (i + 1) * 2 = i * 2 + 1 + 1 by omega, ocs_cons, List.getElem?_cons_succ, List.getElem?_cons_succ, List.getElem?_cons_succ, List.getElem?_cons_succ]
      exact this
theorem ocs_one (l : List Ob) : ∀ v ∈ ocs l, v.oneCell' = true := by
  intro v hv
  simp only [ocs, oel, List.mem_flatMap] at hv
  obtain ⟨p, _, hv⟩ := hv
  simp at hv
  rcases hv with rfl | rfl <;> rfl
/-- What they say. -/
def osay (l : List Ob) : List Opn := l.map fun p => (p.1, p.2.l)
/-- Options that can be read in a world. -/
structure Os (w : World) (A : Option Addr) (n c : Nat) (l : List Ob) : Prop where
  row : Rd w w.heap.size 2 A n (ocs l)
  bod : ∀ p ∈ l, Rd w w.heap.size 1 p.2.A p.2.n (ns .u8 p.2.l) ∧ p.2.n ≤ p.2.c ∧ p.2.c ≤ maxLen
  cap : n ≤ c ∧ c ≤ maxLen
theorem Os.nil (w : World) : Os w none 0 0 [] := ⟨Rd.nil _ _ _ _, by simp, Nat.le_refl _, Nat.zero_le _⟩
theorem Os.into {w w' : World} {A : Option Addr} {n c : Nat} {l : List Ob} (h : Os w A n c l) (hb : Below w.heap.size w w') : Os w' A n c l :=
  ⟨h.row.into hb, fun p hp => ⟨(h.bod p hp).1.into hb, (h.bod p hp).2⟩, h.cap⟩
theorem Os.len {w : World} {A : Option Addr} {n c : Nat} {l : List Ob} (h : Os w A n c l) : l.length = n := by have := h.row.1; rw [ocs_len] at this; omega
/-- An option, by a name of its own. -/
theorem Os.at_ {w : World} {A : Option Addr} {n c : Nat} {l : List Ob} (h : Os w A n c l) {i : Nat} (hi : i < n) :
    ∃ (b off k : Nat) (q : Body), A = some ⟨b, off, none⟩ ∧ b < w.heap.size ∧ w.cell? ⟨b, off + i * 2, none⟩ = some (.int .u8 (k : Int)) ∧ w.cell? ⟨b, off + i * 2 + 1, none⟩ = some (.slice q.A q.n q.c) ∧ Hid (l[i]? = some (k, q)) ∧ Hid (Rd w w.heap.size 1 q.A q.n (ns .u8 q.l)) ∧ Hid (q.l.length = q.n) := by
  obtain ⟨b, off, e, hb, hc⟩ := h.row.2 (by omega)
  have hl := h.len
  have hg : l[i]? = some l[i] := List.getElem?_eq_getElem (by omega)
  obtain ⟨g1, g2⟩ := ocs_get hg
  have hbd := h.bod l[i] (List.getElem_mem _)
  exact ⟨b, off, l[i].1, l[i].2, e, hb, (hc (i * 2) (by omega)).trans g1, (Nat.add_assoc off (i * 2) 1 ▸ hc (i * 2 + 1) (by omega)).trans g2, Lib.hid hg, Lib.hid hbd.1, Lib.hid hbd.1.natLen⟩
/-- A segment that can be read. -/
def segCs (g : Sg) (A : Option Addr) (n c : Nat) (D : Option Addr) (m d : Nat) : Array Value :=
  #[.int .u16 (g.src : Int), .int .u16 (g.dst : Int), .int .u32 (g.seq : Int), .int .u32 (g.ack : Int), .int .u8 (g.flags : Int), .slice A n c, .slice D m d]
def SegV (w : World) (v : Value) (g : Sg) : Prop :=
  ∃ (A : Option Addr) (n c : Nat) (D : Option Addr) (m d : Nat) (l : List Ob), v = .agg (segCs g A n c D m d) ∧ Os w A n c l ∧ g.opts = osay l ∧ Rd w w.heap.size 1 D m (ns .u8 g.data) ∧ m ≤ d ∧ d ≤ maxLen
theorem SegV.into {w w' : World} {v : Value} {g : Sg} (h : SegV w v g) (hb : Below w.heap.size w w') : SegV w' v g := by
  obtain ⟨A, n, c, D, m, d, l, e, h1, h2, h3, h4⟩ := h
  exact ⟨A, n, c, D, m, d, l, e, h1.into hb, h2, h3.into hb, h4⟩
theorem SegV.zero (w : World) : SegV w (.agg (segCs zeroS none 0 0 none 0 0)) zeroS := ⟨none, 0, 0, none, 0, 0, [], rfl, Os.nil w, rfl, Rd.nil _ _ _ _, Nat.le_refl _, Nat.zero_le _⟩
/-- Not too much to be asked. -/
structure Sg.small (g : Sg) : Prop where
  opts : g.opts.length ≤ 10000
  bodies : ∀ p ∈ g.opts, p.2.length ≤ 10000
  data : g.data.length ≤ 10000
theorem osay_take (l : List Ob) (k : Nat) : osay (l.take k) = (osay l).take k := by simp [osay, List.map_take]
theorem osay_at {l : List Ob} {i k : Nat} {q : Body} (h : Hid (l[i]? = some (k, q))) : (osay l)[i]? = some (k, q.l) := by unfold osay; rw [List.getElem?_map, h.out]; rfl
/-- How many bytes; none, where they may not be. -/
def oAns (l : List Opn) : Int := if oOk l then (oSize l : Int) else 0
theorem oAns_ok {l : List Opn} (h : oOk l = true) : oAns l = (oSize l : Int) := if_pos h
theorem oAns_no {l : List Opn} (h : oOk l = false) : oAns l = 0 := if_neg (by rw [h]; exact Bool.false_ne_true)
/-- A segment's own cells in a block. -/
theorem seg_cells {w : World} {T : Nat} {t : TypeId} {g : Sg} {A : Option Addr} {n c : Nat} {D : Option Addr} {m d : Nat} (h : Blk w T t (segCs g A n c D m d)) :
    w.cell? ⟨T, 0, none⟩ = some (.int .u16 (g.src : Int)) ∧ w.cell? ⟨T, 1, none⟩ = some (.int .u16 (g.dst : Int)) ∧ w.cell? ⟨T, 2, none⟩ = some (.int .u32 (g.seq : Int)) ∧ w.cell? ⟨T, 3, none⟩ = some (.int .u32 (g.ack : Int)) ∧ w.cell? ⟨T, 4, none⟩ = some (.int .u8 (g.flags : Int)) ∧ w.cell? ⟨T, 5, none⟩ = some (.slice A n c) ∧ w.cell? ⟨T, 6, none⟩ = some (.slice D m d) := by
  refine ⟨?_, ?_, ?_, ?_, ?_, ?_, ?_⟩ <;> (rw [h.cell]; rfl)
section
variable {w W W' : World} {T : Nat} {g : Sg} {A : Option Addr} {n c : Nat} {D : Option Addr} {m d : Nat} {l : List Ob}
end
theorem rightS_eq (g : Sg) : (7 < g.flags → rightS g = 70) ∧ (¬ 7 < g.flags → oOk g.opts = false → rightS g = 71) ∧ (¬ 7 < g.flags → oOk g.opts = true → 1024 < g.data.length → rightS g = 72) ∧ (¬ 7 < g.flags → oOk g.opts = true → ¬ 1024 < g.data.length → rightS g = 0) := by
  unfold rightS
  refine ⟨fun h => if_pos h, fun h1 h2 => by rw [if_neg h1, if_pos h2], fun h1 h2 h3 => by rw [if_neg h1, if_neg (by rw [h2]; simp), if_pos h3], fun h1 h2 h3 => by rw [if_neg h1, if_neg (by rw [h2]; simp), if_neg h3]⟩
end Go.Proofs.Ytpnnadnmkiobcaa

/- Two segments held against each other: they are the same. -/
namespace Go.Proofs.Ytpnnadnmkiobcaa
open Go.RowKit
set_option linter.unusedVariables false
theorem cells2v {w : World} {b off : Nat} {u v : Value} (h1 : w.cell? ⟨b, off, none⟩ = some u) (h2 : w.cell? ⟨b, off + 1, none⟩ = some v) :
    ∀ j x, [u, v][j]? = some x → w.cell? ⟨b, off + j, none⟩ = some x := by
  intro j x hx
  match j, hx with
  | 0, hx => simp at hx; subst hx; exact h1
  | 1, hx => simp at hx; subst hx; exact h2
set_option maxRecDepth 20000 in
set_option maxHeartbeats 1000000 in
theorem sameo_any (kd : Nat) (A B : Option Addr) (n c m d : Nat) (l : List Nat) (w : World) (h1 : Rd w w.heap.size 1 A n (ns .u8 l)) (h2 : Rd w w.heap.size 1 B m (ns .u8 l)) :
    Calls Try.prog 12 #[.agg #[.int .u8 (kd : Int), .slice A n c], .agg #[.int .u8 (kd : Int), .slice B m d]] w fun e w' => e = .returned (.bool true) ∧ Below w.heap.size w w' := by
  have hb : Below w.heap.size w ((w.alloc (.cells #[.int .u8 (kd : Int), .slice A n c] 26)).alloc (.cells #[.int .u8 (kd : Int), .slice B m d] 26)) := ((Below.refl _ _).alloc (Nat.le_refl _) _).alloc (by simp) _
  have H1 := Lib.hid (h1.below hb)
  have H2 := Lib.hid (h2.below hb)
  have HB := Lib.hid hb
  clear h1 h2 hb
  go_enter Try.func12, Try.ntmps12
  go_wp2_with (first | refine wpList_conv Try.underlying24 Try.underlying5 Try.underlying9 rfl _ rfl rfl H1.out ?_ | refine wpList_conv Try.underlying24 Try.underlying5 Try.underlying9 rfl _ rfl rfl H2.out ?_)
  go_ret
  exact ⟨ret_bool (by simp), HB.out⟩
end Go.Proofs.Ytpnnadnmkiobcaa
