/- The document's segment of some bytes. -/
import Derived.Test.YtbiimgfocgbdaaaG40MacBack
import Derived.Test.YtbiimgfocgbdaaaG35MacBack
import Derived.Test.YtbiimgfocgbdaaaOrdB
import Derived.Test.YtbiimgfocgbdaaaG15MacBack
import Derived.Test.YtbiimgfocgbdaaaG14MacBack
import Derived.Test.YtbiimgfocgbdaaaG30MacBack
import Derived.Test.YtbiimgfocgbdaaaG38MacBack
import Derived.Test.YtbiimgfocgbdaaaG12MacBack
import Derived.Test.YtbiimgfocgbdaaaG9MacBack
import Derived.Test.YtbiimgfocgbdaaaG39MacBack
import Derived.Test.YtbiimgfocgbdaaaG43MacBack
import Derived.Test.YtbiimgfocgbdaaaG29MacBack

namespace Go.Proofs.Ytbiimgfocgbdaaa
open Go.RowKit
set_option linter.unusedVariables false
theorem cut12 {l : List Nat} (h : 12 ≤ l.length) : cut l [2, 2, 4, 4] = some ([ub (l.take 2), ub ((l.drop 2).take 2), ub ((l.drop 4).take 4), ub ((l.drop 8).take 4)], l.drop 12) := by
  match l, h with
  | a0 :: a1 :: a2 :: a3 :: a4 :: a5 :: a6 :: a7 :: a8 :: a9 :: a10 :: a11 :: r, _ => simp [cut, okS, ub]
/-- An option whose body is a row of the call's own. -/
def OwnB (w : World) (B : Nat) (p : Ob) : Prop := Nats w 5 .u8 B (.slice p.2.A p.2.n p.2.c) p.2.l
theorem OwnB.kept {w w' : World} {B : Nat} {p : Ob} (h : OwnB w B p) (hk : ∀ g, B ≤ g → g < w.heap.size → (∃ cs, Blk w g 5 cs) → w'.heap[g]? = w.heap[g]?) : OwnB w' B p := by
  refine Nats.kept h fun g hg => ?_
  have hl := (show w.ownsRow B 5 1 _ _ _ from h).lt g hg
  refine hk g hl.1 hl.2 ?_
  rcases own_open (show w.ownsRow B 5 1 _ _ _ from h) with ⟨e, _⟩ | ⟨g', c', L, e, _, hb, _⟩
  · rw [e] at hg; cases hg
  · rw [e] at hg
    injection hg with hg
    subst hg
    exact ⟨_, hb⟩
/-- Another row, of options, grows. -/
theorem OwnB.grown {w w' : World} {B B' n : Nat} {v : Value} {xs : List Value} {p : Ob} (h : OwnB w B p) (ho : w.ownsRow B' 45 2 v n xs) (hg : w.grownBy w' v.ownBlock) : OwnB w' B p := by
  refine h.kept fun g _ hlt ⟨cs, hb⟩ => hg.block g hlt fun e => ?_
  rcases own_open ho with ⟨rfl, _⟩ | ⟨g2, c2, L2, rfl, _, hb2, _⟩
  · cases e
  · injection e with e
    subst e
    unfold Blk at hb hb2
    rw [hb] at hb2
    injection hb2 with hb2
    injection hb2 with _ ht
    exact absurd ht (by decide)
theorem OwnB.below {w w' : World} {B : Nat} {p : Ob} (h : OwnB w B p) (hb : Below w.heap.size w w') : OwnB w' B p := Nats.below h hb
theorem OwnB.rd {w : World} {B : Nat} {p : Ob} (h : OwnB w B p) : Rd w w.heap.size 1 p.2.A p.2.n (ns .u8 p.2.l) ∧ p.2.n ≤ p.2.c ∧ p.2.c ≤ maxLen := by
  obtain ⟨A, c, e, h1, h2, h3⟩ := own_form (show w.ownsRow B 5 1 _ _ _ from h)
  injection e with e1 e2 e3
  rw [e1, e2, e3]
  exact ⟨h3, h1, h2⟩
theorem body_mid {l : List Nat} {k x y : Nat} (h : k + 2 + y ≤ x) : (l.take (14 + k + 2 + y)).drop (14 + k + 2) = ((((l.drop 14).take x).drop k).take (2 + y)).drop 2 := by
  apply List.ext_getElem?
  intro i
  simp only [List.getElem?_drop, List.getElem?_take]
  by_cases hi : i < y
  · rw [if_pos (by omega), if_pos (by omega), if_pos (by omega)]
    congr 1
    omega
  · rw [if_neg (by omega), if_neg (by omega)]
end Go.Proofs.Ytbiimgfocgbdaaa

/- Regions in any order: options whose bodies are rows of their own, and a literal of three. -/
namespace Go.Proofs.Ytbiimgfocgbdaaa
open Go.RowKit
set_option linter.unusedVariables false
namespace GH
theorem ownB_gr {B B' : Nat} {w w' : World} {p : Ob} (h : OwnB w B p) (hb : Gr false B' w w') : OwnB w' B p := h.kept fun g _ hlt _ => hb.block rfl g hlt
/-- An option whose body is a row of its own. -/
def SP.optO (kd : Nat) (l : List Nat) : SP false := ⟨fun v w => ∃ A n c, v = .agg #[.int .u8 (kd : Nat), .slice A n c] ∧ OwnB w 0 (kd, ⟨A, n, c, l⟩), fun B v w w' h hb => by
  obtain ⟨A, n, c, h1, h2⟩ := h
  exact ⟨A, n, c, h1, ownB_gr h2 hb⟩⟩
theorem optO_of {kd : Nat} {l : List Nat} {v : Value} {B : Nat} {w : World} (h : Nats w 5 .u8 B v l) : (SP.optO kd l).G (.agg #[.int .u8 (kd : Nat), v]) w := by
  obtain ⟨A, c, rfl, hc⟩ := h.form
  exact ⟨A, _, c, rfl, own_mono h (Nat.zero_le _)⟩
/-- A slice of such. -/
def SP.osO (L : List Opn) : SP false := ⟨fun v w => ∃ A n c lo, v = .slice A n c ∧ L.length = n ∧ Rd w w.heap.size 2 A n (ocs lo) ∧ (∀ p ∈ lo, OwnB w 0 p) ∧ osay lo = L, fun B v w w' h hb => by
  obtain ⟨A, n, c, lo, h1, h2, h3, h4, h5⟩ := h
  exact ⟨A, n, c, lo, h1, h2, hb.rd h3, fun p hp => ownB_gr (h4 p hp) hb, h5⟩⟩
theorem os3_lit {k1 k2 k3 n1 n2 n3 c1 c2 c3 : Nat} {A1 A2 A3 : Option Addr} {l1 l2 l3 : List Nat} {w : World} {t : TypeId} (h1 : OwnB w 0 (k1, ⟨A1, n1, c1, l1⟩)) (h2 : OwnB w 0 (k2, ⟨A2, n2, c2, l2⟩)) (h3 : OwnB w 0 (k3, ⟨A3, n3, c3, l3⟩)) :
    (SP.osO [(k1, l1), (k2, l2), (k3, l3)]).G (.slice (some ⟨w.heap.size, 0, none⟩) 3 3) (w.alloc (.cells #[.int .u8 (k1 : Nat), .slice A1 n1 c1, .int .u8 (k2 : Nat), .slice A2 n2 c2, .int .u8 (k3 : Nat), .slice A3 n3 c3] t)) := by
  refine ⟨_, 3, 3, [(k1, ⟨A1, n1, c1, l1⟩), (k2, ⟨A2, n2, c2, l2⟩), (k3, ⟨A3, n3, c3, l3⟩)], rfl, rfl, (Rd.made w t #[.int .u8 (k1 : Nat), .slice A1 n1 c1, .int .u8 (k2 : Nat), .slice A2 n2 c2, .int .u8 (k3 : Nat), .slice A3 n3 c3] (n := 3) (size := 2) rfl).mono (by simp), fun p hp => ?_, rfl⟩
  have hb := (Below.refl w.heap.size w).alloc (Nat.le_refl _) (.cells #[.int .u8 (k1 : Nat), .slice A1 n1 c1, .int .u8 (k2 : Nat), .slice A2 n2 c2, .int .u8 (k3 : Nat), .slice A3 n3 c3] t)
  simp only [List.mem_cons, List.not_mem_nil, or_false] at hp
  rcases hp with rfl | rfl | rfl
  · exact h1.below hb
  · exact h2.below hb
  · exact h3.below hb
end GH
end Go.Proofs.Ytbiimgfocgbdaaa

/- Layer 10: words whose sums are right: mathematics, and rows of them. -/
namespace Go.Proofs.Ytbiimgfocgbdaaa
open Go.RowKit
set_option linter.unusedVariables false
set_option linter.unusedSimpArgs false
/-- A word that was read. -/
structure Wd where
  kd : Nat
  nm : Nat
  id : Nat
  pa : Nat
  bk : Bool
  t : Nat
def Wd.cs (x : Wd) : List Value := [.int .u8 (x.kd : Nat), .int .u32 (x.nm : Nat), .int .u8 (x.id : Nat), .int .u8 (x.pa : Nat), .bool x.bk, .int .u64 (x.t : Nat)]
def wcs (l : List Wd) : List Value := l.flatMap Wd.cs
theorem wcs_cons (p : Wd) (l : List Wd) : wcs (p :: l) = .int .u8 (p.kd : Nat) :: .int .u32 (p.nm : Nat) :: .int .u8 (p.id : Nat) :: .int .u8 (p.pa : Nat) :: .bool p.bk :: .int .u64 (p.t : Nat) :: wcs l := rfl
theorem wcs_append (l m : List Wd) : wcs (l ++ m) = wcs l ++ wcs m := by simp [wcs]
theorem wcs_len (l : List Wd) : (wcs l).length = l.length * 6 := by
  induction l with
  | nil => rfl
  | cons p l ih =>
    rw [wcs_cons]
    simp only [List.length_cons, ih]
    omega
theorem wcs_get {l : List Wd} {i : Nat} {p : Wd} (h : l[i]? = some p) : (wcs l)[i * 6]? = some (.int .u8 (p.kd : Nat)) ∧ (wcs l)[i * 6 + 1]? = some (.int .u32 (p.nm : Nat)) ∧ (wcs l)[i * 6 + 2]? = some (.int .u8 (p.id : Nat)) ∧ (wcs l)[i * 6 + 3]? = some (.int .u8 (p.pa : Nat)) ∧ (wcs l)[i * 6 + 4]? = some (.bool p.bk) ∧ (wcs l)[i * 6 + 5]? = some (.int .u64 (p.t : Nat)) := by
  induction l generalizing i with
  | nil => simp at h
  | cons q l ih =>
    cases i with
    | zero => simp at h; subst h; exact ⟨rfl, rfl, rfl, rfl, rfl, rfl⟩
    | succ i =>
      have e0 : (i + 1) * 6 = i * 6 + 1 + 1 + 1 + 1 + 1 + 1 := by omega
      have e1 : (i + 1) * 6 + 1 = i * 6 + 1 + 1 + 1 + 1 + 1 + 1 + 1 := by omega
      have e2 : (i + 1) * 6 + 2 = i * 6 + 2 + 1 + 1 + 1 + 1 + 1 + 1 := by omega
      have e3 : (i + 1) * 6 + 3 = i * 6 + 3 + 1 + 1 + 1 + 1 + 1 + 1 := by omega
      have e4 : (i + 1) * 6 + 4 = i * 6 + 4 + 1 + 1 + 1 + 1 + 1 + 1 := by omega
      have e5 : (i + 1) * 6 + 5 = i * 6 + 5 + 1 + 1 + 1 + 1 + 1 + 1 := by omega
      rw [wcs_cons, e5, e4, e3, e2, e1, e0]
      simp only [List.getElem?_cons_succ]
      exact ih (by simpa using h)
theorem wcs_one (l : List Wd) : ∀ v ∈ wcs l, v.oneCell' = true := by
  intro v hv
  simp only [wcs, Wd.cs, List.mem_flatMap] at hv
  obtain ⟨p, _, hv⟩ := hv
  simp at hv
  rcases hv with rfl | rfl | rfl | rfl | rfl | rfl <;> rfl
theorem wdLen {w : World} {B n : Nat} {A : Option Addr} {l : List Wd} (h : Rd w B 6 A n (wcs l)) : l.length = n := by have := h.1; rw [wcs_len] at this; omega
/-- The word at a place. -/
theorem Rd.wd {w : World} {B n : Nat} {A : Option Addr} {l : List Wd} {i : Nat} (h : Rd w B 6 A n (wcs l)) (hi : i < n) :
    ∃ (b off kd nm id pa : Nat) (bk : Bool) (t : Nat), A = some ⟨b, off, none⟩ ∧ b < B ∧ w.cell? ⟨b, off + i * 6, none⟩ = some (.int .u8 (kd : Nat)) ∧ w.cell? ⟨b, off + i * 6 + 1, none⟩ = some (.int .u32 (nm : Nat)) ∧ w.cell? ⟨b, off + i * 6 + 2, none⟩ = some (.int .u8 (id : Nat)) ∧ w.cell? ⟨b, off + i * 6 + 3, none⟩ = some (.int .u8 (pa : Nat)) ∧ w.cell? ⟨b, off + i * 6 + 4, none⟩ = some (.bool bk) ∧ w.cell? ⟨b, off + i * 6 + 5, none⟩ = some (.int .u64 (t : Nat)) ∧ Hid (l[i]? = some ⟨kd, nm, id, pa, bk, t⟩) := by
  obtain ⟨b, off, e, hb, hc⟩ := h.2 (by omega)
  have hl := wdLen h
  have hg : l[i]? = some (l[i]'(by omega)) := List.getElem?_eq_getElem (by omega)
  obtain ⟨g0, g1, g2, g3, g4, g5⟩ := wcs_get hg
  refine ⟨b, off, (l[i]'(by omega)).kd, (l[i]'(by omega)).nm, (l[i]'(by omega)).id, (l[i]'(by omega)).pa, (l[i]'(by omega)).bk, (l[i]'(by omega)).t, e, hb, ?_, ?_, ?_, ?_, ?_, ?_, Lib.hid hg⟩
  · rw [hc (i * 6) (by omega), g0]
  · rw [Nat.add_assoc, hc (i * 6 + 1) (by omega), g1]
  · rw [Nat.add_assoc, hc (i * 6 + 2) (by omega), g2]
  · rw [Nat.add_assoc, hc (i * 6 + 3) (by omega), g3]
  · rw [Nat.add_assoc, hc (i * 6 + 4) (by omega), g4]
  · rw [Nat.add_assoc, hc (i * 6 + 5) (by omega), g5]
/-- What an option of word says whose sum is right. -/
def WdY (k0 k1 : Nat) (g : Sg) (o : Opn) (x : Wd) : Prop := x.kd = o.1 ∧ WordIs o.1 o.2 x.nm x.id x.pa x.bk x.t ∧ x.t = tagN k0 k1 g o.1 o.2
noncomputable def goodW (k0 k1 : Nat) (g : Sg) (o : Opn) : Bool := @decide (∃ x, WdY k0 k1 g o x) (Classical.propDecidable _)
noncomputable def keptW (k0 k1 : Nat) (g : Sg) (l : List Opn) : List Opn := l.filter (goodW k0 k1 g)
theorem goodW_yes {k0 k1 : Nat} {g : Sg} {o : Opn} {x : Wd} (h : WdY k0 k1 g o x) : goodW k0 k1 g o = true := by unfold goodW; exact @decide_eq_true _ (Classical.propDecidable _) ⟨x, h⟩
theorem goodW_no {k0 k1 : Nat} {g : Sg} {o : Opn} (h : ∀ x, ¬ WdY k0 k1 g o x) : goodW k0 k1 g o = false := by unfold goodW; exact @decide_eq_false _ (Classical.propDecidable _) (fun ⟨x, hx⟩ => h x hx)
theorem keptW_yes {k0 k1 : Nat} {g : Sg} {l : List Opn} {i : Nat} {o : Opn} (h : l[i]? = some o) (e : goodW k0 k1 g o = true) : keptW k0 k1 g (l.take (i + 1)) = keptW k0 k1 g (l.take i) ++ [o] := by
  unfold keptW
  rw [List.take_add_one, h]
  simp [e]
theorem keptW_no {k0 k1 : Nat} {g : Sg} {l : List Opn} {i : Nat} {o : Opn} (h : l[i]? = some o) (e : goodW k0 k1 g o = false) : keptW k0 k1 g (l.take (i + 1)) = keptW k0 k1 g (l.take i) := by
  unfold keptW
  rw [List.take_add_one, h]
  simp [e]
theorem keptW_le {k0 k1 : Nat} {g : Sg} {l : List Opn} {i : Nat} : (keptW k0 k1 g (l.take i)).length ≤ i := Nat.le_trans (List.length_filter_le _ _) (by rw [List.length_take]; omega)
/-- Words, and the options that they were read of. -/
def Wds (k0 k1 : Nat) (g : Sg) (ws : List Wd) (os : List Opn) : Prop := ws.length = os.length ∧ ∀ (i : Nat) (x : Wd) (o : Opn), ws[i]? = some x → os[i]? = some o → WdY k0 k1 g o x
theorem Wds.nil (k0 k1 : Nat) (g : Sg) : Wds k0 k1 g [] [] := ⟨rfl, fun i x o h => by simp at h⟩
theorem Wds.snoc {k0 k1 : Nat} {g : Sg} {ws : List Wd} {os : List Opn} {x : Wd} {o : Opn} (h : Wds k0 k1 g ws os) (hx : WdY k0 k1 g o x) : Wds k0 k1 g (ws ++ [x]) (os ++ [o]) := by
  refine ⟨by simp [h.1], fun i y q h1 h2 => ?_⟩
  by_cases hi : i < ws.length
  · rw [List.getElem?_append_left hi] at h1
    rw [List.getElem?_append_left (by rw [← h.1]; exact hi)] at h2
    exact h.2 i y q h1 h2
  · have hi2 : i = ws.length := by
      have := (List.getElem?_eq_some_iff.1 h1).1
      simp at this
      omega
    subst hi2
    rw [List.getElem?_append_right (Nat.le_refl _)] at h1
    rw [h.1, List.getElem?_append_right (Nat.le_refl _)] at h2
    simp at h1 h2
    subst h1 h2
    exact hx
end Go.Proofs.Ytbiimgfocgbdaaa

/- Layer 10: the options that MacBack writes: mathematics. -/
namespace Go.Proofs.Ytbiimgfocgbdaaa
open Go.RowKit
set_option linter.unusedVariables false
set_option linter.unusedSimpArgs false
/-- Options that are neither data nor word. -/
def okK (k : Nat) : Bool := k == 1 || k == 2 || decide (7 < k)
def keptK (l : List Ob) : List Ob := l.filter fun p => okK p.1
theorem keptK_yes {l : List Ob} {i k : Nat} {q : Body} (h : l[i]? = some (k, q)) (e : okK k = true) : keptK (l.take (i + 1)) = keptK (l.take i) ++ [(k, q)] := by
  unfold keptK
  rw [List.take_add_one, h]
  simp [e]
theorem keptK_no {l : List Ob} {i k : Nat} {q : Body} (h : l[i]? = some (k, q)) (e : okK k = false) : keptK (l.take (i + 1)) = keptK (l.take i) := by
  unfold keptK
  rw [List.take_add_one, h]
  simp [e]
theorem keptK_le {l : List Ob} {i : Nat} : (keptK (l.take i)).length ≤ i := Nat.le_trans (List.length_filter_le _ _) (by rw [List.length_take]; omega)
theorem keptK_mem {l : List Ob} {i : Nat} : ∀ p ∈ keptK (l.take i), p ∈ l := fun p hp => List.mem_of_mem_take (List.mem_filter.1 hp).1
theorem keptK_ok {l : List Ob} : ∀ p ∈ osay (keptK l), okK p.1 = true := by
  intro p hp
  obtain ⟨q, hq, rfl⟩ := List.mem_map.1 hp
  exact (List.mem_filter.1 hq).2
/-- The segment with the options that MacBack writes. -/
def backS (g : Sg) (L : List Opn) (kd : Nat) (a b : List Nat) : Sg := { g with opts := L ++ [(kd, a), (3, b), (kd, a)] }
theorem backS_tag (k0 k1 : Nat) (g : Sg) (L : List Opn) (kd k : Nat) (a b l : List Nat) (t t' : Nat) : tagN k0 k1 g k (l ++ be t 8) = tagN k0 k1 (backS g L kd a b) k (l ++ be t' 8) := tag_same k0 k1 g _ k t t' l rfl rfl
theorem backS_bd {g : Sg} {L : List Opn} {kd : Nat} {a b : List Nat} (h : g.bd) (hL : ∀ p ∈ L, p ∈ g.opts) (hk : kd < 256) (ha : ∀ x ∈ a, x < 256) (hb : ∀ x ∈ b, x < 256) : (backS g L kd a b).bd := by
  refine ⟨h.src, h.dst, h.seq, h.ack, h.flags, ?_, ?_, h.data⟩
  · intro p hp
    simp only [backS, List.mem_append, List.mem_cons, List.not_mem_nil, or_false] at hp
    rcases hp with hp | rfl | rfl | rfl
    · exact h.kinds p (hL p hp)
    · exact hk
    · show 3 < 256; decide
    · exact hk
  · intro p hp
    simp only [backS, List.mem_append, List.mem_cons, List.not_mem_nil, or_false] at hp
    rcases hp with hp | rfl | rfl | rfl
    · exact h.bodies p (hL p hp)
    · exact ha
    · exact hb
    · exact ha
theorem backS_small {g : Sg} {L : List Opn} {kd : Nat} {a b : List Nat} (h : g.small) (hL : ∀ p ∈ L, p ∈ g.opts) (hn : L.length ≤ 9000) (ha : a.length ≤ 10000) (hb : b.length ≤ 10000) : (backS g L kd a b).small := by
  refine ⟨by simp only [backS, List.length_append, List.length_cons, List.length_nil]; omega, ?_, h.data⟩
  intro p hp
  simp only [backS, List.mem_append, List.mem_cons, List.not_mem_nil, or_false] at hp
  rcases hp with hp | rfl | rfl | rfl
  · exact h.bodies p (hL p hp)
  · exact ha
  · exact hb
  · exact ha
theorem okK_ne3 {k : Nat} (h : okK k = true) : (k == 3) = false := by
  unfold okK at h
  simp only [Bool.or_eq_true, beq_iff_eq, decide_eq_true_eq] at h
  simp only [beq_eq_false_iff_ne, ne_eq]
  omega
theorem okK_noW {k : Nat} (h : okK k = true) : ¬ (4 ≤ k ∧ k ≤ 7) := by
  unfold okK at h
  simp only [Bool.or_eq_true, beq_iff_eq, decide_eq_true_eq] at h
  omega
theorem back_one {g : Sg} {L : List Opn} {kd : Nat} {a b : List Nat} (hL : ∀ p ∈ L, okK p.1 = true) (hk : 4 ≤ kd) : oneS (backS g L kd a b).opts 3 = (3, b, true) := by
  refine oneS_one (p := (3, b)) ?_
  have h0 : L.filter (fun p => p.1 == 3) = [] := List.filter_eq_nil_iff.2 fun p hp => by rw [okK_ne3 (hL p hp)]; simp
  have h1 : (kd == 3) = false := by simp only [beq_eq_false_iff_ne, ne_eq]; omega
  simp [backS, List.filter_append, h0, List.filter_cons, h1]
theorem back_open {k0 k1 : Nat} {g : Sg} {L : List Opn} {kd : Nat} {a : List Nat} {f p : Bool} {sq ak wn t T : Nat} (hT : T = tagN k0 k1 g 3 (dataB f p sq ak wn t)) (h0 : k0 < 18446744073709551616) (h1 : k1 < 18446744073709551616) (hL : ∀ p ∈ L, okK p.1 = true) (hk : 4 ≤ kd) (hsq : q64 sq) (hak : q64 ak) (hwn : q32 wn) :
    OpenY k0 k1 (backS g L kd a (dataB f p sq ak wn T)) f p sq ak wn T := by
  have ht : q64 T := by rw [hT]; exact tagN_lt k0 k1 g 3 _ h0 h1
  refine ⟨_, back_one hL hk, ⟨rfl, rfl, hsq, hak, hwn, ht⟩, ?_⟩
  have e := backS_tag k0 k1 g L kd 3 a (dataB f p sq ak wn T) (dataP f p sq ak wn) t T
  rw [← dataP_eq, ← dataP_eq] at e
  exact hT.trans e
theorem back_kept {k0 k1 : Nat} {g : Sg} {L : List Opn} {kd nm id pa t T : Nat} {bk : Bool} {b : List Nat} (hT : T = tagN k0 k1 g kd (wordB nm id pa bk t)) (h0 : k0 < 18446744073709551616) (h1 : k1 < 18446744073709551616) (hL : ∀ p ∈ L, okK p.1 = true) (hk : 4 ≤ kd) (hk7 : kd ≤ 7) (hnm : q32 nm) (hid : id < 256) (hpa : pa < 256) {ws : List Wd}
    (h : Wds k0 k1 (backS g L kd (wordB nm id pa bk T) b) ws (keptW k0 k1 (backS g L kd (wordB nm id pa bk T) b) (backS g L kd (wordB nm id pa bk T) b).opts)) :
    ws = [⟨kd, nm, id, pa, bk, T⟩, ⟨kd, nm, id, pa, bk, T⟩] := by
  have ht : q64 T := by rw [hT]; exact tagN_lt k0 k1 g kd _ h0 h1
  have hY : WdY k0 k1 (backS g L kd (wordB nm id pa bk T) b) (kd, wordB nm id pa bk T) ⟨kd, nm, id, pa, bk, T⟩ := by
    refine ⟨rfl, ⟨⟨hk, hk7⟩, rfl, hnm, hid, hpa, ht⟩, ?_⟩
    have e := backS_tag k0 k1 g L kd kd (wordB nm id pa bk T) b (wordP nm id pa bk) t T
    rw [← wordP_eq, ← wordP_eq] at e
    exact hT.trans e
  have hkp : keptW k0 k1 (backS g L kd (wordB nm id pa bk T) b) (backS g L kd (wordB nm id pa bk T) b).opts = [(kd, wordB nm id pa bk T), (kd, wordB nm id pa bk T)] := by
    have e0 : L.filter (goodW k0 k1 (backS g L kd (wordB nm id pa bk T) b)) = [] := List.filter_eq_nil_iff.2 fun p hp => by
      rw [goodW_no (fun x hx => okK_noW (hL p hp) hx.2.1.hkd)]; simp
    have e1 := goodW_yes hY
    have e2 : goodW k0 k1 (backS g L kd (wordB nm id pa bk T) b) (3, b) = false := goodW_no fun x hx => by have := hx.2.1.hkd; simp at this
    unfold keptW
    rw [show (backS g L kd (wordB nm id pa bk T) b).opts = L ++ [(kd, wordB nm id pa bk T), (3, b), (kd, wordB nm id pa bk T)] from rfl, List.filter_append, e0, List.nil_append]
    simp [List.filter_cons, e1, e2]
  rw [hkp] at h
  obtain ⟨hl, h⟩ := h
  have key : ∀ x, WdY k0 k1 (backS g L kd (wordB nm id pa bk T) b) (kd, wordB nm id pa bk T) x → x = ⟨kd, nm, id, pa, bk, T⟩ := by
    intro x hx
    obtain ⟨xk, xn, xi, xp, xb, xt⟩ := x
    obtain ⟨e0, e1, _⟩ := hx
    obtain ⟨e2, e3, e4, e5, e6⟩ := e1.one hY.2.1
    simp only at e0 e2 e3 e4 e5 e6
    subst e0 e2 e3 e4 e5 e6
    rfl
  match ws, hl, h with
  | [x, y], _, h =>
    rw [key x (h 0 x _ rfl rfl), key y (h 1 y _ rfl rfl)]
/-- What mac.Open answers to it. -/
theorem back_openR {k0 k1 : Nat} {g : Sg} {L : List Opn} {kd : Nat} {a : List Nat} {f p : Bool} {sq ak wn t T : Nat} (hT : T = tagN k0 k1 g 3 (dataB f p sq ak wn t)) (h0 : k0 < 18446744073709551616) (h1 : k1 < 18446744073709551616) (hL : ∀ p ∈ L, okK p.1 = true) (hk : 4 ≤ kd) (hsq : q64 sq) (hak : q64 ak) (hwn : q32 wn) {f' p' : Bool} {sq' ak' wn' t' : Nat} {ok : Bool}
    (h : OpenR k0 k1 (backS g L kd a (dataB f p sq ak wn T)) f' p' sq' ak' wn' t' ok) : f' = f ∧ p' = p ∧ sq' = sq ∧ ak' = ak ∧ wn' = wn ∧ ok = true := by
  have hY := back_open (a := a) hT h0 h1 hL hk hsq hak hwn
  rcases h with ⟨rfl, h⟩ | ⟨_, _, h⟩
  · obtain ⟨e0, e1, e2, e3, e4, _⟩ := h.one hY
    exact ⟨e0, e1, e2, e3, e4, rfl⟩
  · exact absurd hY (h _ _ _ _ _ _)
end Go.Proofs.Ytbiimgfocgbdaaa
