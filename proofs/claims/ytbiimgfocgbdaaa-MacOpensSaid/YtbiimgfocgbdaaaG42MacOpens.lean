/- The bytes of a segment. -/
import Derived.Test.YtbiimgfocgbdaaaG12MacOpens
import Derived.Test.YtbiimgfocgbdaaaG41MacOpens
import Derived.Deep.OwnRows
import Derived.Lib.SmallJoins
import Derived.Test.YtbiimgfocgbdaaaG16MacOpens
import Derived.Test.YtbiimgfocgbdaaaRows
import Derived.OwnWalk
import Derived.RegionTactic
import Derived.LoopTactic
import Derived.Laws.Externs
import Derived.WalkSpells

namespace Go.Proofs.Ytbiimgfocgbdaaa
open Go.RowKit
set_option linter.unusedVariables false
/-- What Encode answers. -/
def ansS (g : Sg) : List Nat := if rightS g = 0 then encS g else []
theorem ansS_ok {g : Sg} (h : rightS g = 0) : ansS g = encS g := if_pos h
theorem ansS_no {g : Sg} (h : rightS g ≠ 0) : ansS g = [] := if_neg h
theorem rightS_zero {g : Sg} (h : rightS g = 0) : oOk g.opts = true ∧ oSize g.opts ≤ 200 ∧ g.data.length ≤ 1024 := by
  unfold rightS at h
  by_cases h1 : 7 < g.flags
  · rw [if_pos h1] at h; cases h
  rw [if_neg h1] at h
  by_cases h2 : oOk g.opts = false
  · rw [if_pos h2] at h; cases h
  rw [if_neg h2] at h
  by_cases h3 : 1024 < g.data.length
  · rw [if_pos h3] at h; cases h
  have h2 : oOk g.opts = true := by simpa using h2
  exact ⟨h2, ((oOk_iff _).1 h2).2, by omega⟩
theorem body_le {l : List Opn} {i k : Nat} {b : List Nat} (h : l[i]? = some (k, b)) : b.length ≤ oSize l := by
  have h1 := oSize_take l (i + 1)
  rw [nth_take (Lib.hid h), oSize_snoc] at h1
  dsimp only at h1
  omega
theorem oBytes_step {l : List Opn} {i k : Nat} {b : List Nat} (h : l[i]? = some (k, b)) (X : List Nat) : X ++ oBytes (l.take (i + 1)) = X ++ (oBytes (l.take i) ++ k :: b.length :: b) := by
  rw [nth_take (Lib.hid h), oBytes_append]
  simp [oBytes]
end Go.Proofs.Ytbiimgfocgbdaaa

/- How many numbers a segment takes; layer 7's example. -/
namespace Go.Proofs.Ytbiimgfocgbdaaa
open Go.RowKit
set_option linter.unusedVariables false
theorem and1_u8 (x : Nat) (h : x < 256) : bits .and .u8 ((x : Nat) : Int) 1 = ((x % 2 : Nat) : Int) := by
  have h := u8_and_nat x 1 h (by omega)
  rw [Nat.and_one_is_mod] at h
  exact h
def takeS (g : Sg) : Nat := g.data.length + g.flags % 2
theorem Rd.litm {w : World} {k : IntKind} {n : Nat} {t : TypeId} {cs : Array Value} {fr : Nat × Nat} (l : List Nat) (hc : cs.toList = ns k l) (hn : n = l.length) : Rd (w.alloc (.cells cs t fr)) (w.heap.size + 1) 1 (some ⟨w.heap.size, 0, none⟩) n (ns k l) := by
  subst hn
  refine ⟨by simp [ns], fun _ => ⟨_, _, rfl, by omega, fun j hj => ?_⟩⟩
  rw [Nat.zero_add, World.cell?_alloc_mark, ← hc]
  simp
def zero14 : List Nat := [0, 0, 0, 0, 0, 0, 0, 0, 0, 0, 0, 0, 0, 0]
theorem par14 : parC zero14 0 := by
  refine .inr (.inr (.inr ⟨rfl, ?_, ?_, ?_⟩))
  · unfold is70 zero14
    simp
  · unfold is71 zero14
    rintro (h | h | h)
    · simp at h
    · simp at h
    · exact h ⟨[], by simp [oBytes], by simp⟩
  · unfold is72 zero14
    simp
def segA : Sg := ⟨1, 0, 0, 0, 1, [(3, [97, 98])], [120]⟩
def segB : Sg := ⟨0, 0, 0, 0, 1, [], [120]⟩
theorem segA_bd : segA.bd := ⟨by decide, by decide, by decide, by decide, by decide, by simp [segA], by simp [segA], by simp [segA]⟩
theorem segA_small : segA.small := ⟨by decide, by simp [segA], by decide⟩
theorem segB_small : segB.small := ⟨by decide, by simp [segB], by decide⟩
theorem ansA_len : (ansS segA).length = 19 := by
  rw [ansS_ok (by rfl), encS_len]
  rfl
end Go.Proofs.Ytbiimgfocgbdaaa

/- Layer 7: the first option of a kind, ours and the document's; the document's Take. -/
namespace Go.Proofs.Ytbiimgfocgbdaaa
open Go.RowKit
set_option linter.unusedVariables false
def firstS (l : List Opn) (k : Nat) : Nat × List Nat × Bool := match l.find? (fun p => p.1 == k) with
  | some p => (p.1, p.2, true)
  | none => (0, [], false)
theorem firstS_none {l : List Opn} {k : Nat} (h : ∀ p ∈ l, p.1 ≠ k) : firstS l k = (0, [], false) := by
  unfold firstS
  rw [List.find?_eq_none.2 (fun p hp => by simp [h p hp])]
theorem firstS_at {l : List Opn} {i k : Nat} {b : List Nat} (h : l[i]? = some (k, b)) (hb : ∀ p ∈ l.take i, p.1 ≠ k) : firstS l k = (k, b, true) := by
  unfold firstS
  have e : l = l.take i ++ (k, b) :: l.drop (i + 1) := by
    have h2 := nth_take (Lib.hid h)
    conv => lhs; rw [← List.take_append_drop (i + 1) l, h2]
    simp
  rw [e, List.find?_append, List.find?_eq_none.2 (fun p hp => by simp [hb p hp])]
  simp
/-- What First answers. -/
def FirPost (l : List Opn) (k : Nat) (w' : World) (e : Ending) : Prop := ∃ (kd : Nat) (A : Option Addr) (n c : Nat) (b : List Nat) (is : Bool), e = .returned (.tuple #[.agg #[.int .u8 (kd : Int), .slice A n c], .bool is]) ∧ Rd w' w'.heap.size 1 A n (ns .u8 b) ∧ firstS l k = (kd, b, is)
section
variable {w w0 : World} {T B : Nat} {b0 b1 : Value} (a0 a1 : Value)
def put2 (w : World) (T : Nat) (a0 a1 : Value) : World := (w.setCell ⟨T, 0, none⟩ a0).setCell ⟨T, 1, none⟩ a1
theorem seg2 {t : TypeId} (h : Blk w T t #[b0, b1]) : Blk (put2 w T a0 a1) T t #[a0, a1] := by
  have h1 : Blk (w.setCell ⟨T, 0, none⟩ a0) T t #[a0, b1] := h.set 0 a0
  have h2 : Blk ((w.setCell ⟨T, 0, none⟩ a0).setCell ⟨T, 1, none⟩ a1) T t #[a0, a1] := h1.set 1 a1
  exact h2
theorem bel2 (h : Below B w0 w) (hT : B ≤ T) : Below B w0 (put2 w T a0 a1) := (h.setCell (p := ⟨T, 0, none⟩) hT a0).setCell (p := ⟨T, 1, none⟩) hT a1
theorem blk2 {t : TypeId} (h : Blk w T t #[a0, a1]) : w.cell? ⟨T, 0, none⟩ = some a0 ∧ w.cell? ⟨T, 1, none⟩ = some a1 := by
  refine ⟨?_, ?_⟩ <;> (rw [h.cell]; rfl)
end
end Go.Proofs.Ytbiimgfocgbdaaa

/- Package slices at []api.Option: Clone. -/
namespace Go.Proofs.Ytbiimgfocgbdaaa
open Go.RowKit
set_option linter.unusedVariables false
theorem sgsEl : El Try.prog 27 45 (.agg #[.int .u8 0, .slice none 0 0]) 2 32 := ⟨Try.underlying27, by kernel_rfl, rfl, by omega, by omega⟩
theorem sgsZ1 : ∀ v ∈ ((.agg #[.int .u8 0, .slice none 0 0]) : Value).cells.toList, v.oneCell' = true := by
  intro v hv
  simp [Value.cells] at hv
  first | (subst hv; rfl) | (rcases hv with rfl | rfl <;> rfl) | (rcases hv with rfl | rfl | rfl <;> rfl) | (rcases hv with rfl | rfl | rfl | rfl <;> rfl) | (rcases hv with rfl | rfl | rfl | rfl | rfl <;> rfl)
theorem sgsClone (A : Option Addr) (n c B : Nat) (xs : List Value) (w : World) (h : Rd w B 2 A n xs) (hB : B ≤ w.heap.size) (h1 : ∀ v ∈ xs, v.oneCell' = true) (hn : n ≤ 1000000) :
    Calls Try.prog 69 #[.slice A n c] w fun e w' => ∃ v, e = .returned v ∧ w'.ownsRow w.heap.size 45 2 v n xs ∧ Below w.heap.size w w' := by
  have HR := Lib.hid h
  have H1 := Lib.hid h1
  have HL := Lib.hid h.len
  clear h h1
  have hnil := fun (w : World) (A : Option Addr) (n c n' c' : Nat) => Lib.run_eql_slice_nil w 27 45 A n c n' c' Try.underlying27
  cases A with
  | none =>
    have h0 : n = 0 := by
      rcases Nat.eq_zero_or_pos n with h | h
      · exact h
      · obtain ⟨_, _, e, _⟩ := HR.out.2 h; cases e
    subst h0
    have hx : xs = [] := List.eq_nil_of_length_eq_zero (by rw [HL.out, Nat.zero_mul])
    subst hx
    clear HR H1 HL
    go_enter Try.func69, Try.ntmps69
    go_wp2_with fail
    go_ret
    exact ⟨_, rfl, World.ownsRow_nil _ _ _ _, Below.refl _ _⟩
  | some ad =>
    have hroom : (0 + n) * 32 ≤ room := room_ge (by omega)
    have hown : (w.alloc (.cells #[] 45)).ownsRow w.heap.size 45 2 (.slice (some ⟨w.heap.size, 0, none⟩) 0 0) 0 [] := World.ownsRow_made w #[] 0 (Nat.le_refl _) (Nat.zero_le _) (by simp)
    have hb0 : Below w.heap.size w (w.alloc (.cells #[] 45)) := (Below.refl _ _).alloc (Nat.le_refl _) _
    have HO := Lib.hid hown
    have HB0 := Lib.hid hb0
    have HB := Lib.hid hB
    clear hown hb0 hB
    go_enter Try.func69, Try.ntmps69
    go_wp2_with (refine app sgsEl rfl (.tmp 5) (.tmp 6) rfl rfl HO.out rfl (HR.out.alloc HB.out _) H1.out hroom (by simp) ?_)
    intro v' w1 ho hg hb
    have HO1 := Lib.hid ho
    clear ho hg
    go_wp2
    go_ret
    exact ⟨_, rfl, HO1.out, HB0.out.trans hb⟩
end Go.Proofs.Ytbiimgfocgbdaaa

/- Layer 7: a row of options whose bodies are set one after the other. -/
namespace Go.Proofs.Ytbiimgfocgbdaaa
open Go.RowKit
set_option linter.unusedVariables false
/-- A row that lies ahead of T, or behind r. -/
def RdX (w : World) (T r : Nat) (A : Option Addr) (n : Nat) (xs : List Value) : Prop := Rd w w.heap.size 1 A n xs ∧ (0 < n → ∀ b o, A = some ⟨b, o, none⟩ → b < T ∨ r < b)
section
variable {w w' : World} {T r S n c k : Nat} {A : Option Addr} {xs : List Value} {v : Value} {l : List Ob}
theorem RdX.into (h : RdX w T r A n xs) (hb : Below w.heap.size w w') : RdX w' T r A n xs := ⟨h.1.into hb, h.2⟩
theorem RdX.solo (h : RdX w T r A n xs) (hs : Solo S w w') (h1 : T ≤ S) (h2 : S ≤ r) : RdX w' T r A n xs := by
  refine ⟨⟨h.1.1, fun hn => ?_⟩, h.2⟩
  obtain ⟨b, off, e, hb, hc⟩ := h.1.2 hn
  have h3 := h.2 hn b off e
  exact ⟨b, off, e, by rw [hs.2.1]; exact hb, fun j hj => (World.cell?_of_block (a := ⟨b, off + j, none⟩) (hs.2.2 b (by omega))).trans (hc j hj)⟩
/-- A row of options, the first k of which have been set anew; what it says is what it said. -/
def OInv (w : World) (T r : Nat) (v : Value) (n k : Nat) (l : List Ob) : Prop :=
  ∃ lo : List Ob, w.ownsRow (T + 2) 45 2 v n (ocs lo) ∧ osay lo = osay l ∧ (∀ j, k ≤ j → lo[j]? = l[j]?) ∧ ∀ p ∈ lo, RdX w T r p.2.A p.2.n (ns .u8 p.2.l) ∧ p.2.n ≤ p.2.c ∧ p.2.c ≤ maxLen
theorem own_lt {B sz : Nat} {e : TypeId} (h : w.ownsRow B e sz v n xs) : ∀ g, v.ownBlock = some g → B ≤ g ∧ g < w.heap.size := by
  intro g hg
  rcases own_open h with ⟨rfl, _, _⟩ | ⟨g2, c2, L, rfl, hB, hb, _⟩
  · cases hg
  · injection hg with hg
    subst hg
    exact ⟨hB, hb.lt⟩
theorem OInv.into (h : OInv w T r v n k l) (hb : Below w.heap.size w w') : OInv w' T r v n k l := by
  obtain ⟨lo, h1, h2, h3, h4⟩ := h
  exact ⟨lo, own_below h1 hb fun g hg => (own_lt h1 g hg).2, h2, h3, fun p hp => ⟨(h4 p hp).1.into hb, (h4 p hp).2⟩⟩
theorem OInv.solo (h : OInv w T r v n k l) (hs : Solo S w w') (h1 : T ≤ S) (h2 : S < T + 2) (h3 : S ≤ r) : OInv w' T r v n k l := by
  obtain ⟨lo, k1, k2, k3, k4⟩ := h
  exact ⟨lo, own_kept k1 (fun g hg => hs.2.2 g (by have := (own_lt k1 g hg).1; omega)), k2, k3, fun p hp => ⟨(k4 p hp).1.solo hs h1 h3, (k4 p hp).2⟩⟩
theorem OInv.os {A : Option Addr} (h : OInv w T r (.slice A n c) n k l) : ∃ lo, Os w A n c lo ∧ osay lo = osay l := by
  obtain ⟨lo, h1, h2, h3, h4⟩ := h
  obtain ⟨A2, c2, e, hnc, hcm, hr⟩ := own_form h1
  injection e with e1 e2 e3
  subst e1 e3
  exact ⟨lo, ⟨hr, fun p hp => ⟨(h4 p hp).1.1, (h4 p hp).2⟩, hnc, hcm⟩, h2⟩
theorem ocs_set {lo : List Ob} {kd : Nat} {q q' : Body} (h : lo[k]? = some (kd, q)) : (ocs lo).set (k * 2 + 1) (.slice q'.A q'.n q'.c) = ocs (lo.set k (kd, q')) := by
  induction lo generalizing k with
  | nil => simp at h
  | cons p lo ih =>
    cases k with
    | zero => simp at h; subst h; rfl
    | succ k =>
      have h' : lo[k]? = some (kd, q) := by simpa using h
      have e : (k + 1) * 2 + 1 = (k * 2 + 1) + 1 + 1 := by omega
      rw [ocs_cons, e, List.set_cons_succ, List.set_cons_succ, ih h', List.set_cons_succ, ocs_cons]
theorem osay_set {lo : List Ob} {kd : Nat} {q q' : Body} (h : lo[k]? = some (kd, q)) (he : q'.l = q.l) : osay (lo.set k (kd, q')) = osay lo := by
  induction lo generalizing k with
  | nil => simp at h
  | cons p lo ih =>
    cases k with
    | zero => simp at h; subst h; simp [osay, he]
    | succ k =>
      have h' : lo[k]? = some (kd, q) := by simpa using h
      have := ih h'
      simp only [osay, List.set_cons_succ, List.map_cons] at this ⊢
      rw [this]
theorem OInv.at_ {A : Option Addr} (h : OInv w T r (.slice A n c) n k l) (hk : k < n) (hr : ∀ g, (Value.slice A n c).ownBlock = some g → g = r) {kd : Nat} {q : Body} (hl : l[k]? = some (kd, q)) :
    A = some ⟨r, 0, none⟩ ∧ r < w.heap.size ∧ w.cell? ⟨r, k * 2, none⟩ = some (.int .u8 (kd : Int)) ∧ w.cell? ⟨r, k * 2 + 1, none⟩ = some (.slice q.A q.n q.c) ∧ w.frozen? ⟨r, k * 2 + 1, none⟩ = false ∧ Hid (RdX w T r q.A q.n (ns .u8 q.l)) ∧ q.n ≤ q.c ∧ q.c ≤ maxLen := by
  obtain ⟨lo, h1, h2, h3, h4⟩ := h
  have hlo : lo[k]? = some (kd, q) := (h3 k (Nat.le_refl _)).trans hl
  rcases own_open h1 with ⟨_, h0, _⟩ | ⟨g, c2, L, e, hB, hb, hnc, hcm, hL, hx⟩
  · omega
  · injection e with e1 e2 e3
    subst e1 e3
    obtain rfl : g = r := hr g rfl
    obtain ⟨g1, g2⟩ := ocs_get hlo
    have hm := h4 _ (List.mem_of_getElem? hlo)
    have hlen : (ocs lo).length = n * 2 := h1.1
    refine ⟨rfl, hb.lt, ?_, ?_, hb.frozen _, Lib.hid hm.1, hm.2⟩
    · rw [hb.cell, ← g1, ← hx, List.getElem?_take_of_lt (by omega)]
      simp
    · rw [hb.cell, ← g2, ← hx, List.getElem?_take_of_lt (by omega)]
      simp
theorem OInv.set {A : Option Addr} (h : OInv w T r (.slice A n c) n k l) (hk : k < n) (hr : ∀ g, (Value.slice A n c).ownBlock = some g → g = r) (hT : T + 2 ≤ r) {kd : Nat} {q : Body} (hl : l[k]? = some (kd, q)) (q' : Body) (he : q'.l = q.l) (hq : RdX w T r q'.A q'.n (ns .u8 q'.l)) (hc : q'.n ≤ q'.c ∧ q'.c ≤ maxLen) :
    OInv (w.setCell ⟨r, k * 2 + 1, none⟩ (.slice q'.A q'.n q'.c)) T r (.slice A n c) n (k + 1) l := by
  obtain ⟨lo, h1, h2, h3, h4⟩ := h
  have hlo : lo[k]? = some (kd, q) := (h3 k (Nat.le_refl _)).trans hl
  have hs : Solo r w (w.setCell ⟨r, k * 2 + 1, none⟩ (.slice q'.A q'.n q'.c)) := Solo.refl.setCell _ _
  rcases own_open h1 with ⟨_, h0, _⟩ | ⟨g, c2, L, e, hB, hb, hnc, hcm, hL, hx⟩
  · omega
  · injection e with e1 e2 e3
    subst e1 e3
    obtain rfl : g = r := hr g rfl
    refine ⟨lo.set k (kd, q'), own_shut (L := L.set (k * 2 + 1) (.slice q'.A q'.n q'.c)) hB ?_ hnc hcm (by rw [List.length_set]; exact hL) ?_, (osay_set hlo he).trans h2, fun j hj => ?_, fun p hp => ?_⟩
    · have := hb.set (k * 2 + 1) (.slice q'.A q'.n q'.c)
      simpa using this
    · rw [List.take_set, hx, ocs_set hlo]
    · rw [List.getElem?_set_ne (by omega)]
      exact h3 j (by omega)
    · rcases List.mem_or_eq_of_mem_set hp with hp | rfl
      · exact ⟨(h4 p hp).1.solo hs (by omega) (Nat.le_refl _), (h4 p hp).2⟩
      · exact ⟨hq.solo hs (by omega) (Nat.le_refl _), hc⟩
theorem OInv.new {A1 : Option Addr} {n1 c1 : Nat} {w1 : World} (h : w.ownsRow (T + 2) 45 2 v n (ocs l)) (hO : Os w1 A1 n1 c1 l) (hb : Below w1.heap.size w1 w) (hT : w1.heap.size ≤ T) : OInv w T r v n 0 l :=
  ⟨l, h, rfl, fun _ _ => rfl, fun p hp => ⟨⟨(hO.bod p hp).1.into hb, fun hn b o e => .inl (by
    obtain ⟨b2, o2, e2, h2, _⟩ := (hO.bod p hp).1.2 hn
    rw [e] at e2
    injection e2 with e2
    injection e2 with e2
    omega)⟩, (hO.bod p hp).2⟩⟩
end
end Go.Proofs.Ytbiimgfocgbdaaa
