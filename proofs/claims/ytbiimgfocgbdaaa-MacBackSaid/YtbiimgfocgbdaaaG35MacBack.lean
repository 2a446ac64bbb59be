/- The document's answers of layer 2, all of them. -/
import Derived.Test.YtbiimgfocgbdaaaG9MacBack
import Derived.Test.YtbiimgfocgbdaaaG32MacBack
import Derived.Test.YtbiimgfocgbdaaaOrd

namespace Go.Proofs.Ytbiimgfocgbdaaa
open Go.RowKit
set_option linter.unusedVariables false

set_option maxRecDepth 20000 in
theorem rall_any (A C : Option Addr) (n m c d : Nat) (lb : List Nat) (ss : List Int) (w : World) (hr : Rd w w.heap.size 1 A n (ns .u8 lb)) (hs : Rd w w.heap.size 1 C m (zs .i64 ss)) (hnc : n ≤ c) (hb : ∀ x ∈ lb, x < 256) (hn : n ≤ 100000) (hmd : m ≤ d) (hm : m ≤ 10000) :
    Calls Try.prog 74 #[.slice A n c, .slice C m d] w fun e w' => Below w.heap.size w w' ∧
      ((∃ (xs rest : List Nat) (v : Value) (A' : Option Addr) (n' c' : Nat), cut lb ss = some (xs, rest) ∧ e = .returned (.tuple #[v, .slice A' n' c', .bool true]) ∧ Nats w' 22 .u64 w.heap.size v xs ∧ n' ≤ c' ∧ n' ≤ n ∧ Rd w w.heap.size 1 A' n' (ns .u8 rest)) ∨
      (cut lb ss = none ∧ e = .returned (.tuple #[.slice none 0 0, .slice none 0 0, .bool false]))) := by
  have HR := Lib.hid hr; have HS := Lib.hid hs; have HB := Lib.hid hb; have HLS := Lib.hid hs.intLen
  clear hr hs hb
  go_enter Try.func74, Try.ntmps74
  go_wp2_with fail
  go_loopw [0, 7, 8, 9, 10, 11] (fun b v i _ _ _ wr => ∃ (k : Nat) (A' : Option Addr) (n' c' : Nat) (r acc : List Nat), k ≤ m ∧ i = .int .i64 k ∧ b = .slice A' n' c' ∧ n' ≤ c' ∧ n' ≤ n ∧ acc.length = k ∧ Rd w w.heap.size 1 A' n' (ns .u8 r) ∧ Hid (∀ x ∈ r, x < 256) ∧
      Nats wr 22 .u64 w.heap.size v acc ∧ Hid (cut lb ss = (cut r (ss.drop k)).map (fun p => (acc ++ p.1, p.2))) ∧ Below w.heap.size w wr) (fun _ _ i _ _ _ _ => m - (intOf i).toNat)
  case atStart => exact ⟨0, A, n, c, lb, [], Nat.zero_le _, rfl, rfl, hnc, Nat.le_refl _, rfl, HR.out, HB, Nats.nil _ _ _ _, Lib.hid (by simp), Below.refl _ _⟩
  case round =>
    obtain ⟨k, A', n', c', r, acc, hk, rfl, rfl, hn1, hn2, hal, hr, hb, ha, hv, hbel⟩ := hrel
    have HR' := Lib.hid hr; have HLR := Lib.hid hr.natLen
    clear hr
    by_cases hlt : k < m
    · obtain ⟨bb, off, s, rfl, hbk, hcell, hx⟩ := (HS.out.below hbel).nthz hlt
      have h0 : (0 : Int) ≤ (k : Int) := by omega
      have h2 : (k : Int) < (m : Int) := by omega
      have HG := Lib.hid (rget_any A' n' c' r s w.heap.size wr (HR'.out.below hbel) hn1 hb.out (by omega))
      go_wp2_with fail
      refine HG.out.mono ?_
      clear HG
      rintro e w2 ⟨hb2, hc2⟩
      have hbel2 := hbel.trans (hb2.mono hbel.size)
      have ha2 := ha.below hb2
      rcases hc2 with ⟨t, A2, n2, c2, rfl, ht1, ht8, hnt, hnc2, rfl, hrd⟩ | ⟨hbad, rfl⟩
      · have hv2 := hv.out
        rw [cut_good hx ht1 ht8 (by have := HLR.out; omega)] at hv2
        have HV := Lib.hid hv2
        have HRD : Hid (Rd w w.heap.size 1 A2 n2 (ns .u8 (r.drop t)))  := Lib.hid (Rd.keep hrd (Nat.le_refl _) fun b o hl => (hbel.cell (p := ⟨b, o, none⟩) hl).symm)
        clear hv hv2 hrd
        go_wp2_with (at_builtin; go_must (refine app1n pel64 (ub (r.take t)) rfl _ _ rfl rfl ha2 rfl rfl ?_ ?_ ?_))
        · exact room_ge (by omega)
        · exact hbel2.size
        intro v1 w1 ha1 _ hb1
        go_wp2_with fail
        go_roundw
        case rel =>
          exact ⟨k + 1, A2, n2, c2, r.drop t, acc ++ [ub (r.take t)], by omega, by go_num, rfl, hnc2, by omega, by simp [hal], HRD.out, Lib.hid fun x hx => hb.out x (List.mem_of_mem_drop hx), ha1, Lib.hid (by rw [HV.out]; simp [Function.comp_def]), hbel2.trans hb1⟩
        case measure => simp [intOf]; omega
      · have hv2 := hv.out
        rw [cut_bad hx (by have := HLR.out; subst this; exact hbad)] at hv2
        have HV := Lib.hid hv2
        clear hv hv2 hbad
        go_wp2_with fail
        go_ret3
        exact ⟨hbel2, .inr ⟨HV.out, rfl⟩⟩
    · have hk : k = m := by omega
      subst hk
      have hv2 := hv.out
      rw [List.drop_of_length_le (by have := HLS.out; omega), cut] at hv2
      have HV := Lib.hid hv2
      clear hv hv2
      go_wp2
      go_ret3
      exact ⟨hbel, .inl ⟨acc, r, _, A', n', c', by rw [HV.out]; simp, rfl, ha, hn1, hn2, HR'.out⟩⟩
end Go.Proofs.Ytbiimgfocgbdaaa

/- Layer 8: the document's key. -/
namespace Go.Proofs.Ytbiimgfocgbdaaa
open Go.RowKit
set_option linter.unusedVariables false
set_option linter.unusedSimpArgs false

theorem keyOf8 {lb : List Nat} (hb : ∀ x ∈ lb, x < 256) (hl : lb.length = 8) : KeyIs 1 lb (ub (lb.take 8)) 0 false := by
  have e : lb.take 8 = lb := List.take_of_length_le (by omega)
  have h := be_ub lb hb
  rw [hl] at h
  exact ⟨rfl, by rw [e]; unfold keyB tagB; rw [h]; simp, by rw [e]; exact ub_lt 8 lb hl hb, by unfold q64; omega, fun _ => rfl⟩
theorem keyOf16 {lb : List Nat} (hb : ∀ x ∈ lb, x < 256) (hl : lb.length = 16) : KeyIs 1 lb (ub (lb.take 8)) (ub ((lb.drop 8).take 8)) true := by
  have l1 : (lb.take 8).length = 8 := by rw [List.length_take]; omega
  have l2 : (lb.drop 8).length = 8 := by rw [List.length_drop]; omega
  have b1 : ∀ x ∈ lb.take 8, x < 256 := fun x hx => hb x (List.mem_of_mem_take hx)
  have b2 : ∀ x ∈ lb.drop 8, x < 256 := fun x hx => hb x (List.mem_of_mem_drop hx)
  have e2 : (lb.drop 8).take 8 = lb.drop 8 := List.take_of_length_le (by omega)
  have h1 := be_ub _ b1
  have h2 := be_ub _ b2
  rw [l1] at h1
  rw [l2] at h2
  exact ⟨rfl, by rw [e2]; unfold keyB tagB; rw [h1, if_pos rfl, h2, List.take_append_drop], ub_lt 8 _ l1 b1, by rw [e2]; exact ub_lt 8 _ l2 b2, fun h => by cases h⟩
theorem keyLen {kd : Nat} {lb : List Nat} {k t : Nat} {a : Bool} (h : KeyIs kd lb k t a) : lb.length = 8 ∨ lb.length = 16 := by
  rw [h.hb]
  unfold keyB
  rw [List.length_append, be_len, tagB_len]
  cases a <;> simp
def RKeyPost (kd : Nat) (lb : List Nat) (e : Ending) : Prop :=
  (∃ (k t : Nat) (a : Bool), e = .returned (.tuple #[.int .u64 (k : Int), .int .u64 (t : Int), .bool a, .bool true]) ∧ KeyIs kd lb k t a) ∨ (e = .returned (.tuple #[.int .u64 0, .int .u64 0, .bool false, .bool false]) ∧ ∀ (k t : Nat) (a : Bool), ¬ KeyIs kd lb k t a)
theorem RKeyPost.no {kd : Nat} {lb : List Nat} (h : ∀ (k t : Nat) (a : Bool), ¬ KeyIs kd lb k t a) : RKeyPost kd lb (.returned (.tuple #[.int .u64 0, .int .u64 0, .bool false, .bool false])) := .inr ⟨rfl, h⟩
end Go.Proofs.Ytbiimgfocgbdaaa

/- Layer 8: the document's join. -/
namespace Go.Proofs.Ytbiimgfocgbdaaa
open Go.RowKit
set_option linter.unusedVariables false
set_option linter.unusedSimpArgs false

theorem joinT {lb rest : List Nat} {tk nc id b : Nat} (hb : ∀ x ∈ lb, x < 256) (h : cut lb [4, 4, 1, 1] = some ([tk, nc, id, b], rest)) : q32 tk ∧ q32 nc ∧ id < 256 ∧ b < 256 ∧ lb = be tk 4 ++ (be nc 4 ++ (id :: b :: rest)) ∧ ∀ x ∈ rest, x < 256 := by
  obtain ⟨h1, h2, h3⟩ := cut_says hb h
  have k1 : q32 tk := h3 0 tk 4 rfl rfl
  have k2 : q32 nc := h3 1 nc 4 rfl rfl
  have k3 : id < 256 := h3 2 id 1 rfl rfl
  have k4 : b < 256 := h3 3 b 1 rfl rfl
  refine ⟨k1, k2, k3, k4, ?_, fun x hx => hb x (by rw [h1]; simp [hx])⟩
  have e1 : be id 1 = [id] := ope1 k3
  have e2 : be b 1 = [b] := ope1 k4
  conv => lhs; rw [h1]
  simp [bes, e1, e2]
theorem joinU {lb : List Nat} {kd tk nc id b : Nat} {rest : List Nat} (hl : lb = be tk 4 ++ (be nc 4 ++ (id :: b :: rest))) {tk' nc' id' : Nat} {bk a : Bool} {t : Nat} (h : JoinIs kd lb tk' nc' id' bk a t) : b ≤ 1 ∧ (rest.length = 0 ∨ rest.length = 8) := by
  have e := hl.symm.trans h.hb
  unfold joinB at e
  obtain ⟨_, e⟩ := List.append_inj e (by rw [be_len, be_len])
  obtain ⟨_, e⟩ := List.append_inj e (by rw [be_len, be_len])
  simp only [List.cons.injEq] at e
  have := bitN_lt bk
  refine ⟨by omega, ?_⟩
  rw [e.2.2, tagB_len]
  cases a <;> simp
theorem joinV {lb : List Nat} {tk nc id b : Nat} {rest : List Nat} (hl : lb = be tk 4 ++ (be nc 4 ++ (id :: b :: rest))) (h1 : q32 tk) (h2 : q32 nc) (h3 : id < 256) (h4 : b ≤ 1) (h5 : ∀ x ∈ rest, x < 256) :
    (rest.length = 0 → JoinIs 2 lb tk nc id (decide (b = 1)) false 0) ∧ (rest.length = 8 → JoinIs 2 lb tk nc id (decide (b = 1)) true (ub (rest.take 8))) := by
  have e0 : bitN (decide (b = 1)) = b := bitN_of (by omega)
  refine ⟨fun hr => ⟨rfl, ?_, h1, h2, h3, by unfold q64; omega, fun _ => rfl⟩, fun hr => ⟨rfl, ?_, h1, h2, h3, ?_, fun h => by cases h⟩⟩
  · rw [hl, List.eq_nil_of_length_eq_zero hr, joinB, e0]
    rfl
  · have e := be_ub rest h5
    rw [hr] at e
    rw [List.take_of_length_le (by omega), hl, joinB, e0]
    unfold tagB
    rw [if_pos rfl, e]
  · rw [List.take_of_length_le (by omega)]
    exact ub_lt 8 rest hr h5
theorem joinW {lb : List Nat} {kd tk nc id : Nat} {bk a : Bool} {t : Nat} (h : JoinIs kd lb tk nc id bk a t) : cut lb [4, 4, 1, 1] ≠ none := by
  have hbk := bitN_lt bk
  have hid := h.hid
  have htk := h.htk
  have hnc := h.hnc
  have e1 : be id (1 : Int).toNat = [id] := ope1 hid
  have e2 : be (bitN bk) (1 : Int).toNat = [bitN bk] := ope1 (by omega)
  have := cut_of (ss := [4, 4, 1, 1]) (xs := [tk, nc, id, bitN bk]) (tagB t a) rfl (by intro s hs; simp at hs; rcases hs with rfl | rfl <;> rfl) (by
    intro i x s hx hs
    match i, hx, hs with
    | 0, hx, hs => simp at hx hs; subst hx; subst hs; exact htk
    | 1, hx, hs => simp at hx hs; subst hx; subst hs; exact hnc
    | 2, hx, hs => simp at hx hs; subst hx; subst hs; exact hid
    | 3, hx, hs => simp at hx hs; subst hx; subst hs; show _ < 256; omega)
  rw [h.hb]
  simp only [bes, e1, e2, List.append_assoc, List.cons_append, List.nil_append] at this
  unfold joinB
  rw [show (4 : Int).toNat = 4 from rfl] at this
  rw [this]
  simp
/-- What the document's broughamref08.ParseJoin answers. -/
def RJoinPost (kd : Nat) (lb : List Nat) (e : Ending) : Prop :=
  (∃ (tk nc id : Nat) (bk a : Bool) (t : Nat), e = .returned (.tuple #[.agg #[.int .u32 (tk : Int), .int .u32 (nc : Int), .int .u8 (id : Int), .bool bk, .bool a, .int .u64 (t : Int)], .bool true]) ∧ JoinIs kd lb tk nc id bk a t) ∨ (e = .returned (.tuple #[.agg #[.int .u32 0, .int .u32 0, .int .u8 0, .bool false, .bool false, .int .u64 0], .bool false]) ∧ ∀ (tk nc id : Nat) (bk a : Bool) (t : Nat), ¬ JoinIs kd lb tk nc id bk a t)
theorem RJoinPost.no {kd : Nat} {lb : List Nat} (h : ∀ (tk nc id : Nat) (bk a : Bool) (t : Nat), ¬ JoinIs kd lb tk nc id bk a t) : RJoinPost kd lb (.returned (.tuple #[.agg #[.int .u32 0, .int .u32 0, .int .u8 0, .bool false, .bool false, .int .u64 0], .bool false])) := .inr ⟨rfl, h⟩
end Go.Proofs.Ytbiimgfocgbdaaa
