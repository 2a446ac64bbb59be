/- Layer 8: the document's join. -/
import Derived.Test.YtiblmlmkpilgmaaOp4M
import Derived.Test.YtiblmlmkpilgmaaPkR
import Derived.Test.YtiblmlmkpilgmaaOrd
namespace Go.Proofs.Ytiblmlmkpilgmaa
open Go.RowKit
set_option linter.unusedVariables false
set_option linter.unusedSimpArgs false

theorem joinT {lb rest : List Nat} {tk nc id b : Nat} (hb : ∀ x ∈ lb, x < 256) (h : cut lb [4, 4, 1, 1] = some ([tk, nc, id, b], rest)) : q32 tk ∧ q32 nc ∧ id < 256 ∧ b < 256 ∧ lb = be tk 4 ++ (be nc 4 ++ (id :: b :: rest)) ∧ ∀ x ∈ rest, x < 256 := by
  obtain ⟨h1, h2, h3⟩ := cut_says hb h
  have k1 : q32 tk := h3 0 tk 4 rfl rfl
  have k2 : q32 nc := h3 1 nc 4 rfl rfl
  have k3 : id < 256 := h3 2 id 1 rfl rfl
  have k4 : b < 256 := h3 3 b 1 rfl rfl
  refine ⟨k1, k2, k3, k4, ?_, fun x hx => hb x (by rw [h1]; simp [hx])⟩
  have e1 : be id 1 = [id] := ope1 k3
  have e2 : be b 1 = [b] := ope1 k4
  conv => lhs; rw [h1]
  simp [bes, e1, e2]
theorem joinU {lb : List Nat} {kd tk nc id b : Nat} {rest : List Nat} (hl : lb = be tk 4 ++ (be nc 4 ++ (id :: b :: rest))) {tk' nc' id' : Nat} {bk a : Bool} {t : Nat} (h : JoinIs kd lb tk' nc' id' bk a t) : b ≤ 1 ∧ (rest.length = 0 ∨ rest.length = 8) := by
  have e := hl.symm.trans h.hb
  unfold joinB at e
  obtain ⟨_, e⟩ := List.append_inj e (by rw [be_len, be_len])
  obtain ⟨_, e⟩ := List.append_inj e (by rw [be_len, be_len])
  simp only [List.cons.injEq] at e
  have := bitN_lt bk
  refine ⟨by omega, ?_⟩
  rw [e.2.2, tagB_len]
  cases a <;> simp
theorem joinV {lb : List Nat} {tk nc id b : Nat} {rest : List Nat} (hl : lb = be tk 4 ++ (be nc 4 ++ (id :: b :: rest))) (h1 : q32 tk) (h2 : q32 nc) (h3 : id < 256) (h4 : b ≤ 1) (h5 : ∀ x ∈ rest, x < 256) :
    (rest.length = 0 → JoinIs 2 lb tk nc id (decide (b = 1)) false 0) ∧ (rest.length = 8 → JoinIs 2 lb tk nc id (decide (b = 1)) true (ub (rest.take 8))) := by
  have e0 : bitN (decide (b = 1)) = b := bitN_of (by omega)
  refine ⟨fun hr => ⟨rfl, ?_, h1, h2, h3, by unfold q64; omega, fun _ => rfl⟩, fun hr => ⟨rfl, ?_, h1, h2, h3, ?_, fun h => by cases h⟩⟩
  · rw [hl, List.eq_nil_of_length_eq_zero hr, joinB, e0]
    rfl
  · have e := be_ub rest h5
    rw [hr] at e
    rw [List.take_of_length_le (by omega), hl, joinB, e0]
    unfold tagB
    rw [if_pos rfl, e]
  · rw [List.take_of_length_le (by omega)]
    exact ub_lt 8 rest hr h5
theorem joinW {lb : List Nat} {kd tk nc id : Nat} {bk a : Bool} {t : Nat} (h : JoinIs kd lb tk nc id bk a t) : cut lb [4, 4, 1, 1] ≠ none := by
  have hbk := bitN_lt bk
  have hid := h.hid
  have htk := h.htk
  have hnc := h.hnc
  have e1 : be id (1 : Int).toNat = [id] := ope1 hid
  have e2 : be (bitN bk) (1 : Int).toNat = [bitN bk] := ope1 (by omega)
  have := cut_of (ss := [4, 4, 1, 1]) (xs := [tk, nc, id, bitN bk]) (tagB t a) rfl (by intro s hs; simp at hs; rcases hs with rfl | rfl <;> rfl) (by
    intro i x s hx hs
    match i, hx, hs with
    | 0, hx, hs => simp at hx hs; subst hx; subst hs; exact htk
    | 1, hx, hs => simp at hx hs; subst hx; subst hs; exact hnc
    | 2, hx, hs => simp at hx hs; subst hx; subst hs; exact hid
    | 3, hx, hs => simp at hx hs; subst hx; subst hs; show _ < 256; omega)
  rw [h.hb]
  simp only [bes, e1, e2, List.append_assoc, List.cons_append, List.nil_append] at this
  unfold joinB
  rw [show (4 : Int).toNat = 4 from rfl] at this
  rw [this]
  simp
/-- What the document's broughamref08.ParseJoin answers. -/
def RJoinPost (kd : Nat) (lb : List Nat) (e : Ending) : Prop :=
  (∃ (tk nc id : Nat) (bk a : Bool) (t : Nat), e = .returned (.tuple #[.agg #[.int .u32 (tk : Int), .int .u32 (nc : Int), .int .u8 (id : Int), .bool bk, .bool a, .int .u64 (t : Int)], .bool true]) ∧ JoinIs kd lb tk nc id bk a t) ∨ (e = .returned (.tuple #[.agg #[.int .u32 0, .int .u32 0, .int .u8 0, .bool false, .bool false, .int .u64 0], .bool false]) ∧ ∀ (tk nc id : Nat) (bk a : Bool) (t : Nat), ¬ JoinIs kd lb tk nc id bk a t)
theorem RJoinPost.no {kd : Nat} {lb : List Nat} (h : ∀ (tk nc id : Nat) (bk a : Bool) (t : Nat), ¬ JoinIs kd lb tk nc id bk a t) : RJoinPost kd lb (.returned (.tuple #[.agg #[.int .u32 0, .int .u32 0, .int .u8 0, .bool false, .bool false, .int .u64 0], .bool false])) := .inr ⟨rfl, h⟩
set_option maxRecDepth 20000 in
set_option maxHeartbeats 4000000 in
theorem rparseJoin_any (kd : Nat) (A : Option Addr) (n c : Nat) (lb : List Nat) (w : World) (h : Rd w w.heap.size 1 A n (ns .u8 lb)) (hnc : n ≤ c) (hb : ∀ x ∈ lb, x < 256) (hn : n ≤ 10000) :
    Calls Try.prog 30 #[.agg #[.int .u8 (kd : Int), .slice A n c]] w fun e w' => RJoinPost kd lb e ∧ Below w.heap.size w w' := by
  have hk1 := ((Blk.new w 39 #[.int .u8 (kd : Int), .slice A n c]).alloc (.cells #[.int .u32 0, .int .u32 0, .int .u8 0, .bool false, .bool false, .int .u64 0] 44)).alloc (.cells #[.int .i64 4, .int .i64 4, .int .i64 1, .int .i64 1] 3)
  have hk2 := (Blk.new (w.alloc (.cells #[.int .u8 (kd : Int), .slice A n c] 39)) 44 #[.int .u32 0, .int .u32 0, .int .u8 0, .bool false, .bool false, .int .u64 0]).alloc (.cells #[.int .i64 4, .int .i64 4, .int .i64 1, .int .i64 1] 3)
  rw [show (w.alloc (.cells #[.int .u8 (kd : Int), .slice A n c] 39)).heap.size = w.heap.size + 1 by simp] at hk2
  have hz3 : (((w.alloc (.cells #[.int .u8 (kd : Int), .slice A n c] 39)).alloc (.cells #[.int .u32 0, .int .u32 0, .int .u8 0, .bool false, .bool false, .int .u64 0] 44)).alloc (.cells #[.int .i64 4, .int .i64 4, .int .i64 1, .int .i64 1] 3)).heap.size = w.heap.size + 3 := by simp
  have hzs := Zats.lit (w := ((w.alloc (.cells #[.int .u8 (kd : Int), .slice A n c] 39)).alloc (.cells #[.int .u32 0, .int .u32 0, .int .u8 0, .bool false, .bool false, .int .u64 0] 44))) (e := 3) (k := .i64) (ss := [4, 4, 1, 1]) (n := 4) #[.int .i64 4, .int .i64 4, .int .i64 1, .int .i64 1] rfl rfl (by unfold maxLen; omega)
  rw [show ((w.alloc (.cells #[.int .u8 (kd : Int), .slice A n c] 39)).alloc (.cells #[.int .u32 0, .int .u32 0, .int .u8 0, .bool false, .bool false, .int .u64 0] 44)).heap.size = w.heap.size + 2 by simp] at hzs
  have hb0 : Below w.heap.size w (((w.alloc (.cells #[.int .u8 (kd : Int), .slice A n c] 39)).alloc (.cells #[.int .u32 0, .int .u32 0, .int .u8 0, .bool false, .bool false, .int .u64 0] 44)).alloc (.cells #[.int .i64 4, .int .i64 4, .int .i64 1, .int .i64 1] 3)) := (((Below.refl _ _).alloc (Nat.le_refl _) _).alloc (by simp) _).alloc (by simp; omega) _
  have K1 := Lib.hid hk1
  have K2 := Lib.hid hk2
  have B0 := Lib.hid hb0
  have ZS := Lib.hid hzs
  have HB := Lib.hid hb
  have HR := Lib.hid h
  obtain ⟨q0, q1⟩ := ptc2 hk1
  clear hk1 hk2 hb0 hz3 hzs hb h
  go_enter Try.func30, Try.ntmps30
  go_wp2_with fail
  generalize ((w.alloc (.cells #[.int .u8 (kd : Int), .slice A n c] 39)).alloc (.cells #[.int .u32 0, .int .u32 0, .int .u8 0, .bool false, .bool false, .int .u64 0] 44)).alloc (.cells #[.int .i64 4, .int .i64 4, .int .i64 1, .int .i64 1] 3) = W at *
  obtain ⟨T, hT⟩ : ∃ T, T = w.heap.size := ⟨_, rfl⟩
  rw [← hT] at K1 K2 ZS q0 q1 ⊢
  have HT := Lib.hid hT
  clear hT
  refine (rall_any A (some ⟨T + 2, 0, none⟩) n 4 c 4 lb [4, 4, 1, 1] W (HR.out.into B0.out) ZS.out.rd hnc HB.out (by omega) (by omega) (by omega)).mono ?_
  rintro e w1 ⟨hb1, hp⟩
  have K1b := Lib.hid (K1.out.below hb1 K1.out.lt)
  have K2b := Lib.hid (K2.out.below hb1 K2.out.lt)
  have B1 := Lib.hid (B0.out.trans (hb1.mono B0.out.size))
  clear K1 K2 ZS q0 q1 HR
  obtain ⟨z0, z1, z2, z3, z4, z5⟩ := ptc6 K2b.out
  have f0 := K2b.out.frozen 0
  have f1 := K2b.out.frozen 1
  have f2 := K2b.out.frozen 2
  have f3 := K2b.out.frozen 3
  have f4 := K2b.out.frozen 4
  have f5 := K2b.out.frozen 5
  obtain ⟨w0, w1'⟩ := ptc2 K1b.out
  rcases hp with ⟨xs, rest, v, A', n', c', hcut, rfl, hN, hn1, hn2, hr⟩ | ⟨hcut, rfl⟩
  rotate_left
  · have HNO := Lib.hid hcut
    clear hcut hb1
    by_cases hkd : kd = 2
    · subst hkd
      go_wp2_with fail
      have hkz := pt6 (.int .u32 0) (.int .u32 0) (.int .u8 0) (.bool false) (.bool false) (.int .u64 0) K2b.out
      have hbz := ptb6 (.int .u32 0) (.int .u32 0) (.int .u8 0) (.bool false) (.bool false) (.int .u64 0) B1.out (show w.heap.size ≤ T + 1 by rw [← HT.out]; omega)
      unfold ptw6 at hkz hbz
      generalize (((((w1.setCell ⟨T + 1, 0, none⟩ (.int .u32 0)).setCell ⟨T + 1, 1, none⟩ (.int .u32 0)).setCell ⟨T + 1, 2, none⟩ (.int .u8 0)).setCell ⟨T + 1, 3, none⟩ (.bool false)).setCell ⟨T + 1, 4, none⟩ (.bool false)).setCell ⟨T + 1, 5, none⟩ (.int .u64 0) = wz at *
      clear z0 z1 z2 z3 z4 z5 f0 f1 f2 f3 f4 f5
      obtain ⟨z0, z1, z2, z3, z4, z5⟩ := ptc6 hkz
      exact bodyPost_ret (v := .tuple #[.agg #[.int .u32 0, .int .u32 0, .int .u8 0, .bool false, .bool false, .int .u64 0], .bool false]) (by simp [results, Try.results30, go_sem, z0, z1, z2, z3, z4, z5]) rfl ⟨RJoinPost.no (fun tk nc id bk a t h => joinW h HNO.out), hbz⟩
    · have hkd1 : ((kd : Int) != 2) = true := by simp; omega
      clear hkd
      go_wp2_with fail
      have hkz := pt6 (.int .u32 0) (.int .u32 0) (.int .u8 0) (.bool false) (.bool false) (.int .u64 0) K2b.out
      have hbz := ptb6 (.int .u32 0) (.int .u32 0) (.int .u8 0) (.bool false) (.bool false) (.int .u64 0) B1.out (show w.heap.size ≤ T + 1 by rw [← HT.out]; omega)
      unfold ptw6 at hkz hbz
      generalize (((((w1.setCell ⟨T + 1, 0, none⟩ (.int .u32 0)).setCell ⟨T + 1, 1, none⟩ (.int .u32 0)).setCell ⟨T + 1, 2, none⟩ (.int .u8 0)).setCell ⟨T + 1, 3, none⟩ (.bool false)).setCell ⟨T + 1, 4, none⟩ (.bool false)).setCell ⟨T + 1, 5, none⟩ (.int .u64 0) = wz at *
      clear z0 z1 z2 z3 z4 z5 f0 f1 f2 f3 f4 f5
      obtain ⟨z0, z1, z2, z3, z4, z5⟩ := ptc6 hkz
      exact bodyPost_ret (v := .tuple #[.agg #[.int .u32 0, .int .u32 0, .int .u8 0, .bool false, .bool false, .int .u64 0], .bool false]) (by simp [results, Try.results30, go_sem, z0, z1, z2, z3, z4, z5]) rfl ⟨RJoinPost.no (fun tk nc id bk a t h => joinW h HNO.out), hbz⟩
  have HCUT := Lib.hid hcut
  have HN := Lib.hid hN
  have HRL := Lib.hid hr.natLen
  have HRR := Lib.hid (hr.below hb1)
  have HW1 := Lib.hid hb1.size
  clear hcut hN hr hb1
  by_cases hkd : kd = 2
  rotate_left
  · have hkd1 : ((kd : Int) != 2) = true := by simp; omega
    have HKD := Lib.hid hkd
    clear hkd
    go_wp2_with fail
    have hkz := pt6 (.int .u32 0) (.int .u32 0) (.int .u8 0) (.bool false) (.bool false) (.int .u64 0) K2b.out
    have hbz := ptb6 (.int .u32 0) (.int .u32 0) (.int .u8 0) (.bool false) (.bool false) (.int .u64 0) B1.out (show w.heap.size ≤ T + 1 by rw [← HT.out]; omega)
    unfold ptw6 at hkz hbz
    generalize (((((w1.setCell ⟨T + 1, 0, none⟩ (.int .u32 0)).setCell ⟨T + 1, 1, none⟩ (.int .u32 0)).setCell ⟨T + 1, 2, none⟩ (.int .u8 0)).setCell ⟨T + 1, 3, none⟩ (.bool false)).setCell ⟨T + 1, 4, none⟩ (.bool false)).setCell ⟨T + 1, 5, none⟩ (.int .u64 0) = wz at *
    clear z0 z1 z2 z3 z4 z5 f0 f1 f2 f3 f4 f5
    obtain ⟨z0, z1, z2, z3, z4, z5⟩ := ptc6 hkz
    exact bodyPost_ret (v := .tuple #[.agg #[.int .u32 0, .int .u32 0, .int .u8 0, .bool false, .bool false, .int .u64 0], .bool false]) (by simp [results, Try.results30, go_sem, z0, z1, z2, z3, z4, z5]) rfl ⟨RJoinPost.no (fun tk nc id bk a t h => HKD.out h.hkd), hbz⟩
  subst hkd
  have hall : ∃ tk nc id b, xs = [tk, nc, id, b] := nln4 (by have := (cut_says HB.out HCUT.out).2.1; simpa using this)
  obtain ⟨tk, nc, id, b, rfl⟩ := hall
  obtain ⟨hq1, hq2, hq3, hq4, hlb, hrb⟩ := joinT HB.out HCUT.out
  have H_tk := Lib.hid hq1
  have H_nc := Lib.hid hq2
  have H_id := Lib.hid hq3
  have HLB := Lib.hid hlb
  have HRB := Lib.hid hrb
  clear hq1 hq2 hq3 hq4 hlb hrb
  obtain ⟨g, cg, rfl, hgB, hgl, hgc, hcell⟩ := nats_open HN.out (by simp)
  have c0 := hcell 0 _ rfl
  have c1 := hcell 1 _ rfl
  have c2 := hcell 2 _ rfl
  have c3 := hcell 3 _ rfl
  simp only [List.length_cons, List.length_nil] at hgc ⊢
  clear hcell
  by_cases hb2 : 1 < b
  · have hb3 : (1 : Int) < (b : Int) := by omega
    have HF := Lib.hid hb2
    go_wp2_with fail
    have hkz := pt6 (.int .u32 0) (.int .u32 0) (.int .u8 0) (.bool false) (.bool false) (.int .u64 0) K2b.out
    have hbz := ptb6 (.int .u32 0) (.int .u32 0) (.int .u8 0) (.bool false) (.bool false) (.int .u64 0) B1.out (show w.heap.size ≤ T + 1 by rw [← HT.out]; omega)
    unfold ptw6 at hkz hbz
    generalize (((((w1.setCell ⟨T + 1, 0, none⟩ (.int .u32 0)).setCell ⟨T + 1, 1, none⟩ (.int .u32 0)).setCell ⟨T + 1, 2, none⟩ (.int .u8 0)).setCell ⟨T + 1, 3, none⟩ (.bool false)).setCell ⟨T + 1, 4, none⟩ (.bool false)).setCell ⟨T + 1, 5, none⟩ (.int .u64 0) = wz at *
    clear z0 z1 z2 z3 z4 z5 f0 f1 f2 f3 f4 f5
    obtain ⟨z0, z1, z2, z3, z4, z5⟩ := ptc6 hkz
    exact bodyPost_ret (v := .tuple #[.agg #[.int .u32 0, .int .u32 0, .int .u8 0, .bool false, .bool false, .int .u64 0], .bool false]) (by simp [results, Try.results30, go_sem, z0, z1, z2, z3, z4, z5]) rfl ⟨RJoinPost.no (fun tk nc id bk a t h => by have := (joinU HLB.out h).1; have := HF.out; omega), hbz⟩
  have hb3 : ¬ (1 : Int) < (b : Int) := by omega
  have hJ := joinV HLB.out H_tk.out H_nc.out H_id.out (by omega) HRB.out
  obtain ⟨bk, hbk⟩ : ∃ bk, bk = decide (b = 1) := ⟨_, rfl⟩
  rw [← hbk] at hJ
  have HJ := Lib.hid hJ
  have ebk : ((b : Int) == 1) = bk := by rw [hbk]; by_cases h1 : b = 1 <;> simp [h1] <;> omega
  clear hbk hb2 hJ
  by_cases hr0 : n' = 0
  · subst hr0
    go_wp2_with fail
    refine wp_ord [(0, .pure), (1, .pure), (2, .read), (3, .pure), (4, .pure), (5, .pure), (6, .read), (7, .pure), (8, .pure), (9, .pure), (10, .read), (11, .pure), (12, .pure), (13, .pure), (14, .read), (15, .pure), (16, .pure), (17, .sole), (18, .sole)] [18] (by kernel_rfl) (by kernel_rfl) (fun QQ hQ wd hwd => ?_); simp only [List.map_cons, List.map_nil, List.getD_cons_zero, List.getD_cons_succ]
    have hD : Below w1.heap.size w1 wd := by rw [hwd.out]; exact (Below.refl _ _).drew
    have hdc : ∀ a, wd.cell? a = w1.cell? a := fun a => by rw [hwd.out]; rfl
    rw [← hdc] at c0
    rw [← hdc] at c1
    rw [← hdc] at c2
    rw [← hdc] at c3
    have HRd := Lib.hid (show Rd wd W.heap.size 1 A' 0 (ns .u8 rest) by rw [hwd.out]; exact HRR.out)
    have K2d := Lib.hid (K2b.out.below hD K2b.out.lt)
    have Bd := Lib.hid (B1.out.trans (hD.mono B1.out.size))
    have HDL := Lib.hid (show wd.heap.size = w1.heap.size by rw [hwd.out]; rfl)
    clear hdc hwd hD HRR z0 z1 z2 z3 z4 z5 f0 f1 f2 f3 f4 f5
    have v_tk : IntKind.u32.wrap (tk : Int) = (tk : Int) := by rw [IntKind.wrap_u32]; have := H_tk.out; unfold q32 at this; omega
    have v_nc : IntKind.u32.wrap (nc : Int) = (nc : Int) := by rw [IntKind.wrap_u32]; have := H_nc.out; unfold q32 at this; omega
    have v_id : IntKind.u8.wrap (id : Int) = (id : Int) := by rw [IntKind.wrap_u8]; have := H_id.out; omega
    (refine o_pure (v := ?_) (by rfl) (fun w' => ?_) ?_; rotate_left; (focus (go_simp; (try with_reducible rfl))); (try simp only [Act.put, List.setIfInBounds_toArray, List.set_cons_zero, List.set_cons_succ]))
    (refine o_pure (v := ?_) (by rfl) (fun w' => ?_) ?_; rotate_left; (focus (go_simp; (try with_reducible rfl))); (try simp only [Act.put, List.setIfInBounds_toArray, List.set_cons_zero, List.set_cons_succ]))
    (refine o_load _ (by rfl) rfl rfl (by assumption) (by kernel_rfl) ?_; simp only [Act.put, List.setIfInBounds_toArray, List.set_cons_zero, List.set_cons_succ])
    (refine o_pure (v := ?_) (by rfl) (fun w' => ?_) ?_; rotate_left; (focus (go_simp; (try with_reducible rfl))); (try simp only [Act.put, List.setIfInBounds_toArray, List.set_cons_zero, List.set_cons_succ]))
    (refine o_pure (v := ?_) (by rfl) (fun w' => ?_) ?_; rotate_left; (focus (go_simp; (try with_reducible rfl))); (try simp only [Act.put, List.setIfInBounds_toArray, List.set_cons_zero, List.set_cons_succ]))
    (refine o_pure (v := ?_) (by rfl) (fun w' => ?_) ?_; rotate_left; (focus (go_simp; (try with_reducible rfl))); (try simp only [Act.put, List.setIfInBounds_toArray, List.set_cons_zero, List.set_cons_succ]))
    (refine o_load _ (by rfl) rfl rfl (by assumption) (by kernel_rfl) ?_; simp only [Act.put, List.setIfInBounds_toArray, List.set_cons_zero, List.set_cons_succ])
    (refine o_pure (v := ?_) (by rfl) (fun w' => ?_) ?_; rotate_left; (focus (go_simp; (try with_reducible rfl))); (try simp only [Act.put, List.setIfInBounds_toArray, List.set_cons_zero, List.set_cons_succ]))
    (refine o_pure (v := ?_) (by rfl) (fun w' => ?_) ?_; rotate_left; (focus (go_simp; (try with_reducible rfl))); (try simp only [Act.put, List.setIfInBounds_toArray, List.set_cons_zero, List.set_cons_succ]))
    (refine o_pure (v := ?_) (by rfl) (fun w' => ?_) ?_; rotate_left; (focus (go_simp; (try with_reducible rfl))); (try simp only [Act.put, List.setIfInBounds_toArray, List.set_cons_zero, List.set_cons_succ]))
    (refine o_load _ (by rfl) rfl rfl (by assumption) (by kernel_rfl) ?_; simp only [Act.put, List.setIfInBounds_toArray, List.set_cons_zero, List.set_cons_succ])
    (refine o_pure (v := ?_) (by rfl) (fun w' => ?_) ?_; rotate_left; (focus (go_simp; (try with_reducible rfl))); (try simp only [Act.put, List.setIfInBounds_toArray, List.set_cons_zero, List.set_cons_succ]))
    (refine o_pure (v := ?_) (by rfl) (fun w' => ?_) ?_; rotate_left; (focus (go_simp; (try with_reducible rfl))); (try simp only [Act.put, List.setIfInBounds_toArray, List.set_cons_zero, List.set_cons_succ]))
    (refine o_pure (v := ?_) (by rfl) (fun w' => ?_) ?_; rotate_left; (focus (go_simp; (try with_reducible rfl))); (try simp only [Act.put, List.setIfInBounds_toArray, List.set_cons_zero, List.set_cons_succ]))
    (refine o_load _ (by rfl) rfl rfl (by assumption) (by kernel_rfl) ?_; simp only [Act.put, List.setIfInBounds_toArray, List.set_cons_zero, List.set_cons_succ])
    (refine o_pure (v := ?_) (by rfl) (fun w' => ?_) ?_; rotate_left; (focus (go_simp; (try with_reducible rfl))); (try simp only [Act.put, List.setIfInBounds_toArray, List.set_cons_zero, List.set_cons_succ]))
    (refine o_pure (v := ?_) (by rfl) (fun w' => ?_) ?_; rotate_left; (focus (go_simp; (try with_reducible rfl))); (try simp only [Act.put, List.setIfInBounds_toArray, List.set_cons_zero, List.set_cons_succ]))
    refine o_sole (fun K hK => ?_)
    go_wp2_with fail
    refine hK _ _ (fun _ => Ext.of ((Below.refl _ _).alloc (Nat.le_refl _) _)) ?_; clear hK K
    refine o_sole (fun K hK => ?_)
    go_wp2_with fail
    refine hK _ _ (fun h => by cases h) ?_; clear hK K
    refine o_nil (hQ.out _ _ ?_); clear hQ QQ
    generalize hA4 : wd.alloc (.cells #[.int .u32 (tk : Int), .int .u32 (nc : Int), .int .u8 (id : Int), .bool bk, .bool false, .int .u64 0] 44) = w4 at *
    have hk5 : Blk w4 wd.heap.size 44 #[.int .u32 (tk : Int), .int .u32 (nc : Int), .int .u8 (id : Int), .bool bk, .bool false, .int .u64 0] := by rw [← hA4]; exact Blk.new _ _ _
    have hb5 : Below wd.heap.size wd w4 := by rw [← hA4]; exact (Below.refl _ _).alloc (Nat.le_refl _) _
    clear hA4
    have K3 := Lib.hid (K2d.out.below hb5 K2d.out.lt)
    have B3 := Lib.hid (Bd.out.trans (hb5.mono Bd.out.size))
    have KJ := Lib.hid hk5
    have hTN : T + 2 ≤ wd.heap.size := K2d.out.lt
    have HR4 := Lib.hid (show Rd w4 wd.heap.size 1 A' 0 (ns .u8 rest) from (HRd.out.mono (by rw [HDL.out]; exact HW1.out)).below hb5)
    clear hb5 hk5 c0 c1 c2 c3 HRd
    go_wp2_with fail
    refine (rget_any A' 0 c' rest 8 wd.heap.size w4 HR4.out hn1 HRB.out (by omega)).mono ?_
    rintro e w5 ⟨hb6, hp⟩
    have K5 := Lib.hid (K3.out.below hb6 K3.out.lt)
    have KJ5 := Lib.hid (KJ.out.below hb6 KJ.out.lt)
    have B5 := Lib.hid (B3.out.trans (hb6.mono B3.out.size))
    clear hb6 K3 KJ B3 HR4
    rcases hp with ⟨t, A3, n3, c3, e1, h1, h2, e2, _, rfl, _⟩ | ⟨hbad, rfl⟩
    · omega
    ·
      have HIS := Lib.hid (HJ.out.1 HRL.out)
      obtain ⟨y0, y1, y2, y3, y4, y5⟩ := ptc6 KJ5.out
      have v0 := KJ5.out.frozen 0
      have v1 := KJ5.out.frozen 1
      have v2 := KJ5.out.frozen 2
      have v3 := KJ5.out.frozen 3
      have v4 := KJ5.out.frozen 4
      have v5 := KJ5.out.frozen 5
      obtain ⟨z0, z1, z2, z3, z4, z5⟩ := ptc6 K5.out
      have f0 := K5.out.frozen 0
      have f1 := K5.out.frozen 1
      have f2 := K5.out.frozen 2
      have f3 := K5.out.frozen 3
      have f4 := K5.out.frozen 4
      have f5 := K5.out.frozen 5
      have k6 : Blk (w5.setCell ⟨wd.heap.size, 5, none⟩ (.int .u64 0)) wd.heap.size 44 #[.int .u32 (tk : Int), .int .u32 (nc : Int), .int .u8 (id : Int), .bool bk, .bool false, .int .u64 0] := KJ5.out.set 5 _
      have k7 : Blk ((w5.setCell ⟨wd.heap.size, 5, none⟩ (.int .u64 0)).setCell ⟨wd.heap.size, 4, none⟩ (.bool false)) wd.heap.size 44 #[.int .u32 (tk : Int), .int .u32 (nc : Int), .int .u8 (id : Int), .bool bk, .bool false, .int .u64 0] := k6.set 4 _
      have hs7 : Solo wd.heap.size w5 ((w5.setCell ⟨wd.heap.size, 5, none⟩ (.int .u64 0)).setCell ⟨wd.heap.size, 4, none⟩ (.bool false)) := (Solo.refl.setCell 5 _).setCell 4 _
      go_wp2_with fail
      have K9 := hs7.blk K5.out (show T + 1 ≠ wd.heap.size by omega)
      have B9 := B5.out.trans (hs7.1.mono (show w.heap.size ≤ wd.heap.size by rw [← HT.out]; omega))
      have hkz := pt6 (.int .u32 (tk : Int)) (.int .u32 (nc : Int)) (.int .u8 (id : Int)) (.bool bk) (.bool false) (.int .u64 0) K9
      have hbz := ptb6 (.int .u32 (tk : Int)) (.int .u32 (nc : Int)) (.int .u8 (id : Int)) (.bool bk) (.bool false) (.int .u64 0) B9 (show w.heap.size ≤ T + 1 by rw [← HT.out]; omega)
      unfold ptw6 at hkz hbz
      generalize (((((((w5.setCell ⟨wd.heap.size, 5, none⟩ (.int .u64 0)).setCell ⟨wd.heap.size, 4, none⟩ (.bool false)).setCell ⟨T + 1, 0, none⟩ (.int .u32 (tk : Int))).setCell ⟨T + 1, 1, none⟩ (.int .u32 (nc : Int))).setCell ⟨T + 1, 2, none⟩ (.int .u8 (id : Int))).setCell ⟨T + 1, 3, none⟩ (.bool bk)).setCell ⟨T + 1, 4, none⟩ (.bool false)).setCell ⟨T + 1, 5, none⟩ (.int .u64 0) = wz at *
      clear z0 z1 z2 z3 z4 z5 f0 f1 f2 f3 f4 f5 v0 v1 v2 v3 v4 v5 y0 y1 y2 y3 y4 y5
      obtain ⟨z0, z1, z2, z3, z4, z5⟩ := ptc6 hkz
      exact bodyPost_ret (v := .tuple #[.agg #[.int .u32 (tk : Int), .int .u32 (nc : Int), .int .u8 (id : Int), .bool bk, .bool false, .int .u64 0], .bool true]) (by simp [results, Try.results30, go_sem, z0, z1, z2, z3, z4, z5]) rfl ⟨.inl ⟨tk, nc, id, bk, false, 0, rfl, HIS.out⟩, hbz⟩
  by_cases hr8 : n' = 8
  · subst hr8
    go_wp2_with fail
    refine wp_ord [(0, .pure), (1, .pure), (2, .read), (3, .pure), (4, .pure), (5, .pure), (6, .read), (7, .pure), (8, .pure), (9, .pure), (10, .read), (11, .pure), (12, .pure), (13, .pure), (14, .read), (15, .pure), (16, .pure), (17, .sole), (18, .sole)] [18] (by kernel_rfl) (by kernel_rfl) (fun QQ hQ wd hwd => ?_); simp only [List.map_cons, List.map_nil, List.getD_cons_zero, List.getD_cons_succ]
    have hD : Below w1.heap.size w1 wd := by rw [hwd.out]; exact (Below.refl _ _).drew
    have hdc : ∀ a, wd.cell? a = w1.cell? a := fun a => by rw [hwd.out]; rfl
    rw [← hdc] at c0
    rw [← hdc] at c1
    rw [← hdc] at c2
    rw [← hdc] at c3
    have HRd := Lib.hid (show Rd wd W.heap.size 1 A' 8 (ns .u8 rest) by rw [hwd.out]; exact HRR.out)
    have K2d := Lib.hid (K2b.out.below hD K2b.out.lt)
    have Bd := Lib.hid (B1.out.trans (hD.mono B1.out.size))
    have HDL := Lib.hid (show wd.heap.size = w1.heap.size by rw [hwd.out]; rfl)
    clear hdc hwd hD HRR z0 z1 z2 z3 z4 z5 f0 f1 f2 f3 f4 f5
    have v_tk : IntKind.u32.wrap (tk : Int) = (tk : Int) := by rw [IntKind.wrap_u32]; have := H_tk.out; unfold q32 at this; omega
    have v_nc : IntKind.u32.wrap (nc : Int) = (nc : Int) := by rw [IntKind.wrap_u32]; have := H_nc.out; unfold q32 at this; omega
    have v_id : IntKind.u8.wrap (id : Int) = (id : Int) := by rw [IntKind.wrap_u8]; have := H_id.out; omega
    (refine o_pure (v := ?_) (by rfl) (fun w' => ?_) ?_; rotate_left; (focus (go_simp; (try with_reducible rfl))); (try simp only [Act.put, List.setIfInBounds_toArray, List.set_cons_zero, List.set_cons_succ]))
    (refine o_pure (v := ?_) (by rfl) (fun w' => ?_) ?_; rotate_left; (focus (go_simp; (try with_reducible rfl))); (try simp only [Act.put, List.setIfInBounds_toArray, List.set_cons_zero, List.set_cons_succ]))
    (refine o_load _ (by rfl) rfl rfl (by assumption) (by kernel_rfl) ?_; simp only [Act.put, List.setIfInBounds_toArray, List.set_cons_zero, List.set_cons_succ])
    (refine o_pure (v := ?_) (by rfl) (fun w' => ?_) ?_; rotate_left; (focus (go_simp; (try with_reducible rfl))); (try simp only [Act.put, List.setIfInBounds_toArray, List.set_cons_zero, List.set_cons_succ]))
    (refine o_pure (v := ?_) (by rfl) (fun w' => ?_) ?_; rotate_left; (focus (go_simp; (try with_reducible rfl))); (try simp only [Act.put, List.setIfInBounds_toArray, List.set_cons_zero, List.set_cons_succ]))
    (refine o_pure (v := ?_) (by rfl) (fun w' => ?_) ?_; rotate_left; (focus (go_simp; (try with_reducible rfl))); (try simp only [Act.put, List.setIfInBounds_toArray, List.set_cons_zero, List.set_cons_succ]))
    (refine o_load _ (by rfl) rfl rfl (by assumption) (by kernel_rfl) ?_; simp only [Act.put, List.setIfInBounds_toArray, List.set_cons_zero, List.set_cons_succ])
    (refine o_pure (v := ?_) (by rfl) (fun w' => ?_) ?_; rotate_left; (focus (go_simp; (try with_reducible rfl))); (try simp only [Act.put, List.setIfInBounds_toArray, List.set_cons_zero, List.set_cons_succ]))
    (refine o_pure (v := ?_) (by rfl) (fun w' => ?_) ?_; rotate_left; (focus (go_simp; (try with_reducible rfl))); (try simp only [Act.put, List.setIfInBounds_toArray, List.set_cons_zero, List.set_cons_succ]))
    (refine o_pure (v := ?_) (by rfl) (fun w' => ?_) ?_; rotate_left; (focus (go_simp; (try with_reducible rfl))); (try simp only [Act.put, List.setIfInBounds_toArray, List.set_cons_zero, List.set_cons_succ]))
    (refine o_load _ (by rfl) rfl rfl (by assumption) (by kernel_rfl) ?_; simp only [Act.put, List.setIfInBounds_toArray, List.set_cons_zero, List.set_cons_succ])
    (refine o_pure (v := ?_) (by rfl) (fun w' => ?_) ?_; rotate_left; (focus (go_simp; (try with_reducible rfl))); (try simp only [Act.put, List.setIfInBounds_toArray, List.set_cons_zero, List.set_cons_succ]))
    (refine o_pure (v := ?_) (by rfl) (fun w' => ?_) ?_; rotate_left; (focus (go_simp; (try with_reducible rfl))); (try simp only [Act.put, List.setIfInBounds_toArray, List.set_cons_zero, List.set_cons_succ]))
    (refine o_pure (v := ?_) (by rfl) (fun w' => ?_) ?_; rotate_left; (focus (go_simp; (try with_reducible rfl))); (try simp only [Act.put, List.setIfInBounds_toArray, List.set_cons_zero, List.set_cons_succ]))
    (refine o_load _ (by rfl) rfl rfl (by assumption) (by kernel_rfl) ?_; simp only [Act.put, List.setIfInBounds_toArray, List.set_cons_zero, List.set_cons_succ])
    (refine o_pure (v := ?_) (by rfl) (fun w' => ?_) ?_; rotate_left; (focus (go_simp; (try with_reducible rfl))); (try simp only [Act.put, List.setIfInBounds_toArray, List.set_cons_zero, List.set_cons_succ]))
    (refine o_pure (v := ?_) (by rfl) (fun w' => ?_) ?_; rotate_left; (focus (go_simp; (try with_reducible rfl))); (try simp only [Act.put, List.setIfInBounds_toArray, List.set_cons_zero, List.set_cons_succ]))
    refine o_sole (fun K hK => ?_)
    go_wp2_with fail
    refine hK _ _ (fun _ => Ext.of ((Below.refl _ _).alloc (Nat.le_refl _) _)) ?_; clear hK K
    refine o_sole (fun K hK => ?_)
    go_wp2_with fail
    refine hK _ _ (fun h => by cases h) ?_; clear hK K
    refine o_nil (hQ.out _ _ ?_); clear hQ QQ
    generalize hA4 : wd.alloc (.cells #[.int .u32 (tk : Int), .int .u32 (nc : Int), .int .u8 (id : Int), .bool bk, .bool false, .int .u64 0] 44) = w4 at *
    have hk5 : Blk w4 wd.heap.size 44 #[.int .u32 (tk : Int), .int .u32 (nc : Int), .int .u8 (id : Int), .bool bk, .bool false, .int .u64 0] := by rw [← hA4]; exact Blk.new _ _ _
    have hb5 : Below wd.heap.size wd w4 := by rw [← hA4]; exact (Below.refl _ _).alloc (Nat.le_refl _) _
    clear hA4
    have K3 := Lib.hid (K2d.out.below hb5 K2d.out.lt)
    have B3 := Lib.hid (Bd.out.trans (hb5.mono Bd.out.size))
    have KJ := Lib.hid hk5
    have hTN : T + 2 ≤ wd.heap.size := K2d.out.lt
    have HR4 := Lib.hid (show Rd w4 wd.heap.size 1 A' 8 (ns .u8 rest) from (HRd.out.mono (by rw [HDL.out]; exact HW1.out)).below hb5)
    clear hb5 hk5 c0 c1 c2 c3 HRd
    go_wp2_with fail
    refine (rget_any A' 8 c' rest 8 wd.heap.size w4 HR4.out hn1 HRB.out (by omega)).mono ?_
    rintro e w5 ⟨hb6, hp⟩
    have K5 := Lib.hid (K3.out.below hb6 K3.out.lt)
    have KJ5 := Lib.hid (KJ.out.below hb6 KJ.out.lt)
    have B5 := Lib.hid (B3.out.trans (hb6.mono B3.out.size))
    clear hb6 K3 KJ B3 HR4
    rcases hp with ⟨t, A3, n3, c3, e1, h1, h2, e2, _, rfl, _⟩ | ⟨hbad, rfl⟩
    ·
      obtain rfl : t = 8 := by omega
      have HIS := Lib.hid (HJ.out.2 HRL.out)
      generalize ub (rest.take 8) = t at *
      clear e1 e2 h1 h2
      obtain ⟨y0, y1, y2, y3, y4, y5⟩ := ptc6 KJ5.out
      have v0 := KJ5.out.frozen 0
      have v1 := KJ5.out.frozen 1
      have v2 := KJ5.out.frozen 2
      have v3 := KJ5.out.frozen 3
      have v4 := KJ5.out.frozen 4
      have v5 := KJ5.out.frozen 5
      obtain ⟨z0, z1, z2, z3, z4, z5⟩ := ptc6 K5.out
      have f0 := K5.out.frozen 0
      have f1 := K5.out.frozen 1
      have f2 := K5.out.frozen 2
      have f3 := K5.out.frozen 3
      have f4 := K5.out.frozen 4
      have f5 := K5.out.frozen 5
      have k6 : Blk (w5.setCell ⟨wd.heap.size, 5, none⟩ (.int .u64 (t : Int))) wd.heap.size 44 #[.int .u32 (tk : Int), .int .u32 (nc : Int), .int .u8 (id : Int), .bool bk, .bool false, .int .u64 (t : Int)] := KJ5.out.set 5 _
      have k7 : Blk ((w5.setCell ⟨wd.heap.size, 5, none⟩ (.int .u64 (t : Int))).setCell ⟨wd.heap.size, 4, none⟩ (.bool true)) wd.heap.size 44 #[.int .u32 (tk : Int), .int .u32 (nc : Int), .int .u8 (id : Int), .bool bk, .bool true, .int .u64 (t : Int)] := k6.set 4 _
      have hs7 : Solo wd.heap.size w5 ((w5.setCell ⟨wd.heap.size, 5, none⟩ (.int .u64 (t : Int))).setCell ⟨wd.heap.size, 4, none⟩ (.bool true)) := (Solo.refl.setCell 5 _).setCell 4 _
      go_wp2_with fail
      have K9 := hs7.blk K5.out (show T + 1 ≠ wd.heap.size by omega)
      have B9 := B5.out.trans (hs7.1.mono (show w.heap.size ≤ wd.heap.size by rw [← HT.out]; omega))
      have hkz := pt6 (.int .u32 (tk : Int)) (.int .u32 (nc : Int)) (.int .u8 (id : Int)) (.bool bk) (.bool true) (.int .u64 (t : Int)) K9
      have hbz := ptb6 (.int .u32 (tk : Int)) (.int .u32 (nc : Int)) (.int .u8 (id : Int)) (.bool bk) (.bool true) (.int .u64 (t : Int)) B9 (show w.heap.size ≤ T + 1 by rw [← HT.out]; omega)
      unfold ptw6 at hkz hbz
      generalize (((((((w5.setCell ⟨wd.heap.size, 5, none⟩ (.int .u64 (t : Int))).setCell ⟨wd.heap.size, 4, none⟩ (.bool true)).setCell ⟨T + 1, 0, none⟩ (.int .u32 (tk : Int))).setCell ⟨T + 1, 1, none⟩ (.int .u32 (nc : Int))).setCell ⟨T + 1, 2, none⟩ (.int .u8 (id : Int))).setCell ⟨T + 1, 3, none⟩ (.bool bk)).setCell ⟨T + 1, 4, none⟩ (.bool true)).setCell ⟨T + 1, 5, none⟩ (.int .u64 (t : Int)) = wz at *
      clear z0 z1 z2 z3 z4 z5 f0 f1 f2 f3 f4 f5 v0 v1 v2 v3 v4 v5 y0 y1 y2 y3 y4 y5
      obtain ⟨z0, z1, z2, z3, z4, z5⟩ := ptc6 hkz
      exact bodyPost_ret (v := .tuple #[.agg #[.int .u32 (tk : Int), .int .u32 (nc : Int), .int .u8 (id : Int), .bool bk, .bool true, .int .u64 (t : Int)], .bool true]) (by simp [results, Try.results30, go_sem, z0, z1, z2, z3, z4, z5]) rfl ⟨.inl ⟨tk, nc, id, bk, true, t, rfl, HIS.out⟩, hbz⟩
    · exfalso
      rcases hbad with h | h
      · cases h
      · exact h (by show (8 : Int).toNat ≤ 8; omega)
  have hr1 : ((n' : Int) != 0) = true := by simp; omega
  have hr2 : ((n' : Int) != 8) = true := by simp; omega
  have HNN := Lib.hid (And.intro hr0 hr8)
  clear hr0 hr8
  go_wp2_with fail
  have hkz := pt6 (.int .u32 0) (.int .u32 0) (.int .u8 0) (.bool false) (.bool false) (.int .u64 0) K2b.out
  have hbz := ptb6 (.int .u32 0) (.int .u32 0) (.int .u8 0) (.bool false) (.bool false) (.int .u64 0) B1.out (show w.heap.size ≤ T + 1 by rw [← HT.out]; omega)
  unfold ptw6 at hkz hbz
  generalize (((((w1.setCell ⟨T + 1, 0, none⟩ (.int .u32 0)).setCell ⟨T + 1, 1, none⟩ (.int .u32 0)).setCell ⟨T + 1, 2, none⟩ (.int .u8 0)).setCell ⟨T + 1, 3, none⟩ (.bool false)).setCell ⟨T + 1, 4, none⟩ (.bool false)).setCell ⟨T + 1, 5, none⟩ (.int .u64 0) = wz at *
  clear z0 z1 z2 z3 z4 z5 f0 f1 f2 f3 f4 f5
  obtain ⟨z0, z1, z2, z3, z4, z5⟩ := ptc6 hkz
  exact bodyPost_ret (v := .tuple #[.agg #[.int .u32 0, .int .u32 0, .int .u8 0, .bool false, .bool false, .int .u64 0], .bool false]) (by simp [results, Try.results30, go_sem, z0, z1, z2, z3, z4, z5]) rfl ⟨RJoinPost.no (fun tk nc id bk a t h => by have := (joinU HLB.out h).2; have := HNN.out; have := HRL.out; omega), hbz⟩
end Go.Proofs.Ytiblmlmkpilgmaa
