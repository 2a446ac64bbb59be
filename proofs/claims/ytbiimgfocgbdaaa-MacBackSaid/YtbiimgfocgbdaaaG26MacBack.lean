/- Options' bytes: mathematics. No program. -/
import Derived.Test.YtbiimgfocgbdaaaG8MacBack
import Derived.Test.YtbiimgfocgbdaaaG6MacBack
import Derived.Test.YtbiimgfocgbdaaaG14MacBack

namespace Go.Proofs.Ytbiimgfocgbdaaa
set_option linter.unusedVariables false
theorem ope1 {x : Nat} (h : x < 256) : be x 1 = [x] := by show [] ++ [x % 256] = [x]; rw [Nat.mod_eq_of_lt h]; rfl
def bitN (b : Bool) : Nat := if b then 1 else 0
theorem bitN_lt (b : Bool) : bitN b < 2 := by cases b <;> decide
theorem bitN_inj {a b : Bool} (h : bitN a = bitN b) : a = b := by revert h; cases a <;> cases b <;> decide
theorem bitN_of {x : Nat} (h : x < 2) : bitN (decide (x = 1)) = x := by
  have : x = 0 ∨ x = 1 := by omega
  rcases this with rfl | rfl <;> rfl
def tagB (t : Nat) (a : Bool) : List Nat := if a then be t 8 else []
def keyB (k t : Nat) (a : Bool) : List Nat := be k 8 ++ tagB t a
def joinB (tk nc id : Nat) (bk an : Bool) (t : Nat) : List Nat := be tk 4 ++ (be nc 4 ++ (id :: bitN bk :: tagB t an))
def dataB (f p : Bool) (sq ak wn t : Nat) : List Nat := (bitN f + 2 * bitN p) :: (be sq 8 ++ (be ak 8 ++ (be wn 4 ++ be t 8)))
def wordB (nm id pa : Nat) (bk : Bool) (t : Nat) : List Nat := be nm 4 ++ (id :: pa :: bitN bk :: be t 8)
def q64 (x : Nat) : Prop := x < 18446744073709551616
def q32 (x : Nat) : Prop := x < 4294967296
/-- An option that is one of these. -/
structure KeyIs (kd : Nat) (b : List Nat) (k t : Nat) (a : Bool) : Prop where
  hkd : kd = 1
  hb : b = keyB k t a
  hk : q64 k
  ht : q64 t
  hz : a = false → t = 0
structure JoinIs (kd : Nat) (b : List Nat) (tk nc id : Nat) (bk an : Bool) (t : Nat) : Prop where
  hkd : kd = 2
  hb : b = joinB tk nc id bk an t
  htk : q32 tk
  hnc : q32 nc
  hid : id < 256
  ht : q64 t
  hz : an = false → t = 0
structure DataIs (kd : Nat) (b : List Nat) (f p : Bool) (sq ak wn t : Nat) : Prop where
  hkd : kd = 3
  hb : b = dataB f p sq ak wn t
  hsq : q64 sq
  hak : q64 ak
  hwn : q32 wn
  ht : q64 t
structure WordIs (kd : Nat) (b : List Nat) (nm id pa : Nat) (bk : Bool) (t : Nat) : Prop where
  hkd : 4 ≤ kd ∧ kd ≤ 7
  hb : b = wordB nm id pa bk t
  hnm : q32 nm
  hid : id < 256
  hpa : pa < 256
  ht : q64 t
theorem be_eq {x y n : Nat} (h : be x n = be y n) (hx : x < 256 ^ n) (hy : y < 256 ^ n) : x = y := by
  have := congrArg ub h
  rw [ub_be, ub_be, Nat.mod_eq_of_lt hx, Nat.mod_eq_of_lt hy] at this
  exact this
theorem be_eq8 {x y : Nat} (h : be x 8 = be y 8) (hx : q64 x) (hy : q64 y) : x = y := be_eq h hx hy
theorem be_eq4 {x y : Nat} (h : be x 4 = be y 4) (hx : q32 x) (hy : q32 y) : x = y := be_eq h hx hy
theorem tagB_len (t : Nat) (a : Bool) : (tagB t a).length = if a then 8 else 0 := by cases a <;> simp [tagB, be_len]
theorem tag_eq {t s : Nat} {a b : Bool} (h : tagB t a = tagB s b) (ht : q64 t) (hs : q64 s) (h1 : a = false → t = 0) (h2 : b = false → s = 0) : t = s ∧ a = b := by
  have hl := congrArg List.length h
  rw [tagB_len, tagB_len] at hl
  cases a <;> cases b
  · rw [h1 rfl, h2 rfl]; exact ⟨rfl, rfl⟩
  · simp at hl
  · simp at hl
  · exact ⟨be_eq8 h ht hs, rfl⟩
theorem KeyIs.one {kd : Nat} {b : List Nat} {k t k' t' : Nat} {a a' : Bool} (h : KeyIs kd b k t a) (g : KeyIs kd b k' t' a') : k = k' ∧ t = t' ∧ a = a' := by
  have e := h.hb.symm.trans g.hb
  unfold keyB at e
  obtain ⟨e1, e2⟩ := List.append_inj e (by rw [be_len, be_len])
  exact ⟨be_eq8 e1 h.hk g.hk, tag_eq e2 h.ht g.ht h.hz g.hz⟩
theorem JoinIs.one {kd : Nat} {b : List Nat} {tk nc id t tk' nc' id' t' : Nat} {bk an bk' an' : Bool} (h : JoinIs kd b tk nc id bk an t) (g : JoinIs kd b tk' nc' id' bk' an' t') : tk = tk' ∧ nc = nc' ∧ id = id' ∧ bk = bk' ∧ an = an' ∧ t = t' := by
  have e := h.hb.symm.trans g.hb
  unfold joinB at e
  obtain ⟨e1, e2⟩ := List.append_inj e (by rw [be_len, be_len])
  obtain ⟨e2, e3⟩ := List.append_inj e2 (by rw [be_len, be_len])
  injection e3 with e3 e4
  injection e4 with e4 e5
  obtain ⟨e6, e7⟩ := tag_eq e5 h.ht g.ht h.hz g.hz
  exact ⟨be_eq4 e1 h.htk g.htk, be_eq4 e2 h.hnc g.hnc, e3, bitN_inj e4, e7, e6⟩
theorem DataIs.one {kd : Nat} {b : List Nat} {f p f' p' : Bool} {sq ak wn t sq' ak' wn' t' : Nat} (h : DataIs kd b f p sq ak wn t) (g : DataIs kd b f' p' sq' ak' wn' t') : f = f' ∧ p = p' ∧ sq = sq' ∧ ak = ak' ∧ wn = wn' ∧ t = t' := by
  have e := h.hb.symm.trans g.hb
  unfold dataB at e
  injection e with e0 e
  obtain ⟨e1, e⟩ := List.append_inj e (by rw [be_len, be_len])
  obtain ⟨e2, e⟩ := List.append_inj e (by rw [be_len, be_len])
  obtain ⟨e3, e4⟩ := List.append_inj e (by rw [be_len, be_len])
  have h1 := bitN_lt f
  have h2 := bitN_lt f'
  exact ⟨bitN_inj (by omega), bitN_inj (by omega), be_eq8 e1 h.hsq g.hsq, be_eq8 e2 h.hak g.hak, be_eq4 e3 h.hwn g.hwn, be_eq8 e4 h.ht g.ht⟩
theorem WordIs.one {kd : Nat} {b : List Nat} {nm id pa t nm' id' pa' t' : Nat} {bk bk' : Bool} (h : WordIs kd b nm id pa bk t) (g : WordIs kd b nm' id' pa' bk' t') : nm = nm' ∧ id = id' ∧ pa = pa' ∧ bk = bk' ∧ t = t' := by
  have e := h.hb.symm.trans g.hb
  unfold wordB at e
  obtain ⟨e1, e⟩ := List.append_inj e (by rw [be_len, be_len])
  injection e with e2 e
  injection e with e3 e
  injection e with e4 e
  exact ⟨be_eq4 e1 h.hnm g.hnm, e2, e3, bitN_inj e4, be_eq8 e h.ht g.ht⟩
/-- Numbers of sizes as bytes. -/
def bes : List Nat → List Int → List Nat
  | x :: xs, s :: ss => be x s.toNat ++ bes xs ss
  | _, _ => []
theorem be_ub (l : List Nat) (h : ∀ x ∈ l, x < 256) : be (ub l) l.length = l := by
  have key : ∀ (k : Nat) (l : List Nat), l.length = k → (∀ x ∈ l, x < 256) → be (ub l) k = l := by
    intro k
    induction k with
    | zero => intro l hl _; rw [List.eq_nil_of_length_eq_zero hl]; rfl
    | succ k ih =>
      intro l hl hb
      have hne : l ≠ [] := by intro e; rw [e] at hl; simp at hl
      obtain ⟨m, x, rfl⟩ : ∃ m x, l = m ++ [x] := ⟨l.dropLast, l.getLast hne, (List.dropLast_concat_getLast hne).symm⟩
      have hx : x < 256 := hb x (by simp)
      have hm : m.length = k := by simpa using hl
      rw [ub_snoc]
      show be ((ub m * 256 + x) / 256) k ++ [(ub m * 256 + x) % 256] = m ++ [x]
      rw [show (ub m * 256 + x) / 256 = ub m by omega, show (ub m * 256 + x) % 256 = x by omega, ih m hm fun y hy => hb y (by simp [hy])]
  exact key l.length l rfl h
/-- What is cut off some bytes is what they say. -/
theorem cut_says : ∀ {ss : List Int} {b xs r : List Nat}, (∀ x ∈ b, x < 256) → cut b ss = some (xs, r) → b = bes xs ss ++ r ∧ xs.length = ss.length ∧ ∀ (i x : Nat) (s : Int), xs[i]? = some x → ss[i]? = some s → x < 256 ^ s.toNat := by
  intro ss
  induction ss with
  | nil =>
    intro b xs r hb h
    simp [cut] at h
    obtain ⟨rfl, rfl⟩ := h
    exact ⟨rfl, rfl, by simp⟩
  | cons s ss ih =>
    intro b xs r hb h
    rw [cut] at h
    split at h
    · rename_i hc
      simp at hc
      rw [Option.map_eq_some_iff] at h
      obtain ⟨⟨ys, q⟩, h1, h2⟩ := h
      injection h2 with h2 h3
      dsimp only at h2 h3
      subst h2
      subst h3
      obtain ⟨i1, i2, i3⟩ := ih (fun x hx => hb x (List.mem_of_mem_drop hx)) h1
      have hl : (b.take s.toNat).length = s.toNat := by rw [List.length_take]; omega
      have hbt : ∀ x ∈ b.take s.toNat, x < 256 := fun x hx => hb x (List.mem_of_mem_take hx)
      refine ⟨?_, by simp [i2], ?_⟩
      · show b = (be (ub (b.take s.toNat)) s.toNat ++ bes ys ss) ++ q
        have hbe := be_ub (b.take s.toNat) hbt
        rw [hl] at hbe
        rw [hbe, List.append_assoc, ← i1, List.take_append_drop]
      · intro i x t hx ht
        cases i with
        | zero =>
          simp at hx ht
          subst hx
          subst ht
          exact ub_lt _ _ hl hbt
        | succ i => exact i3 i x t (by simpa using hx) (by simpa using ht)
    · cases h
theorem cut_of : ∀ {ss : List Int} {xs : List Nat} (r : List Nat), xs.length = ss.length → (∀ s ∈ ss, okS s = true) → (∀ (i x : Nat) (s : Int), xs[i]? = some x → ss[i]? = some s → x < 256 ^ s.toNat) → cut (bes xs ss ++ r) ss = some (xs, r) := by
  intro ss
  induction ss with
  | nil => intro xs r hl _ _; rw [List.eq_nil_of_length_eq_zero hl]; rfl
  | cons s ss ih =>
    intro xs r hl ho hx
    cases xs with
    | nil => simp at hl
    | cons x xs =>
      have h0 := ho s (by simp)
      have hi := ih (xs := xs) r (by simpa using hl) (fun t ht => ho t (by simp [ht])) (fun i y t hy ht => hx (i + 1) y t (by simpa using hy) (by simpa using ht))
      have hlen : (be x s.toNat).length = s.toNat := be_len _ _
      rw [cut, if_pos]
      · show Option.map _ (cut (List.drop s.toNat (be x s.toNat ++ bes xs ss ++ r)) ss) = _
        rw [List.append_assoc, List.drop_left' hlen, hi]
        show some (ub (List.take s.toNat (be x s.toNat ++ bes xs ss ++ r)) :: xs, r) = _
        rw [List.append_assoc, List.take_left' hlen, ub_be, Nat.mod_eq_of_lt (hx 0 x s rfl rfl)]
      · rw [h0]
        simp [bes, hlen]
end Go.Proofs.Ytbiimgfocgbdaaa

/- Contracts of package pack: Q, Flag. -/
namespace Go.Proofs.Ytbiimgfocgbdaaa
open Go.RowKit
set_option linter.unusedVariables false
theorem pQ_any (x : Int) (w : World) (h0 : 0 ≤ x) (h : x < 18446744073709551616) : Calls Try.prog 52 #[.int .u64 x] w fun e w' => e = .returned (.agg #[.int .i64 8, .int .u64 x]) ∧ Below w.heap.size w w' := by
  go_enter Try.func52, Try.ntmps52
  go_wp2
  exact bodyPost_ret (v := .agg #[.int .i64 8, .int .u64 x]) (by simp [results, Try.results52, go_sem]) rfl ⟨rfl, (Below.refl _ _).alloc (Nat.le_refl _) _⟩
theorem pFlag_any (b : Bool) (w : World) : Calls Try.prog 68 #[.bool b] w fun e w' => e = .returned (.agg #[.int .i64 1, .int .u64 (if b then 1 else 0)]) ∧ Below w.heap.size w w' := by
  cases b with
  | true =>
    go_enter Try.func68, Try.ntmps68
    go_wp2_with fail
    refine (pB_any 1 _ (by omega) (by omega)).mono ?_
    rintro e w2 ⟨rfl, hb⟩
    have hk := (Blk.new w 113 #[Value.int IntKind.i64 0, Value.int IntKind.u64 0]).below hb (by simp)
    have hc0 : _ = some (Value.int IntKind.i64 0) := hk.cell 0
    have hf0 := hk.frozen 0
    have hc1 : _ = some (Value.int IntKind.u64 0) := hk.cell 1
    have hf1 := hk.frozen 1
    go_wp2_with fail
    have hk3 : Blk _ w.heap.size 113 #[Value.int IntKind.i64 1, Value.int IntKind.u64 1] := (hk.set 0 (Value.int IntKind.i64 1)).set 1 (Value.int IntKind.u64 1)
    have hb3 := ((((Below.refl w.heap.size w).alloc (Nat.le_refl _) _).trans (hb.mono (by simp))).setCell (p := ⟨w.heap.size, 0, none⟩) (Nat.le_refl _) (Value.int IntKind.i64 1)).setCell (p := ⟨w.heap.size, 1, none⟩) (Nat.le_refl _) (Value.int IntKind.u64 1)
    clear hc0 hf0 hc1 hf1
    have c0 : _ = some (Value.int IntKind.i64 1) := hk3.cell 0
    have c1 : _ = some (Value.int IntKind.u64 1) := hk3.cell 1
    exact bodyPost_ret (v := .agg #[.int .i64 1, .int .u64 1]) (by simp [results, Try.results68, go_sem, c0, c1]) rfl ⟨rfl, hb3⟩
  | false =>
    go_enter Try.func68, Try.ntmps68
    go_wp2_with fail
    refine (pB_any 0 _ (by omega) (by omega)).mono ?_
    rintro e w2 ⟨rfl, hb⟩
    have hk := (Blk.new w 113 #[Value.int IntKind.i64 0, Value.int IntKind.u64 0]).below hb (by simp)
    have hc0 : _ = some (Value.int IntKind.i64 0) := hk.cell 0
    have hf0 := hk.frozen 0
    have hc1 : _ = some (Value.int IntKind.u64 0) := hk.cell 1
    have hf1 := hk.frozen 1
    go_wp2_with fail
    have hk3 : Blk _ w.heap.size 113 #[Value.int IntKind.i64 1, Value.int IntKind.u64 0] := (hk.set 0 (Value.int IntKind.i64 1)).set 1 (Value.int IntKind.u64 0)
    have hb3 := ((((Below.refl w.heap.size w).alloc (Nat.le_refl _) _).trans (hb.mono (by simp))).setCell (p := ⟨w.heap.size, 0, none⟩) (Nat.le_refl _) (Value.int IntKind.i64 1)).setCell (p := ⟨w.heap.size, 1, none⟩) (Nat.le_refl _) (Value.int IntKind.u64 0)
    clear hc0 hf0 hc1 hf1
    have c0 : _ = some (Value.int IntKind.i64 1) := hk3.cell 0
    have c1 : _ = some (Value.int IntKind.u64 0) := hk3.cell 1
    exact bodyPost_ret (v := .agg #[.int .i64 1, .int .u64 0]) (by simp [results, Try.results68, go_sem, c0, c1]) rfl ⟨rfl, hb3⟩
end Go.Proofs.Ytbiimgfocgbdaaa

/- Layer 8: the bytes of numbers with a sum behind them; a sum is set. -/
namespace Go.Proofs.Ytbiimgfocgbdaaa
open Go.RowKit
set_option linter.unusedVariables false

theorem pFlagN_any (b : Bool) (w : World) : Calls Try.prog 68 #[.bool b] w fun e w' => e = .returned (.agg #[.int .i64 1, .int .u64 (bitN b : Int)]) ∧ Below w.heap.size w w' := by
  have h := pFlag_any b w
  cases b <;> exact h
theorem fbs_one (s : Int) (n : Nat) (h : okS s = true) : fbs [(s, n)] = be n s.toNat := by
  unfold fbs
  rw [List.flatMap_cons, List.flatMap_nil, if_pos h, List.append_nil]
/-- What stands behind the block T. -/
theorem nats_past {w : World} {B T : Nat} {e : TypeId} {k : IntKind} {v : Value} {l : List Nat} {w' : World} (h : Nats w e k B v l) (hT : T < B) (hs : Solo T w w') : Nats w' e k B v l :=
  h.kept fun g hg => hs.2.2 g (by have := (h.lt g hg).1; omega)
set_option maxRecDepth 20000 in
set_option maxHeartbeats 2000000 in
theorem body_any (t : Nat) (a : Bool) (C : Option Addr) (m d : Nat) (l : List (Int × Nat)) (w : World) (ht : q64 t) (hs : Rd w w.heap.size 2 C m (fs l)) (hm : m ≤ 100) (h64 : ∀ p ∈ l, p.2 < 18446744073709551616) :
    Calls Try.prog 50 #[.agg #[.int .u64 (t : Int)], .bool a, .slice C m d] w fun e w' => ∃ v, e = .returned v ∧ Nats w' 5 .u8 w.heap.size v (fbs l ++ tagB t a) ∧ Below w.heap.size w w' := by
  have hb0 : Below w.heap.size w (w.alloc (.cells #[.int .u64 (t : Int)] 32)) := (Below.refl _ _).alloc (Nat.le_refl _) _
  have K0 := Lib.hid (Blk.new w 32 #[.int .u64 (t : Int)])
  have HS := Lib.hid (hs.into hb0)
  have HB0 := Lib.hid hb0
  have H64 := Lib.hid h64
  have HQ := Lib.hid ht
  have HLL := Lib.hid (show (fbs l).length ≤ 1000 from by rw [fbs_len]; have := fsz_le l; have := hs.fldLen; omega)
  clear hb0 hs h64 ht
  go_enter Try.func50, Try.ntmps50
  go_wp2_with fail
  generalize w.alloc (.cells #[.int .u64 (t : Int)] 32) = W at *
  obtain ⟨T, hT⟩ : ∃ T, T = w.heap.size := ⟨_, rfl⟩
  rw [← hT] at K0 ⊢
  have HT := Lib.hid hT
  clear hT
  refine (pput_any none C 0 m 0 d [] l W (Rd.nil _ _ _ _) HS.out (by omega) H64.out).mono ?_
  rintro e w1 ⟨v1, rfl, hN, hb1⟩
  rw [List.nil_append] at hN
  have hTW : T ≤ W.heap.size := Nat.le_of_lt K0.out.lt
  have B1 := Lib.hid (HB0.out.trans (hb1.mono HB0.out.size))
  cases a with
  | false =>
    have HN := Lib.hid (hN.mono hTW)
    clear hN hb1 HS
    go_wp2_with fail
    go_ret
    refine ⟨_, rfl, ?_, B1.out⟩
    have := HN.out
    simpa [tagB, ← HT.out] using this
  | true =>
    have K1 := Lib.hid (K0.out.below hb1 K0.out.lt)
    obtain ⟨A1, n1, c1, rfl, hnc1, hl1, hr1⟩ := hN.out
    have s1 := ptc1 K1.out
    clear hN hb1 HS K0
    go_wp2_with fail
    refine (pQ_any (t : Int) w1 (by omega) (by have := HQ.out; unfold q64 at this; omega)).mono ?_
    rintro e w2 ⟨rfl, hb2⟩
    have B2 := Lib.hid (B1.out.trans (hb2.mono B1.out.size))
    have R2 := Lib.hid (hr1.out.into hb2)
    clear hb2 hr1 s1
    go_wp2_with fail
    have hrd : Rd (w2.alloc (.cells #[.int .i64 8, .int .u64 (t : Int)] 113)) (w2.heap.size + 1) 2 (some ⟨w2.heap.size, 0, none⟩) 1 (fs [((8 : Int), t)]) := Rd.made w2 113 #[.int .i64 8, .int .u64 (t : Int)] rfl
    have hz : (w2.alloc (.cells #[.int .i64 8, .int .u64 (t : Int)] 113)).heap.size = w2.heap.size + 1 := by simp
    rw [← hz] at hrd
    have hb3 : Below w2.heap.size w2 (w2.alloc (.cells #[.int .i64 8, .int .u64 (t : Int)] 113)) := (Below.refl _ _).alloc (Nat.le_refl _) _
    have B3 := Lib.hid (B2.out.trans (hb3.mono B2.out.size))
    have R3 := Lib.hid (R2.out.into hb3)
    have HRD := Lib.hid hrd
    clear hrd hz hb3 R2
    generalize w2.alloc (.cells #[.int .i64 8, .int .u64 (t : Int)] 113) = w3 at *
    have hl2 := hl1.out
    refine (pput_any A1 _ n1 1 c1 1 _ _ w3 R3.out HRD.out (by have := HLL.out; omega) (fun p hp => by simp at hp; subst hp; exact HQ.out)).mono ?_
    rintro e w4 ⟨v4, rfl, hN4, hb4⟩
    rw [fbs_one 8 t rfl] at hN4
    have HN := Lib.hid (hN4.mono B3.out.size)
    have B4 := Lib.hid (B3.out.trans (hb4.mono B3.out.size))
    clear hN4 hb4 HRD R3 hl2
    go_wp2_with fail
    go_ret
    exact ⟨_, rfl, by rw [HT.out]; exact HN.out, B4.out⟩
set_option maxRecDepth 20000 in
theorem seal_any (T o t : Nat) (x : Value) (w : World) (hc : w.cell? ⟨T, o, none⟩ = some x) (hf : w.frozen? ⟨T, o, none⟩ = false) :
    Calls Try.prog 92 #[.pointer (some ⟨T, o, none⟩), .int .u64 (t : Int)] w fun e w' => e = .returned (.tuple #[]) ∧ w' = w.setCell ⟨T, o, none⟩ (.int .u64 (t : Int)) := by
  go_enter Try.func92, Try.ntmps92
  go_wp2_with fail
  go_end0
  exact ⟨rfl, rfl⟩
end Go.Proofs.Ytbiimgfocgbdaaa
