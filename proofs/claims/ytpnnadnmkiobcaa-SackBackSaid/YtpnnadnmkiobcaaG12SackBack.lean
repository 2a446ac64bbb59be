/- Options' bytes: mathematics. No program. -/
import Derived.Test.YtpnnadnmkiobcaaG11SackBack
import Derived.Test.YtpnnadnmkiobcaaG9SackBack
import Derived.Test.YtpnnadnmkiobcaaG10SackBack

namespace Go.Proofs.Ytpnnadnmkiobcaa
set_option linter.unusedVariables false
theorem ope1 {x : Nat} (h : x < 256) : be x 1 = [x] := by show [] ++ [x % 256] = [x]; rw [Nat.mod_eq_of_lt h]; rfl
def bitN (b : Bool) : Nat := if b then 1 else 0
theorem bitN_lt (b : Bool) : bitN b < 2 := by cases b <;> decide
theorem bitN_inj {a b : Bool} (h : bitN a = bitN b) : a = b := by revert h; cases a <;> cases b <;> decide
theorem bitN_of {x : Nat} (h : x < 2) : bitN (decide (x = 1)) = x := by
  have : x = 0 ∨ x = 1 := by omega
  rcases this with rfl | rfl <;> rfl
def tagB (t : Nat) (a : Bool) : List Nat := if a then be t 8 else []
def keyB (k t : Nat) (a : Bool) : List Nat := be k 8 ++ tagB t a
def joinB (tk nc id : Nat) (bk an : Bool) (t : Nat) : List Nat := be tk 4 ++ (be nc 4 ++ (id :: bitN bk :: tagB t an))
def dataB (f p : Bool) (sq ak wn t : Nat) : List Nat := (bitN f + 2 * bitN p) :: (be sq 8 ++ (be ak 8 ++ (be wn 4 ++ be t 8)))
def wordB (nm id pa : Nat) (bk : Bool) (t : Nat) : List Nat := be nm 4 ++ (id :: pa :: bitN bk :: be t 8)
def q64 (x : Nat) : Prop := x < 18446744073709551616
def q32 (x : Nat) : Prop := x < 4294967296
/-- An option that is one of these. -/
structure KeyIs (kd : Nat) (b : List Nat) (k t : Nat) (a : Bool) : Prop where
  hkd : kd = 1
  hb : b = keyB k t a
  hk : q64 k
  ht : q64 t
  hz : a = false → t = 0
structure JoinIs (kd : Nat) (b : List Nat) (tk nc id : Nat) (bk an : Bool) (t : Nat) : Prop where
  hkd : kd = 2
  hb : b = joinB tk nc id bk an t
  htk : q32 tk
  hnc : q32 nc
  hid : id < 256
  ht : q64 t
  hz : an = false → t = 0
structure DataIs (kd : Nat) (b : List Nat) (f p : Bool) (sq ak wn t : Nat) : Prop where
  hkd : kd = 3
  hb : b = dataB f p sq ak wn t
  hsq : q64 sq
  hak : q64 ak
  hwn : q32 wn
  ht : q64 t
structure WordIs (kd : Nat) (b : List Nat) (nm id pa : Nat) (bk : Bool) (t : Nat) : Prop where
  hkd : 4 ≤ kd ∧ kd ≤ 7
  hb : b = wordB nm id pa bk t
  hnm : q32 nm
  hid : id < 256
  hpa : pa < 256
  ht : q64 t
theorem be_eq {x y n : Nat} (h : be x n = be y n) (hx : x < 256 ^ n) (hy : y < 256 ^ n) : x = y := by
  have := congrArg ub h
  rw [ub_be, ub_be, Nat.mod_eq_of_lt hx, Nat.mod_eq_of_lt hy] at this
  exact this
theorem be_eq8 {x y : Nat} (h : be x 8 = be y 8) (hx : q64 x) (hy : q64 y) : x = y := be_eq h hx hy
theorem be_eq4 {x y : Nat} (h : be x 4 = be y 4) (hx : q32 x) (hy : q32 y) : x = y := be_eq h hx hy
theorem tagB_len (t : Nat) (a : Bool) : (tagB t a).length = if a then 8 else 0 := by cases a <;> simp [tagB, be_len]
theorem tag_eq {t s : Nat} {a b : Bool} (h : tagB t a = tagB s b) (ht : q64 t) (hs : q64 s) (h1 : a = false → t = 0) (h2 : b = false → s = 0) : t = s ∧ a = b := by
  have hl := congrArg List.length h
  rw [tagB_len, tagB_len] at hl
  cases a <;> cases b
  · rw [h1 rfl, h2 rfl]; exact ⟨rfl, rfl⟩
  · simp at hl
  · simp at hl
  · exact ⟨be_eq8 h ht hs, rfl⟩
theorem KeyIs.one {kd : Nat} {b : List Nat} {k t k' t' : Nat} {a a' : Bool} (h : KeyIs kd b k t a) (g : KeyIs kd b k' t' a') : k = k' ∧ t = t' ∧ a = a' := by
  have e := h.hb.symm.trans g.hb
  unfold keyB at e
  obtain ⟨e1, e2⟩ := List.append_inj e (by rw [be_len, be_len])
  exact ⟨be_eq8 e1 h.hk g.hk, tag_eq e2 h.ht g.ht h.hz g.hz⟩
theorem JoinIs.one {kd : Nat} {b : List Nat} {tk nc id t tk' nc' id' t' : Nat} {bk an bk' an' : Bool} (h : JoinIs kd b tk nc id bk an t) (g : JoinIs kd b tk' nc' id' bk' an' t') : tk = tk' ∧ nc = nc' ∧ id = id' ∧ bk = bk' ∧ an = an' ∧ t = t' := by
  have e := h.hb.symm.trans g.hb
  unfold joinB at e
  obtain ⟨e1, e2⟩ := List.append_inj e (by rw [be_len, be_len])
  obtain ⟨e2, e3⟩ := List.append_inj e2 (by rw [be_len, be_len])
  injection e3 with e3 e4
  injection e4 with e4 e5
  obtain ⟨e6, e7⟩ := tag_eq e5 h.ht g.ht h.hz g.hz
  exact ⟨be_eq4 e1 h.htk g.htk, be_eq4 e2 h.hnc g.hnc, e3, bitN_inj e4, e7, e6⟩
theorem DataIs.one {kd : Nat} {b : List Nat} {f p f' p' : Bool} {sq ak wn t sq' ak' wn' t' : Nat} (h : DataIs kd b f p sq ak wn t) (g : DataIs kd b f' p' sq' ak' wn' t') : f = f' ∧ p = p' ∧ sq = sq' ∧ ak = ak' ∧ wn = wn' ∧ t = t' := by
  have e := h.hb.symm.trans g.hb
  unfold dataB at e
  injection e with e0 e
  obtain ⟨e1, e⟩ := List.append_inj e (by rw [be_len, be_len])
  obtain ⟨e2, e⟩ := List.append_inj e (by rw [be_len, be_len])
  obtain ⟨e3, e4⟩ := List.append_inj e (by rw [be_len, be_len])
  have h1 := bitN_lt f
  have h2 := bitN_lt f'
  exact ⟨bitN_inj (by omega), bitN_inj (by omega), be_eq8 e1 h.hsq g.hsq, be_eq8 e2 h.hak g.hak, be_eq4 e3 h.hwn g.hwn, be_eq8 e4 h.ht g.ht⟩
theorem WordIs.one {kd : Nat} {b : List Nat} {nm id pa t nm' id' pa' t' : Nat} {bk bk' : Bool} (h : WordIs kd b nm id pa bk t) (g : WordIs kd b nm' id' pa' bk' t') : nm = nm' ∧ id = id' ∧ pa = pa' ∧ bk = bk' ∧ t = t' := by
  have e := h.hb.symm.trans g.hb
  unfold wordB at e
  obtain ⟨e1, e⟩ := List.append_inj e (by rw [be_len, be_len])
  injection e with e2 e
  injection e with e3 e
  injection e with e4 e
  exact ⟨be_eq4 e1 h.hnm g.hnm, e2, e3, bitN_inj e4, be_eq8 e h.ht g.ht⟩
/-- Numbers of sizes as bytes. -/
def bes : List Nat → List Int → List Nat
  | x :: xs, s :: ss => be x s.toNat ++ bes xs ss
  | _, _ => []
theorem be_ub (l : List Nat) (h : ∀ x ∈ l, x < 256) : be (ub l) l.length = l := by
  have key : ∀ (k : Nat) (l : List Nat), l.length = k → (∀ x ∈ l, x < 256) → be (ub l) k = l := by
    intro k
    induction k with
    | zero => intro l hl _; rw [List.eq_nil_of_length_eq_zero hl]; rfl
    | succ k ih =>
      intro l hl hb
      have hne : l ≠ [] := by intro e; rw [e] at hl; simp at hl
      obtain ⟨m, x, rfl⟩ : ∃ m x, l = m ++ [x] := ⟨l.dropLast, l.getLast hne, (List.dropLast_concat_getLast hne).symm⟩
      have hx : x < 256 := hb x (by simp)
      have hm : m.length = k := by simpa using hl
      rw [ub_snoc]
      show be ((ub m * 256 + x) / 256) k ++ [(ub m * 256 + x) % 256] = m ++ [x]
      rw [show (ub m * 256 + x) / 256 = ub m by omega, show (ub m * 256 + x) % 256 = x by omega, ih m hm fun y hy => hb y (by simp [hy])]
  exact key l.length l rfl h
/-- What is cut off some bytes is what they say. -/
theorem cut_says : ∀ {ss : List Int} {b xs r : List Nat}, (∀ x ∈ b, x < 256) → cut b ss = some (xs, r) → b = bes xs ss ++ r ∧ xs.length = ss.length ∧ ∀ (i x : Nat) (s : Int), xs[i]? = some x → ss[i]? = some s → x < 256 ^ s.toNat := by
  intro ss
  induction ss with
  | nil =>
    intro b xs r hb h
    simp [cut] at h
    obtain ⟨rfl, rfl⟩ := h
    exact ⟨rfl, rfl, by simp⟩
  | cons s ss ih =>
    intro b xs r hb h
    rw [cut] at h
    split at h
    · rename_i hc
      simp at hc
      rw [Option.map_eq_some_iff] at h
      obtain ⟨⟨ys, q⟩, h1, h2⟩ := h
      injection h2 with h2 h3
      dsimp only at h2 h3
      subst h2
      subst h3
      obtain ⟨i1, i2, i3⟩ := ih (fun x hx => hb x (List.mem_of_mem_drop hx)) h1
      have hl : (b.take s.toNat).length = s.toNat := by rw [List.length_take]; omega
      have hbt : ∀ x ∈ b.take s.toNat, x < 256 := fun x hx => hb x (List.mem_of_mem_take hx)
      refine ⟨?_, by simp [i2], ?_⟩
      · show b = (be (ub (b.take s.toNat)) s.toNat ++ bes ys ss) ++ q
        have hbe := be_ub (b.take s.toNat) hbt
        rw [hl] at hbe
        rw [hbe, List.append_assoc, ← i1, List.take_append_drop]
      · intro i x t hx ht
        cases i with
        | zero =>
          simp at hx ht
          subst hx
          subst ht
          exact ub_lt _ _ hl hbt
        | succ i => exact i3 i x t (by simpa using hx) (by simpa using ht)
    · cases h
theorem cut_of : ∀ {ss : List Int} {xs : List Nat} (r : List Nat), xs.length = ss.length → (∀ s ∈ ss, okS s = true) → (∀ (i x : Nat) (s : Int), xs[i]? = some x → ss[i]? = some s → x < 256 ^ s.toNat) → cut (bes xs ss ++ r) ss = some (xs, r) := by
  intro ss
  induction ss with
  | nil => intro xs r hl _ _; rw [List.eq_nil_of_length_eq_zero hl]; rfl
  | cons s ss ih =>
    intro xs r hl ho hx
    cases xs with
    | nil => simp at hl
    | cons x xs =>
      have h0 := ho s (by simp)
      have hi := ih (xs := xs) r (by simpa using hl) (fun t ht => ho t (by simp [ht])) (fun i y t hy ht => hx (i + 1) y t (by simpa using hy) (by simpa using ht))
      have hlen : (be x s.toNat).length = s.toNat := be_len _ _
      rw [cut, if_pos]
      · show Option.map _ (cut (List.drop s.toNat (be x s.toNat ++ bes xs ss ++ r)) ss) = _
        rw [List.append_assoc, List.drop_left' hlen, hi]
        show some (ub (List.take s.toNat (be x s.toNat ++ bes xs ss ++ r)) :: xs, r) = _
        rw [List.append_assoc, List.take_left' hlen, ub_be, Nat.mod_eq_of_lt (hx 0 x s rfl rfl)]
      · rw [h0]
        simp [bes, hlen]
end Go.Proofs.Ytpnnadnmkiobcaa

/- Contracts of package pack: Q, Flag. -/
namespace Go.Proofs.Ytpnnadnmkiobcaa
open Go.RowKit
set_option linter.unusedVariables false
end Go.Proofs.Ytpnnadnmkiobcaa

/- Layer 8: the bytes of numbers with a sum behind them; a sum is set. -/
namespace Go.Proofs.Ytpnnadnmkiobcaa
open Go.RowKit
set_option linter.unusedVariables false

theorem fbs_one (s : Int) (n : Nat) (h : okS s = true) : fbs [(s, n)] = be n s.toNat := by
  unfold fbs
  rw [List.flatMap_cons, List.flatMap_nil, if_pos h, List.append_nil]
/-- What stands behind the block T. -/
theorem nats_past {w : World} {B T : Nat} {e : TypeId} {k : IntKind} {v : Value} {l : List Nat} {w' : World} (h : Nats w e k B v l) (hT : T < B) (hs : Solo T w w') : Nats w' e k B v l :=
  h.kept fun g hg => hs.2.2 g (by have := (h.lt g hg).1; omega)
end Go.Proofs.Ytpnnadnmkiobcaa
