/- Layer 8: the numbers of a handshake; which kinds are of word. -/
import Derived.Test.YtbiimgfocgbdaaaG26MacBack
import Derived.Test.YtbiimgfocgbdaaaG8MacBack
import Derived.Test.YtbiimgfocgbdaaaG12MacBack

namespace Go.Proofs.Ytbiimgfocgbdaaa
open Go.RowKit
set_option linter.unusedVariables false

theorem pel64i : El Try.prog 146 3 (.int .i64 0) 1 8 := ⟨Try.underlying146, by kernel_rfl, rfl, by omega, by omega⟩
theorem Zats.lit {w : World} {e : TypeId} {k : IntKind} {ss : List Int} {n : Nat} (cs : Array Value) (hc : cs.toList = zs k ss) (hn : ss.length = n) (hm : n ≤ maxLen) : Zats (w.alloc (.cells cs e)) e k w.heap.size (.slice (some ⟨w.heap.size, 0, none⟩) n n) ss := by
  subst hn
  have hl : cs.size = ss.length := by rw [← Array.length_toList, hc, zs_len]
  refine ⟨by rw [zs_len, Nat.mul_one], .inr ⟨w.heap.size, ss.length, cs, rfl, Nat.le_refl _, heap_alloc_new w _, Nat.le_refl _, hm, by rw [hl, Nat.mul_one], ?_⟩⟩
  rw [hc, Nat.mul_one, List.take_of_length_le (by rw [zs_len]; omega)]
/-- A row of numbers of its own, its cells. -/
theorem nats_open {w : World} {e : TypeId} {k : IntKind} {B : Nat} {v : Value} {l : List Nat} (h : Nats w e k B v l) (h0 : 0 < l.length) :
    ∃ g c, v = .slice (some ⟨g, 0, none⟩) l.length c ∧ B ≤ g ∧ g < w.heap.size ∧ l.length ≤ c ∧ ∀ (i x : Nat), l[i]? = some x → w.cell? ⟨g, i, none⟩ = some (.int k (x : Int)) := by
  rcases own_open (show w.ownsRow B e 1 v l.length (ns k l) from h) with ⟨_, h1, _⟩ | ⟨g, c, L, e, hB, hb, hnc, _, _, hx⟩
  · omega
  · refine ⟨g, c, e, hB, hb.lt, hnc, fun i x hi => ?_⟩
    have hil : i < l.length := (List.getElem?_eq_some_iff.1 hi).1
    have h2 : (ns k l)[i]? = some (.int k (x : Int)) := by unfold ns; rw [List.getElem?_map, hi]; rfl
    rw [hb.cell, ← h2, ← hx, List.getElem?_take_of_lt (by omega)]
    simp
/-- What a handshake's numbers are; a the answer. -/
def HsSays (lb : List Nat) (ss : List Int) (xs : List Nat) : Bool → Prop
  | false => ∃ ys, xs = ys ++ [0] ∧ cut lb ss = some (ys, [])
  | true => cut lb (ss ++ [8]) = some (xs, [])
def HsPost (lb : List Nat) (ss : List Int) (B : Nat) (w' : World) (e : Ending) : Prop :=
  (∃ (xs : List Nat) (v : Value) (a : Bool), e = .returned (.tuple #[v, .bool a, .bool true]) ∧ HsSays lb ss xs a ∧ Nats w' 22 .u64 B v xs) ∨
  ((∀ xs, cut lb ss ≠ some (xs, [])) ∧ (∀ xs, cut lb (ss ++ [8]) ≠ some (xs, [])) ∧ e = .returned (.tuple #[.slice none 0 0, .bool false, .bool false]))
def wordK (kd : Nat) : Bool := decide (4 ≤ kd) && decide (kd ≤ 7)
theorem wordK_yes {kd : Nat} (h : 4 ≤ kd ∧ kd ≤ 7) : wordK kd = true := by unfold wordK; simp [h]
theorem wordK_iff (kd : Nat) : wordK kd = true ↔ 4 ≤ kd ∧ kd ≤ 7 := by unfold wordK; simp
set_option maxRecDepth 20000 in
theorem isWord_any (kd : Nat) (w : World) : Calls Try.prog 93 #[.int .u8 (kd : Int)] w fun e w' => e = .returned (.bool (wordK kd)) ∧ w = w' := by
  by_cases h4 : kd = 4
  · subst h4
    go_enter Try.func93, Try.ntmps93
    go_wp2_with fail
    go_ret
    exact ⟨rfl, rfl⟩
  by_cases h5 : kd = 5
  · subst h5
    go_enter Try.func93, Try.ntmps93
    go_wp2_with fail
    go_ret
    exact ⟨rfl, rfl⟩
  by_cases h6 : kd = 6
  · subst h6
    go_enter Try.func93, Try.ntmps93
    go_wp2_with fail
    go_ret
    exact ⟨rfl, rfl⟩
  by_cases h7 : kd = 7
  · subst h7
    go_enter Try.func93, Try.ntmps93
    go_wp2_with fail
    go_ret
    exact ⟨rfl, rfl⟩
  have d4 : ((kd : Int) == 4) = false := beq_eq_false_iff_ne.2 (by omega)
  have d5 : ((kd : Int) == 5) = false := beq_eq_false_iff_ne.2 (by omega)
  have d6 : ((kd : Int) == 6) = false := beq_eq_false_iff_ne.2 (by omega)
  have d7 : ((kd : Int) == 7) = false := beq_eq_false_iff_ne.2 (by omega)
  have HW := Lib.hid (show wordK kd = false by unfold wordK; simp; omega)
  clear h4 h5 h6 h7
  go_enter Try.func93, Try.ntmps93
  go_wp2_with fail
  go_ret
  exact ⟨ret_bool HW.out.symm, rfl⟩
end Go.Proofs.Ytbiimgfocgbdaaa

/- Layer 8: what options say: mathematics. -/
namespace Go.Proofs.Ytbiimgfocgbdaaa
open Go.RowKit
set_option linter.unusedVariables false

theorem nln1 {l : List Nat} (h : l.length = 1) : ∃ a, l = [a] := by
  match l, h with
  | [a], _ => exact ⟨a, rfl⟩
theorem nln2 {l : List Nat} (h : l.length = 2) : ∃ a b, l = [a, b] := by
  match l, h with
  | [a, b], _ => exact ⟨a, b, rfl⟩
theorem nln4 {l : List Nat} (h : l.length = 4) : ∃ a b c d, l = [a, b, c, d] := by
  match l, h with
  | [a, b, c, d], _ => exact ⟨a, b, c, d, rfl⟩
theorem nln5 {l : List Nat} (h : l.length = 5) : ∃ a b c d e, l = [a, b, c, d, e] := by
  match l, h with
  | [a, b, c, d, e], _ => exact ⟨a, b, c, d, e, rfl⟩
theorem keyS {lb xs : List Nat} {a : Bool} (hb : ∀ x ∈ lb, x < 256) (h : HsSays lb [8] xs a) : ∃ k t, xs = [k, t] ∧ KeyIs 1 lb k t a := by
  cases a with
  | false =>
    obtain ⟨ys, rfl, hc⟩ := h
    obtain ⟨h1, h2, h3⟩ := cut_says hb hc
    obtain ⟨k, rfl⟩ := nln1 h2
    exact ⟨k, 0, rfl, rfl, by rw [h1]; simp [bes, keyB, tagB], h3 0 k 8 rfl rfl, by unfold q64; omega, fun _ => rfl⟩
  | true =>
    obtain ⟨h1, h2, h3⟩ := cut_says hb h
    obtain ⟨k, t, rfl⟩ := nln2 h2
    exact ⟨k, t, rfl, rfl, by rw [h1]; simp [bes, keyB, tagB], h3 0 k 8 rfl rfl, h3 1 t 8 rfl rfl, fun h => by cases h⟩
theorem keyNo {lb : List Nat} (h1 : ∀ xs, cut lb [8] ≠ some (xs, [])) (h2 : ∀ xs, cut lb ([8] ++ [8]) ≠ some (xs, [])) (kd k t : Nat) (a : Bool) : ¬ KeyIs kd lb k t a := by
  intro h
  have hk := h.hk
  have ht := h.ht
  cases a with
  | false =>
    refine h1 [k] ?_
    have := cut_of (ss := [8]) (xs := [k]) [] rfl (by intro s hs; simp at hs; subst hs; rfl) (by
      intro i x s hx hs
      match i, hx, hs with
      | 0, hx, hs => simp at hx hs; subst hx; subst hs; exact hk)
    rw [h.hb]
    simpa [bes, keyB, tagB] using this
  | true =>
    refine h2 [k, t] ?_
    have := cut_of (ss := [8, 8]) (xs := [k, t]) [] rfl (by intro s hs; simp at hs; subst hs; rfl) (by
      intro i x s hx hs
      match i, hx, hs with
      | 0, hx, hs => simp at hx hs; subst hx; subst hs; exact hk
      | 1, hx, hs => simp at hx hs; subst hx; subst hs; exact ht)
    rw [h.hb]
    simpa [bes, keyB, tagB] using this
theorem be1_byte {x : Nat} (h : x < 256 ^ (1 : Int).toNat) : x < 256 := h
theorem joinS {lb xs : List Nat} {a : Bool} (hb : ∀ x ∈ lb, x < 256) (h : HsSays lb [4, 4, 1, 1] xs a) : ∃ tk nc id b t, xs = [tk, nc, id, b, t] ∧ q32 tk ∧ q32 nc ∧ id < 256 ∧ (b ≤ 1 → JoinIs 2 lb tk nc id (decide (b = 1)) a t) ∧ (1 < b → ∀ kd tk nc id bk an t, ¬ JoinIs kd lb tk nc id bk an t) := by
  have key : ∀ tk nc id b : Nat, ∀ t : Nat, lb = be tk 4 ++ (be nc 4 ++ (be id 1 ++ (be b 1 ++ tagB t a))) → q32 tk → q32 nc → id < 256 → b < 256 → q64 t → (a = false → t = 0) → (b ≤ 1 → JoinIs 2 lb tk nc id (decide (b = 1)) a t) ∧ (1 < b → ∀ kd tk nc id bk an t, ¬ JoinIs kd lb tk nc id bk an t) := by
    intro tk nc id b t hl h1 h2 h3 h4 h5 h6
    rw [ope1 h3, ope1 h4] at hl
    refine ⟨fun hb1 => ⟨rfl, ?_, h1, h2, h3, h5, h6⟩, fun hb1 kd tk' nc' id' bk an t' hJ => ?_⟩
    · rw [hl, joinB, bitN_of (by omega)]
      rfl
    · have e := hl.symm.trans hJ.hb
      unfold joinB at e
      obtain ⟨_, e⟩ := List.append_inj e (by rw [be_len, be_len])
      obtain ⟨_, e⟩ := List.append_inj e (by rw [be_len, be_len])
      simp only [List.cons_append, List.nil_append, List.cons.injEq] at e
      have := bitN_lt bk
      omega
  cases a with
  | false =>
    obtain ⟨ys, rfl, hc⟩ := h
    obtain ⟨h1, h2, h3⟩ := cut_says hb hc
    obtain ⟨tk, nc, id, b, rfl⟩ := nln4 h2
    have k1 : q32 tk := h3 0 tk 4 rfl rfl
    have k2 : q32 nc := h3 1 nc 4 rfl rfl
    have k3 : id < 256 := h3 2 id 1 rfl rfl
    exact ⟨tk, nc, id, b, 0, rfl, k1, k2, k3, key tk nc id b 0 (by rw [h1]; simp [bes, tagB]) k1 k2 k3 (h3 3 b 1 rfl rfl) (by unfold q64; omega) fun _ => rfl⟩
  | true =>
    obtain ⟨h1, h2, h3⟩ := cut_says hb h
    obtain ⟨tk, nc, id, b, t, rfl⟩ := nln5 h2
    have k1 : q32 tk := h3 0 tk 4 rfl rfl
    have k2 : q32 nc := h3 1 nc 4 rfl rfl
    have k3 : id < 256 := h3 2 id 1 rfl rfl
    exact ⟨tk, nc, id, b, t, rfl, k1, k2, k3, key tk nc id b t (by rw [h1]; simp [bes, tagB]) k1 k2 k3 (h3 3 b 1 rfl rfl) (h3 4 t 8 rfl rfl) fun h => by cases h⟩
theorem joinNo {lb : List Nat} (h1 : ∀ xs, cut lb [4, 4, 1, 1] ≠ some (xs, [])) (h2 : ∀ xs, cut lb ([4, 4, 1, 1] ++ [8]) ≠ some (xs, [])) (kd tk nc id : Nat) (bk an : Bool) (t : Nat) : ¬ JoinIs kd lb tk nc id bk an t := by
  intro h
  have htk := h.htk
  have hnc := h.hnc
  have hid := h.hid
  have ht := h.ht
  have hbk := bitN_lt bk
  have hbe : be id 1 = [id] := ope1 hid
  have hbb : be (bitN bk) 1 = [bitN bk] := ope1 (by omega)
  cases an with
  | false =>
    refine h1 [tk, nc, id, bitN bk] ?_
    have := cut_of (ss := [4, 4, 1, 1]) (xs := [tk, nc, id, bitN bk]) [] rfl (by intro s hs; simp at hs; rcases hs with rfl | rfl <;> rfl) (by
      intro i x s hx hs
      match i, hx, hs with
      | 0, hx, hs => simp at hx hs; subst hx; subst hs; exact htk
      | 1, hx, hs => simp at hx hs; subst hx; subst hs; exact hnc
      | 2, hx, hs => simp at hx hs; subst hx; subst hs; exact hid
      | 3, hx, hs => simp at hx hs; subst hx; subst hs; show _ < 256; omega)
    rw [h.hb]
    simpa [bes, joinB, tagB, hbe, hbb] using this
  | true =>
    refine h2 [tk, nc, id, bitN bk, t] ?_
    have := cut_of (ss := [4, 4, 1, 1, 8]) (xs := [tk, nc, id, bitN bk, t]) [] rfl (by intro s hs; simp at hs; rcases hs with rfl | rfl | rfl <;> rfl) (by
      intro i x s hx hs
      match i, hx, hs with
      | 0, hx, hs => simp at hx hs; subst hx; subst hs; exact htk
      | 1, hx, hs => simp at hx hs; subst hx; subst hs; exact hnc
      | 2, hx, hs => simp at hx hs; subst hx; subst hs; exact hid
      | 3, hx, hs => simp at hx hs; subst hx; subst hs; show _ < 256; omega
      | 4, hx, hs => simp at hx hs; subst hx; subst hs; exact ht)
    rw [h.hb]
    simpa [bes, joinB, tagB, hbe, hbb] using this
theorem bitN2 {m : Nat} (h : m ≤ 3) : m = bitN (decide (m % 2 = 1)) + 2 * bitN (decide (1 < m)) := by
  have : m = 0 ∨ m = 1 ∨ m = 2 ∨ m = 3 := by omega
  rcases this with rfl | rfl | rfl | rfl <;> decide
theorem dataS {lb xs : List Nat} (hb : ∀ x ∈ lb, x < 256) (h : cut lb [1, 8, 8, 4, 8] = some (xs, [])) : ∃ m sq ak wn t, xs = [m, sq, ak, wn, t] ∧ q32 wn ∧ (m ≤ 3 → DataIs 3 lb (decide (m % 2 = 1)) (decide (1 < m)) sq ak wn t) ∧ (3 < m → ∀ kd f p sq ak wn t, ¬ DataIs kd lb f p sq ak wn t) := by
  obtain ⟨h1, h2, h3⟩ := cut_says hb h
  obtain ⟨m, sq, ak, wn, t, rfl⟩ := nln5 h2
  have k1 : m < 256 := h3 0 m 1 rfl rfl
  have k2 : q64 sq := h3 1 sq 8 rfl rfl
  have k3 : q64 ak := h3 2 ak 8 rfl rfl
  have k4 : q32 wn := h3 3 wn 4 rfl rfl
  have k5 : q64 t := h3 4 t 8 rfl rfl
  have hl : lb = m :: (be sq 8 ++ (be ak 8 ++ (be wn 4 ++ be t 8))) := by
    rw [h1]
    simp [bes, show be m 1 = [m] from ope1 k1]
  refine ⟨m, sq, ak, wn, t, rfl, k4, fun hm => ⟨rfl, ?_, k2, k3, k4, k5⟩, fun hm kd f p sq' ak' wn' t' hD => ?_⟩
  · rw [hl, dataB, ← bitN2 hm]
  · have e := hl.symm.trans hD.hb
    unfold dataB at e
    injection e with e _
    have := bitN_lt f
    have := bitN_lt p
    omega
theorem dataNo {lb : List Nat} (h1 : ∀ xs, cut lb [1, 8, 8, 4, 8] ≠ some (xs, [])) (kd : Nat) (f p : Bool) (sq ak wn t : Nat) : ¬ DataIs kd lb f p sq ak wn t := by
  intro h
  have hsq := h.hsq
  have hak := h.hak
  have hwn := h.hwn
  have ht := h.ht
  have hf := bitN_lt f
  have hp := bitN_lt p
  have hbe : be (bitN f + 2 * bitN p) 1 = [bitN f + 2 * bitN p] := ope1 (by omega)
  refine h1 [bitN f + 2 * bitN p, sq, ak, wn, t] ?_
  have := cut_of (ss := [1, 8, 8, 4, 8]) (xs := [bitN f + 2 * bitN p, sq, ak, wn, t]) [] rfl (by intro s hs; simp at hs; rcases hs with rfl | rfl | rfl | rfl <;> rfl) (by
    intro i x s hx hs
    match i, hx, hs with
    | 0, hx, hs => simp at hx hs; subst hx; subst hs; show _ < 256; omega
    | 1, hx, hs => simp at hx hs; subst hx; subst hs; exact hsq
    | 2, hx, hs => simp at hx hs; subst hx; subst hs; exact hak
    | 3, hx, hs => simp at hx hs; subst hx; subst hs; exact hwn
    | 4, hx, hs => simp at hx hs; subst hx; subst hs; exact ht)
  rw [h.hb]
  simpa [bes, dataB, hbe] using this
theorem wordS {lb xs : List Nat} (hb : ∀ x ∈ lb, x < 256) (h : cut lb [4, 1, 1, 1, 8] = some (xs, [])) : ∃ nm id pa b t, xs = [nm, id, pa, b, t] ∧ q32 nm ∧ id < 256 ∧ pa < 256 ∧ (b ≤ 1 → ∀ kd, 4 ≤ kd ∧ kd ≤ 7 → WordIs kd lb nm id pa (decide (b = 1)) t) ∧ (1 < b → ∀ kd nm id pa bk t, ¬ WordIs kd lb nm id pa bk t) := by
  obtain ⟨h1, h2, h3⟩ := cut_says hb h
  obtain ⟨nm, id, pa, b, t, rfl⟩ := nln5 h2
  have k1 : q32 nm := h3 0 nm 4 rfl rfl
  have k2 : id < 256 := h3 1 id 1 rfl rfl
  have k3 : pa < 256 := h3 2 pa 1 rfl rfl
  have k4 : b < 256 := h3 3 b 1 rfl rfl
  have k5 : q64 t := h3 4 t 8 rfl rfl
  have hl : lb = be nm 4 ++ (id :: pa :: b :: be t 8) := by
    rw [h1]
    simp [bes, show be id 1 = [id] from ope1 k2, show be pa 1 = [pa] from ope1 k3, show be b 1 = [b] from ope1 k4]
  refine ⟨nm, id, pa, b, t, rfl, k1, k2, k3, fun hb1 kd hk => ⟨hk, ?_, k1, k2, k3, k5⟩, fun hb1 kd nm' id' pa' bk t' hW => ?_⟩
  · rw [hl, wordB, bitN_of (by omega)]
  · have e := hl.symm.trans hW.hb
    unfold wordB at e
    obtain ⟨_, e⟩ := List.append_inj e (by rw [be_len, be_len])
    simp only [List.cons.injEq] at e
    have := bitN_lt bk
    omega
theorem wordNo {lb : List Nat} (h1 : ∀ xs, cut lb [4, 1, 1, 1, 8] ≠ some (xs, [])) (kd nm id pa : Nat) (bk : Bool) (t : Nat) : ¬ WordIs kd lb nm id pa bk t := by
  intro h
  have hnm := h.hnm
  have hid := h.hid
  have hpa := h.hpa
  have ht := h.ht
  have hbk := bitN_lt bk
  have e1 : be id 1 = [id] := ope1 hid
  have e2 : be pa 1 = [pa] := ope1 hpa
  have e3 : be (bitN bk) 1 = [bitN bk] := ope1 (by omega)
  refine h1 [nm, id, pa, bitN bk, t] ?_
  have := cut_of (ss := [4, 1, 1, 1, 8]) (xs := [nm, id, pa, bitN bk, t]) [] rfl (by intro s hs; simp at hs; rcases hs with rfl | rfl | rfl <;> rfl) (by
    intro i x s hx hs
    match i, hx, hs with
    | 0, hx, hs => simp at hx hs; subst hx; subst hs; exact hnm
    | 1, hx, hs => simp at hx hs; subst hx; subst hs; exact hid
    | 2, hx, hs => simp at hx hs; subst hx; subst hs; exact hpa
    | 3, hx, hs => simp at hx hs; subst hx; subst hs; show _ < 256; omega
    | 4, hx, hs => simp at hx hs; subst hx; subst hs; exact ht)
  rw [h.hb]
  simpa [bes, wordB, e1, e2, e3] using this
end Go.Proofs.Ytbiimgfocgbdaaa
