/- The document of layer 39: within, New, Of, Used, set. -/
import Derived.Test.YtonindjpbegdgaaQuM
import Derived.Test.YtonindjpbegdgaaTou
import Derived.Test.YtonindjpbegdgaaOrd
import Derived.Test.YtonindjpbegdgaaGhoP
import Derived.Test.YtonindjpbegdgaaGho2
import Derived.Test.YtonindjpbegdgaaPut
import Derived.Test.YtonindjpbegdgaaQx
import Derived.Test.YtonindjpbegdgaaStm
import Derived.Test.YtonindjpbegdgaaHiM
import Derived.OwnWalk
import Derived.BigQuiet
import Derived.RegionTactic
import Derived.LoopTactic
import Derived.ChangeAlike
import Derived.Deep.Cut
namespace Go.Proofs.Ytonindjpbegdgaa
open Go.RowKit
set_option linter.unusedVariables false
set_option linter.unusedSimpArgs false
def toI (L : Ql) : List (Int × Int) := L.map fun p => (p.1, (p.2 : Int))
theorem toI_len (L : Ql) : (toI L).length = L.length := by simp [toI]
theorem toI_get {L : Ql} {i : Nat} {x y : Int} (h : (toI L)[i]? = some (x, y)) : ∃ v : Nat, y = (v : Int) ∧ L[i]? = some (x, v) := by
  simp only [toI, List.getElem?_map, Option.map_eq_some_iff] at h
  obtain ⟨p, hp, he⟩ := h
  injection he with h1 h2
  subst h1
  exact ⟨p.2, h2.symm, hp⟩
/-- The slice's block is none below this one. -/
def Fr (B : Nat) (A : Option Addr) : Prop := ∀ a, A = some a → B ≤ a.block
theorem Fr.mono {B B' : Nat} {A : Option Addr} (h : Fr B A) (hB : B' ≤ B) : Fr B' A := fun a ha => Nat.le_trans hB (h a ha)
theorem Pzs.fr {w : World} {e : TypeId} {B n c : Nat} {A : Option Addr} {l : List (Int × Int)} (h : Pzs w e B (.slice A n c) l) : Fr B A := by
  intro a ha
  subst ha
  exact (h.lt a.block (by rfl)).1
theorem Rd.solo {w w' : World} {B size n g : Nat} {A : Option Addr} {xs : List Value} (h : Rd w B size A n xs) (hs : Solo g w w') (hg : ∀ a, A = some a → 0 < n → a.block ≠ g) : Rd w' B size A n xs := by
  refine ⟨h.1, fun hn => ?_⟩
  obtain ⟨b, off, e, hb, hc⟩ := h.2 hn
  exact ⟨b, off, e, hb, fun j hj => (World.cell?_of_block (a := ⟨b, off + j, none⟩) (hs.2.2 b (hg _ e hn))).trans (hc j hj)⟩
/-- The slice's block is a row of owners. -/
def TyO (w : World) (A : Option Addr) (n : Nat) : Prop := ∀ a, A = some a → 0 < n → ∃ cs, Blk w a.block 54 cs
theorem TyO.of {w : World} {B n c : Nat} {A : Option Addr} {l : List (Int × Int)} (h : Pzs w 54 B (.slice A n c) l) : TyO w A n := by
  intro a ha hn
  subst ha
  rcases h.2 with ⟨hv, _⟩ | ⟨g, cap, cur, hv, _, hh, _⟩
  · cases hv
  · injection hv with e1
    injection e1 with e1
    subst e1
    exact ⟨cur, hh⟩
theorem Pzs.duo {w w' : World} {e : TypeId} {B g : Nat} {v : Value} {l : List (Int × Int)} (h : Pzs w e B v l) (hs : Solo g w w') (hg : g < B) : Pzs w' e B v l :=
  own_kept h fun k hk => hs.2.2 k (by have := h.lt k hk; omega)
def RQ (w : World) (A : Option Addr) (n c : Nat) (L : Ql) : Prop := Rd w w.heap.size 2 A n (pz (toI L)) ∧ n ≤ c ∧ c ≤ maxLen ∧ TyO w A n
theorem RQ.into {w w' : World} {A : Option Addr} {n c : Nat} {L : Ql} (h : RQ w A n c L) (hb : Below w.heap.size w w') : RQ w' A n c L := ⟨h.1.into hb, h.2.1, h.2.2.1, fun a ha hn => by obtain ⟨cs, hk⟩ := h.2.2.2 a ha hn; exact ⟨cs, hk.below hb hk.lt⟩⟩
theorem RQ.len {w : World} {A : Option Addr} {n c : Nat} {L : Ql} (h : RQ w A n c L) : L.length = n := by rw [← toI_len]; exact h.1.pzLen
theorem RQ.nil (w : World) : RQ w none 0 0 [] := ⟨Rd.nil _ _ _ _, Nat.le_refl _, Nat.zero_le _, fun a ha => by cases ha⟩
theorem RQ.solo {w w' : World} {A : Option Addr} {n c g : Nat} {L : Ql} (h : RQ w A n c L) (hs : Solo g w w') (hg : ∀ a, A = some a → 0 < n → a.block ≠ g) : RQ w' A n c L := ⟨(h.1.solo hs hg).mono (by rw [hs.2.1]; exact Nat.le_refl _), h.2.1, h.2.2.1, fun a ha hn => by obtain ⟨cs, hk⟩ := h.2.2.2 a ha hn; exact ⟨cs, hs.blk hk (hg a ha hn)⟩⟩
theorem RQ.old {w w' : World} {A : Option Addr} {n c g : Nat} {L : Ql} (h : RQ w A n c L) (hg : w.heap.size ≤ g) : ∀ a, A = some a → 0 < n → a.block ≠ g := by
  intro a ha hn e
  obtain ⟨b, off, e2, hb, _⟩ := h.1.2 hn
  rw [ha] at e2
  injection e2 with e2
  subst e2
  simp at e
  omega
def RPv (all each : Nat) (A : Option Addr) (n c : Nat) : Value := .agg #[.int .i64 (all : Nat), .int .i64 (each : Nat), .slice A n c]
theorem qn_drop {L : Ql} {i : Nat} {x : Int} {v : Nat} (h : L[i]? = some (x, v)) (id : Int) : ofQ (L.drop i) id = if x = id then v else ofQ (L.drop (i + 1)) id := by
  obtain ⟨hl, he⟩ := List.getElem?_eq_some_iff.1 h
  rw [List.drop_eq_getElem_cons hl, he, ofQ]
theorem qu_take1 {L : Ql} {i : Nat} {x : Int} {v : Nat} (h : L[i]? = some (x, v)) : usedQ (L.take (i + 1)) = usedQ (L.take i) + v := by
  rw [List.take_add_one, h, usedQ_append]; simp [usedQ]
theorem qr_take {L : Ql} {i : Nat} {x : Int} {v : Nat} (h : L[i]? = some (x, v)) (id : Int) : rmQ (L.take (i + 1)) id = rmQ (L.take i) id ++ (if x = id then [] else [(x, v)]) := by
  unfold rmQ
  rw [List.take_add_one, h, List.filter_append]
  by_cases e : x = id
  · rw [if_pos e]; simp [e]
  · rw [if_neg e]; simp [e]
theorem usedQ_take_le (L : Ql) (i : Nat) : usedQ (L.take i) ≤ usedQ L := by
  have := usedQ_append (L.take i) (L.drop i)
  rw [List.take_append_drop] at this
  omega
theorem rqwithin_any (n : Int) (w : World) (hn : (Lit.int .i64 n).wf = true) : Calls Try.prog 22 #[.int .i64 n] w fun e w' => e = .returned (.int .i64 (clN 0 1073741824 n : Nat)) ∧ w' = w := by
  by_cases h0 : n < 0
  · rw [clN_lo (by simpa using h0)]
    go_enter Try.func22, Try.ntmps22
    go_wp2
    go_ret
    exact ⟨rfl, rfl⟩
  by_cases h4 : 1073741824 < n
  · rw [clN_hi (by simpa using h0) h4]
    go_enter Try.func22, Try.ntmps22
    go_wp2
    go_ret
    exact ⟨rfl, rfl⟩
  · rw [clN_in (by simpa using h0) h4]
    go_enter Try.func22, Try.ntmps22
    go_wp2
    go_ret
    exact ⟨rfl, rfl⟩
theorem prEl : El Try.prog 25 54 (.agg #[.int .i64 0, .int .i64 0]) 2 16 := ⟨Try.underlying25, by kernel_rfl, rfl, by omega, by omega⟩
set_option maxRecDepth 20000 in
set_option maxHeartbeats 4000000 in
theorem rq_new (a b : Int) (w : World) (ha : (Lit.int .i64 a).wf = true) (hb : (Lit.int .i64 b).wf = true) :
    Calls Try.prog 6 #[.int .i64 a, .int .i64 b] w fun e w' => e = .returned (RPv (clN 0 1073741824 a) (clN 0 1073741824 b) none 0 0) ∧ Below w.heap.size w w' := by
  have CA := Lib.hid (fun w' => rqwithin_any a w' ha)
  have CB := Lib.hid (fun w' => rqwithin_any b w' hb)
  obtain ⟨x, hx⟩ : ∃ x, x = clN 0 1073741824 a := ⟨_, rfl⟩
  obtain ⟨y, hy⟩ : ∃ y, y = clN 0 1073741824 b := ⟨_, rfl⟩
  rw [← hx] at CA ⊢
  rw [← hy] at CB ⊢
  clear hx hy ha hb
  go_enter Try.func6, Try.ntmps6
  go_wp2_with fail
  have K0 := Lib.hid (Blk.new w 27 #[.int .i64 0, .int .i64 0, .slice none 0 0])
  have B0 := Lib.hid ((Below.refl w.heap.size w).alloc (Nat.le_refl _) (.cells #[.int .i64 0, .int .i64 0, .slice none 0 0] 27))
  generalize w.alloc (.cells #[.int .i64 0, .int .i64 0, .slice none 0 0] 27) = w1 at K0 B0 ⊢
  refine (CA.out _).mono ?_
  rintro e w2 ⟨rfl, rfl⟩
  go_wp2_with fail
  refine (CB.out _).mono ?_
  rintro e w3 ⟨rfl, rfl⟩
  obtain ⟨c0, c1, c2⟩ := ptc3 K0.out
  have f0 := K0.out.frozen 0
  have f1 := K0.out.frozen 1
  have f2 := K0.out.frozen 2
  go_wp2_with fail
  exact bodyPost_ret (results_agg Try.results6 (g := w.heap.size) (pt3 _ _ _ K0.out) (by rfl) (by kernel_rfl) (by kernel_rfl)) rfl ⟨rfl, B0.out.trans (pts3 _ _ _).1⟩
set_option maxRecDepth 20000 in
set_option maxHeartbeats 4000000 in
theorem rq_of (all each : Nat) (A : Option Addr) (n c : Nat) (L : Ql) (id : Int) (w : World) (h : RQ w A n c L) (hL : L.length ≤ 8000) :
    Calls Try.prog 9 #[RPv all each A n c, .int .i64 id] w fun e w' => e = .returned (.int .i64 (ofQ L id : Nat)) ∧ Below w.heap.size w w' := by
  have HR := Lib.hid h
  unfold RPv
  clear h
  go_enter Try.func9, Try.ntmps9
  go_wp2_with fail
  have hk0 := Blk.new w 27 #[.int .i64 (all : Nat), .int .i64 (each : Nat), .slice A n c]
  have hb0 := (Below.refl w.heap.size w).alloc (Nat.le_refl _) (.cells #[.int .i64 (all : Nat), .int .i64 (each : Nat), .slice A n c] 27)
  have K0 := Lib.hid hk0
  have B0 := Lib.hid hb0
  have R0 := Lib.hid (HR.out.into B0.out)
  clear hk0 hb0
  generalize w.alloc (.cells #[.int .i64 (all : Nat), .int .i64 (each : Nat), .slice A n c] 27) = w1 at K0 B0 R0 ⊢
  have hln := R0.out.len
  have hn8 : n ≤ 8000 := by omega
  obtain ⟨kM, kE, kL⟩ := ptc3 K0.out
  go_loopw [5] (fun iv wr => ∃ (i : Nat), i ≤ n ∧ iv = .int .i64 (i : Nat) ∧ Hid (ofQ L id = ofQ (L.drop i) id) ∧ wr = w1) (fun iv _ => n - (intOf iv).toNat)
  case atStart => exact ⟨0, Nat.zero_le _, rfl, Lib.hid rfl, rfl⟩
  case round =>
    obtain ⟨i, hi, rfl, hO, hwr⟩ := hrel
    subst hwr
    by_cases hlt : i < n
    · have hlt' : (i : Int) < (n : Int) := by omega
      obtain ⟨ab, ao, x, y, hA, hab, p0, p1, hp⟩ := R0.out.1.pz hlt
      subst hA
      obtain ⟨v, rfl, hv⟩ := toI_get hp.out
      have hd := qn_drop hv id
      have hi0 : ¬ (i : Int) < 0 := by omega
      have HD := Lib.hid hd
      clear hp hv hd hab
      by_cases hx : x = id
      · subst hx
        have e := Lib.hid (hO.out.trans (HD.out.trans (if_pos rfl)))
        clear HD hO
        go_wp2_with fail
        go_ret
        exact ⟨by rw [e.out]; rfl, B0.out⟩
      · have O2 := Lib.hid (hO.out.trans (HD.out.trans (if_neg hx)))
        clear HD hO
        go_wp2_with fail
        go_roundw
        case rel => exact ⟨i + 1, by omega, by go_num, O2, trivial⟩
        case measure => simp [intOf]; omega
    · obtain rfl : i = n := by omega
      have e := Lib.hid (show ofQ L id = 0 by rw [hO.out, List.drop_eq_nil_of_le (by omega)]; rfl)
      clear hO hlt
      go_wp2_with fail
      go_ret
      exact ⟨by rw [e.out]; rfl, B0.out⟩
set_option maxRecDepth 20000 in
set_option maxHeartbeats 4000000 in
theorem rq_used (all each : Nat) (A : Option Addr) (n c : Nat) (L : Ql) (w : World) (h : RQ w A n c L) (hL : L.length ≤ 8000) (hU : usedQ L ≤ 1073741824) :
    Calls Try.prog 17 #[RPv all each A n c] w fun e w' => e = .returned (.int .i64 (usedQ L : Nat)) ∧ Below w.heap.size w w' := by
  have HR := Lib.hid h
  unfold RPv
  clear h
  go_enter Try.func17, Try.ntmps17
  go_wp2_with fail
  have hk0 := Blk.new w 27 #[.int .i64 (all : Nat), .int .i64 (each : Nat), .slice A n c]
  have hb0 := (Below.refl w.heap.size w).alloc (Nat.le_refl _) (.cells #[.int .i64 (all : Nat), .int .i64 (each : Nat), .slice A n c] 27)
  have K0 := Lib.hid hk0
  have B0 := Lib.hid hb0
  have R0 := Lib.hid (HR.out.into B0.out)
  clear hk0 hb0
  generalize w.alloc (.cells #[.int .i64 (all : Nat), .int .i64 (each : Nat), .slice A n c] 27) = w1 at K0 B0 R0 ⊢
  have hln := R0.out.len
  have hn8 : n ≤ 8000 := by omega
  have HT := Lib.hid (usedQ_take_le L)
  obtain ⟨kM, kE, kL⟩ := ptc3 K0.out
  go_loopw [3, 4] (fun sv iv wr => ∃ (i s : Nat), i ≤ n ∧ iv = .int .i64 (i : Nat) ∧ sv = .int .i64 (s : Nat) ∧ Hid (s = usedQ (L.take i)) ∧ wr = w1) (fun _ iv _ => n - (intOf iv).toNat)
  case atStart => exact ⟨0, 0, Nat.zero_le _, rfl, rfl, Lib.hid rfl, rfl⟩
  case round =>
    obtain ⟨i, s, hi, rfl, rfl, hs, hwr⟩ := hrel
    subst hwr
    by_cases hlt : i < n
    · have hlt' : (i : Int) < (n : Int) := by omega
      obtain ⟨ab, ao, x, y, hA, hab, p0, p1, hp⟩ := R0.out.1.pz hlt
      subst hA
      obtain ⟨v, rfl, hv⟩ := toI_get hp.out
      obtain ⟨s2, hs2⟩ : ∃ s2, s2 = s + v := ⟨_, rfl⟩
      have S2 := Lib.hid (show s2 = usedQ (L.take (i + 1)) by rw [qu_take1 hv, hs2, hs.out])
      have hsb : s2 ≤ 1073741824 := by have := HT.out (i + 1); rw [← S2.out] at this; omega
      have hsi : (s : Int) + (v : Int) = (s2 : Nat) := by omega
      have hi0 : ¬ (i : Int) < 0 := by omega
      clear hp hv hab hs2 hs
      go_wp2_with fail
      go_roundw
      case rel => exact ⟨i + 1, s2, by omega, by go_num, by go_num, S2, trivial⟩
      case measure => simp [intOf]; omega
    · obtain rfl : i = n := by omega
      have e := Lib.hid (show s = usedQ L by rw [hs.out, List.take_of_length_le (by omega)])
      clear hs hlt
      go_wp2_with fail
      go_ret
      exact ⟨by rw [← e.out]; rfl, B0.out⟩
set_option maxRecDepth 20000 in
set_option maxHeartbeats 4000000 in
theorem rq_set (all each : Nat) (A : Option Addr) (n c : Nat) (L : Ql) (id : Int) (v : Nat) (w : World) (h : RQ w A n c L) (hL : L.length ≤ 8000) :
    Calls Try.prog 23 #[RPv all each A n c, .int .i64 id, .int .i64 (v : Nat)] w fun e w' => ∃ A2 n2 c2, e = .returned (RPv all each A2 n2 c2) ∧ RQ w' A2 n2 c2 (setQ L id v) ∧ Fr w.heap.size A2 ∧ Below w.heap.size w w' := by
  have HR := Lib.hid h
  unfold RPv
  clear h
  go_enter Try.func23, Try.ntmps23
  go_wp2_with fail
  have hk0 := Blk.new w 27 #[.int .i64 (all : Nat), .int .i64 (each : Nat), .slice A n c]
  have hb0 := (Below.refl w.heap.size w).alloc (Nat.le_refl _) (.cells #[.int .i64 (all : Nat), .int .i64 (each : Nat), .slice A n c] 27)
  have hz1 : (w.alloc (.cells #[.int .i64 (all : Nat), .int .i64 (each : Nat), .slice A n c] 27)).heap.size = w.heap.size + 1 := by simp
  have hk1 := Blk.new (w.alloc (.cells #[.int .i64 (all : Nat), .int .i64 (each : Nat), .slice A n c] 27)) 27 #[.int .i64 0, .int .i64 0, .slice none 0 0]
  rw [hz1] at hk1
  have hk0 := hk0.alloc (.cells #[.int .i64 0, .int .i64 0, .slice none 0 0] 27)
  have hb0 := hb0.alloc (show w.heap.size ≤ (w.alloc (.cells #[.int .i64 (all : Nat), .int .i64 (each : Nat), .slice A n c] 27)).heap.size by omega) (.cells #[.int .i64 0, .int .i64 0, .slice none 0 0] 27)
  have hz2 : ((w.alloc (.cells #[.int .i64 (all : Nat), .int .i64 (each : Nat), .slice A n c] 27)).alloc (.cells #[.int .i64 0, .int .i64 0, .slice none 0 0] 27)).heap.size = w.heap.size + 2 := by simp
  have K0 := Lib.hid hk0
  have K1 := Lib.hid hk1
  have B0 := Lib.hid hb0
  have HZ := Lib.hid hz2
  have R0 := Lib.hid (HR.out.into B0.out)
  clear hk0 hb0 hk1 hz1 hz2
  generalize (w.alloc (.cells #[.int .i64 (all : Nat), .int .i64 (each : Nat), .slice A n c] 27)).alloc (.cells #[.int .i64 0, .int .i64 0, .slice none 0 0] 27) = w1 at K0 K1 B0 HZ R0 ⊢
  have hln := R0.out.len
  have hn8 : n ≤ 8000 := by omega
  go_loopw [7, 8] (fun ov iv wr => ∃ (i : Nat), i ≤ n ∧ iv = .int .i64 (i : Nat) ∧ Hid (Pzs wr 54 (w.heap.size + 2) ov (toI (rmQ (L.take i) id))) ∧ Hid (Below (w.heap.size + 2) w1 wr)) (fun _ iv _ => n - (intOf iv).toNat)
  case atStart => exact ⟨0, Nat.zero_le _, rfl, Lib.hid (Pzs.nil _ _ _), Lib.hid (Below.refl _ _)⟩
  case round =>
    obtain ⟨i, hi, rfl, HO, BB⟩ := hrel
    have KK := Lib.hid (Blk.below K0.out BB.out (by omega))
    obtain ⟨kM, kE, kL⟩ := ptc3 KK.out
    obtain ⟨A7, n7, c7, rfl, hc7, hm7, hl7, hr7⟩ := HO.out.out
    have hrl : n7 ≤ i := by
      have h1 := hl7.out
      rw [toI_len] at h1
      have h2 : (rmQ (L.take i) id).length ≤ (L.take i).length := List.length_filter_le _ _
      rw [List.length_take] at h2
      omega
    by_cases hlt : i < n
    · have hlt' : (i : Int) < (n : Int) := by omega
      obtain ⟨ab, ao, x, y, hA, hab, p0, p1, hp⟩ := R0.out.1.pz hlt
      subst hA
      obtain ⟨z, rfl, hv⟩ := toI_get hp.out
      have p0 := (BB.out.cell (p := ⟨ab, ao + i * 2, none⟩) (show ab < _ by have := HZ.out; omega)).trans p0
      have p1 := (BB.out.cell (p := ⟨ab, ao + i * 2 + 1, none⟩) (show ab < _ by have := HZ.out; omega)).trans p1
      have HD := Lib.hid (qr_take hv id)
      have hi0 : ¬ (i : Int) < 0 := by omega
      clear hp hv hab
      by_cases hx : x = id
      · subst hx
        have O2 := Lib.hid (show Pzs wr 54 (w.heap.size + 2) (.slice A7 n7 c7) (toI (rmQ (L.take (i + 1)) x)) by rw [HD.out, if_pos rfl, List.append_nil]; exact HO.out)
        clear HD HO hl7 hr7
        go_wp2_with fail
        go_roundw
        case rel => exact ⟨i + 1, by omega, by go_num, O2, BB⟩
        case measure => simp [intOf]; omega
      · have hsz := BB.out.size
        have hbz : w.heap.size + 2 ≤ wr.heap.size := by have := HZ.out; omega
        have HBZ := Lib.hid hbz
        have hroom : ((toI (rmQ (L.take i) id)).length + 1) * 16 ≤ room := room_ge (by rw [hl7.out]; omega)
        clear hsz hbz hr7 hl7
        go_wp2_with (at_builtin; go_must (refine app1pz prEl x (z : Int) rfl _ _ rfl rfl HO.out rfl rfl hroom HBZ.out ?_))
        intro v8 w8 ho8 hg8 hb8
        have O2 := Lib.hid (show Pzs w8 54 (w.heap.size + 2) v8 (toI (rmQ (L.take (i + 1)) id)) by rw [HD.out, if_neg hx]; simpa [toI] using ho8)
        have B2 := Lib.hid (BB.out.trans hb8)
        clear ho8 hg8 hb8 HD HO BB kM kE kL p0 p1 KK hroom
        obtain ⟨A8, n8, c8, rfl, _, _, _, _⟩ := O2.out.out
        go_wp2_with fail
        go_roundw
        case rel => exact ⟨i + 1, by omega, by go_num, O2, B2⟩
        case measure => simp [intOf]; omega
    · obtain rfl : n = i := by omega
      have HT := Lib.hid (show L.take n = L from List.take_of_length_le (by omega))
      have O2 := Lib.hid (show Pzs wr 54 (w.heap.size + 2) (.slice A7 n7 c7) (toI (rmQ L id)) by have := HO.out; rwa [HT.out] at this)
      have HL7 := Lib.hid (show (toI (rmQ L id)).length = n7 by have := hl7.out; rwa [HT.out] at this)
      clear HO hl7 hr7 hlt
      by_cases hv0 : 0 < v
      · have hv0' : (0 : Int) < (v : Int) := by omega
        have HS := Lib.hid (show toI (setQ L id v) = toI (rmQ L id) ++ [(id, (v : Int))] by unfold setQ; rw [if_pos hv0]; simp [toI])
        have hbz : w.heap.size + 2 ≤ wr.heap.size := by have := HZ.out; have := BB.out.size; omega
        have HBZ := Lib.hid hbz
        have hroom : ((toI (rmQ L id)).length + 1) * 16 ≤ room := room_ge (by rw [HL7.out]; omega)
        clear hbz
        go_wp2_with (at_builtin; go_must (refine app1pz prEl id (v : Int) rfl _ _ rfl rfl O2.out rfl rfl hroom HBZ.out ?_))
        intro v8 w8 ho8 hg8 hb8
        rw [← HS.out] at ho8
        have O3 := Lib.hid ho8
        have B2 := Lib.hid (BB.out.trans hb8)
        clear ho8 hg8 hb8 HS O2 BB kM kE kL KK hroom HBZ
        obtain ⟨A9, n9, c9, rfl, hc9, hm9, hl9, hr9⟩ := O3.out.out
        have hl9' := hl9.out
        have hr9' := hr9.out
        have K3 := Lib.hid (Blk.below K0.out B2.out (by omega))
        have K4 := Lib.hid (Blk.below K1.out B2.out (by omega))
        obtain ⟨kM, kE, kL⟩ := ptc3 K3.out
        have f2 := K3.out.frozen 2
        clear hl9 hr9
        go_upto_region 10 with fail
        have K5 := Lib.hid (show Blk _ w.heap.size 27 #[.int .i64 (all : Nat), .int .i64 (each : Nat), .slice A9 n9 c9] from Blk.set K3.out 2 (.slice A9 n9 c9))
        have S5 := Lib.hid ((Solo.refl (g := w.heap.size) (w := w8)).setCell 2 (.slice A9 n9 c9))
        clear kM kE kL f2
        generalize w8.setCell ⟨w.heap.size, 2, none⟩ (.slice A9 n9 c9) = w5 at K5 S5 ⊢
        have K6 := Lib.hid (S5.out.blk K4.out (by omega))
        obtain ⟨kM, kE, kL⟩ := ptc3 K5.out
        obtain ⟨z0, z1, z2⟩ := ptc3 K6.out
        have f0 := K6.out.frozen 0
        have f1 := K6.out.frozen 1
        have f2 := K6.out.frozen 2
        have OW5 := Lib.hid (Pzs.duo O3.out S5.out (by omega))
        clear K3 K4
        go_wp2_with fail
        have K7 := pt3 (.int .i64 (all : Nat)) (.int .i64 (each : Nat)) (.slice A9 n9 c9) K6.out
        have S7 : Solo (w.heap.size + 1) w5 _ := pts3 (.int .i64 (all : Nat)) (.int .i64 (each : Nat)) (.slice A9 n9 c9) (w := w5) (T := w.heap.size + 1)
        have OW7 := Pzs.duo OW5.out S7 (by omega)
        refine bodyPost_ret (results_agg Try.results23 (g := w.heap.size + 1) K7 (by rfl) (by kernel_rfl) (by kernel_rfl)) rfl ?_
        obtain ⟨A10, n10, c10, he, hc10, hm10, hl10, hr10⟩ := OW7.out
        injection he with e1 e2 e3
        subst e1 e2 e3
        exact ⟨A9, n9, c9, rfl, ⟨hr10.out, hc10, hm10, TyO.of OW7⟩, (Pzs.fr OW7).mono (by omega), ((B0.out.trans (B2.out.mono (by omega))).trans (S5.out.1)).trans (S7.1.mono (by omega))⟩
      · have hv0' : ¬ (0 : Int) < (v : Int) := by omega
        have HS := Lib.hid (show toI (setQ L id v) = toI (rmQ L id) by unfold setQ; rw [if_neg hv0, List.append_nil])
        have O3 := Lib.hid (show Pzs wr 54 (w.heap.size + 2) (.slice A7 n7 c7) (toI (setQ L id v)) by rw [HS.out]; exact O2.out)
        have B2 := BB
        clear HS O2 BB kM kE kL KK HL7
        have K3 := Lib.hid (Blk.below K0.out B2.out (by omega))
        have K4 := Lib.hid (Blk.below K1.out B2.out (by omega))
        obtain ⟨kM, kE, kL⟩ := ptc3 K3.out
        have f2 := K3.out.frozen 2
        go_upto_region 10 with fail
        have K5 := Lib.hid (show Blk _ w.heap.size 27 #[.int .i64 (all : Nat), .int .i64 (each : Nat), .slice A7 n7 c7] from Blk.set K3.out 2 (.slice A7 n7 c7))
        have S5 := Lib.hid ((Solo.refl (g := w.heap.size) (w := wr)).setCell 2 (.slice A7 n7 c7))
        clear kM kE kL f2
        generalize wr.setCell ⟨w.heap.size, 2, none⟩ (.slice A7 n7 c7) = w5 at K5 S5 ⊢
        have K6 := Lib.hid (S5.out.blk K4.out (by omega))
        obtain ⟨kM, kE, kL⟩ := ptc3 K5.out
        obtain ⟨z0, z1, z2⟩ := ptc3 K6.out
        have f0 := K6.out.frozen 0
        have f1 := K6.out.frozen 1
        have f2 := K6.out.frozen 2
        have OW5 := Lib.hid (Pzs.duo O3.out S5.out (by omega))
        clear K3 K4
        go_wp2_with fail
        have K7 := pt3 (.int .i64 (all : Nat)) (.int .i64 (each : Nat)) (.slice A7 n7 c7) K6.out
        have S7 : Solo (w.heap.size + 1) w5 _ := pts3 (.int .i64 (all : Nat)) (.int .i64 (each : Nat)) (.slice A7 n7 c7) (w := w5) (T := w.heap.size + 1)
        have OW7 := Pzs.duo OW5.out S7 (by omega)
        refine bodyPost_ret (results_agg Try.results23 (g := w.heap.size + 1) K7 (by rfl) (by kernel_rfl) (by kernel_rfl)) rfl ?_
        obtain ⟨A10, n10, c10, he, hc10, hm10, hl10, hr10⟩ := OW7.out
        injection he with e1 e2 e3
        subst e1 e2 e3
        exact ⟨A7, n7, c7, rfl, ⟨hr10.out, hc10, hm10, TyO.of OW7⟩, (Pzs.fr OW7).mono (by omega), ((B0.out.trans (B2.out.mono (by omega))).trans (S5.out.1)).trans (S7.1.mono (by omega))⟩
end Go.Proofs.Ytonindjpbegdgaa
