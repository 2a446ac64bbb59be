/- Layer 16: do: a call of both, answered alike. -/
import Derived.Test.YtbipcnboammpeaaFlr4
import Derived.Test.YtbipcnboammpeaaFlr5
import Derived.Test.YtbipcnboammpeaaFlm1
import Derived.Test.YtbipcnboammpeaaFlm2
import Derived.Test.YtbipcnboammpeaaFlm3
namespace Go.Proofs.Ytbipcnboammpeaa
open Go.RowKit
set_option linter.unusedVariables false
set_option linter.unusedSimpArgs false
theorem Kp.own {B B' g n : Nat} {w w' : World} {v : Value} {xs : List Value} {cs : Array Value} (hk : Kp B g w w') (hb : Blk w g 57 cs) (ho : w.ownsRow B' 38 9 v n xs) : w'.ownsRow B' 38 9 v n xs :=
  own_kept ho fun k hv => by
    rcases own_open ho with ⟨rfl, _⟩ | ⟨g2, c, L, rfl, _, hL, _⟩
    · cases hv
    · simp [Value.ownBlock] at hv
      subst hv
      refine hk.same g2 hL.lt ?_ (.inr fun cs2 m e => ?_)
      · rintro rfl
        unfold Blk at hb hL
        rw [hb] at hL
        injection hL with hL
        injection hL with _ hL
        exact absurd hL (by decide)
      · unfold Blk at hL
        rw [hL] at e
        injection e with e
        injection e with _ e
        exact absurd e (by decide)
theorem own_lit0 (w : World) (e : TypeId) (sz : Nat) {B : Nat} (hB : B ≤ w.heap.size) : (w.alloc (.cells #[] e)).ownsRow B e sz (.slice (some ⟨w.heap.size, 0, none⟩) 0 0) 0 [] :=
  ⟨by simp, .inr ⟨w.heap.size, 0, _, rfl, hB, heap_alloc_new w _, by simp, by simp [maxLen], by simp, by simp⟩⟩
theorem FL.far {B B' g most sz n : Nat} {l : List Chk} {w w' : World} {e : TypeId} {v : Value} {xs : List Value} (h : FL w B g most l) (ho : w.ownsRow B' e sz v n xs) (he : e ≠ 30) (he2 : e ≠ 57) (hg : w.grownBy w' v.ownBlock) : FL w' B g most l := by
  obtain ⟨A, c, hk, hw⟩ := h.out
  exact ⟨h.hB, Nat.le_trans h.hw hg.size, A, c, hk.far2 ho he2 hg, own_fr hw ho (fun e => he e.symm) hg⟩
theorem Kp.grownNew {B g : Nat} {w w1 w2 : World} {r : Option Nat} (h : Kp B g w w1) (hg : w1.grownBy w2 r) (hr : ∀ k, r = some k → w.heap.size ≤ k) : Kp B g w w2 :=
  ⟨hg.os.trans h.os, hg.tape.trans h.tape, hg.output.trans h.output, Nat.le_trans h.size hg.size, fun i hi hne hB => (hg.block i (Nat.lt_of_lt_of_le hi h.size) (fun e => by have := hr i e.symm; omega)).trans (h.same i hi hne hB)⟩
/-- What a call of both leaves. -/
structure DoP (B g many : Nat) (l2 : List Chk) (A : Option Addr) (n c : Nat) (w w' : World) : Prop where
  fl : FL w' B g many l2
  row : w'.ownsRow B 38 9 (.slice A n c) n (chs l2)
  len : l2.length ≤ many
  ok : ∀ c ∈ l2, c.ok
  kp : Kp B g w w'
def DoPost (B g many : Nat) (w : World) (e : Ending) (w' : World) : Prop := ∃ A n c l2, e = .returned (.tuple #[.slice A n c, .bool true]) ∧ DoP B g many l2 A n c w w'
theorem FL.blk {w : World} {B g most : Nat} {l : List Chk} (h : FL w B g most l) : ∃ cs, Blk w g 57 cs := by
  obtain ⟨A, c, hk, _⟩ := h.out
  exact ⟨_, hk⟩
theorem own_open3 {w : World} {B : Nat} {v : Value} {l : List Chk} (h : w.ownsRow B 38 9 v l.length (chs l)) : ∃ (A : Option Addr) (n c : Nat), v = .slice A n c ∧ n ≤ c ∧ c ≤ maxLen ∧ Hid (l.length = n) ∧ Hid (Rd w w.heap.size 9 A n (chs l)) := by
  obtain ⟨A, c, rfl, h1, h2, h3⟩ := own_form h
  exact ⟨A, _, c, rfl, h1, h2, Lib.hid rfl, Lib.hid h3⟩
set_option maxRecDepth 20000 in
set_option maxHeartbeats 40000000 in
theorem ldo_any (B g many : Nat) (A : Option Addr) (n c : Nat) (l : List Chk) (o : OpF) (w : World) (h : FL w B g many l) (hq : w.ownsRow B 38 9 (.slice A n c) n (chs l)) (hlm : l.length ≤ many) (hm : many ≤ 64) (hok : ∀ c ∈ l, c.ok) (ho : o.c.ok) (hki : -9223372036854775808 ≤ o.k ∧ o.k < 9223372036854775808) :
    Calls Try.prog 7 #[.pointer (some ⟨g, 0, none⟩), .slice A n c, .agg #[.int .i64 o.k, .int .u64 (o.c.fr : Nat), .int .i64 o.c.len, .bool o.c.fin, .int .i64 o.c.flow, .int .u32 o.c.en, .int .i64 o.c.sent, .int .i64 o.c.tries, .bool o.c.came, .bool o.c.lost, .int .i64 o.wt], .int .i64 (many : Nat)] w fun e w' => DoPost B g many w e w' := by
  obtain ⟨A2, c2, hv, hnc, hcm, hr⟩ := own_form hq
  injection hv with hv1 hv2 hv3
  subst hv1
  subst hv3
  have hnl : l.length = n := hr.chkLen
  have HNL := Lib.hid hnl
  have HN64 := Lib.hid (show n ≤ 64 by omega)
  have HL64 := Lib.hid (show l.length ≤ 64 by omega)
  have HLM := Lib.hid hlm
  have HM64 := Lib.hid hm
  have HOKL := Lib.hid hok
  have HCO := Lib.hid ho
  have hb1 := (Below.refl w.heap.size w).alloc (Nat.le_refl _) (.cells #[.int .i64 o.k, .int .u64 (o.c.fr : Nat), .int .i64 o.c.len, .bool o.c.fin, .int .i64 o.c.flow, .int .u32 o.c.en, .int .i64 o.c.sent, .int .i64 o.c.tries, .bool o.c.came, .bool o.c.lost, .int .i64 o.wt] 32)
  have k1 := Blk.new w 32 #[.int .i64 o.k, .int .u64 (o.c.fr : Nat), .int .i64 o.c.len, .bool o.c.fin, .int .i64 o.c.flow, .int .u32 o.c.en, .int .i64 o.c.sent, .int .i64 o.c.tries, .bool o.c.came, .bool o.c.lost, .int .i64 o.wt]
  have hz : (w.alloc (.cells #[.int .i64 o.k, .int .u64 (o.c.fr : Nat), .int .i64 o.c.len, .bool o.c.fin, .int .i64 o.c.flow, .int .u32 o.c.en, .int .i64 o.c.sent, .int .i64 o.c.tries, .bool o.c.came, .bool o.c.lost, .int .i64 o.wt] 32)).heap.size = w.heap.size + 1 := by simp
  have k2 := Blk.new (w.alloc (.cells #[.int .i64 o.k, .int .u64 (o.c.fr : Nat), .int .i64 o.c.len, .bool o.c.fin, .int .i64 o.c.flow, .int .u32 o.c.en, .int .i64 o.c.sent, .int .i64 o.c.tries, .bool o.c.came, .bool o.c.lost, .int .i64 o.wt] 32)) 30 #[.int .u64 (o.c.fr : Nat), .int .i64 o.c.len, .bool o.c.fin, .int .i64 o.c.flow, .int .u32 o.c.en, .int .i64 o.c.sent, .int .i64 o.c.tries, .bool o.c.came, .bool o.c.lost]
  rw [hz] at k2
  have hb2 := hb1.alloc (by omega) (.cells #[.int .u64 (o.c.fr : Nat), .int .i64 o.c.len, .bool o.c.fin, .int .i64 o.c.flow, .int .u32 o.c.en, .int .i64 o.c.sent, .int .i64 o.c.tries, .bool o.c.came, .bool o.c.lost] 30)
  have F2 := Lib.hid (h.into hb2)
  have HR := Lib.hid (hr.into hb2)
  have Q2 := Lib.hid (own_below hq hb2 fun g hg => (hq.lt g hg).2)
  have P2 := Lib.hid (Kp.of (B := B) (g := g) hb2)
  have KO := Lib.hid (k1.alloc (.cells #[.int .u64 (o.c.fr : Nat), .int .i64 o.c.len, .bool o.c.fin, .int .i64 o.c.flow, .int .u32 o.c.en, .int .i64 o.c.sent, .int .i64 o.c.tries, .bool o.c.came, .bool o.c.lost] 30))
  have KX := Lib.hid k2
  have HBW := Lib.hid (Nat.le_trans h.hw hb2.size)
  obtain ⟨k, hk⟩ : ∃ k, k = o.k := ⟨_, rfl⟩
  have HK := Lib.hid hk
  obtain ⟨r1, hr1⟩ : ∃ r1 : Int, o.k.tmod 9 = r1 := ⟨_, rfl⟩
  have hr1a : r1 < 9 := by rw [← hr1]; exact Int.tmod_lt_of_pos o.k (by omega)
  have hr1b : -9 < r1 := by rw [← hr1]; have := Int.lt_tmod_of_pos o.k (show (0 : Int) < 9 by omega); omega
  obtain ⟨s, hs⟩ : ∃ s : Nat, r1 + 9 = (s : Nat) := ⟨(r1 + 9).toNat, by omega⟩
  obtain ⟨q, hqq⟩ : ∃ q, q = s % 9 := ⟨_, rfl⟩
  have hq9 : q < 9 := by omega
  have hqi : (s : Int) % 9 = (q : Nat) := by omega
  have hqt : (s : Int).tmod 9 = (q : Nat) := by rw [Int.tmod_eq_emod_of_nonneg (by omega)]; exact hqi
  have hsb : s ≤ 18 := by omega
  have o0 : (w.alloc (.cells #[.int .i64 o.k, .int .u64 (o.c.fr : Nat), .int .i64 o.c.len, .bool o.c.fin, .int .i64 o.c.flow, .int .u32 o.c.en, .int .i64 o.c.sent, .int .i64 o.c.tries, .bool o.c.came, .bool o.c.lost, .int .i64 o.wt] 32)).cell? ⟨w.heap.size, 0, none⟩ = some (.int .i64 o.k) := by rw [k1.cell]; rfl
  clear h hq hr hlm hm hok ho hb1 k2 hb2 hz hnl hqq hv2 hk HK o0 k1
  go_enter Try.func7, Try.ntmps7
  go_upto_region 3 with fail
  obtain ⟨X, hX⟩ : ∃ X, X = w.heap.size + 1 := ⟨_, rfl⟩
  rw [← hX] at KX
  try simp only [← hX]
  clear hX
  generalize (w.alloc (.cells #[.int .i64 o.k, .int .u64 (o.c.fr : Nat), .int .i64 o.c.len, .bool o.c.fin, .int .i64 o.c.flow, .int .u32 o.c.en, .int .i64 o.c.sent, .int .i64 o.c.tries, .bool o.c.came, .bool o.c.lost, .int .i64 o.wt] 32)).alloc (.cells #[.int .u64 (o.c.fr : Nat), .int .i64 o.c.len, .bool o.c.fin, .int .i64 o.c.flow, .int .u32 o.c.en, .int .i64 o.c.sent, .int .i64 o.c.tries, .bool o.c.came, .bool o.c.lost] 30) = w2 at *
  obtain ⟨b0, b1, b2, b3, b4, b5, b6, b7, b8⟩ := ckb (c := o.c) KX.out
  obtain ⟨o0, o1, o2, o3, o4, o5, o6, o7, o8, o9, o10⟩ := opb (o := o) KO.out
  go_upto_region 4 with fail
  clear hr1 hr1a hr1b hs hqi hqt hsb hki
  by_cases h4 : q = 4
  · subst h4
    go_wp2_with fail
    refine (rack_any A n c l o.c.fr w2 HR.out HN64.out HOKL.out).mono ?_
    rintro e w3 ⟨v1, v2, rfl, q1, q2, hb3⟩
    have F3 := Lib.hid (F2.out.into hb3)
    have Q1 := Lib.hid (own_mono q1 HBW.out)
    have Q2 := Lib.hid q2
    have P3 := Lib.hid (P2.out.trans (Kp.of (B := B) (g := g) hb3))
    have X3 := Lib.hid (KX.out.below hb3 KX.out.lt)
    have O3 := Lib.hid (KO.out.below hb3 KO.out.lt)
    clear q1 q2 hb3 F2 P2 KX KO b0 b1 b2 b3 b4 b5 b6 b7 b8 o0 o1 o2 o3 o4 o5 o6 o7 o8 o9 o10 HR
    obtain ⟨b0, b1, b2, b3, b4, b5, b6, b7, b8⟩ := ckb (c := o.c) X3.out
    obtain ⟨o0, o1, o2, o3, o4, o5, o6, o7, o8, o9, o10⟩ := opb (o := o) O3.out
    clear o0 o1 o2 o3 o4 o5 o6 o7 o8 o9
    go_wp2_with fail
    refine (fl_acked B g many l o.c.fr w3 F3.out HL64.out HOKL.out).mono ?_
    rintro e w4 ⟨v, rfl, f4, q4, k4⟩
    obtain ⟨csg, hcsg⟩ := F3.out.blk
    have F4 := Lib.hid f4
    have Q14 := Lib.hid (k4.own hcsg Q1.out)
    have Q24 := Lib.hid (k4.own hcsg Q2.out)
    have P4 := Lib.hid (P3.out.trans k4)
    obtain ⟨A4, n4, c4, rfl, _, _, hn4, R4⟩ := own_open2 q4
    have HL4 := Lib.hid (show n4 ≤ 64 by have h1 := akG_le (to := o.c.fr) (l := l); have h2 := HL64.out; have h3 := hn4.out; omega)
    clear f4 q4 k4 hcsg F3 Q1 Q2 P3 X3 O3 b0 b1 b2 b3 b4 b5 b6 b7 b8 o10
    go_wp2_with fail
    refine (lplain_any A4 n4 c4 (akG o.c.fr l) w4 R4.out (by have := HL4.out; omega)).mono ?_
    rintro e w5 ⟨v5, rfl, q5, hb5⟩
    have F5 := Lib.hid (F4.out.into hb5)
    have Q15 := Lib.hid (own_below Q14.out hb5 fun g hg => (Q14.out.lt g hg).2)
    have Q25 := Lib.hid (own_below Q24.out hb5 fun g hg => (Q24.out.lt g hg).2)
    have P5 := Lib.hid (P4.out.trans (Kp.of (B := B) (g := g) hb5))
    obtain ⟨A5, n5, c5, rfl, _, _, hn5, R5⟩ := own_open3 q5
    obtain ⟨A6, n6, c6, rfl, _, _, hn6, R6⟩ := own_open3 Q25.out
    have HL5 := Lib.hid (show n5 ≤ 100 by have := hn5.out; have := hn4.out; have := HL4.out; omega)
    clear q5 hb5 F4 Q14 Q24 P4 R4
    go_wp2_with fail
    refine (rsame_any A5 A6 n5 c5 n6 c6 (akG o.c.fr l) w5 R5.out R6.out HL5.out).mono ?_
    rintro e w6 ⟨rfl, hb6⟩
    have F6 := Lib.hid (F5.out.into hb6)
    have Q16 := Lib.hid (own_below Q15.out hb6 fun g hg => (Q15.out.lt g hg).2)
    have P6 := Lib.hid (P5.out.trans (Kp.of (B := B) (g := g) hb6))
    obtain ⟨A7, n7, c7, rfl, _, _, hn7, R7⟩ := own_open3 Q16.out
    clear hb6 F5 Q15 Q25 P5 R5 R6
    go_wp2_with fail
    go_ret2
    exact ⟨A7, n7, c7, (akK o.c.fr l), rfl, F6.out, by have := Q16.out; rw [hn7.out] at this; exact this, Nat.le_trans akK_le HLM.out, ok_akK HOKL.out, P6.out⟩
  by_cases h5 : q = 5
  · subst h5
    go_wp2_with fail
    refine (rmark1 A n c l o.c.flow o.c.en w2 HCO.out.en HR.out HN64.out HOKL.out).mono ?_
    rintro e w3 ⟨v1, v2, rfl, q1, q2, hb3⟩
    have F3 := Lib.hid (F2.out.into hb3)
    have Q1 := Lib.hid (own_mono q1 HBW.out)
    have Q2 := Lib.hid q2
    have P3 := Lib.hid (P2.out.trans (Kp.of (B := B) (g := g) hb3))
    have X3 := Lib.hid (KX.out.below hb3 KX.out.lt)
    have O3 := Lib.hid (KO.out.below hb3 KO.out.lt)
    clear q1 q2 hb3 F2 P2 KX KO b0 b1 b2 b3 b4 b5 b6 b7 b8 o0 o1 o2 o3 o4 o5 o6 o7 o8 o9 o10 HR
    obtain ⟨b0, b1, b2, b3, b4, b5, b6, b7, b8⟩ := ckb (c := o.c) X3.out
    obtain ⟨o0, o1, o2, o3, o4, o5, o6, o7, o8, o9, o10⟩ := opb (o := o) O3.out
    clear o0 o1 o2 o3 o4 o5 o6 o7 o8 o9
    go_wp2_with fail
    refine (fl_word B g many l o.c.flow o.c.en w3 F3.out HL64.out).mono ?_
    rintro e w4 ⟨v, rfl, f4, q4, k4⟩
    obtain ⟨csg, hcsg⟩ := F3.out.blk
    have F4 := Lib.hid f4
    have Q14 := Lib.hid (k4.own hcsg Q1.out)
    have Q24 := Lib.hid (k4.own hcsg Q2.out)
    have P4 := Lib.hid (P3.out.trans k4)
    obtain ⟨A4, n4, c4, rfl, _, _, hn4, R4⟩ := own_open2 q4
    have HL4 := Lib.hid (show n4 ≤ 64 by have h1 := mkO_le (f := fWord o.c.flow o.c.en) (g := wasCame) (l := l); have h2 := HL64.out; have h3 := hn4.out; omega)
    clear f4 q4 k4 hcsg F3 Q1 Q2 P3 X3 O3 b0 b1 b2 b3 b4 b5 b6 b7 b8 o10
    go_wp2_with fail
    refine (lplain_any A4 n4 c4 (mkO (fWord o.c.flow o.c.en) wasCame l) w4 R4.out (by have := HL4.out; omega)).mono ?_
    rintro e w5 ⟨v5, rfl, q5, hb5⟩
    have F5 := Lib.hid (F4.out.into hb5)
    have Q15 := Lib.hid (own_below Q14.out hb5 fun g hg => (Q14.out.lt g hg).2)
    have Q25 := Lib.hid (own_below Q24.out hb5 fun g hg => (Q24.out.lt g hg).2)
    have P5 := Lib.hid (P4.out.trans (Kp.of (B := B) (g := g) hb5))
    obtain ⟨A5, n5, c5, rfl, _, _, hn5, R5⟩ := own_open3 q5
    obtain ⟨A6, n6, c6, rfl, _, _, hn6, R6⟩ := own_open3 Q25.out
    have HL5 := Lib.hid (show n5 ≤ 100 by have := hn5.out; have := hn4.out; have := HL4.out; omega)
    clear q5 hb5 F4 Q14 Q24 P4 R4
    go_wp2_with fail
    refine (rsame_any A5 A6 n5 c5 n6 c6 (mkO (fWord o.c.flow o.c.en) wasCame l) w5 R5.out R6.out HL5.out).mono ?_
    rintro e w6 ⟨rfl, hb6⟩
    have F6 := Lib.hid (F5.out.into hb6)
    have Q16 := Lib.hid (own_below Q15.out hb6 fun g hg => (Q15.out.lt g hg).2)
    have P6 := Lib.hid (P5.out.trans (Kp.of (B := B) (g := g) hb6))
    obtain ⟨A7, n7, c7, rfl, _, _, hn7, R7⟩ := own_open3 Q16.out
    clear hb6 F5 Q15 Q25 P5 R5 R6
    go_wp2_with fail
    go_ret2
    exact ⟨A7, n7, c7, (mkA (fWord o.c.flow o.c.en) wasCame l), rfl, F6.out, by have := Q16.out; rw [hn7.out] at this; exact this, (by rw [mkA_len]; exact HLM.out), ok_mkA HOKL.out (fun c => ok_came), P6.out⟩
  by_cases h6 : q = 6
  · subst h6
    go_wp2_with fail
    refine (rmark2 A n c l o.c.flow o.c.sent o.wt w2 HCO.out.sent HR.out HN64.out HOKL.out).mono ?_
    rintro e w3 ⟨v1, v2, rfl, q1, q2, hb3⟩
    have F3 := Lib.hid (F2.out.into hb3)
    have Q1 := Lib.hid (own_mono q1 HBW.out)
    have Q2 := Lib.hid q2
    have P3 := Lib.hid (P2.out.trans (Kp.of (B := B) (g := g) hb3))
    have X3 := Lib.hid (KX.out.below hb3 KX.out.lt)
    have O3 := Lib.hid (KO.out.below hb3 KO.out.lt)
    clear q1 q2 hb3 F2 P2 KX KO b0 b1 b2 b3 b4 b5 b6 b7 b8 o0 o1 o2 o3 o4 o5 o6 o7 o8 o9 o10 HR
    obtain ⟨b0, b1, b2, b3, b4, b5, b6, b7, b8⟩ := ckb (c := o.c) X3.out
    obtain ⟨o0, o1, o2, o3, o4, o5, o6, o7, o8, o9, o10⟩ := opb (o := o) O3.out
    clear o0 o1 o2 o3 o4 o5 o6 o7 o8 o9
    go_wp2_with fail
    refine (fl_late B g many l o.c.flow o.c.sent o.wt w3 F3.out HL64.out HOKL.out HCO.out.sent).mono ?_
    rintro e w4 ⟨v, rfl, f4, q4, k4⟩
    obtain ⟨csg, hcsg⟩ := F3.out.blk
    have F4 := Lib.hid f4
    have Q14 := Lib.hid (k4.own hcsg Q1.out)
    have Q24 := Lib.hid (k4.own hcsg Q2.out)
    have P4 := Lib.hid (P3.out.trans k4)
    obtain ⟨A4, n4, c4, rfl, _, _, hn4, R4⟩ := own_open2 q4
    have HL4 := Lib.hid (show n4 ≤ 64 by have h1 := mkO_le (f := fLate o.c.flow o.c.sent o.wt) (g := wasLost) (l := l); have h2 := HL64.out; have h3 := hn4.out; omega)
    clear f4 q4 k4 hcsg F3 Q1 Q2 P3 X3 O3 b0 b1 b2 b3 b4 b5 b6 b7 b8 o10
    go_wp2_with fail
    refine (lplain_any A4 n4 c4 (mkO (fLate o.c.flow o.c.sent o.wt) wasLost l) w4 R4.out (by have := HL4.out; omega)).mono ?_
    rintro e w5 ⟨v5, rfl, q5, hb5⟩
    have F5 := Lib.hid (F4.out.into hb5)
    have Q15 := Lib.hid (own_below Q14.out hb5 fun g hg => (Q14.out.lt g hg).2)
    have Q25 := Lib.hid (own_below Q24.out hb5 fun g hg => (Q24.out.lt g hg).2)
    have P5 := Lib.hid (P4.out.trans (Kp.of (B := B) (g := g) hb5))
    obtain ⟨A5, n5, c5, rfl, _, _, hn5, R5⟩ := own_open3 q5
    obtain ⟨A6, n6, c6, rfl, _, _, hn6, R6⟩ := own_open3 Q25.out
    have HL5 := Lib.hid (show n5 ≤ 100 by have := hn5.out; have := hn4.out; have := HL4.out; omega)
    clear q5 hb5 F4 Q14 Q24 P4 R4
    go_wp2_with fail
    refine (rsame_any A5 A6 n5 c5 n6 c6 (mkO (fLate o.c.flow o.c.sent o.wt) wasLost l) w5 R5.out R6.out HL5.out).mono ?_
    rintro e w6 ⟨rfl, hb6⟩
    have F6 := Lib.hid (F5.out.into hb6)
    have Q16 := Lib.hid (own_below Q15.out hb6 fun g hg => (Q15.out.lt g hg).2)
    have P6 := Lib.hid (P5.out.trans (Kp.of (B := B) (g := g) hb6))
    obtain ⟨A7, n7, c7, rfl, _, _, hn7, R7⟩ := own_open3 Q16.out
    clear hb6 F5 Q15 Q25 P5 R5 R6
    go_wp2_with fail
    go_ret2
    exact ⟨A7, n7, c7, (mkA (fLate o.c.flow o.c.sent o.wt) wasLost l), rfl, F6.out, by have := Q16.out; rw [hn7.out] at this; exact this, (by rw [mkA_len]; exact HLM.out), ok_mkA HOKL.out (fun c => ok_lost), P6.out⟩
  by_cases h7 : q = 7
  · subst h7
    go_wp2_with fail
    refine (rmark3 A n c l o.c.flow w2 HR.out HN64.out HOKL.out).mono ?_
    rintro e w3 ⟨v1, v2, rfl, q1, q2, hb3⟩
    have F3 := Lib.hid (F2.out.into hb3)
    have Q1 := Lib.hid (own_mono q1 HBW.out)
    have Q2 := Lib.hid q2
    have P3 := Lib.hid (P2.out.trans (Kp.of (B := B) (g := g) hb3))
    have X3 := Lib.hid (KX.out.below hb3 KX.out.lt)
    have O3 := Lib.hid (KO.out.below hb3 KO.out.lt)
    clear q1 q2 hb3 F2 P2 KX KO b0 b1 b2 b3 b4 b5 b6 b7 b8 o0 o1 o2 o3 o4 o5 o6 o7 o8 o9 o10 HR
    obtain ⟨b0, b1, b2, b3, b4, b5, b6, b7, b8⟩ := ckb (c := o.c) X3.out
    obtain ⟨o0, o1, o2, o3, o4, o5, o6, o7, o8, o9, o10⟩ := opb (o := o) O3.out
    clear o0 o1 o2 o3 o4 o5 o6 o7 o8 o9
    go_wp2_with fail
    refine (fl_gone B g many l o.c.flow w3 F3.out HL64.out).mono ?_
    rintro e w4 ⟨v, rfl, f4, q4, k4⟩
    obtain ⟨csg, hcsg⟩ := F3.out.blk
    have F4 := Lib.hid f4
    have Q14 := Lib.hid (k4.own hcsg Q1.out)
    have Q24 := Lib.hid (k4.own hcsg Q2.out)
    have P4 := Lib.hid (P3.out.trans k4)
    obtain ⟨A4, n4, c4, rfl, _, _, hn4, R4⟩ := own_open2 q4
    have HL4 := Lib.hid (show n4 ≤ 64 by have h1 := mkO_le (f := fGone o.c.flow) (g := wasLost) (l := l); have h2 := HL64.out; have h3 := hn4.out; omega)
    clear f4 q4 k4 hcsg F3 Q1 Q2 P3 X3 O3 b0 b1 b2 b3 b4 b5 b6 b7 b8 o10
    go_wp2_with fail
    refine (lplain_any A4 n4 c4 (mkO (fGone o.c.flow) wasLost l) w4 R4.out (by have := HL4.out; omega)).mono ?_
    rintro e w5 ⟨v5, rfl, q5, hb5⟩
    have F5 := Lib.hid (F4.out.into hb5)
    have Q15 := Lib.hid (own_below Q14.out hb5 fun g hg => (Q14.out.lt g hg).2)
    have Q25 := Lib.hid (own_below Q24.out hb5 fun g hg => (Q24.out.lt g hg).2)
    have P5 := Lib.hid (P4.out.trans (Kp.of (B := B) (g := g) hb5))
    obtain ⟨A5, n5, c5, rfl, _, _, hn5, R5⟩ := own_open3 q5
    obtain ⟨A6, n6, c6, rfl, _, _, hn6, R6⟩ := own_open3 Q25.out
    have HL5 := Lib.hid (show n5 ≤ 100 by have := hn5.out; have := hn4.out; have := HL4.out; omega)
    clear q5 hb5 F4 Q14 Q24 P4 R4
    go_wp2_with fail
    refine (rsame_any A5 A6 n5 c5 n6 c6 (mkO (fGone o.c.flow) wasLost l) w5 R5.out R6.out HL5.out).mono ?_
    rintro e w6 ⟨rfl, hb6⟩
    have F6 := Lib.hid (F5.out.into hb6)
    have Q16 := Lib.hid (own_below Q15.out hb6 fun g hg => (Q15.out.lt g hg).2)
    have P6 := Lib.hid (P5.out.trans (Kp.of (B := B) (g := g) hb6))
    obtain ⟨A7, n7, c7, rfl, _, _, hn7, R7⟩ := own_open3 Q16.out
    clear hb6 F5 Q15 Q25 P5 R5 R6
    go_wp2_with fail
    go_ret2
    exact ⟨A7, n7, c7, (mkA (fGone o.c.flow) wasLost l), rfl, F6.out, by have := Q16.out; rw [hn7.out] at this; exact this, (by rw [mkA_len]; exact HLM.out), ok_mkA HOKL.out (fun c => ok_lost), P6.out⟩
  by_cases h8 : q = 8
  · subst h8
    go_upto_region 18 with fail
    refine wp_ord [(0, .pure), (1, .pure), (2, .read), (3, .pure), (4, .read), (5, .read), (6, .sole), (7, .sole), (8, .pure), (9, .pure), (10, .pure), (11, .pure), (12, .pure)] [] (by kernel_rfl) (by kernel_rfl) (fun QQ hQ wd hwd => ?_); simp only [List.map_cons, List.map_nil, List.getD_cons_zero, List.getD_cons_succ]
    have hD : Below w2.heap.size w2 wd := by rw [hwd.out]; exact (Below.refl _ _).drew
    have FD := Lib.hid (F2.out.into hD)
    have RD := Lib.hid (HR.out.into hD)
    have PD := Lib.hid (P2.out.trans (Kp.of (B := B) (g := g) hD))
    have XD := Lib.hid (KX.out.below hD KX.out.lt)
    have HBD := Lib.hid (Nat.le_trans HBW.out hD.size)
    clear hD hwd F2 HR P2 KX KO b0 b1 b2 b3 b4 b5 b6 b7 b8 o0 o1 o2 o3 o4 o5 o6 o7 o8 o9 o10
    obtain ⟨b0, b1, b2, b3, b4, b5, b6, b7, b8⟩ := ckb (c := o.c) XD.out
    (refine o_pure (v := ?_) (by rfl) (fun w' => ?_) ?_; rotate_left; (focus (go_simp; (try with_reducible rfl); (try (rw [if_pos (by omega)]; (try with_reducible rfl))))); (try simp only [Act.put, List.setIfInBounds_toArray, List.set_cons_zero, List.set_cons_succ]))
    (refine o_pure (v := ?_) (by rfl) (fun w' => ?_) ?_; rotate_left; (focus (go_simp; (try with_reducible rfl); (try (rw [if_pos (by omega)]; (try with_reducible rfl))))); (try simp only [Act.put, List.setIfInBounds_toArray, List.set_cons_zero, List.set_cons_succ]))
    (refine o_load _ (by rfl) rfl rfl (by assumption) (by kernel_rfl) ?_; simp only [Act.put, List.setIfInBounds_toArray, List.set_cons_zero, List.set_cons_succ])
    (refine o_pure (v := ?_) (by rfl) (fun w' => ?_) ?_; rotate_left; (focus (go_simp; (try with_reducible rfl); (try (rw [if_pos (by omega)]; (try with_reducible rfl))))); (try simp only [Act.put, List.setIfInBounds_toArray, List.set_cons_zero, List.set_cons_succ]))
    (refine o_load _ (by rfl) rfl rfl (by assumption) (by kernel_rfl) ?_; simp only [Act.put, List.setIfInBounds_toArray, List.set_cons_zero, List.set_cons_succ])
    (refine o_loads _ [.int .u64 (o.c.fr : Nat), .int .i64 o.c.len, .bool o.c.fin, .int .i64 o.c.flow, .int .u32 o.c.en, .int .i64 o.c.sent, .int .i64 o.c.tries, .bool o.c.came, .bool o.c.lost] (by rfl) rfl rfl (XD.out.loads 0 _ (by rfl)) (Nat.succ_pos _) (by kernel_rfl) (by kernel_rfl) ?_; simp only [Act.put, List.setIfInBounds_toArray, List.set_cons_zero, List.set_cons_succ])
    refine o_sole (fun K hK => ?_)
    go_wp2_with fail
    refine (lone_any o.c wd).mono ?_
    rintro e w3 ⟨rfl, hb3⟩
    have F3 := Lib.hid (FD.out.into hb3)
    have R3 := Lib.hid (RD.out.into hb3)
    have P3 := Lib.hid (PD.out.trans (Kp.of (B := B) (g := g) hb3))
    have X3 := Lib.hid (XD.out.below hb3 XD.out.lt)
    have HB3 := Lib.hid (Nat.le_trans HBD.out hb3.size)
    go_wp2_with fail
    refine hK _ _ (fun _ => Ext.of hb3) ?_; clear hK K
    clear hb3 FD RD PD XD HBD b0 b1 b2 b3 b4 b5 b6 b7 b8
    refine o_sole (fun K hK => ?_)
    go_wp2_with fail
    refine (rresent A n c l o.c.fr o.c.fin o.c w3 R3.out HN64.out HOKL.out).mono ?_
    rintro e w4 ⟨v1, rfl, q1, hb4⟩
    have F4 := Lib.hid (F3.out.into hb4)
    have P4 := Lib.hid (P3.out.trans (Kp.of (B := B) (g := g) hb4))
    have X4 := Lib.hid (X3.out.below hb4 X3.out.lt)
    have Q4 := Lib.hid (own_mono q1 HB3.out)
    go_wp2_with fail
    refine hK _ _ (fun _ => Ext.of hb4) ?_; clear hK K
    clear hb4 F3 R3 P3 X3 HB3 q1
    (refine o_pure (v := ?_) (by rfl) (fun w' => ?_) ?_; rotate_left; (focus (go_simp; (try with_reducible rfl); (try (rw [if_pos (by omega)]; (try with_reducible rfl))))); (try simp only [Act.put, List.setIfInBounds_toArray, List.set_cons_zero, List.set_cons_succ]))
    (refine o_pure (v := ?_) (by rfl) (fun w' => ?_) ?_; rotate_left; (focus (go_simp; (try with_reducible rfl); (try (rw [if_pos (by omega)]; (try with_reducible rfl))))); (try simp only [Act.put, List.setIfInBounds_toArray, List.set_cons_zero, List.set_cons_succ]))
    (refine o_pure (v := ?_) (by rfl) (fun w' => ?_) ?_; rotate_left; (focus (go_simp; (try with_reducible rfl); (try (rw [if_pos (by omega)]; (try with_reducible rfl))))); (try simp only [Act.put, List.setIfInBounds_toArray, List.set_cons_zero, List.set_cons_succ]))
    (refine o_pure (v := ?_) (by rfl) (fun w' => ?_) ?_; rotate_left; (focus (go_simp; (try with_reducible rfl); (try (rw [if_pos (by omega)]; (try with_reducible rfl))))); (try simp only [Act.put, List.setIfInBounds_toArray, List.set_cons_zero, List.set_cons_succ]))
    (refine o_pure (v := ?_) (by rfl) (fun w' => ?_) ?_; rotate_left; (focus (go_simp; (try with_reducible rfl); (try (rw [if_pos (by omega)]; (try with_reducible rfl))))); (try simp only [Act.put, List.setIfInBounds_toArray, List.set_cons_zero, List.set_cons_succ]))
    refine o_nil (hQ.out _ _ ?_); clear hQ QQ
    obtain ⟨b0, b1, b2, b3, b4, b5, b6, b7, b8⟩ := ckb (c := o.c) X4.out
    have RS := Lib.hid (fl_resent B g many l o.c.fr o.c.fin o.c.flow o.c.en o.c.sent o.c ⟨rfl, rfl, rfl⟩ w4 F4.out HL64.out HOKL.out)
    obtain ⟨dn, hdn⟩ : ∃ dn, dn = (reS o.c.fr o.c.fin o.c l).2 := ⟨_, rfl⟩
    rw [← hdn] at RS ⊢
    clear hdn
    go_wp2_with fail
    refine RS.out.mono ?_
    rintro e w5 ⟨rfl, f5, k5⟩
    obtain ⟨csg, hcsg⟩ := F4.out.blk
    have F5 := Lib.hid f5
    have Q5 := Lib.hid (k5.own hcsg Q4.out)
    have P5 := Lib.hid (P4.out.trans k5)
    clear f5 k5 hcsg F4 Q4 P4 X4 b0 b1 b2 b3 b4 b5 b6 b7 b8 RS
    obtain ⟨A7, c7, rfl, _, _, R7⟩ := own_form Q5.out
    have HLN := Lib.hid (reS_len o.c.fr o.c.fin o.c l)
    obtain ⟨m, hm⟩ : ∃ m, m = l.length := ⟨_, rfl⟩
    have HM := Lib.hid hm
    rw [← hm] at Q5 R7 ⊢
    clear hm
    cases dn <;> (
      go_wp2_with fail
      go_ret2
      exact ⟨A7, m, c7, (reS o.c.fr o.c.fin o.c l).1, rfl, F5.out, Q5.out, (by rw [HLN.out]; exact HLM.out), ok_reS HOKL.out HCO.out, P5.out⟩)
  have h4' : ¬ (q : Int) = 4 := by omega
  have h5' : ¬ (q : Int) = 5 := by omega
  have h6' : ¬ (q : Int) = 6 := by omega
  have h7' : ¬ (q : Int) = 7 := by omega
  have h8' : ¬ (q : Int) = 8 := by omega
  clear h4 h5 h6 h7 h8 hq9
  by_cases hfu : many ≤ n
  · have hfu' : (many : Int) ≤ (n : Int) := by omega
    have AD := Lib.hid (fl_add B g many l o.c w2 F2.out HLM.out HM64.out)
    rw [decide_eq_false (show ¬ l.length < many by have := HNL.out; omega), if_neg (show ¬ l.length < many by have := HNL.out; omega)] at AD
    go_wp2_with fail
    refine AD.out.mono ?_
    rintro e w3 ⟨rfl, f3, k3⟩
    obtain ⟨csg, hcsg⟩ := F2.out.blk
    have Q3 := Lib.hid (k3.own hcsg Q2.out)
    have P3 := Lib.hid (P2.out.trans k3)
    have F3 := Lib.hid f3
    clear f3 k3 hcsg AD F2 P2 KX KO HR Q2 b0 b1 b2 b3 b4 b5 b6 b7 b8 o0 o1 o2 o3 o4 o5 o6 o7 o8 o9 o10
    go_wp2_with fail
    go_ret2
    exact ⟨A, n, c, l, rfl, F3.out, Q3.out, HLM.out, HOKL.out, P3.out⟩
  · have hfu' : ¬ (many : Int) ≤ (n : Int) := by omega
    have AD := Lib.hid (fun w' (h : FL w' B g many l) => fl_add B g many l o.c w' h HLM.out HM64.out)
    have hlm : l.length < many := by have := HNL.out; omega
    simp only [decide_eq_true hlm, if_pos hlm] at AD
    have HLM1 := Lib.hid hlm
    clear hlm
    go_upto_region 22 with fail
    refine OB.wp_ord [(1, .pure), (3, .read), (7, .pure), (8, .read), (0, .sole), (2, .sole), (4, .sole), (5, .sole), (6, .sole), (9, .sole), (10, .pure), (11, .pure)] ⟨fun k => k < X + 1 ∧ X ≤ k, [9]⟩ (by kernel_rfl) (by kernel_rfl) (fun QQ hQ wd hwd => ?_); (try simp only [List.map_cons, List.map_nil, List.getD_cons_zero, List.getD_cons_succ])
    have hD : Below w2.heap.size w2 wd := by rw [hwd.out]; exact (Below.refl _ _).drew
    have FD := Lib.hid (F2.out.into hD)
    have RD := Lib.hid (HR.out.into hD)
    have PD := Lib.hid (P2.out.trans (Kp.of (B := B) (g := g) hD))
    have XD := Lib.hid (KX.out.below hD KX.out.lt)
    have HBD := Lib.hid (Nat.le_trans HBW.out hD.size)
    clear hD hwd F2 HR P2 KX KO b0 b1 b2 b3 b4 b5 b6 b7 b8 o0 o1 o2 o3 o4 o5 o6 o7 o8 o9 o10 Q2
    (refine OB.o_pure (v := ?_) (by rfl) (fun w' => ?_) ?_; rotate_left; (focus (go_simp; (try with_reducible rfl))); (try simp only [Act.put, List.setIfInBounds_toArray, List.set_cons_zero, List.set_cons_succ]))
    (refine OB.o_loads _ [.int .u64 (o.c.fr : Nat), .int .i64 o.c.len, .bool o.c.fin, .int .i64 o.c.flow, .int .u32 o.c.en, .int .i64 o.c.sent, .int .i64 o.c.tries, .bool o.c.came, .bool o.c.lost] (by rfl) rfl rfl (by dsimp only; first | assumption | omega) (XD.out.loads 0 _ (by rfl)) (Nat.succ_pos _) (by kernel_rfl) (by kernel_rfl) ?_; simp only [Act.put, List.setIfInBounds_toArray, List.set_cons_zero, List.set_cons_succ])
    (refine OB.o_pure (v := ?_) (by rfl) (fun w' => ?_) ?_; rotate_left; (focus (go_simp; (try with_reducible rfl))); (try simp only [Act.put, List.setIfInBounds_toArray, List.set_cons_zero, List.set_cons_succ]))
    (refine OB.o_loads _ [.int .u64 (o.c.fr : Nat), .int .i64 o.c.len, .bool o.c.fin, .int .i64 o.c.flow, .int .u32 o.c.en, .int .i64 o.c.sent, .int .i64 o.c.tries, .bool o.c.came, .bool o.c.lost] (by rfl) rfl rfl (by dsimp only; first | assumption | omega) (XD.out.loads 0 _ (by rfl)) (Nat.succ_pos _) (by kernel_rfl) (by kernel_rfl) ?_; simp only [Act.put, List.setIfInBounds_toArray, List.set_cons_zero, List.set_cons_succ])
    refine OB.o_sole (fun K hK => ?_)
    go_wp2_with fail
    have hA := (Below.refl wd.heap.size wd).alloc (Nat.le_refl _) (.cells #[] 38)
    refine hK _ _ (fun _ => OB.ExtB.at_ hA (fun k hk => by dsimp only at hk; have := XD.out.lt; omega)) ?_; clear hK K
    have O3 := Lib.hid (own_lit0 wd 38 9 HBD.out)
    have F3 := Lib.hid (FD.out.into hA)
    have R3 := Lib.hid (RD.out.into hA)
    have P3 := Lib.hid (PD.out.trans (Kp.of (B := B) (g := g) hA))
    have X3 := Lib.hid (XD.out.below hA XD.out.lt)
    have HB3 := Lib.hid (Nat.le_trans HBD.out hA.size)
    obtain ⟨y, hy⟩ : ∃ y, y = wd.heap.size := ⟨_, rfl⟩
    have HXy := Lib.hid (show X < y by rw [hy]; exact XD.out.lt)
    have HFy := Lib.hid (show g < y by rw [hy]; exact FD.out.lt)
    have HWy := Lib.hid (show w.heap.size ≤ y by rw [hy]; exact PD.out.size)
    have Ky := Lib.hid (show Blk (wd.alloc (.cells #[] 38)) y 38 #[] by rw [hy]; exact Blk.new _ _ _)
    rw [← hy] at O3 ⊢
    have HYS := Lib.hid (show y + 1 = (wd.alloc (.cells #[] 38)).heap.size by rw [hy]; simp)
    have HOy := Lib.hid (show (wd.alloc (.cells #[] 38)).ownsRow y 38 9 (.slice (some ⟨y, 0, none⟩) 0 0) 0 [] by rw [hy]; exact own_lit0 wd 38 9 (Nat.le_refl _))
    clear hA hy FD RD PD XD HBD
    generalize wd.alloc (.cells #[] 38) = w3 at *
    have hroom3 : (0 + n) * 64 ≤ room := room_ge (by have := HN64.out; omega)
    have CONE3 := Lib.hid (chs_one l)
    have hBy : y ≤ w3.heap.size := by have := HYS.out; omega
    refine OB.o_sole (fun K hK => ?_)
    go_wp2_with (at_builtin; refine app fcEl rfl _ _ rfl rfl HOy.out rfl R3.out CONE3.out hroom3 hBy ?_)
    intro v4 w4 ho4 hg4 hb4
    have hB4 : Below y w3 w4 := hb4
    refine hK _ _ (fun _ => OB.ExtB.at_ hB4 (fun k hk => by dsimp only at hk; have := HXy.out; omega)) ?_; clear hK K
    have F4 := Lib.hid (F3.out.far HOy.out (by decide) (by decide) hg4)
    have P4 := Lib.hid (P3.out.grownNew hg4 (fun k hk => by have := (HOy.out.lt k hk).1; have := HWy.out; omega))
    have X4 := Lib.hid (X3.out.far2 HOy.out (by decide) hg4)
    have O4 := Lib.hid ho4
    have HX4 := Lib.hid X4.out.lt
    have HY4 := Lib.hid hb4.size
    clear ho4 hg4 hb4 hB4 F3 P3 X3 R3 Ky HOy O3 HB3 hroom3 CONE3
    refine OB.o_sole (fun K hK => ?_)
    go_wp2_with fail
    refine (lone_any o.c w4).mono ?_
    rintro e w5 ⟨rfl, hb5⟩
    have F5 := Lib.hid (F4.out.into hb5)
    have P5 := Lib.hid (P4.out.trans (Kp.of (B := B) (g := g) hb5))
    have X5 := Lib.hid (X4.out.below hb5 X4.out.lt)
    have O5 := Lib.hid (own_below O4.out hb5 fun g hg => (O4.out.lt g hg).2)
    have HS5 := Lib.hid hb5.size
    go_wp2_with fail
    refine hK _ _ (fun _ => OB.ExtB.at_ hb5 (fun k hk => by dsimp only at hk; have := HX4.out; omega)) ?_; clear hK K
    clear hb5 F4 P4 X4 O4 HX4
    have HX5 := Lib.hid X5.out.lt
    refine OB.o_sole (fun K hK => ?_)
    go_wp2_with fail
    have hA := (Below.refl w5.heap.size w5).alloc (Nat.le_refl _) (.cells #[.int .u64 (o.c.fr : Nat), .int .i64 o.c.len, .bool o.c.fin, .int .i64 o.c.flow, .int .u32 o.c.en, .int .i64 o.c.sent, .int .i64 o.c.tries, .bool o.c.came, .bool o.c.lost] 38)
    refine hK _ _ (fun _ => OB.ExtB.at_ hA (fun k hk => by dsimp only at hk; have := HX5.out; omega)) ?_; clear hK K
    have F6 := Lib.hid (F5.out.into hA)
    have P6 := Lib.hid (P5.out.trans (Kp.of (B := B) (g := g) hA))
    have X6 := Lib.hid (X5.out.below hA X5.out.lt)
    have O6 := Lib.hid (own_below O5.out hA fun g hg => (O5.out.lt g hg).2)
    have N6 := Lib.hid (Rd.made (n := 1) (size := 9) w5 38 #[.int .u64 (o.c.fr : Nat), .int .i64 o.c.len, .bool o.c.fin, .int .i64 o.c.flow, .int .u32 o.c.en, .int .i64 o.c.sent, .int .i64 o.c.tries, .bool o.c.came, .bool o.c.lost] rfl)
    obtain ⟨xb, hxb⟩ : ∃ x, x = w5.heap.size := ⟨_, rfl⟩
    rw [← hxb] at N6 ⊢
    have HX6 := Lib.hid X6.out.lt
    have HS6 := Lib.hid (show w4.heap.size ≤ (w5.alloc (.cells #[.int .u64 (o.c.fr : Nat), .int .i64 o.c.len, .bool o.c.fin, .int .i64 o.c.flow, .int .u32 o.c.en, .int .i64 o.c.sent, .int .i64 o.c.tries, .bool o.c.came, .bool o.c.lost] 38)).heap.size from Nat.le_trans HS5.out hA.size)
    clear hA hxb F5 P5 X5 O5 HX5
    generalize w5.alloc (.cells #[.int .u64 (o.c.fr : Nat), .int .i64 o.c.len, .bool o.c.fin, .int .i64 o.c.flow, .int .u32 o.c.en, .int .i64 o.c.sent, .int .i64 o.c.tries, .bool o.c.came, .bool o.c.lost] 38) = w6 at *
    have hroom6 : (n + 1) * 64 ≤ room := room_ge (by have := HN64.out; omega)
    have HONE := Lib.hid (chk_one o.c)
    have hBw : y ≤ w6.heap.size := by have := HYS.out; have := HY4.out; have := HS6.out; omega
    refine OB.o_sole (fun K hK => ?_)
    go_wp2_with (at_builtin; refine app2 fcEl rfl _ _ rfl rfl O6.out (by decide) rfl N6.out HONE.out hroom6 hBw ?_)
    intro v7 w7 ho7 hg7 hn7
    have hB7 : Below y w6 w7 := (Below.refl _ _).grown hg7 hBw (fun k hk => (O6.out.lt k hk).1)
    refine hK _ _ (fun _ => OB.ExtB.at_ hB7 (fun k hk => by dsimp only at hk; have := HXy.out; omega)) ?_; clear hK K
    have F7 := Lib.hid (F6.out.far O6.out (by decide) (by decide) hg7)
    have P7 := Lib.hid (P6.out.grownNew hg7 (fun k hk => by have := (O6.out.lt k hk).1; have := HWy.out; omega))
    have Q7 : Hid (w7.ownsRow B 38 9 v7 (n + 1) (chs (l ++ [o.c]))) := Lib.hid (by
      have h := own_mono ho7 (show B ≤ y from Nat.le_trans F6.out.hB (Nat.le_of_lt HFy.out))
      rw [chs_snoc]
      exact h)
    clear ho7 hg7 hn7 hB7 F6 P6 X6 O6 N6 hroom6 HONE hBw HX6
    refine OB.o_sole (fun K hK => ?_)
    go_wp2_with fail
    refine (AD.out w7 F7.out).mono ?_
    rintro e w8 ⟨rfl, f8, k8⟩
    obtain ⟨csg, hcsg⟩ := F7.out.blk
    have F8 := Lib.hid f8
    have Q8 := Lib.hid (k8.own hcsg Q7.out)
    have P8 := Lib.hid (P7.out.trans k8)
    clear f8 k8 hcsg F7 Q7 P7 AD
    go_wp2_with fail
    refine hK _ _ (fun h => by cases h) ?_; clear hK K
    (refine OB.o_pure (v := ?_) (by rfl) (fun w' => ?_) ?_; rotate_left; (focus (go_simp; (try with_reducible rfl))); (try simp only [Act.put, List.setIfInBounds_toArray, List.set_cons_zero, List.set_cons_succ]))
    (refine OB.o_pure (v := ?_) (by rfl) (fun w' => ?_) ?_; rotate_left; (focus (go_simp; (try with_reducible rfl))); (try simp only [Act.put, List.setIfInBounds_toArray, List.set_cons_zero, List.set_cons_succ]))
    refine OB.o_nil (hQ.out _ _ ?_); clear hQ QQ
    obtain ⟨A9, c9, rfl, _, _, R9⟩ := own_form Q8.out
    go_wp2_with fail
    go_ret2
    exact ⟨A9, n + 1, c9, l ++ [o.c], rfl, F8.out, Q8.out, (by rw [List.length_append]; have := HLM1.out; simp; omega), (fun c hc => by
      rcases List.mem_append.1 hc with hc | hc
      · exact HOKL.out c hc
      · simp at hc; subst hc; exact HCO.out), P8.out⟩
end Go.Proofs.Ytbipcnboammpeaa
