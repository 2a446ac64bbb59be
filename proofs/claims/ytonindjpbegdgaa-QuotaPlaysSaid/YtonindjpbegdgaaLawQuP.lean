/- Layer 39: the law QuotaPlays answers true, and nothing that was there has turned. -/
import Derived.Test.YtonindjpbegdgaaQur4
import Derived.Test.YtonindjpbegdgaaLawQuB
namespace Go.Proofs.Ytonindjpbegdgaa
open Go.RowKit
set_option linter.unusedVariables false
set_option linter.unusedSimpArgs false
theorem RQ.tw {w w' : World} {A : Option Addr} {n c g mb all each : Nat} {L M : Ql} (h : RQ w A n c L) (ht : Tw g mb w w') (hp : PoolW w g mb all each M) : RQ w' A n c L := by
  have hne : ∀ a, A = some a → 0 < n → w'.heap[a.block]? = w.heap[a.block]? ∧ a.block < w.heap.size := by
    intro a ha hn
    obtain ⟨cs, hk⟩ := h.2.2.2 a ha hn
    refine ⟨ht.same _ hk.lt ?_ (hp.map.ne hk), hk.lt⟩
    intro e
    have h1 := hp.blk
    unfold Blk at h1 hk
    rw [← e, hk] at h1
    injection h1 with h1
    injection h1 with _ h1
    exact absurd h1 (by decide)
  refine ⟨⟨h.1.1, fun hn => ?_⟩, h.2.1, h.2.2.1, fun a ha hn => ?_⟩
  · obtain ⟨b, off, e, hb, hc⟩ := h.1.2 hn
    have := hne _ e hn
    exact ⟨b, off, e, Nat.lt_of_lt_of_le hb ht.size, fun j hj => (World.cell?_of_block (a := ⟨b, off + j, none⟩) this.1).trans (hc j hj)⟩
  · obtain ⟨cs, hk⟩ := h.2.2.2 a ha hn
    exact ⟨cs, (hne a ha hn).1.trans hk⟩
theorem RQ.so {w w' : World} {A : Option Addr} {n c T : Nat} {L : Ql} {cs : Array Value} (h : RQ w A n c L) (hk : Blk w T 27 cs) (hs : Solo T w w') : RQ w' A n c L := by
  refine h.solo hs fun a ha hn e => ?_
  obtain ⟨cs2, hk2⟩ := h.2.2.2 a ha hn
  unfold Blk at hk hk2
  rw [e, hk] at hk2
  injection hk2 with h1
  injection h1 with _ h1
  exact absurd h1 (by decide)
theorem Tw.of_solo {g mb T : Nat} {w w' : World} {all each : Nat} {L : Ql} (hp : PoolW w g mb all each L) (hs : Solo T w w') (hg : T ≠ g) (hm : T ≠ mb) : PoolW w' g mb all each L := ⟨hs.blk hp.blk (fun e => hg e.symm), hp.map.same (hs.2.2 _ (fun e => hm e.symm))⟩
def SPrt (all each : Nat) (L : Ql) (k : Nat) : GH.SP false := ⟨fun v w => ∃ A n c, v = .tuple #[RPv all each A n c, .int .i64 (k : Nat)] ∧ RQ w A n c L, fun B' v w w' h hb => by
  obtain ⟨A, n, c, h1, h2⟩ := h
  exact ⟨A, n, c, h1, ⟨hb.rd h2.1, h2.2.1, h2.2.2.1, fun a ha hn => by obtain ⟨cs, hk⟩ := h2.2.2.2 a ha hn; exact ⟨cs, (hb.block rfl _ hk.lt).trans hk⟩⟩⟩⟩
def frP (all each : Nat) (b : Int) : Nat := frN all each b
set_option maxRecDepth 20000 in
set_option maxHeartbeats 4000000 in
theorem quotaPlays_walk (a b : Int) (A : Option Addr) (n c : Nat) (l : List Op4) (w : World) (ha : (Lit.int .i64 a).wf = true) (hb : (Lit.int .i64 b).wf = true) (hr : Rd w w.heap.size 4 A n (op4s l)) (hnc : n ≤ c) (hc : c ≤ maxLen) (hl : ∀ p ∈ l, I64 p.k ∧ I64 p.a ∧ I64 p.b ∧ I64 p.n) :
    Calls Try.prog 3 #[.int .i64 a, .int .i64 b, .slice A n c] w fun e w' => e = .returned (.bool true) ∧ Below w.heap.size w w' := by
  have HR := Lib.hid hr
  have HL := Lib.hid hl
  unfold maxLen at hc
  have HNW := Lib.hid (qu_new a b w ha hb)
  have HRN := Lib.hid (fun w' => rq_new a b w' ha hb)
  have hall := clN_le (show 0 ≤ 1073741824 by omega) a
  have heach := clN_le (show 0 ≤ 1073741824 by omega) b
  obtain ⟨all, hal⟩ : ∃ x, x = clN 0 1073741824 a := ⟨_, rfl⟩
  obtain ⟨each, hea⟩ : ∃ x, x = clN 0 1073741824 b := ⟨_, rfl⟩
  rw [← hal] at HNW HRN hall
  rw [← hea] at HNW HRN heach
  clear hr hl ha hb hal hea
  by_cases h6 : 100 < n
  · have h6' : (100 : Int) < (n : Int) := by omega
    go_enter Try.func3, Try.ntmps3
    go_wp2_with fail
    refine HNW.out.mono ?_
    rintro e w2 ⟨rfl, h2, b2⟩
    have B2 := Lib.hid b2
    clear h2 b2
    go_wp2_with fail
    go_ret
    exact ⟨rfl, B2.out⟩
  have h6' : ¬ (100 : Int) < (n : Int) := by omega
  have hn : n ≤ 100 := by omega
  go_enter Try.func3, Try.ntmps3
  go_wp2_with fail
  refine HNW.out.mono ?_
  rintro e w2 ⟨rfl, h2, b2⟩
  have P2 := Lib.hid h2
  have B2 := Lib.hid b2
  clear h2 b2 h6 h6' HNW
  go_wp2_with fail
  refine (HRN.out w2).mono ?_
  rintro e w3 ⟨rfl, b3⟩
  unfold RPv
  have P3 := Lib.hid (P2.out.into b3)
  have B3 := Lib.hid (B2.out.trans (b3.mono B2.out.size))
  clear b3 P2 B2 HRN
  go_wp2_with fail
  have K4 := Lib.hid (Blk.new w3 27 #[.int .i64 (all : Nat), .int .i64 (each : Nat), .slice none 0 0])
  have hb4 := (Below.refl w3.heap.size w3).alloc (Nat.le_refl _) (.cells #[.int .i64 (all : Nat), .int .i64 (each : Nat), .slice none 0 0] 27)
  have P4 := Lib.hid (P3.out.into hb4)
  have B4 := Lib.hid (B3.out.trans (hb4.mono B3.out.size))
  obtain ⟨X, hX⟩ : ∃ X, X = w3.heap.size := ⟨_, rfl⟩
  have HXG := Lib.hid (show w.heap.size + 2 ≤ X by have := P3.out.blk.lt; rw [hX]; omega)
  rw [← hX] at K4 hb4 ⊢
  clear hb4 P3 B3
  generalize w3.alloc (.cells #[.int .i64 (all : Nat), .int .i64 (each : Nat), .slice none 0 0] 27) = w4 at K4 P4 B4 ⊢
  clear hX
  have RZ := Lib.hid (RQ.nil w4)
  have Q4 := Lib.hid (show QB all each [] from ⟨hall, heach, Nat.zero_le _, fun _ => Nat.zero_le _, by simp⟩)
  go_loopw [9, 10, 11, 12, 13] (fun iv ov okv nv fv wr => ∃ (i : Nat) (L : Ql) (A2 : Option Addr) (n2 c2 : Nat), i ≤ n ∧ iv = .int .i64 (i : Nat) ∧ Hid (PoolW wr (w.heap.size + 1) w.heap.size all each L) ∧ Hid (QB all each L) ∧ Hid (L.length ≤ 2 * i) ∧ Hid (Blk wr X 27 #[.int .i64 (all : Nat), .int .i64 (each : Nat), .slice A2 n2 c2]) ∧ Hid (RQ wr A2 n2 c2 L) ∧ Hid (Below w.heap.size w wr)) (fun iv _ _ _ _ _ => n - (intOf iv).toNat)
  case atStart => exact ⟨0, [], none, 0, 0, Nat.zero_le _, rfl, P4, Q4, Lib.hid (by simp), K4, RZ, B4⟩
  case round =>
    clear P4 Q4 K4 RZ B4
    obtain ⟨i, L, A2, n2, c2, hi, rfl, HP, HQ, HLEN, HK, HRQ, BB⟩ := hrel
    by_cases hlt : i < n
    · have hlt' : (i : Int) < (n : Int) := by omega
      obtain ⟨ab, ao, k, oa, ob, y, hA, hab, p0, p1, p2, p3, hp⟩ := HR.out.op4 hlt
      subst hA
      have hxy := HL.out _ (List.mem_of_getElem? hp.out)
      have HIK := Lib.hid hxy.1
      have HIA := Lib.hid hxy.2.1
      have HIB := Lib.hid hxy.2.2.1
      have HIN := Lib.hid hxy.2.2.2
      have p0 := (BB.out.cell (p := ⟨ab, ao + i * 4, none⟩) hab).trans p0
      have p1 := (BB.out.cell (p := ⟨ab, ao + i * 4 + 1, none⟩) hab).trans p1
      have p2 := (BB.out.cell (p := ⟨ab, ao + i * 4 + 2, none⟩) hab).trans p2
      have p3 := (BB.out.cell (p := ⟨ab, ao + i * 4 + 3, none⟩) hab).trans p3
      have hi0 : ¬ (i : Int) < 0 := by omega
      have hkb := HIK.out
      unfold I64 at hkb
      obtain ⟨r1, hr1⟩ : ∃ r1 : Int, k.tmod 7 = r1 := ⟨_, rfl⟩
      have hr1a : r1 < 7 := by rw [← hr1]; exact Int.tmod_lt_of_pos k (by omega)
      have hr1b : -7 < r1 := by rw [← hr1]; have := Int.lt_tmod_of_pos k (show (0 : Int) < 7 by omega); omega
      obtain ⟨s, hs⟩ : ∃ s : Nat, r1 + 7 = (s : Nat) := ⟨(r1 + 7).toNat, by omega⟩
      obtain ⟨q, hq⟩ : ∃ q, q = s % 7 := ⟨_, rfl⟩
      have hq7 : q < 7 := by omega
      have hqi : (s : Int) % 7 = (q : Nat) := by omega
      have hqt : (s : Int).tmod 7 = (q : Nat) := by rw [Int.tmod_eq_emod_of_nonneg (by omega)]; exact hqi
      have hsb : s ≤ 14 := by omega
      have hqd := HP.out.qd
      have HQD := Lib.hid hqd
      have hl8 : L.length ≤ 200 := by have := HLEN.out; omega
      have HL8 := Lib.hid hl8
      clear hp hab hxy hkb hqd hl8 hq
      go_upto_region 9 with fail
      have KO := Lib.hid (Blk.new wr 30 #[.int .i64 k, .int .i64 oa, .int .i64 ob, .int .i64 y])
      have hb5 := (Below.refl wr.heap.size wr).alloc (Nat.le_refl _) (.cells #[.int .i64 k, .int .i64 oa, .int .i64 ob, .int .i64 y] 30)
      have HP5 := Lib.hid (HP.out.into hb5)
      have HK5 := Lib.hid (Blk.below HK.out hb5 HK.out.lt)
      have HR5 := Lib.hid (HRQ.out.into hb5)
      have B5 := Lib.hid (BB.out.trans (hb5.mono BB.out.size))
      obtain ⟨O, hO⟩ : ∃ O, O = wr.heap.size := ⟨_, rfl⟩
      have HOX := Lib.hid (show X < O by rw [hO]; exact HK.out.lt)
      rw [← hO] at KO ⊢
      clear hb5 p0 p1 p2 p3 HP HK HRQ BB
      generalize wr.alloc (.cells #[.int .i64 k, .int .i64 oa, .int .i64 ob, .int .i64 y] 30) = w5 at KO HP5 HK5 HR5 B5 ⊢
      clear hO
      obtain ⟨m0, m1, m2, m3⟩ := ptc4 KO.out
      obtain ⟨x0, x1, x2⟩ := ptc3 HK5.out
      have f0 := HK5.out.frozen 0
      have f1 := HK5.out.frozen 1
      have f2 := HK5.out.frozen 2
      go_upto_region 10 with fail
      rename_i K0 a0
      have A0 := Lib.hid a0
      clear a0
      go_wp2_with fail
      refine A0.out _ _ ?_
      clear A0
      go_cut [11, 12, 180] from 35 (fun okv nv zv wc => zv = undef ∧ ∃ (L9 : Ql) (A9 : Option Addr) (n9 c9 : Nat), Hid (PoolW wc (w.heap.size + 1) w.heap.size all each L9) ∧ Hid (QB all each L9) ∧ Hid (L9.length ≤ 2 * (i + 1)) ∧ Hid (Blk wc X 27 #[.int .i64 (all : Nat), .int .i64 (each : Nat), .slice A9 n9 c9]) ∧ Hid (RQ wc A9 n9 c9 L9) ∧ Hid (Blk wc O 30 #[.int .i64 k, .int .i64 oa, .int .i64 ob, .int .i64 y]) ∧ Hid (Below w.heap.size w wc))
      case rest =>
        clear m0 m1 m2 m3 x0 x1 x2 f0 f1 f2 HP5 HK5 HR5 B5 KO HQ HLEN HL8 HQD HIK HIN
        obtain ⟨rfl, L9, A9, n9, c9, HP9, Q9, LN9, HK9, HR9, KO9, B9⟩ := hcut
        obtain ⟨w9, hw9⟩ : ∃ w9, w9 = wc := ⟨_, rfl⟩
        subst hw9
        go_upto_region 27 with fail
        rename_i K1 a1
        have A1 := Lib.hid a1
        clear a1
        go_wp2_with fail
        refine A1.out _ _ ?_
        clear A1
        refine wp_seq_k fun K2 h2 => ?_
        obtain ⟨va, hva⟩ : ∃ va, va = ofQ L9 oa := ⟨_, rfl⟩
        obtain ⟨vb, hvb⟩ : ∃ vb, vb = ofQ L9 ob := ⟨_, rfl⟩
        obtain ⟨vu, hvu⟩ : ∃ vu, vu = usedQ L9 := ⟨_, rfl⟩
        have HVA := Lib.hid hva
        have HVB := Lib.hid hvb
        have HVU := Lib.hid hvu
        clear hva hvb hvu
        obtain ⟨n0, n1, n2', n3⟩ := ptc4 KO9.out
        obtain ⟨y0, y1, y2⟩ := ptc3 HK9.out
        obtain ⟨f, hf⟩ : ∃ f, f = frN all each ob := ⟨_, rfl⟩
        have HFF := Lib.hid hf
        clear hf
        have H2 := Lib.hid h2
        clear h2
        go_cut [13, 180] from 35 (fun fv zv wd => fv = .int .i64 (f : Nat) ∧ zv = undef ∧ wd = w9)
        case first =>
          by_cases hob : ob < 1
          · have hob' : ¬ 0 < ob := by omega
            have hfr : f = 0 := by rw [HFF.out]; unfold frN; rw [if_pos hob]
            subst hfr
            clear hob
            go_wp2_with fail
            go_meet
            case rel => exact ⟨rfl, rfl, rfl⟩
          · have hob' : 0 < ob := by omega
            obtain ⟨bn, hbn⟩ : ∃ bn : Nat, ob = (bn : Int) := ⟨ob.toNat, by omega⟩
            have hbz : ¬ ob = 0 := by omega
            obtain ⟨z, hz⟩ : ∃ z, z = all / bn := ⟨_, rfl⟩
            have hzb : z ≤ all := by rw [hz]; exact Nat.div_le_self _ _
            have hzi : (all : Int) / ob = (z : Nat) := by rw [hz, hbn]; push_cast; rfl
            have hzt : (all : Int).tdiv ob = (z : Nat) := by rw [Int.tdiv_eq_ediv_of_nonneg (by omega)]; exact hzi
            have hfz : f = min z each := by rw [HFF.out]; unfold frN; rw [if_neg (by omega), hz, hbn]; rfl
            clear hbn hz hob
            by_cases hez : each < z
            · have hez' : (each : Int) < (z : Int) := by omega
              have hfr : f = each := by omega
              clear hfz
              subst hfr
              go_wp2_with fail
              go_meet
              case rel => exact ⟨rfl, rfl, rfl⟩
            · have hez' : ¬ (each : Int) < (z : Int) := by omega
              have hfr : f = z := by omega
              clear hfz
              subst hfr
              go_wp2_with fail
              go_meet
              case rel => exact ⟨rfl, rfl, rfl⟩
        case rest =>
          obtain ⟨rfl, rfl, hwc⟩ := hcut
          have hwc := hwc.symm
          subst hwc
          have h2 := H2.out
          clear H2
          have CO := Lib.hid (fun w' (hb : Below w9.heap.size w9 w') => (qu_of (w.heap.size + 1) w.heap.size all each L9 oa w' (HP9.out.into hb) HIA.out).mono (fun e w'' h => (show e = .returned (.int .i64 (va : Nat)) ∧ Below w'.heap.size w' w'' from ⟨by rw [HVA.out]; exact h.1, by rw [h.2]; exact Below.refl _ _⟩)))
          have CO2 := Lib.hid (fun w' (hb : Below w9.heap.size w9 w') => (qu_of (w.heap.size + 1) w.heap.size all each L9 ob w' (HP9.out.into hb) HIB.out).mono (fun e w'' h => (show e = .returned (.int .i64 (vb : Nat)) ∧ Below w'.heap.size w' w'' from ⟨by rw [HVB.out]; exact h.1, by rw [h.2]; exact Below.refl _ _⟩)))
          have CR := Lib.hid (fun w' (hb : Below w9.heap.size w9 w') => rq_of all each A9 n9 c9 L9 oa w' (HR9.out.into hb) (by have := LN9.out; omega))
          have CR2 := Lib.hid (fun w' (hb : Below w9.heap.size w9 w') => rq_of all each A9 n9 c9 L9 ob w' (HR9.out.into hb) (by have := LN9.out; omega))
          have CU := Lib.hid (fun w' (hb : Below w9.heap.size w9 w') => (qu_used (w.heap.size + 1) w.heap.size all each L9 w' (HP9.out.into hb)).mono (fun e w'' h => (show e = .returned (.int .i64 (vu : Nat)) ∧ Below w'.heap.size w' w'' from ⟨by rw [HVU.out]; exact h.1, by rw [h.2]; exact Below.refl _ _⟩)))
          have CRU := Lib.hid (fun w' (hb : Below w9.heap.size w9 w') => rq_used all each A9 n9 c9 L9 w' (HR9.out.into hb) (by have := LN9.out; omega) (by have := Q9.out.used; have := Q9.out.ma; omega))
          have CN := Lib.hid (fun w' (hb : Below w9.heap.size w9 w') => (qu_owners (w.heap.size + 1) w.heap.size all each L9 w' (HP9.out.into hb)).mono (fun e w'' h => (show e = .returned (.int .i64 (n9 : Nat)) ∧ Below w'.heap.size w' w'' from ⟨by rw [← HR9.out.len]; exact h.1, by rw [h.2]; exact Below.refl _ _⟩)))
          have CF := Lib.hid (fun w' (hb : Below w9.heap.size w9 w') => qu_fair (w.heap.size + 1) w.heap.size all each L9 ob w' (HP9.out.into hb) Q9.out HIB.out)
          unfold RPv at CR CR2 CRU
          rw [← HVA.out] at CR
          rw [← HVB.out] at CR2
          rw [← HVU.out] at CRU
          rw [← HFF.out] at CF
          have BUN := Lib.hid (And.intro HP9.out (And.intro HR9.out (And.intro B9.out (And.intro Q9.out LN9.out))))
          clear HP9 HR9 B9 Q9 LN9 HIA HIB HVA HVB HVU HFF
          go_upto_region 32 with fail
          refine GH.wp_ghl2 (M := false) 43 ((GH.SP.eq (.pointer (some ⟨w.heap.size + 1, 0, none⟩))) :: (GH.SP.eq (.pointer (some ⟨O, 1, none⟩))) :: (GH.SP.eq (.int .i64 oa)) :: (GH.SP.eq (.int .i64 (va : Nat))) :: (GH.SP.eq (.agg #[.int .i64 (all : Nat), .int .i64 (each : Nat), .slice A9 n9 c9])) :: (GH.SP.eq (.pointer (some ⟨O, 1, none⟩))) :: (GH.SP.eq (.int .i64 oa)) :: (GH.SP.eq (.int .i64 (va : Nat))) :: (GH.SP.eq (.bool false)) :: (GH.SP.eq (.bool false)) :: (GH.SP.eq (.pointer (some ⟨w.heap.size + 1, 0, none⟩))) :: (GH.SP.eq (.pointer (some ⟨O, 2, none⟩))) :: (GH.SP.eq (.int .i64 ob)) :: (GH.SP.eq (.int .i64 (vb : Nat))) :: (GH.SP.eq (.agg #[.int .i64 (all : Nat), .int .i64 (each : Nat), .slice A9 n9 c9])) :: (GH.SP.eq (.pointer (some ⟨O, 2, none⟩))) :: (GH.SP.eq (.int .i64 ob)) :: (GH.SP.eq (.int .i64 (vb : Nat))) :: (GH.SP.eq (.bool false)) :: (GH.SP.eq (.bool false)) :: (GH.SP.eq (.bool false)) :: (GH.SP.eq (.pointer (some ⟨w.heap.size + 1, 0, none⟩))) :: (GH.SP.eq (.int .i64 (vu : Nat))) :: (GH.SP.eq (.agg #[.int .i64 (all : Nat), .int .i64 (each : Nat), .slice A9 n9 c9])) :: (GH.SP.eq (.int .i64 (vu : Nat))) :: (GH.SP.eq (.bool false)) :: (GH.SP.eq (.bool false)) :: (GH.SP.eq (.bool false)) :: (GH.SP.eq (.pointer (some ⟨w.heap.size + 1, 0, none⟩))) :: (GH.SP.eq (.int .i64 (n9 : Nat))) :: (GH.SP.eq (.pointer (some ⟨X, 2, none⟩))) :: (GH.SP.eq (.slice A9 n9 c9)) :: (GH.SP.eq (.int .i64 (n9 : Nat))) :: (GH.SP.eq (.bool false)) :: (GH.SP.eq (.bool false)) :: (GH.SP.eq (.bool false)) :: (GH.SP.eq (.pointer (some ⟨w.heap.size + 1, 0, none⟩))) :: (GH.SP.eq (.pointer (some ⟨O, 2, none⟩))) :: (GH.SP.eq (.int .i64 ob)) :: (GH.SP.eq (.int .i64 (f : Nat))) :: (GH.SP.eq (.int .i64 (f : Nat))) :: (GH.SP.eq (.bool false)) :: (GH.SP.eq (.bool false)) :: []) (none :: none :: none :: none :: none :: none :: none :: none :: none :: none :: none :: none :: none :: none :: none :: none :: none :: none :: none :: none :: none :: none :: none :: none :: none :: none :: none :: none :: none :: none :: none :: none :: none :: none :: none :: none :: none :: none :: none :: none :: none :: none :: none :: none :: none :: none :: none :: none :: none :: none :: none :: none :: none :: none :: none :: none :: none :: none :: none :: none :: none :: none :: none :: none :: none :: none :: none :: none :: none :: none :: none :: none :: none :: none :: none :: none :: none :: none :: none :: none :: none :: none :: none :: none :: none :: none :: none :: none :: none :: none :: none :: none :: none :: none :: none :: none :: none :: none :: none :: none :: none :: none :: none :: none :: none :: none :: none :: none :: none :: none :: none :: none :: none :: none :: none :: none :: none :: none :: none :: none :: none :: none :: none :: none :: none :: none :: none :: none :: none :: none :: none :: none :: none :: none :: none :: none :: none :: (some 0) :: (some 1) :: (some 2) :: (some 3) :: (some 4) :: (some 5) :: (some 6) :: (some 7) :: (some 8) :: (some 9) :: (some 10) :: (some 11) :: (some 12) :: (some 13) :: (some 14) :: (some 15) :: (some 16) :: (some 17) :: (some 18) :: (some 19) :: (some 20) :: (some 21) :: (some 22) :: (some 23) :: (some 24) :: (some 25) :: (some 26) :: (some 27) :: (some 28) :: (some 29) :: (some 30) :: (some 31) :: (some 32) :: (some 33) :: (some 34) :: (some 35) :: (some 36) :: (some 37) :: (some 38) :: (some 39) :: (some 40) :: (some 41) :: (some 42) :: none :: []) [137, 138, 139, 140, 141, 142, 143, 144, 145, 146, 147, 148, 149, 150, 151, 152, 153, 154, 155, 156, 157, 158, 159, 160, 161, 162, 163, 164, 165, 166, 167, 168, 169, 170, 171, 172, 173, 174, 175, 176, 177, 178, 179] (by rfl) (by kernel_rfl) (by kernel_rfl) ?_ ?_ ?_
          · intro S jx v hjx
            match jx, hjx with
            | 0, _ => rfl
            | 1, _ => rfl
            | 2, _ => rfl
            | 3, _ => rfl
            | 4, _ => rfl
            | 5, _ => rfl
            | 6, _ => rfl
            | 7, _ => rfl
            | 8, _ => rfl
            | 9, _ => rfl
            | 10, _ => rfl
            | 11, _ => rfl
            | 12, _ => rfl
            | 13, _ => rfl
            | 14, _ => rfl
            | 15, _ => rfl
            | 16, _ => rfl
            | 17, _ => rfl
            | 18, _ => rfl
            | 19, _ => rfl
            | 20, _ => rfl
            | 21, _ => rfl
            | 22, _ => rfl
            | 23, _ => rfl
            | 24, _ => rfl
            | 25, _ => rfl
            | 26, _ => rfl
            | 27, _ => rfl
            | 28, _ => rfl
            | 29, _ => rfl
            | 30, _ => rfl
            | 31, _ => rfl
            | 32, _ => rfl
            | 33, _ => rfl
            | 34, _ => rfl
            | 35, _ => rfl
            | 36, _ => rfl
            | 37, _ => rfl
            | 38, _ => rfl
            | 39, _ => rfl
            | 40, _ => rfl
            | 41, _ => rfl
            | 42, _ => rfl
            | nx + 43, hjx => omega
          · intro jx hjx S w' hb hd
            match jx, hjx, hd with
            | 0, _, hd =>
              simp only [GH.mkL, List.getD_cons_succ, List.getD_cons_zero]
              clear hd
              refine GH.st_eq (by rfl) ?_
              go_simp
              (try with_reducible rfl)
            | 1, _, hd =>
              simp only [GH.mkL, List.getD_cons_succ, List.getD_cons_zero]
              clear hd
              refine GH.st_eq (by rfl) ?_
              go_simp
              (try with_reducible rfl)
            | 2, _, hd =>
              simp only [GH.mkL, List.getD_cons_succ, List.getD_cons_zero]
              have d1 : S 1 = .pointer (some ⟨O, 1, none⟩) := (hd 1 (by kernel_rfl)).2
              rw [d1]
              clear d1
              clear hd
              exact GH.st_load _ (by rfl) rfl rfl (((KO9.out.below hb.below KO9.out.lt)).cell 1) (by kernel_rfl)
            | 3, _, hd =>
              simp only [GH.mkL, List.getD_cons_succ, List.getD_cons_zero]
              have d0 : S 0 = .pointer (some ⟨w.heap.size + 1, 0, none⟩) := (hd 0 (by kernel_rfl)).2
              rw [d0]
              clear d0
              have d2 : S 2 = .int .i64 oa := (hd 2 (by kernel_rfl)).2
              rw [d2]
              clear d2
              clear hd
              refine GH.st_call (by rfl) hb.below.size (by go_simp) ((CO.out w' hb.below).mono ?_)
              rintro e w9 ⟨rfl, hb9⟩
              exact ⟨_, rfl, hb9, rfl⟩
            | 4, _, hd =>
              simp only [GH.mkL, List.getD_cons_succ, List.getD_cons_zero]
              clear hd
              exact GH.st_loads _ [.int .i64 (all : Nat), .int .i64 (each : Nat), .slice A9 n9 c9] (by rfl) rfl rfl (((HK9.out.below hb.below HK9.out.lt)).loads 0 _ (by rfl)) (by kernel_rfl) (by kernel_rfl)
            | 5, _, hd =>
              simp only [GH.mkL, List.getD_cons_succ, List.getD_cons_zero]
              clear hd
              refine GH.st_eq (by rfl) ?_
              go_simp
              (try with_reducible rfl)
            | 6, _, hd =>
              simp only [GH.mkL, List.getD_cons_succ, List.getD_cons_zero]
              have d5 : S 5 = .pointer (some ⟨O, 1, none⟩) := (hd 5 (by kernel_rfl)).2
              rw [d5]
              clear d5
              clear hd
              exact GH.st_load _ (by rfl) rfl rfl (((KO9.out.below hb.below KO9.out.lt)).cell 1) (by kernel_rfl)
            | 7, _, hd =>
              simp only [GH.mkL, List.getD_cons_succ, List.getD_cons_zero]
              have d3 : S 3 = .int .i64 (va : Nat) := (hd 3 (by kernel_rfl)).2
              rw [d3]
              clear d3
              have d4 : S 4 = .agg #[.int .i64 (all : Nat), .int .i64 (each : Nat), .slice A9 n9 c9] := (hd 4 (by kernel_rfl)).2
              rw [d4]
              clear d4
              have d6 : S 6 = .int .i64 oa := (hd 6 (by kernel_rfl)).2
              rw [d6]
              clear d6
              clear hd
              refine GH.st_call (by rfl) hb.below.size (by go_simp) ((CR.out w' hb.below).mono ?_)
              rintro e w9 ⟨rfl, hb9⟩
              exact ⟨_, rfl, hb9, rfl⟩
            | 8, _, hd =>
              simp only [GH.mkL, List.getD_cons_succ, List.getD_cons_zero]
              have d3 : S 3 = .int .i64 (va : Nat) := (hd 3 (by kernel_rfl)).2
              rw [d3]
              clear d3
              have d7 : S 7 = .int .i64 (va : Nat) := (hd 7 (by kernel_rfl)).2
              rw [d7]
              clear d7
              clear hd
              refine GH.st_eq (by rfl) ?_
              go_simp
              (try with_reducible rfl)
            | 9, _, hd =>
              simp only [GH.mkL, List.getD_cons_succ, List.getD_cons_zero]
              have d7 : S 7 = .int .i64 (va : Nat) := (hd 7 (by kernel_rfl)).2
              rw [d7]
              clear d7
              have d8 : S 8 = .bool false := (hd 8 (by kernel_rfl)).2
              rw [d8]
              clear d8
              clear hd
              refine GH.st_eq (by rfl) ?_
              go_simp
              (try with_reducible rfl)
            | 10, _, hd =>
              simp only [GH.mkL, List.getD_cons_succ, List.getD_cons_zero]
              have d9 : S 9 = .bool false := (hd 9 (by kernel_rfl)).2
              rw [d9]
              clear d9
              clear hd
              refine GH.st_eq (by rfl) ?_
              go_simp
              (try with_reducible rfl)
            | 11, _, hd =>
              simp only [GH.mkL, List.getD_cons_succ, List.getD_cons_zero]
              have d9 : S 9 = .bool false := (hd 9 (by kernel_rfl)).2
              rw [d9]
              clear d9
              clear hd
              refine GH.st_eq (by rfl) ?_
              go_simp
              (try with_reducible rfl)
            | 12, _, hd =>
              simp only [GH.mkL, List.getD_cons_succ, List.getD_cons_zero]
              have d9 : S 9 = .bool false := (hd 9 (by kernel_rfl)).2
              rw [d9]
              clear d9
              have d11 : S 11 = .pointer (some ⟨O, 2, none⟩) := (hd 11 (by kernel_rfl)).2
              rw [d11]
              clear d11
              clear hd
              exact GH.st_load _ (by rfl) rfl rfl (((KO9.out.below hb.below KO9.out.lt)).cell 2) (by kernel_rfl)
            | 13, _, hd =>
              simp only [GH.mkL, List.getD_cons_succ, List.getD_cons_zero]
              have d9 : S 9 = .bool false := (hd 9 (by kernel_rfl)).2
              rw [d9]
              clear d9
              have d10 : S 10 = .pointer (some ⟨w.heap.size + 1, 0, none⟩) := (hd 10 (by kernel_rfl)).2
              rw [d10]
              clear d10
              have d12 : S 12 = .int .i64 ob := (hd 12 (by kernel_rfl)).2
              rw [d12]
              clear d12
              clear hd
              refine GH.st_call (by rfl) hb.below.size (by go_simp) ((CO2.out w' hb.below).mono ?_)
              rintro e w9 ⟨rfl, hb9⟩
              exact ⟨_, rfl, hb9, rfl⟩
            | 14, _, hd =>
              simp only [GH.mkL, List.getD_cons_succ, List.getD_cons_zero]
              have d9 : S 9 = .bool false := (hd 9 (by kernel_rfl)).2
              rw [d9]
              clear d9
              clear hd
              exact GH.st_loads _ [.int .i64 (all : Nat), .int .i64 (each : Nat), .slice A9 n9 c9] (by rfl) rfl rfl (((HK9.out.below hb.below HK9.out.lt)).loads 0 _ (by rfl)) (by kernel_rfl) (by kernel_rfl)
            | 15, _, hd =>
              simp only [GH.mkL, List.getD_cons_succ, List.getD_cons_zero]
              have d9 : S 9 = .bool false := (hd 9 (by kernel_rfl)).2
              rw [d9]
              clear d9
              clear hd
              refine GH.st_eq (by rfl) ?_
              go_simp
              (try with_reducible rfl)
            | 16, _, hd =>
              simp only [GH.mkL, List.getD_cons_succ, List.getD_cons_zero]
              have d9 : S 9 = .bool false := (hd 9 (by kernel_rfl)).2
              rw [d9]
              clear d9
              have d15 : S 15 = .pointer (some ⟨O, 2, none⟩) := (hd 15 (by kernel_rfl)).2
              rw [d15]
              clear d15
              clear hd
              exact GH.st_load _ (by rfl) rfl rfl (((KO9.out.below hb.below KO9.out.lt)).cell 2) (by kernel_rfl)
            | 17, _, hd =>
              simp only [GH.mkL, List.getD_cons_succ, List.getD_cons_zero]
              have d9 : S 9 = .bool false := (hd 9 (by kernel_rfl)).2
              rw [d9]
              clear d9
              have d13 : S 13 = .int .i64 (vb : Nat) := (hd 13 (by kernel_rfl)).2
              rw [d13]
              clear d13
              have d14 : S 14 = .agg #[.int .i64 (all : Nat), .int .i64 (each : Nat), .slice A9 n9 c9] := (hd 14 (by kernel_rfl)).2
              rw [d14]
              clear d14
              have d16 : S 16 = .int .i64 ob := (hd 16 (by kernel_rfl)).2
              rw [d16]
              clear d16
              clear hd
              refine GH.st_call (by rfl) hb.below.size (by go_simp) ((CR2.out w' hb.below).mono ?_)
              rintro e w9 ⟨rfl, hb9⟩
              exact ⟨_, rfl, hb9, rfl⟩
            | 18, _, hd =>
              simp only [GH.mkL, List.getD_cons_succ, List.getD_cons_zero]
              have d9 : S 9 = .bool false := (hd 9 (by kernel_rfl)).2
              rw [d9]
              clear d9
              have d13 : S 13 = .int .i64 (vb : Nat) := (hd 13 (by kernel_rfl)).2
              rw [d13]
              clear d13
              have d17 : S 17 = .int .i64 (vb : Nat) := (hd 17 (by kernel_rfl)).2
              rw [d17]
              clear d17
              clear hd
              refine GH.st_eq (by rfl) ?_
              go_simp
              (try with_reducible rfl)
            | 19, _, hd =>
              simp only [GH.mkL, List.getD_cons_succ, List.getD_cons_zero]
              have d9 : S 9 = .bool false := (hd 9 (by kernel_rfl)).2
              rw [d9]
              clear d9
              have d18 : S 18 = .bool false := (hd 18 (by kernel_rfl)).2
              rw [d18]
              clear d18
              clear hd
              refine GH.st_eq (by rfl) ?_
              go_simp
              (try with_reducible rfl)
            | 20, _, hd =>
              simp only [GH.mkL, List.getD_cons_succ, List.getD_cons_zero]
              have d17 : S 17 = .int .i64 (vb : Nat) := (hd 17 (by kernel_rfl)).2
              rw [d17]
              clear d17
              have d19 : S 19 = .bool false := (hd 19 (by kernel_rfl)).2
              rw [d19]
              clear d19
              clear hd
              refine GH.st_eq (by rfl) ?_
              go_simp
              (try with_reducible rfl)
            | 21, _, hd =>
              simp only [GH.mkL, List.getD_cons_succ, List.getD_cons_zero]
              have d20 : S 20 = .bool false := (hd 20 (by kernel_rfl)).2
              rw [d20]
              clear d20
              clear hd
              refine GH.st_eq (by rfl) ?_
              go_simp
              (try with_reducible rfl)
            | 22, _, hd =>
              simp only [GH.mkL, List.getD_cons_succ, List.getD_cons_zero]
              have d20 : S 20 = .bool false := (hd 20 (by kernel_rfl)).2
              rw [d20]
              clear d20
              have d21 : S 21 = .pointer (some ⟨w.heap.size + 1, 0, none⟩) := (hd 21 (by kernel_rfl)).2
              rw [d21]
              clear d21
              clear hd
              refine GH.st_call (by rfl) hb.below.size (by go_simp) ((CU.out w' hb.below).mono ?_)
              rintro e w9 ⟨rfl, hb9⟩
              exact ⟨_, rfl, hb9, rfl⟩
            | 23, _, hd =>
              simp only [GH.mkL, List.getD_cons_succ, List.getD_cons_zero]
              have d20 : S 20 = .bool false := (hd 20 (by kernel_rfl)).2
              rw [d20]
              clear d20
              clear hd
              exact GH.st_loads _ [.int .i64 (all : Nat), .int .i64 (each : Nat), .slice A9 n9 c9] (by rfl) rfl rfl (((HK9.out.below hb.below HK9.out.lt)).loads 0 _ (by rfl)) (by kernel_rfl) (by kernel_rfl)
            | 24, _, hd =>
              simp only [GH.mkL, List.getD_cons_succ, List.getD_cons_zero]
              have d20 : S 20 = .bool false := (hd 20 (by kernel_rfl)).2
              rw [d20]
              clear d20
              have d22 : S 22 = .int .i64 (vu : Nat) := (hd 22 (by kernel_rfl)).2
              rw [d22]
              clear d22
              have d23 : S 23 = .agg #[.int .i64 (all : Nat), .int .i64 (each : Nat), .slice A9 n9 c9] := (hd 23 (by kernel_rfl)).2
              rw [d23]
              clear d23
              clear hd
              refine GH.st_call (by rfl) hb.below.size (by go_simp) ((CRU.out w' hb.below).mono ?_)
              rintro e w9 ⟨rfl, hb9⟩
              exact ⟨_, rfl, hb9, rfl⟩
            | 25, _, hd =>
              simp only [GH.mkL, List.getD_cons_succ, List.getD_cons_zero]
              have d20 : S 20 = .bool false := (hd 20 (by kernel_rfl)).2
              rw [d20]
              clear d20
              have d22 : S 22 = .int .i64 (vu : Nat) := (hd 22 (by kernel_rfl)).2
              rw [d22]
              clear d22
              have d24 : S 24 = .int .i64 (vu : Nat) := (hd 24 (by kernel_rfl)).2
              rw [d24]
              clear d24
              clear hd
              refine GH.st_eq (by rfl) ?_
              go_simp
              (try with_reducible rfl)
            | 26, _, hd =>
              simp only [GH.mkL, List.getD_cons_succ, List.getD_cons_zero]
              have d20 : S 20 = .bool false := (hd 20 (by kernel_rfl)).2
              rw [d20]
              clear d20
              have d25 : S 25 = .bool false := (hd 25 (by kernel_rfl)).2
              rw [d25]
              clear d25
              clear hd
              refine GH.st_eq (by rfl) ?_
              go_simp
              (try with_reducible rfl)
            | 27, _, hd =>
              simp only [GH.mkL, List.getD_cons_succ, List.getD_cons_zero]
              have d24 : S 24 = .int .i64 (vu : Nat) := (hd 24 (by kernel_rfl)).2
              rw [d24]
              clear d24
              have d26 : S 26 = .bool false := (hd 26 (by kernel_rfl)).2
              rw [d26]
              clear d26
              clear hd
              refine GH.st_eq (by rfl) ?_
              go_simp
              (try with_reducible rfl)
            | 28, _, hd =>
              simp only [GH.mkL, List.getD_cons_succ, List.getD_cons_zero]
              have d27 : S 27 = .bool false := (hd 27 (by kernel_rfl)).2
              rw [d27]
              clear d27
              clear hd
              refine GH.st_eq (by rfl) ?_
              go_simp
              (try with_reducible rfl)
            | 29, _, hd =>
              simp only [GH.mkL, List.getD_cons_succ, List.getD_cons_zero]
              have d27 : S 27 = .bool false := (hd 27 (by kernel_rfl)).2
              rw [d27]
              clear d27
              have d28 : S 28 = .pointer (some ⟨w.heap.size + 1, 0, none⟩) := (hd 28 (by kernel_rfl)).2
              rw [d28]
              clear d28
              clear hd
              refine GH.st_call (by rfl) hb.below.size (by go_simp) ((CN.out w' hb.below).mono ?_)
              rintro e w9 ⟨rfl, hb9⟩
              exact ⟨_, rfl, hb9, rfl⟩
            | 30, _, hd =>
              simp only [GH.mkL, List.getD_cons_succ, List.getD_cons_zero]
              have d27 : S 27 = .bool false := (hd 27 (by kernel_rfl)).2
              rw [d27]
              clear d27
              clear hd
              refine GH.st_eq (by rfl) ?_
              go_simp
              (try with_reducible rfl)
            | 31, _, hd =>
              simp only [GH.mkL, List.getD_cons_succ, List.getD_cons_zero]
              have d27 : S 27 = .bool false := (hd 27 (by kernel_rfl)).2
              rw [d27]
              clear d27
              have d30 : S 30 = .pointer (some ⟨X, 2, none⟩) := (hd 30 (by kernel_rfl)).2
              rw [d30]
              clear d30
              clear hd
              exact GH.st_load _ (by rfl) rfl rfl (((HK9.out.below hb.below HK9.out.lt)).cell 2) (by kernel_rfl)
            | 32, _, hd =>
              simp only [GH.mkL, List.getD_cons_succ, List.getD_cons_zero]
              have d27 : S 27 = .bool false := (hd 27 (by kernel_rfl)).2
              rw [d27]
              clear d27
              have d31 : S 31 = .slice A9 n9 c9 := (hd 31 (by kernel_rfl)).2
              rw [d31]
              clear d31
              clear hd
              refine GH.st_eq (by rfl) ?_
              go_simp
              (try with_reducible rfl)
            | 33, _, hd =>
              simp only [GH.mkL, List.getD_cons_succ, List.getD_cons_zero]
              have d27 : S 27 = .bool false := (hd 27 (by kernel_rfl)).2
              rw [d27]
              clear d27
              have d29 : S 29 = .int .i64 (n9 : Nat) := (hd 29 (by kernel_rfl)).2
              rw [d29]
              clear d29
              have d32 : S 32 = .int .i64 (n9 : Nat) := (hd 32 (by kernel_rfl)).2
              rw [d32]
              clear d32
              clear hd
              refine GH.st_eq (by rfl) ?_
              go_simp
              (try with_reducible rfl)
            | 34, _, hd =>
              simp only [GH.mkL, List.getD_cons_succ, List.getD_cons_zero]
              have d27 : S 27 = .bool false := (hd 27 (by kernel_rfl)).2
              rw [d27]
              clear d27
              have d33 : S 33 = .bool false := (hd 33 (by kernel_rfl)).2
              rw [d33]
              clear d33
              clear hd
              refine GH.st_eq (by rfl) ?_
              go_simp
              (try with_reducible rfl)
            | 35, _, hd =>
              simp only [GH.mkL, List.getD_cons_succ, List.getD_cons_zero]
              have d29 : S 29 = .int .i64 (n9 : Nat) := (hd 29 (by kernel_rfl)).2
              rw [d29]
              clear d29
              have d34 : S 34 = .bool false := (hd 34 (by kernel_rfl)).2
              rw [d34]
              clear d34
              clear hd
              refine GH.st_eq (by rfl) ?_
              go_simp
              (try with_reducible rfl)
            | 36, _, hd =>
              simp only [GH.mkL, List.getD_cons_succ, List.getD_cons_zero]
              have d35 : S 35 = .bool false := (hd 35 (by kernel_rfl)).2
              rw [d35]
              clear d35
              clear hd
              refine GH.st_eq (by rfl) ?_
              go_simp
              (try with_reducible rfl)
            | 37, _, hd =>
              simp only [GH.mkL, List.getD_cons_succ, List.getD_cons_zero]
              have d35 : S 35 = .bool false := (hd 35 (by kernel_rfl)).2
              rw [d35]
              clear d35
              clear hd
              refine GH.st_eq (by rfl) ?_
              go_simp
              (try with_reducible rfl)
            | 38, _, hd =>
              simp only [GH.mkL, List.getD_cons_succ, List.getD_cons_zero]
              have d35 : S 35 = .bool false := (hd 35 (by kernel_rfl)).2
              rw [d35]
              clear d35
              have d37 : S 37 = .pointer (some ⟨O, 2, none⟩) := (hd 37 (by kernel_rfl)).2
              rw [d37]
              clear d37
              clear hd
              exact GH.st_load _ (by rfl) rfl rfl (((KO9.out.below hb.below KO9.out.lt)).cell 2) (by kernel_rfl)
            | 39, _, hd =>
              simp only [GH.mkL, List.getD_cons_succ, List.getD_cons_zero]
              have d35 : S 35 = .bool false := (hd 35 (by kernel_rfl)).2
              rw [d35]
              clear d35
              have d36 : S 36 = .pointer (some ⟨w.heap.size + 1, 0, none⟩) := (hd 36 (by kernel_rfl)).2
              rw [d36]
              clear d36
              have d38 : S 38 = .int .i64 ob := (hd 38 (by kernel_rfl)).2
              rw [d38]
              clear d38
              clear hd
              refine GH.st_call (by rfl) hb.below.size (by go_simp) ((CF.out w' hb.below).mono ?_)
              rintro e w9 ⟨rfl, hb9⟩
              exact ⟨_, rfl, hb9, rfl⟩
            | 40, _, hd =>
              simp only [GH.mkL, List.getD_cons_succ, List.getD_cons_zero]
              have d35 : S 35 = .bool false := (hd 35 (by kernel_rfl)).2
              rw [d35]
              clear d35
              clear hd
              refine GH.st_eq (by rfl) ?_
              go_simp
              (try with_reducible rfl)
            | 41, _, hd =>
              simp only [GH.mkL, List.getD_cons_succ, List.getD_cons_zero]
              have d35 : S 35 = .bool false := (hd 35 (by kernel_rfl)).2
              rw [d35]
              clear d35
              have d39 : S 39 = .int .i64 (f : Nat) := (hd 39 (by kernel_rfl)).2
              rw [d39]
              clear d39
              have d40 : S 40 = .int .i64 (f : Nat) := (hd 40 (by kernel_rfl)).2
              rw [d40]
              clear d40
              clear hd
              refine GH.st_eq (by rfl) ?_
              go_simp
              (try with_reducible rfl)
            | 42, _, hd =>
              simp only [GH.mkL, List.getD_cons_succ, List.getD_cons_zero]
              have d35 : S 35 = .bool false := (hd 35 (by kernel_rfl)).2
              rw [d35]
              clear d35
              have d41 : S 41 = .bool false := (hd 41 (by kernel_rfl)).2
              rw [d41]
              clear d41
              clear hd
              refine GH.st_eq (by rfl) ?_
              go_simp
              (try with_reducible rfl)
            | nx + 43, hjx, _ => omega
          intro S w' hb hG
          simp only [GH.mkL, List.drop_succ_cons, List.drop_zero]
          have d42 : S 42 = .bool false := hG 42 (by omega)
          rw [d42]
          clear d42
          clear hG
          have hbz := hb.below
          clear hb
          obtain ⟨wz, hwz⟩ : ∃ wz, wz = w' := ⟨_, rfl⟩
          subst hwz
          have PZ := Lib.hid (BUN.out.1.into hbz)
          have KZ := Lib.hid (Blk.below HK9.out hbz HK9.out.lt)
          have RZ := Lib.hid (BUN.out.2.1.into hbz)
          have BZ := Lib.hid (BUN.out.2.2.1.trans (hbz.mono BUN.out.2.2.1.size))
          have Q9 := Lib.hid BUN.out.2.2.2.1
          have LN9 := Lib.hid BUN.out.2.2.2.2
          clear hbz CO CO2 CR CR2 CU CRU CN CF HK9 KO9 BUN y0 y1 y2 n0 n1 n2' n3
          go_wp2_with fail
          go_roundw
          case rel => exact ⟨i + 1, L9, A9, n9, c9, by omega, by go_num, PZ, Q9, LN9, KZ, RZ, BZ⟩
          case measure => simp [intOf]; omega
      case first =>
        by_cases h3 : q = 3
        · subst h3
          go_wp2_with fail
          refine (rq_give all each A2 n2 c2 L oa y w5 HR5.out (by have := HL8.out; omega) HQ.out HIN.out).mono ?_
          rintro e w6 ⟨A9, n9, c9, rfl, hR6, hb6⟩
          unfold RPv
          clear f0 f1 f2
          have HP6 := Lib.hid (HP5.out.into hb6)
          have HK6 := Lib.hid (Blk.below HK5.out hb6 HK5.out.lt)
          have KO6 := Lib.hid (Blk.below KO.out hb6 KO.out.lt)
          have B6 := Lib.hid (B5.out.trans (hb6.mono B5.out.size))
          have HR6 := Lib.hid hR6
          obtain ⟨g0, g1, g2⟩ := ptc3 HK6.out
          have f0 := HK6.out.frozen 0
          have f1 := HK6.out.frozen 1
          have f2 := HK6.out.frozen 2
          clear hb6 hR6 HP5 HK5 KO B5 HR5 m0 m1 m2 m3 x0 x1 x2
          go_upto_region 16 with fail
          have K6 := Lib.hid (pt3 (.int .i64 (all : Nat)) (.int .i64 (each : Nat)) (.slice A9 n9 c9) HK6.out)
          have S6 := Lib.hid (pts3 (.int .i64 (all : Nat)) (.int .i64 (each : Nat)) (.slice A9 n9 c9) (w := w6) (T := X))
          have e9 : ptw3 w6 X (.int .i64 (all : Nat)) (.int .i64 (each : Nat)) (.slice A9 n9 c9) = ((w6.setCell ⟨X, 0, none⟩ (.int .i64 (all : Nat))).setCell ⟨X, 1, none⟩ (.int .i64 (each : Nat))).setCell ⟨X, 2, none⟩ (.slice A9 n9 c9) := rfl
          rw [e9] at K6 S6
          clear e9 g0 g1 g2 f0 f1 f2
          generalize ((w6.setCell ⟨X, 0, none⟩ (.int .i64 (all : Nat))).setCell ⟨X, 1, none⟩ (.int .i64 (each : Nat))).setCell ⟨X, 2, none⟩ (.slice A9 n9 c9) = w7 at K6 S6 ⊢
          have HR7 := Lib.hid (HR6.out.so HK6.out S6.out)
          have HP7 := Lib.hid (Tw.of_solo HP6.out S6.out (by have := HXG.out; omega) (by have := HXG.out; omega))
          have KO7 := Lib.hid (S6.out.blk KO6.out (by have := HOX.out; omega))
          have B7 := Lib.hid (B6.out.trans (S6.out.1.mono (by have := HXG.out; omega)))
          clear HR6 HP6 KO6 B6 HK6 S6
          obtain ⟨m0, m1, m2, m3⟩ := ptc4 KO7.out
          go_wp2_with fail
          refine (qu_give (w.heap.size + 1) w.heap.size all each L oa y w7 HP7.out HQ.out HIA.out HIN.out).mono ?_
          rintro e w8 ⟨rfl, h8, t8⟩
          have HR9 := Lib.hid (HR7.out.tw t8 HP7.out)
          have HP9 := Lib.hid h8
          have HK9 := Lib.hid (t8.blk K6.out (by have := HXG.out; omega) (by have := HXG.out; omega))
          have KO9 := Lib.hid (t8.blk KO7.out (by have := HXG.out; have := HOX.out; omega) (by have := HXG.out; have := HOX.out; omega))
          have B9 := Lib.hid (B7.out.trans (t8.below B7.out.size (by omega) (by omega)))
          clear h8 t8 HR7 HP7 KO7 B7 K6 m0 m1 m2 m3
          have Q9 := Lib.hid (HQ.out.give HQD.out oa y (by have := HL8.out; omega))
          have LN9 := Lib.hid (show (gvL L oa y).length ≤ 2 * (i + 1) by have := len_give HQD.out oa y; have := HLEN.out; omega)
          go_wp2_with fail
          go_meet
          case rel => exact ⟨rfl, gvL L oa y, A9, n9, c9, HP9, Q9, LN9, HK9, HR9, KO9, B9⟩
        by_cases h4 : q = 4
        · subst h4
          obtain ⟨va, hva⟩ : ∃ va, va = ofQ L oa := ⟨_, rfl⟩
          obtain ⟨gn, hgn⟩ : ∃ gn, gn = gvN L oa (va : Nat) := ⟨_, rfl⟩
          obtain ⟨LN, hLN⟩ : ∃ LN, LN = gvL L oa (va : Nat) := ⟨_, rfl⟩
          have hvb : va ≤ 1073741824 := by rw [hva]; have := HQ.out.own oa; have := HQ.out.me; omega
          have CRO := Lib.hid (fun w' (hb : Below w5.heap.size w5 w') => rq_of all each A2 n2 c2 L oa w' (HR5.out.into hb) (by have := HL8.out; omega))
          have CRG := Lib.hid (fun w' (hb : Below w5.heap.size w5 w') => rq_give all each A2 n2 c2 L oa (va : Nat) w' (HR5.out.into hb) (by have := HL8.out; omega) HQ.out ⟨by omega, by omega⟩)
          have CPD := Lib.hid (fun w' (hp : PoolW w' (w.heap.size + 1) w.heap.size all each L) => qu_drop (w.heap.size + 1) w.heap.size all each L oa w' hp HQ.out HIA.out)
          have QN := Lib.hid (show QB all each LN by rw [hLN]; exact HQ.out.give HQD.out oa (va : Nat) (by have := HL8.out; omega))
          have LNN := Lib.hid (show LN.length ≤ 2 * (i + 1) by rw [hLN]; have := len_give HQD.out oa (va : Nat); have := HLEN.out; omega)
          rw [← hva] at CRO CPD
          rw [← hgn, ← hLN] at CRG CPD
          unfold RPv at CRO CRG
          clear hva hgn hLN
          go_upto_region 19 with fail
          clear m0 m1 m2 m3 x0 x1 x2 f0 f1 f2
          refine GH.wp_ghlz (M := false) 11 10 ((GH.SP.eq (.agg #[.int .i64 (all : Nat), .int .i64 (each : Nat), .slice A2 n2 c2])) :: (GH.SP.eq (.pointer (some ⟨O, 1, none⟩))) :: (GH.SP.eq (.int .i64 oa)) :: (GH.SP.eq (.agg #[.int .i64 (all : Nat), .int .i64 (each : Nat), .slice A2 n2 c2])) :: (GH.SP.eq (.pointer (some ⟨O, 1, none⟩))) :: (GH.SP.eq (.int .i64 oa)) :: (GH.SP.eq (.int .i64 (va : Nat))) :: (SPrt all each LN gn) :: (SPrt all each LN gn) :: (SPrq all each LN 0) :: (GH.SP.eq (.int .i64 (gn : Nat))) :: []) (none :: none :: none :: none :: none :: none :: none :: none :: none :: none :: none :: none :: none :: none :: none :: none :: none :: none :: none :: none :: none :: none :: none :: none :: none :: none :: none :: none :: none :: none :: none :: none :: none :: none :: none :: none :: none :: none :: none :: none :: none :: none :: none :: none :: none :: none :: none :: none :: none :: none :: none :: none :: none :: none :: none :: none :: none :: none :: none :: none :: none :: none :: none :: none :: none :: none :: none :: none :: none :: none :: none :: none :: none :: none :: none :: none :: none :: none :: none :: none :: none :: none :: (some 8) :: (some 0) :: (some 1) :: (some 2) :: (some 3) :: (some 4) :: (some 5) :: (some 6) :: (some 7) :: (some 9) :: (some 10) :: none :: none :: none :: none :: none :: none :: none :: none :: none :: none :: none :: none :: none :: none :: none :: none :: none :: none :: none :: none :: none :: none :: none :: none :: none :: none :: none :: none :: none :: none :: none :: none :: none :: none :: none :: none :: none :: none :: none :: none :: none :: none :: none :: none :: none :: none :: none :: none :: none :: none :: none :: none :: none :: none :: none :: none :: none :: none :: none :: none :: none :: none :: none :: none :: none :: none :: none :: none :: none :: none :: none :: none :: none :: none :: none :: none :: none :: none :: none :: none :: none :: none :: none :: none :: none :: none :: none :: none :: []) [83, 84, 85, 86, 87, 88, 89, 90, 82, 91, 92] (by rfl) (by kernel_rfl) (by kernel_rfl) ?_ ?_ ?_ ?_
          · intro S jx v hjx
            match jx, hjx with
            | 0, _ => rfl
            | 1, _ => rfl
            | 2, _ => rfl
            | 3, _ => rfl
            | 4, _ => rfl
            | 5, _ => rfl
            | 6, _ => rfl
            | 7, _ => rfl
            | 8, _ => rfl
            | 9, _ => rfl
            | 10, _ => rfl
            | nx + 11, hjx => omega
          · intro jx hjx S w' hb hd
            match jx, hjx, hd with
            | 0, _, hd =>
              simp only [GH.mkL, List.getD_cons_succ, List.getD_cons_zero]
              clear hd
              exact GH.st_loads _ [.int .i64 (all : Nat), .int .i64 (each : Nat), .slice A2 n2 c2] (by rfl) rfl rfl (((HK5.out.below hb.below HK5.out.lt)).loads 0 _ (by rfl)) (by kernel_rfl) (by kernel_rfl)
            | 1, _, hd =>
              simp only [GH.mkL, List.getD_cons_succ, List.getD_cons_zero]
              clear hd
              refine GH.st_eq (by rfl) ?_
              go_simp
              (try with_reducible rfl)
            | 2, _, hd =>
              simp only [GH.mkL, List.getD_cons_succ, List.getD_cons_zero]
              have d1 : S 1 = .pointer (some ⟨O, 1, none⟩) := (hd 1 (by kernel_rfl)).2
              rw [d1]
              clear d1
              clear hd
              exact GH.st_load _ (by rfl) rfl rfl (((KO.out.below hb.below KO.out.lt)).cell 1) (by kernel_rfl)
            | 3, _, hd =>
              simp only [GH.mkL, List.getD_cons_succ, List.getD_cons_zero]
              clear hd
              exact GH.st_loads _ [.int .i64 (all : Nat), .int .i64 (each : Nat), .slice A2 n2 c2] (by rfl) rfl rfl (((HK5.out.below hb.below HK5.out.lt)).loads 0 _ (by rfl)) (by kernel_rfl) (by kernel_rfl)
            | 4, _, hd =>
              simp only [GH.mkL, List.getD_cons_succ, List.getD_cons_zero]
              clear hd
              refine GH.st_eq (by rfl) ?_
              go_simp
              (try with_reducible rfl)
            | 5, _, hd =>
              simp only [GH.mkL, List.getD_cons_succ, List.getD_cons_zero]
              have d4 : S 4 = .pointer (some ⟨O, 1, none⟩) := (hd 4 (by kernel_rfl)).2
              rw [d4]
              clear d4
              clear hd
              exact GH.st_load _ (by rfl) rfl rfl (((KO.out.below hb.below KO.out.lt)).cell 1) (by kernel_rfl)
            | 6, _, hd =>
              simp only [GH.mkL, List.getD_cons_succ, List.getD_cons_zero]
              have d3 : S 3 = .agg #[.int .i64 (all : Nat), .int .i64 (each : Nat), .slice A2 n2 c2] := (hd 3 (by kernel_rfl)).2
              rw [d3]
              clear d3
              have d5 : S 5 = .int .i64 oa := (hd 5 (by kernel_rfl)).2
              rw [d5]
              clear d5
              clear hd
              refine GH.st_call (by rfl) hb.below.size (by go_simp) ((CRO.out w' hb.below).mono ?_)
              rintro e w9 ⟨rfl, hb9⟩
              exact ⟨_, rfl, hb9, rfl⟩
            | 7, _, hd =>
              simp only [GH.mkL, List.getD_cons_succ, List.getD_cons_zero]
              have d0 : S 0 = .agg #[.int .i64 (all : Nat), .int .i64 (each : Nat), .slice A2 n2 c2] := (hd 0 (by kernel_rfl)).2
              rw [d0]
              clear d0
              have d2 : S 2 = .int .i64 oa := (hd 2 (by kernel_rfl)).2
              rw [d2]
              clear d2
              have d6 : S 6 = .int .i64 (va : Nat) := (hd 6 (by kernel_rfl)).2
              rw [d6]
              clear d6
              clear hd
              refine GH.st_call (by rfl) hb.below.size (by go_simp) ((CRG.out w' hb.below).mono ?_)
              rintro e w9 ⟨A9, n9, c9, rfl, hR9, hb9⟩
              exact ⟨_, rfl, hb9, ⟨A9, n9, c9, rfl, hR9⟩⟩
            | 8, _, hd =>
              simp only [GH.mkL, List.getD_cons_succ, List.getD_cons_zero]
              obtain ⟨A7, n7, c7, d7, H7⟩ := (hd 7 (by kernel_rfl)).2
              rw [d7]
              clear d7
              clear hd
              exact GH.st_val (v := .tuple #[RPv all each A7 n7 c7, .int .i64 (gn : Nat)]) (by rfl) (by go_simp) ⟨A7, n7, c7, rfl, H7⟩
            | 9, _, hd =>
              simp only [GH.mkL, List.getD_cons_succ, List.getD_cons_zero]
              obtain ⟨A8, n8, c8, d8, H8⟩ := (hd 8 (by kernel_rfl)).2
              rw [d8]
              clear d8
              clear hd
              exact GH.st_val (v := RPv all each A8 n8 c8) (by rfl) (by go_simp) ⟨A8, n8, c8, rfl, H8, fun a _ => Nat.zero_le _⟩
            | 10, _, hd =>
              simp only [GH.mkL, List.getD_cons_succ, List.getD_cons_zero]
              obtain ⟨A8, n8, c8, d8, H8⟩ := (hd 8 (by kernel_rfl)).2
              rw [d8]
              clear d8
              clear hd
              refine GH.st_eq (by rfl) ?_
              go_simp
              (try with_reducible rfl)
            | nx + 11, hjx, _ => omega
          · intro S w' hb hd
            simp only [GH.mkL, List.getD_cons_succ, List.getD_cons_zero]
            obtain ⟨A8, n8, c8, d8, H8⟩ := (hd 8 (by kernel_rfl)).2
            rw [d8]
            clear d8
            refine ⟨.int .i64 (gn : Nat), rfl, fun w9 => ?_⟩
            go_simp
            (try with_reducible rfl)
          intro S w' hb hG
          obtain ⟨A9, n9, c9, dV, hR2, hF2⟩ := hG 9 (by omega) (by decide)
          unfold RPv at dV
          have KZ := HK5.out.below hb.below HK5.out.lt
          refine ⟨w'.setCells (X) 0 #[.int .i64 (all : Nat), .int .i64 (each : Nat), .slice A9 n9 c9].toList, fun vz K Q9 hK => ?_, fun vz gv => ?_⟩
          · refine wp_store_mid 27 _ _ rfl (X) 0 #[.int .i64 (all : Nat), .int .i64 (each : Nat), .slice A9 n9 c9] (by rfl) (show S 9 = _ from dV) (KZ.there (by simp)) (by kernel_rfl) (by simp [Value.oneCell']) ?_
            exact hK
          have uZ : GH.upd S 10 vz 10 = .int .i64 (gn : Nat) := gv
          have hs : Solo (X) w' (w'.setCells (X) 0 #[.int .i64 (all : Nat), .int .i64 (each : Nat), .slice A9 n9 c9].toList) := Solo.refl.setCells _ _
          replace KZ : Blk (w'.setCells (X) 0 #[.int .i64 (all : Nat), .int .i64 (each : Nat), .slice A9 n9 c9].toList) (X) 27 #[.int .i64 (all : Nat), .int .i64 (each : Nat), .slice A9 n9 c9] := KZ.setCells _ _
          generalize w'.setCells (X) 0 #[.int .i64 (all : Nat), .int .i64 (each : Nat), .slice A9 n9 c9].toList = w9 at hs KZ ⊢
          generalize GH.upd S 10 vz = S9 at *
          simp only [GH.mkL, List.drop_succ_cons, List.drop_zero]
          rw [uZ]
          clear uZ gv dV hG
          have hb6 := hb.below
          have HP6 := Lib.hid (HP5.out.into hb6)
          have HK6 := Lib.hid (Blk.below HK5.out hb6 HK5.out.lt)
          have KO6 := Lib.hid (Blk.below KO.out hb6 KO.out.lt)
          have B6 := Lib.hid (B5.out.trans (hb6.mono B5.out.size))
          have HR6 := Lib.hid hR2
          have K6 := Lib.hid KZ
          have S6 := Lib.hid hs
          clear hb hb6 hR2 hF2 HP5 HK5 KO B5 HR5 KZ hs CRO CRG
          have HR7 := Lib.hid (HR6.out.so HK6.out S6.out)
          have HP7 := Lib.hid (Tw.of_solo HP6.out S6.out (by have := HXG.out; omega) (by have := HXG.out; omega))
          have KO7 := Lib.hid (S6.out.blk KO6.out (by have := HOX.out; omega))
          have B7 := Lib.hid (B6.out.trans (S6.out.1.mono (by have := HXG.out; omega)))
          clear HR6 HP6 KO6 B6 HK6 S6
          obtain ⟨m0, m1, m2, m3⟩ := ptc4 KO7.out
          go_wp2_with fail
          refine (CPD.out _ HP7.out).mono ?_
          rintro e w8 ⟨rfl, h8, t8⟩
          have HR9 := Lib.hid (HR7.out.tw t8 HP7.out)
          have HP9 := Lib.hid h8
          have HK9 := Lib.hid (t8.blk K6.out (by have := HXG.out; omega) (by have := HXG.out; omega))
          have KO9 := Lib.hid (t8.blk KO7.out (by have := HXG.out; have := HOX.out; omega) (by have := HXG.out; have := HOX.out; omega))
          have B9 := Lib.hid (B7.out.trans (t8.below B7.out.size (by omega) (by omega)))
          clear h8 t8 HR7 HP7 KO7 B7 K6 m0 m1 m2 m3
          go_wp2_with fail
          go_meet
          case rel => exact ⟨rfl, LN, A9, n9, c9, HP9, QN, LNN, HK9, HR9, KO9, B9⟩
        by_cases h5 : q = 5
        · subst h5
          go_wp2_with fail
          refine (rq_move all each A2 n2 c2 L oa ob y w5 HR5.out (by have := HL8.out; omega) HQ.out HQD.out HIN.out).mono ?_
          rintro e w6 ⟨A9, n9, c9, rfl, hR6, hb6⟩
          unfold RPv
          clear f0 f1 f2
          have HP6 := Lib.hid (HP5.out.into hb6)
          have HK6 := Lib.hid (Blk.below HK5.out hb6 HK5.out.lt)
          have KO6 := Lib.hid (Blk.below KO.out hb6 KO.out.lt)
          have B6 := Lib.hid (B5.out.trans (hb6.mono B5.out.size))
          have HR6 := Lib.hid hR6
          obtain ⟨g0, g1, g2⟩ := ptc3 HK6.out
          have f0 := HK6.out.frozen 0
          have f1 := HK6.out.frozen 1
          have f2 := HK6.out.frozen 2
          clear hb6 hR6 HP5 HK5 KO B5 HR5 m0 m1 m2 m3 x0 x1 x2
          go_upto_region 25 with fail
          have K6 := Lib.hid (pt3 (.int .i64 (all : Nat)) (.int .i64 (each : Nat)) (.slice A9 n9 c9) HK6.out)
          have S6 := Lib.hid (pts3 (.int .i64 (all : Nat)) (.int .i64 (each : Nat)) (.slice A9 n9 c9) (w := w6) (T := X))
          have e9 : ptw3 w6 X (.int .i64 (all : Nat)) (.int .i64 (each : Nat)) (.slice A9 n9 c9) = ((w6.setCell ⟨X, 0, none⟩ (.int .i64 (all : Nat))).setCell ⟨X, 1, none⟩ (.int .i64 (each : Nat))).setCell ⟨X, 2, none⟩ (.slice A9 n9 c9) := rfl
          rw [e9] at K6 S6
          clear e9 g0 g1 g2 f0 f1 f2
          generalize ((w6.setCell ⟨X, 0, none⟩ (.int .i64 (all : Nat))).setCell ⟨X, 1, none⟩ (.int .i64 (each : Nat))).setCell ⟨X, 2, none⟩ (.slice A9 n9 c9) = w7 at K6 S6 ⊢
          have HR7 := Lib.hid (HR6.out.so HK6.out S6.out)
          have HP7 := Lib.hid (Tw.of_solo HP6.out S6.out (by have := HXG.out; omega) (by have := HXG.out; omega))
          have KO7 := Lib.hid (S6.out.blk KO6.out (by have := HOX.out; omega))
          have B7 := Lib.hid (B6.out.trans (S6.out.1.mono (by have := HXG.out; omega)))
          clear HR6 HP6 KO6 B6 HK6 S6
          obtain ⟨m0, m1, m2, m3⟩ := ptc4 KO7.out
          go_wp2_with fail
          refine (qu_move (w.heap.size + 1) w.heap.size all each L oa ob y w7 HP7.out HQ.out (by have := HL8.out; omega) HIA.out HIB.out HIN.out).mono ?_
          rintro e w8 ⟨rfl, h8, t8⟩
          have HR9 := Lib.hid (HR7.out.tw t8 HP7.out)
          have HP9 := Lib.hid h8
          have HK9 := Lib.hid (t8.blk K6.out (by have := HXG.out; omega) (by have := HXG.out; omega))
          have KO9 := Lib.hid (t8.blk KO7.out (by have := HXG.out; have := HOX.out; omega) (by have := HXG.out; have := HOX.out; omega))
          have B9 := Lib.hid (B7.out.trans (t8.below B7.out.size (by omega) (by omega)))
          clear h8 t8 HR7 HP7 KO7 B7 K6 m0 m1 m2 m3
          have Q9 := Lib.hid (HQ.out.move HQD.out oa ob y (by have := HL8.out; omega))
          have LN9 := Lib.hid (show (mvL each L oa ob y).length ≤ 2 * (i + 1) by have := len_move (each := each) HQD.out oa ob y; have := HLEN.out; omega)
          go_wp2_with fail
          go_meet
          case rel => exact ⟨rfl, mvL each L oa ob y, A9, n9, c9, HP9, Q9, LN9, HK9, HR9, KO9, B9⟩
        by_cases h6 : q = 6
        · subst h6
          go_wp2_with fail
          refine (rq_move all each A2 n2 c2 L oa ob y w5 HR5.out (by have := HL8.out; omega) HQ.out HQD.out HIN.out).mono ?_
          rintro e w6 ⟨A9, n9, c9, rfl, hR6, hb6⟩
          unfold RPv
          clear f0 f1 f2
          have HP6 := Lib.hid (HP5.out.into hb6)
          have HK6 := Lib.hid (Blk.below HK5.out hb6 HK5.out.lt)
          have KO6 := Lib.hid (Blk.below KO.out hb6 KO.out.lt)
          have B6 := Lib.hid (B5.out.trans (hb6.mono B5.out.size))
          have HR6 := Lib.hid hR6
          obtain ⟨g0, g1, g2⟩ := ptc3 HK6.out
          have f0 := HK6.out.frozen 0
          have f1 := HK6.out.frozen 1
          have f2 := HK6.out.frozen 2
          clear hb6 hR6 HP5 HK5 KO B5 HR5 m0 m1 m2 m3 x0 x1 x2
          go_upto_region 25 with fail
          have K6 := Lib.hid (pt3 (.int .i64 (all : Nat)) (.int .i64 (each : Nat)) (.slice A9 n9 c9) HK6.out)
          have S6 := Lib.hid (pts3 (.int .i64 (all : Nat)) (.int .i64 (each : Nat)) (.slice A9 n9 c9) (w := w6) (T := X))
          have e9 : ptw3 w6 X (.int .i64 (all : Nat)) (.int .i64 (each : Nat)) (.slice A9 n9 c9) = ((w6.setCell ⟨X, 0, none⟩ (.int .i64 (all : Nat))).setCell ⟨X, 1, none⟩ (.int .i64 (each : Nat))).setCell ⟨X, 2, none⟩ (.slice A9 n9 c9) := rfl
          rw [e9] at K6 S6
          clear e9 g0 g1 g2 f0 f1 f2
          generalize ((w6.setCell ⟨X, 0, none⟩ (.int .i64 (all : Nat))).setCell ⟨X, 1, none⟩ (.int .i64 (each : Nat))).setCell ⟨X, 2, none⟩ (.slice A9 n9 c9) = w7 at K6 S6 ⊢
          have HR7 := Lib.hid (HR6.out.so HK6.out S6.out)
          have HP7 := Lib.hid (Tw.of_solo HP6.out S6.out (by have := HXG.out; omega) (by have := HXG.out; omega))
          have KO7 := Lib.hid (S6.out.blk KO6.out (by have := HOX.out; omega))
          have B7 := Lib.hid (B6.out.trans (S6.out.1.mono (by have := HXG.out; omega)))
          clear HR6 HP6 KO6 B6 HK6 S6
          obtain ⟨m0, m1, m2, m3⟩ := ptc4 KO7.out
          go_wp2_with fail
          refine (qu_move (w.heap.size + 1) w.heap.size all each L oa ob y w7 HP7.out HQ.out (by have := HL8.out; omega) HIA.out HIB.out HIN.out).mono ?_
          rintro e w8 ⟨rfl, h8, t8⟩
          have HR9 := Lib.hid (HR7.out.tw t8 HP7.out)
          have HP9 := Lib.hid h8
          have HK9 := Lib.hid (t8.blk K6.out (by have := HXG.out; omega) (by have := HXG.out; omega))
          have KO9 := Lib.hid (t8.blk KO7.out (by have := HXG.out; have := HOX.out; omega) (by have := HXG.out; have := HOX.out; omega))
          have B9 := Lib.hid (B7.out.trans (t8.below B7.out.size (by omega) (by omega)))
          clear h8 t8 HR7 HP7 KO7 B7 K6 m0 m1 m2 m3
          have Q9 := Lib.hid (HQ.out.move HQD.out oa ob y (by have := HL8.out; omega))
          have LN9 := Lib.hid (show (mvL each L oa ob y).length ≤ 2 * (i + 1) by have := len_move (each := each) HQD.out oa ob y; have := HLEN.out; omega)
          go_wp2_with fail
          go_meet
          case rel => exact ⟨rfl, mvL each L oa ob y, A9, n9, c9, HP9, Q9, LN9, HK9, HR9, KO9, B9⟩
        have h3' : ¬ (q : Int) = 3 := by omega
        have h4' : ¬ (q : Int) = 4 := by omega
        have h5' : ¬ (q : Int) = 5 := by omega
        have h6' : ¬ (q : Int) = 6 := by omega
        go_wp2_with fail
        refine (rq_take all each A2 n2 c2 L oa y w5 HR5.out (by have := HL8.out; omega) HQ.out HIN.out).mono ?_
        rintro e w6 ⟨A9, n9, c9, rfl, hR6, hb6⟩
        unfold RPv
        clear f0 f1 f2
        have HP6 := Lib.hid (HP5.out.into hb6)
        have HK6 := Lib.hid (Blk.below HK5.out hb6 HK5.out.lt)
        have KO6 := Lib.hid (Blk.below KO.out hb6 KO.out.lt)
        have B6 := Lib.hid (B5.out.trans (hb6.mono B5.out.size))
        have HR6 := Lib.hid hR6
        obtain ⟨g0, g1, g2⟩ := ptc3 HK6.out
        have f0 := HK6.out.frozen 0
        have f1 := HK6.out.frozen 1
        have f2 := HK6.out.frozen 2
        clear hb6 hR6 HP5 HK5 KO B5 HR5 m0 m1 m2 m3 x0 x1 x2
        go_upto_region 12 with fail
        have K6 := Lib.hid (pt3 (.int .i64 (all : Nat)) (.int .i64 (each : Nat)) (.slice A9 n9 c9) HK6.out)
        have S6 := Lib.hid (pts3 (.int .i64 (all : Nat)) (.int .i64 (each : Nat)) (.slice A9 n9 c9) (w := w6) (T := X))
        have e9 : ptw3 w6 X (.int .i64 (all : Nat)) (.int .i64 (each : Nat)) (.slice A9 n9 c9) = ((w6.setCell ⟨X, 0, none⟩ (.int .i64 (all : Nat))).setCell ⟨X, 1, none⟩ (.int .i64 (each : Nat))).setCell ⟨X, 2, none⟩ (.slice A9 n9 c9) := rfl
        rw [e9] at K6 S6
        clear e9 g0 g1 g2 f0 f1 f2
        generalize ((w6.setCell ⟨X, 0, none⟩ (.int .i64 (all : Nat))).setCell ⟨X, 1, none⟩ (.int .i64 (each : Nat))).setCell ⟨X, 2, none⟩ (.slice A9 n9 c9) = w7 at K6 S6 ⊢
        have HR7 := Lib.hid (HR6.out.so HK6.out S6.out)
        have HP7 := Lib.hid (Tw.of_solo HP6.out S6.out (by have := HXG.out; omega) (by have := HXG.out; omega))
        have KO7 := Lib.hid (S6.out.blk KO6.out (by have := HOX.out; omega))
        have B7 := Lib.hid (B6.out.trans (S6.out.1.mono (by have := HXG.out; omega)))
        clear HR6 HP6 KO6 B6 HK6 S6
        obtain ⟨m0, m1, m2, m3⟩ := ptc4 KO7.out
        go_wp2_with fail
        refine (qu_take (w.heap.size + 1) w.heap.size all each L oa y w7 HP7.out HQ.out HIA.out HIN.out).mono ?_
        rintro e w8 ⟨rfl, h8, t8⟩
        have HR9 := Lib.hid (HR7.out.tw t8 HP7.out)
        have HP9 := Lib.hid h8
        have HK9 := Lib.hid (t8.blk K6.out (by have := HXG.out; omega) (by have := HXG.out; omega))
        have KO9 := Lib.hid (t8.blk KO7.out (by have := HXG.out; have := HOX.out; omega) (by have := HXG.out; have := HOX.out; omega))
        have B9 := Lib.hid (B7.out.trans (t8.below B7.out.size (by omega) (by omega)))
        clear h8 t8 HR7 HP7 KO7 B7 K6 m0 m1 m2 m3
        have Q9 := Lib.hid (HQ.out.take HQD.out oa y (by have := HL8.out; omega))
        have LN9 := Lib.hid (show (tkL all each L oa y).length ≤ 2 * (i + 1) by have := len_take (all := all) (each := each) HQD.out oa y; have := HLEN.out; omega)
        go_wp2_with fail
        go_meet
        case rel => exact ⟨rfl, tkL all each L oa y, A9, n9, c9, HP9, Q9, LN9, HK9, HR9, KO9, B9⟩
    · obtain rfl : i = n := by omega
      clear hlt
      go_wp2_with fail
      refine (alive39 _).mono ?_
      rintro e w9 ⟨rfl, hb9⟩
      have B9 := Lib.hid (BB.out.trans (hb9.mono BB.out.size))
      go_wp2_with fail
      go_ret
      exact ⟨rfl, B9.out⟩
end Go.Proofs.Ytonindjpbegdgaa
