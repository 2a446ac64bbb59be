/- Package inlet: come. -/
import Derived.Test.YtnngjbieoakanaaG28InletTwice

namespace Go.Proofs.Ytnngjbieoakanaa
open Go.RowKit
set_option linter.unusedVariables false
set_option linter.unusedSimpArgs false
/-- The places behind some of the pieces that are set. -/
def Ist.setK (s : Ist) (P : List Sp) (f : Nat) (bs : List Nat) (k : Nat) : Ist := { s with P := P, L := gapSet s.base f bs s.L ((gapL s.P f (f + bs.length)).take k) }
theorem Ist.ok.setK {s : Ist} {P : List Sp} {f k : Nat} {bs : List Nat} (h : s.ok) (hP : ({ s with P := P } : Ist).ok) (hf : s.base ≤ f) (ht : f + bs.length ≤ s.base + s.size) : (s.setK P f bs k).ok := by
  refine hP.withL ?_
  show (gapSet s.base f bs s.L ((gapL s.P f (f + bs.length)).take k)).length = s.size
  rw [gapSet_len hf (by rw [h.ll]; exact ht) fun g hg => gapL_in h.rs g (List.mem_of_mem_take hg), h.ll]
theorem gapSet_lt {base f : Nat} {bs L : List Nat} {G : List Sp} (hL : ∀ x ∈ L, x < 256) (hb : ∀ x ∈ bs, x < 256) : ∀ x ∈ gapSet base f bs L G, x < 256 := by
  induction G generalizing L with
  | nil => exact hL
  | cons g G ih => exact ih (spl_lt hL fun x hx => hb x (List.mem_of_mem_drop (List.mem_of_mem_take hx)))
theorem take_snocI {α : Type} {l : List α} {k : Nat} {x : α} (h : l[k]? = some x) : l.take (k + 1) = l.take k ++ [x] := by
  rw [List.take_add_one, h]; rfl
/-- A slice whose bytes stay when the inlet turns. -/
def FarI (B x g p s : Nat) (w : World) (A : Option Addr) (n : Nat) (bs : List Nat) : Prop := ∀ w', IK B x g p s w w' → Rd w' w.heap.size 1 A n (ns .u8 bs)
theorem FarI.next {B x g p s n : Nat} {w w' : World} {A : Option Addr} {bs : List Nat} (h : FarI B x g p s w A n bs) (k : IK B x g p s w w') : FarI B x g p s w' A n bs := fun w2 k2 => (h w2 (k.trans k2)).mono k.size
set_option maxRecDepth 20000 in
set_option maxHeartbeats 4000000 in
theorem in_come (B x g p s : Nat) (st : Ist) (f : Nat) (A : Option Addr) (n c : Nat) (bs : List Nat) (w : World) (h : IN w B x g p s st) (h1 : st.next ≤ f) (h2 : f + n ≤ st.base + st.size) (hl : bs.length = n) (hlt : ∀ y ∈ bs, y < 256) (hc : n ≤ c) (hap : Apart A n p) (hfar : FarI B x g p s w A n bs) :
    Calls Try.prog 23 #[.pointer (some ⟨x, 0, none⟩), .int .u64 (f : Int), .slice A n c] w fun e w' => e = .returned (.bool (st.come f bs).2) ∧ IN w' B x g p s (st.come f bs).1 ∧ IK B x g p s w w' := by
  have c2 := h.c2
  have hbl := h.ok.bl
  have hz2 := h.ok.s6
  have hts := h.ok.ts
  unfold iLim at hbl
  have hn : st.next = st.base + st.there := rfl
  have hbf : st.base ≤ f := by omega
  have HBF := Sh.mk hbf
  have H2 := Sh.mk h2
  have HL := Sh.mk hl
  have HLT := Sh.mk hlt
  have HAP := Sh.mk hap
  have HF := Sh.mk hfar
  have HH := Sh.mk h
  obtain ⟨t, ht⟩ : ∃ t, t = f + n := ⟨_, rfl⟩
  have hw0 : IntKind.u64.wrap (n : Int) = (n : Nat) := by rw [IntKind.wrap_u64]; omega
  have hw1 : IntKind.u64.wrap ((f : Int) + (n : Int)) = (t : Nat) := by rw [IntKind.wrap_u64]; omega
  have hfp : f < pmax := by unfold pmax; omega
  have htp : t < pmax := by unfold pmax; omega
  have HP := Sh.mk (And.intro hfp htp)
  obtain ⟨v, hv⟩ := h.sp
  have HV := Sh.mk hv
  have HE := Sh.mk fun w1 (hb : Below w.heap.size w w1) => in_next B x g p s st w1 (h.into hb)
  have HT := Sh.mk ht
  have HC := Sh.mk (show st.come f bs = if st.next < f then (if (addS st.most st.P f t).2 then (st.setK (addS st.most st.P f t).1 f bs (gapL st.P f t).length, true) else (st, false)) else ({ st.setK (cutL st.P (runL st.P t)) f bs (gapL st.P f t).length with there := runL st.P t - st.base }, true) by
    unfold Ist.come Ist.setK Ist.setL
    rw [hl, ← ht, List.take_length])
  have H1 := Sh.mk h1
  have HN := Sh.mk hn
  generalize st.come f bs = R at HC ⊢
  generalize st.next = nx at HE HC H1 HN
  clear h hbl hz2 hts hn hl hlt hap hfar hv hfp htp h1 h2 ht hbf
  have hcmp : (nx < f ∧ (nx : Int) < (f : Int)) ∨ (¬ nx < f ∧ ¬ (nx : Int) < (f : Int)) := by omega
  rcases hcmp with ⟨hA, hA'⟩ | ⟨hA, hA'⟩
  · rw [if_pos hA] at HC
    clear hA
    have HU : Sh (Try.prog.underlying 24 = some (.slice (Try.prog.elem 24))) := Sh.mk (by unfold Program.elem; rw [Try.underlying24])
    go_enter Try.func23, Try.ntmps23
    go_wp2_with fail
    refine (gaps_any s B st.most v st.P f t w HV.out).mono ?_
    rintro e w1 ⟨v1, rfl, hp1, hb1⟩
    have HP1 := Sh.mk hp1
    have HB1 := Sh.mk hb1
    clear hp1 hb1
    go_wp2_with fail
    obtain ⟨q, hq⟩ : ∃ q, q = w1.heap.size := ⟨_, rfl⟩
    clear hq q
    refine (HE.out w1 HB1.out).mono ?_
    rintro e w2 ⟨rfl, q, hq⟩
    have HB2 := Sh.mk (show Below w.heap.size w w2 by rw [hq]; exact below_drewN HB1.out q)
    have HP2 := Sh.mk (show Pcs w2 71 w.heap.size v1 (gapL st.P f t) by rw [hq]; exact HP1.out)
    clear hq HP1 HB1 w1
    have hcc2 : w2.cell? ⟨x, 2, none⟩ = some (.pointer (some ⟨s, 0, none⟩)) := (HB2.out.cell (p := ⟨x, 2, none⟩) HH.out.lt.1).trans c2
    go_wp2_with fail
    refine (add_any s B st.most v st.P f t w2 (HV.out.below HB2.out (Nat.le_refl _)) HP.out.1 HP.out.2).mono ?_
    rintro e w3 ⟨rfl, ⟨v', hv', hk'⟩, hb'⟩
    have HV' := Sh.mk hv'
    have HK' := Sh.mk hk'
    have HB' := Sh.mk hb'
    have HV2 := Sh.mk (HV.out.below HB2.out (Nat.le_refl _))
    have HI2 := Sh.mk (HH.out.into HB2.out)
    have HK3 := Sh.mk ((IK.of HB2.out).trans (IK.ofS HV2.out HK'.out HB'.out) : IK B x g p s w w3)
    clear hv' hk' hb' hcc2
    have HAD := Sh.mk (show ∀ P b, (P, b) = addS st.most st.P f t → (addS st.most st.P f t).1 = P ∧ (addS st.most st.P f t).2 = b from fun P b e => by rw [← e]; exact ⟨rfl, rfl⟩)
    have HAO := Sh.mk (addS_okM HH.out.ok.rs HH.out.ok.pl (b := st.base + st.size + 1) (fun p hp => by have := HH.out.ok.pb p hp; omega) (f := f) (t := t) (by have := H2.out; have := HT.out; omega))
    have HAF := Sh.mk (show (addS st.most st.P f t).2 = false → (addS st.most st.P f t).1 = st.P by
      unfold addS
      split
      · intro h; cases h
      · split
        · intro _; rfl
        · intro h; cases h)
    generalize addS st.most st.P f t = r at *
    obtain ⟨P1, ok1⟩ := r
    dsimp only at *
    have HPK := Sh.mk (show Pcs w3 71 w.heap.size v1 (gapL st.P f t) from own_kept HP2.out fun i hi => HK'.out.1 i (HP2.out.lt i hi).2 (by have := (HP2.out.lt i hi).1; have := HH.out.lt; omega) (by have := (HP2.out.lt i hi).1; intro he; have := (HV.out.own.lt i he).2; omega))
    cases ok1
    · have e1 := HAF.out rfl
      subst e1
      rw [if_neg (by simp)] at HC
      have HI3 := Sh.mk (IN.pcs HI2.out HV2.out HK'.out HV'.out HH.out.ok)
      clear HAD HAO HAF HPK
      go_wp2_with fail
      go_ret
      rw [HC.out]
      exact ⟨rfl, HI3.out, HK3.out⟩
    · rw [if_pos rfl] at HC
      have hokP : ({ st with P := P1 } : Ist).ok := HH.out.ok.withP HAO.out.1 (fun p hp => by have := HAO.out.2.1 p hp; omega) HAO.out.2.2
      have HOK := Sh.mk fun k => HH.out.ok.setK (k := k) (f := f) (bs := bs) hokP HBF.out (by rw [HL.out]; exact H2.out)
      have HI0 := Sh.mk (show IN w3 B x g p s (st.setK P1 f bs 0) from IN.pcs HI2.out HV2.out HK'.out HV'.out hokP)
      have HK0 := HK3
      have HP0 := HPK
      have HP1 := HPK
      clear HAD HAO HAF HPK hokP HI2 HV2 HK' HV' HB' HP2 HK3 HB2

      obtain ⟨A1, m, c1, rfl, hm1, hm2, hlm, hrm⟩ := Pcs.out HP1.out
      unfold maxLen at hm2
      have HLM := Sh.mk hlm.out
      clear hlm hrm
      go_wp2_with fail
      go_loopw [41] (fun iv wr => ∃ k : Nat, k ≤ m ∧ iv = .int .i64 k ∧ Sh (IN wr B x g p s (st.setK P1 f bs k)) ∧ Sh (IK B x g p s w wr) ∧ Sh (Pcs wr 71 w.heap.size (.slice A1 m c1) (gapL st.P f t))) (fun iv _ => m - (intOf iv).toNat)
      case atStart => exact ⟨0, Nat.zero_le _, rfl, HI0, HK0, HP0⟩
      case round =>
        obtain ⟨k, hk, rfl, HI, HK, HPr⟩ := hrel
        clear HI0 HK0 HP0
        by_cases hlt : k < m
        · have hlt' : (k : Int) < (m : Int) := by omega
          have hk0 : (0 : Int) ≤ (k : Int) := by omega
          obtain ⟨_, _, _, eA, _, _, _, hrm⟩ := Pcs.out HPr.out
          injection eA with eA en ec
          subst eA
          subst en
          obtain ⟨b, off, y, z, rfl, hbb, p0, p1, hp⟩ := hrm.out.pc hlt
          clear hrm ec
          have hg := gapL_in HH.out.ok.rs (y, z) (List.mem_of_getElem? hp.out)
          have hyz : f ≤ y ∧ y ≤ z ∧ z ≤ t := hg
          obtain ⟨j1, hj1⟩ : ∃ j1, j1 = y - f := ⟨_, rfl⟩
          obtain ⟨j2, hj2⟩ : ∃ j2, j2 = z - f := ⟨_, rfl⟩
          obtain ⟨o1, ho1⟩ : ∃ o1, o1 = y - st.base := ⟨_, rfl⟩
          have hq1 := HH.out.ok.s6
          have hq2 := HH.out.ok.bl
          unfold iLim at hq2
          have hq3 := HBF.out
          have hq4 := H2.out
          have hq5 := HT.out
          have hw2 : IntKind.u64.wrap ((y : Int) - (st.base : Int)) = (o1 : Nat) := by rw [IntKind.wrap_u64]; omega
          have hw3 : IntKind.i64.wrap (o1 : Int) = (o1 : Nat) := by rw [IntKind.wrap_i64]; omega
          have hw4 : IntKind.u64.wrap ((y : Int) - (f : Int)) = (j1 : Nat) := by rw [IntKind.wrap_u64]; omega
          have hw5 : IntKind.u64.wrap ((z : Int) - (f : Int)) = (j2 : Nat) := by rw [IntKind.wrap_u64]; omega
          have hs1 : ∀ w, (Instr.slice 24 (.slice A n c) (some (.int .u64 (j1 : Int))) (some (.int .u64 (j2 : Int))) none).run Try.prog w = .ok (.slice (cutA A c j1 1) (j2 - j1) (c - j1)) w := fun w => run_cut_lhU elB A n c j1 j2 (by omega) (by omega) w
          have hs2 : ∀ w, (Instr.sliceAt 24 (.slice A n c) (some (.int .u64 (j1 : Int))) (some (.int .u64 (j2 : Int))) none).run Try.prog w = .ok (.slice (cutA A c j1 1) (j2 - j1) (c - j1)) w := fun w => (run_sliceAt_slice w _ _ _ _ _ HU.out).trans (hs1 w)
          have HR1 := Sh.mk fun w' (k' : IK B x g p s w w') => (HF.out w' k').cutTo (h := j1) (k := j2) (by omega) (by omega) hc
          have HA1 := Sh.mk (Apart.cut (m := j2 - j1) (c := c) (h := j1) (sz := 1) (HF.out w IK.refl) HAP.out (by omega))
          have HN1 := Sh.mk (show (bs.drop j1).take (j2 - j1) = (bs.drop (y - f)).take (z - y) by rw [hj1, hj2, show z - f - (y - f) = z - y by omega])
          have HO1 := Sh.mk (show o1 ≤ st.size ∧ j2 - j1 ≤ st.size - o1 ∧ j2 - j1 ≤ 1000000 ∧ j2 - j1 ≤ c - j1 by omega)
          obtain ⟨j3, hj3⟩ : ∃ j3, j3 = j2 - j1 := ⟨_, rfl⟩
          rw [← hj3] at hs1 hs2 HA1 HN1 HO1 HR1
          have HS := Sh.mk (show st.setK P1 f bs (k + 1) = { st.setK P1 f bs k with L := spl (st.setK P1 f bs k).L o1 ((bs.drop j1).take j3) } by
            unfold Ist.setK
            rw [HL.out, ← HT.out, take_snocI hp.out, gapSet_snoc, ho1, HN1.out])
          generalize cutA A c j1 1 = AC at hs1 hs2 HR1 HA1
          generalize c - j1 = cc at hs1 hs2 HO1
          clear hg hyz hj1 hj2 ho1 hq1 hq2 hq3 hq4 hq5 hj3 HN1 hp
          have hal : Below wr.heap.size wr (wr.alloc (.cells #[.int .u64 (y : Int), .int .u64 (z : Int)] 71)) := (Below.refl _ _).alloc (Nat.le_refl _) _
          have KB := Sh.mk (Blk.new wr 71 #[.int .u64 (y : Int), .int .u64 (z : Int)])
          go_upto_region 9 with fail
          replace HI := Sh.mk (HI.out.into hal)
          replace HK := Sh.mk (HK.out.trans (IK.of hal))
          replace HPr := Sh.mk (Pcs.below HPr.out hal)
          have hgr : wr.heap.size < (wr.alloc (.cells #[.int .u64 (y : Int), .int .u64 (z : Int)] 71)).heap.size := KB.out.lt
          generalize wr.alloc (.cells #[.int .u64 (y : Int), .int .u64 (z : Int)] 71) = w2 at *
          generalize wr.heap.size = gz at *
          have c0 := HI.out.c0
          have c1' := HI.out.c1
          have z0 : w2.cell? ⟨gz, 0, none⟩ = some (.int .u64 (y : Int)) := by rw [KB.out.cell]; rfl
          have z1 : w2.cell? ⟨gz, 1, none⟩ = some (.int .u64 (z : Int)) := by rw [KB.out.cell]; rfl
          change w2.cell? ⟨x, 1, none⟩ = some (.int .u64 (st.base : Int)) at c1'
          refine wp_ord [(0, .pure), (1, .pure), (2, .pure), (3, .read), (4, .pure), (5, .read), (6, .pure), (7, .pure), (8, .pure), (9, .read), (10, .pure), (11, .pure), (12, .pure), (13, .pure), (14, .read), (15, .pure), (16, .pure), (17, .pure), (18, .read), (19, .pure), (20, .pure), (21, .pure), (22, .sole)] [22] (by kernel_rfl) (by kernel_rfl) (fun QQ hQ wd hwd => ?_); simp only [List.map_cons, List.map_nil, List.getD_cons_zero, List.getD_cons_succ]
          have cc0 : wd.cell? ⟨x, 0, none⟩ = some (.pointer (some ⟨g, 0, none⟩)) := by rw [hwd.out]; exact c0
          have cc1 : wd.cell? ⟨x, 1, none⟩ = some (.int .u64 (st.base : Int)) := by rw [hwd.out]; exact c1'
          have zz0 : wd.cell? ⟨gz, 0, none⟩ = some (.int .u64 (y : Int)) := by rw [hwd.out]; exact z0
          have zz1 : wd.cell? ⟨gz, 1, none⟩ = some (.int .u64 (z : Int)) := by rw [hwd.out]; exact z1
          have hbd : Below w2.heap.size w2 wd := by rw [hwd.out]; exact (Below.refl _ _).drew
          replace HI := Sh.mk (HI.out.into hbd)
          replace HK := Sh.mk (HK.out.trans (IK.of hbd))
          replace HPr := Sh.mk (Pcs.below HPr.out hbd)
          clear hwd c0 c1' z0 z1 hbd
          iterate 22 (first | (refine o_pure (v := ?_) (by rfl) (fun w' => ?_) ?_; rotate_left; (focus (go_simp; (try with_reducible rfl); (try (rw [if_pos (by omega)]; (try with_reducible rfl))))); (try simp only [Act.put, List.setIfInBounds_toArray, List.set_cons_zero, List.set_cons_succ])) | (refine o_load _ (by rfl) rfl rfl (by assumption) (by kernel_rfl) ?_; simp only [Act.put, List.setIfInBounds_toArray, List.set_cons_zero, List.set_cons_succ]))
          refine o_sole (fun K hK => ?_)
          go_wp2_with fail
          refine (set_any g p st.size (st.setK P1 f bs k).there o1 j3 cc w.heap.size AC (st.setK P1 f bs k).L ((bs.drop j1).take j3) wd HI.out.rg (HR1.out wd HK.out) (fun y hy => HLT.out y (List.mem_of_mem_drop (List.mem_of_mem_take hy))) HA1.out HO1.out.2.2.2 HO1.out.2.2.1 HO1.out.1).mono ?_
          rintro e w3 ⟨rfl, hd3, hr3⟩
          rw [if_pos HO1.out.2.1] at hr3
          have H3 := Sh.mk (show IN w3 B x g p s (st.setK P1 f bs (k + 1)) by
            rw [HS.out]
            exact HI.out.ring (t := (st.setK P1 f bs k).there) hd3 hr3 (by have h9 := HOK.out (k + 1); rw [HS.out] at h9; exact h9))
          have HK3 := Sh.mk (HK.out.trans (IK.ofR hd3))
          have HP3 := Sh.mk (show Pcs w3 71 w.heap.size (.slice (some ⟨b, off, none⟩) m c1) (gapL st.P f t) from own_kept HPr.out fun i hi => hd3.2.2 i (by have := (HPr.out.lt i hi).1; have := HH.out.lt; omega) (by have := (HPr.out.lt i hi).1; have := HH.out.lt; omega))
          clear hd3 hr3 HS HR1 HA1 HO1
          go_wp2_with fail
          refine hK _ _ (fun h => by cases h) ?_; clear hK K
          refine o_nil (hQ.out _ _ ?_); clear hQ QQ
          go_wp2_with fail
          go_roundw
          case rel => exact ⟨k + 1, by omega, by go_num, H3, HK3, HP3⟩
          case measure => simp [intOf]; omega
        · have hge : ¬ (k : Int) < (m : Int) := by omega
          obtain rfl : k = m := by omega
          rw [← HLM.out] at HI
          clear hlt
          go_wp2_with fail
          go_ret
          rw [HC.out]
          exact ⟨rfl, HI.out, HK.out⟩

  · rw [if_neg hA] at HC
    obtain rfl : f = nx := by have := H1.out; omega
    clear hA hA'
    have HU : Sh (Try.prog.underlying 24 = some (.slice (Try.prog.elem 24))) := Sh.mk (by unfold Program.elem; rw [Try.underlying24])
    go_enter Try.func23, Try.ntmps23
    go_wp2_with fail
    refine (gaps_any s B st.most v st.P f t w HV.out).mono ?_
    rintro e w1 ⟨v1, rfl, hp1, hb1⟩
    have HP1 := Sh.mk hp1
    have HB1 := Sh.mk hb1
    clear hp1 hb1
    go_wp2_with fail
    obtain ⟨q, hq⟩ : ∃ q, q = w1.heap.size := ⟨_, rfl⟩
    clear hq q
    refine (HE.out w1 HB1.out).mono ?_
    rintro e w2 ⟨rfl, q, hq⟩
    have HB2 := Sh.mk (show Below w.heap.size w w2 by rw [hq]; exact below_drewN HB1.out q)
    have HP2 := Sh.mk (show Pcs w2 71 w.heap.size v1 (gapL st.P f t) by rw [hq]; exact HP1.out)
    clear hq HP1 HB1 w1
    have hcc2 : w2.cell? ⟨x, 2, none⟩ = some (.pointer (some ⟨s, 0, none⟩)) := (HB2.out.cell (p := ⟨x, 2, none⟩) HH.out.lt.1).trans c2
    clear hcc2
    have hokP : ({ st with P := st.P } : Ist).ok := HH.out.ok
    have HOK := Sh.mk fun k => HH.out.ok.setK (k := k) (f := f) (bs := bs) hokP HBF.out (by rw [HL.out]; exact H2.out)
    have HI0 := Sh.mk (show IN w2 B x g p s (st.setK st.P f bs 0) from HH.out.into HB2.out)
    have HK0 := Sh.mk (show IK B x g p s w w2 from IK.of HB2.out)
    have HP0 := HP2
    have HP1 := HP2
    clear hokP HB2 HP2
    obtain ⟨A1, m, c1, rfl, hm1, hm2, hlm, hrm⟩ := Pcs.out HP1.out
    unfold maxLen at hm2
    have HLM := Sh.mk hlm.out
    clear hlm hrm
    go_wp2_with fail
    go_loopw [41] (fun iv wr => ∃ k : Nat, k ≤ m ∧ iv = .int .i64 k ∧ Sh (IN wr B x g p s (st.setK st.P f bs k)) ∧ Sh (IK B x g p s w wr) ∧ Sh (Pcs wr 71 w.heap.size (.slice A1 m c1) (gapL st.P f t))) (fun iv _ => m - (intOf iv).toNat)
    case atStart => exact ⟨0, Nat.zero_le _, rfl, HI0, HK0, HP0⟩
    case round =>
      obtain ⟨k, hk, rfl, HI, HK, HPr⟩ := hrel
      clear HI0 HK0 HP0
      by_cases hlt : k < m
      · have hlt' : (k : Int) < (m : Int) := by omega
        have hk0 : (0 : Int) ≤ (k : Int) := by omega
        obtain ⟨_, _, _, eA, _, _, _, hrm⟩ := Pcs.out HPr.out
        injection eA with eA en ec
        subst eA
        subst en
        obtain ⟨b, off, y, z, rfl, hbb, p0, p1, hp⟩ := hrm.out.pc hlt
        clear hrm ec
        have hg := gapL_in HH.out.ok.rs (y, z) (List.mem_of_getElem? hp.out)
        have hyz : f ≤ y ∧ y ≤ z ∧ z ≤ t := hg
        obtain ⟨j1, hj1⟩ : ∃ j1, j1 = y - f := ⟨_, rfl⟩
        obtain ⟨j2, hj2⟩ : ∃ j2, j2 = z - f := ⟨_, rfl⟩
        obtain ⟨o1, ho1⟩ : ∃ o1, o1 = y - st.base := ⟨_, rfl⟩
        have hq1 := HH.out.ok.s6
        have hq2 := HH.out.ok.bl
        unfold iLim at hq2
        have hq3 := HBF.out
        have hq4 := H2.out
        have hq5 := HT.out
        have hw2 : IntKind.u64.wrap ((y : Int) - (st.base : Int)) = (o1 : Nat) := by rw [IntKind.wrap_u64]; omega
        have hw3 : IntKind.i64.wrap (o1 : Int) = (o1 : Nat) := by rw [IntKind.wrap_i64]; omega
        have hw4 : IntKind.u64.wrap ((y : Int) - (f : Int)) = (j1 : Nat) := by rw [IntKind.wrap_u64]; omega
        have hw5 : IntKind.u64.wrap ((z : Int) - (f : Int)) = (j2 : Nat) := by rw [IntKind.wrap_u64]; omega
        have hs1 : ∀ w, (Instr.slice 24 (.slice A n c) (some (.int .u64 (j1 : Int))) (some (.int .u64 (j2 : Int))) none).run Try.prog w = .ok (.slice (cutA A c j1 1) (j2 - j1) (c - j1)) w := fun w => run_cut_lhU elB A n c j1 j2 (by omega) (by omega) w
        have hs2 : ∀ w, (Instr.sliceAt 24 (.slice A n c) (some (.int .u64 (j1 : Int))) (some (.int .u64 (j2 : Int))) none).run Try.prog w = .ok (.slice (cutA A c j1 1) (j2 - j1) (c - j1)) w := fun w => (run_sliceAt_slice w _ _ _ _ _ HU.out).trans (hs1 w)
        have HR1 := Sh.mk fun w' (k' : IK B x g p s w w') => (HF.out w' k').cutTo (h := j1) (k := j2) (by omega) (by omega) hc
        have HA1 := Sh.mk (Apart.cut (m := j2 - j1) (c := c) (h := j1) (sz := 1) (HF.out w IK.refl) HAP.out (by omega))
        have HN1 := Sh.mk (show (bs.drop j1).take (j2 - j1) = (bs.drop (y - f)).take (z - y) by rw [hj1, hj2, show z - f - (y - f) = z - y by omega])
        have HO1 := Sh.mk (show o1 ≤ st.size ∧ j2 - j1 ≤ st.size - o1 ∧ j2 - j1 ≤ 1000000 ∧ j2 - j1 ≤ c - j1 by omega)
        obtain ⟨j3, hj3⟩ : ∃ j3, j3 = j2 - j1 := ⟨_, rfl⟩
        rw [← hj3] at hs1 hs2 HA1 HN1 HO1 HR1
        have HS := Sh.mk (show st.setK st.P f bs (k + 1) = { st.setK st.P f bs k with L := spl (st.setK st.P f bs k).L o1 ((bs.drop j1).take j3) } by
          unfold Ist.setK
          rw [HL.out, ← HT.out, take_snocI hp.out, gapSet_snoc, ho1, HN1.out])
        generalize cutA A c j1 1 = AC at hs1 hs2 HR1 HA1
        generalize c - j1 = cc at hs1 hs2 HO1
        clear hg hyz hj1 hj2 ho1 hq1 hq2 hq3 hq4 hq5 hj3 HN1 hp
        have hal : Below wr.heap.size wr (wr.alloc (.cells #[.int .u64 (y : Int), .int .u64 (z : Int)] 71)) := (Below.refl _ _).alloc (Nat.le_refl _) _
        have KB := Sh.mk (Blk.new wr 71 #[.int .u64 (y : Int), .int .u64 (z : Int)])
        go_upto_region 9 with fail
        replace HI := Sh.mk (HI.out.into hal)
        replace HK := Sh.mk (HK.out.trans (IK.of hal))
        replace HPr := Sh.mk (Pcs.below HPr.out hal)
        have hgr : wr.heap.size < (wr.alloc (.cells #[.int .u64 (y : Int), .int .u64 (z : Int)] 71)).heap.size := KB.out.lt
        generalize wr.alloc (.cells #[.int .u64 (y : Int), .int .u64 (z : Int)] 71) = w2 at *
        generalize wr.heap.size = gz at *
        have c0 := HI.out.c0
        have c1' := HI.out.c1
        have z0 : w2.cell? ⟨gz, 0, none⟩ = some (.int .u64 (y : Int)) := by rw [KB.out.cell]; rfl
        have z1 : w2.cell? ⟨gz, 1, none⟩ = some (.int .u64 (z : Int)) := by rw [KB.out.cell]; rfl
        change w2.cell? ⟨x, 1, none⟩ = some (.int .u64 (st.base : Int)) at c1'
        refine wp_ord [(0, .pure), (1, .pure), (2, .pure), (3, .read), (4, .pure), (5, .read), (6, .pure), (7, .pure), (8, .pure), (9, .read), (10, .pure), (11, .pure), (12, .pure), (13, .pure), (14, .read), (15, .pure), (16, .pure), (17, .pure), (18, .read), (19, .pure), (20, .pure), (21, .pure), (22, .sole)] [22] (by kernel_rfl) (by kernel_rfl) (fun QQ hQ wd hwd => ?_); simp only [List.map_cons, List.map_nil, List.getD_cons_zero, List.getD_cons_succ]
        have cc0 : wd.cell? ⟨x, 0, none⟩ = some (.pointer (some ⟨g, 0, none⟩)) := by rw [hwd.out]; exact c0
        have cc1 : wd.cell? ⟨x, 1, none⟩ = some (.int .u64 (st.base : Int)) := by rw [hwd.out]; exact c1'
        have zz0 : wd.cell? ⟨gz, 0, none⟩ = some (.int .u64 (y : Int)) := by rw [hwd.out]; exact z0
        have zz1 : wd.cell? ⟨gz, 1, none⟩ = some (.int .u64 (z : Int)) := by rw [hwd.out]; exact z1
        have hbd : Below w2.heap.size w2 wd := by rw [hwd.out]; exact (Below.refl _ _).drew
        replace HI := Sh.mk (HI.out.into hbd)
        replace HK := Sh.mk (HK.out.trans (IK.of hbd))
        replace HPr := Sh.mk (Pcs.below HPr.out hbd)
        clear hwd c0 c1' z0 z1 hbd
        iterate 22 (first | (refine o_pure (v := ?_) (by rfl) (fun w' => ?_) ?_; rotate_left; (focus (go_simp; (try with_reducible rfl); (try (rw [if_pos (by omega)]; (try with_reducible rfl))))); (try simp only [Act.put, List.setIfInBounds_toArray, List.set_cons_zero, List.set_cons_succ])) | (refine o_load _ (by rfl) rfl rfl (by assumption) (by kernel_rfl) ?_; simp only [Act.put, List.setIfInBounds_toArray, List.set_cons_zero, List.set_cons_succ]))
        refine o_sole (fun K hK => ?_)
        go_wp2_with fail
        refine (set_any g p st.size (st.setK st.P f bs k).there o1 j3 cc w.heap.size AC (st.setK st.P f bs k).L ((bs.drop j1).take j3) wd HI.out.rg (HR1.out wd HK.out) (fun y hy => HLT.out y (List.mem_of_mem_drop (List.mem_of_mem_take hy))) HA1.out HO1.out.2.2.2 HO1.out.2.2.1 HO1.out.1).mono ?_
        rintro e w3 ⟨rfl, hd3, hr3⟩
        rw [if_pos HO1.out.2.1] at hr3
        have H3 := Sh.mk (show IN w3 B x g p s (st.setK st.P f bs (k + 1)) by
          rw [HS.out]
          exact HI.out.ring (t := (st.setK st.P f bs k).there) hd3 hr3 (by have h9 := HOK.out (k + 1); rw [HS.out] at h9; exact h9))
        have HK3 := Sh.mk (HK.out.trans (IK.ofR hd3))
        have HP3 := Sh.mk (show Pcs w3 71 w.heap.size (.slice (some ⟨b, off, none⟩) m c1) (gapL st.P f t) from own_kept HPr.out fun i hi => hd3.2.2 i (by have := (HPr.out.lt i hi).1; have := HH.out.lt; omega) (by have := (HPr.out.lt i hi).1; have := HH.out.lt; omega))
        clear hd3 hr3 HS HR1 HA1 HO1
        go_wp2_with fail
        refine hK _ _ (fun h => by cases h) ?_; clear hK K
        refine o_nil (hQ.out _ _ ?_); clear hQ QQ
        go_wp2_with fail
        go_roundw
        case rel => exact ⟨k + 1, by omega, by go_num, H3, HK3, HP3⟩
        case measure => simp [intOf]; omega
      · have hge : ¬ (k : Int) < (m : Int) := by omega
        obtain rfl : k = m := by omega
        rw [← HLM.out] at HI
        clear hlt
        have c2' : wr.cell? ⟨x, 2, none⟩ = some (.pointer (some ⟨s, 0, none⟩)) := HI.out.c2
        obtain ⟨v2, hv2⟩ := HI.out.sp
        have HV2 := Sh.mk (show SetI wr s B st.most v2 st.P from hv2)
        have hru := HH.out.ok.run (t := t) (by have := H2.out; have := HT.out; omega)
        have HRU := Sh.mk (show f ≤ runL st.P t ∧ runL st.P t ≤ st.base + st.size from ⟨by have := HT.out; omega, hru.2⟩)
        clear hv2 hru
        go_wp2_with fail
        refine (run_any s B st.most v2 st.P t wr HV2.out).mono ?_
        rintro e w5 ⟨rfl, hb5⟩
        have HI5 := Sh.mk (HI.out.into hb5)
        have HK5 := Sh.mk (HK.out.trans (IK.of hb5))
        clear hb5 c2'
        go_wp2_with fail
        refine (in_order B x g p s (st.setK st.P f bs (gapL st.P f t).length) (runL st.P t) w5 HI5.out (by rw [show (st.setK st.P f bs (gapL st.P f t).length).next = f from HN.out.symm]; exact HRU.out.1) HRU.out.2).mono ?_
        rintro e w6 ⟨⟨u, rfl⟩, hi6, hk6⟩
        have HI6 := Sh.mk hi6
        have HK6 := Sh.mk (HK5.out.trans hk6)
        clear hi6 hk6
        go_wp2_with fail
        go_ret
        rw [HC.out]
        exact ⟨rfl, HI6.out, HK6.out⟩

end Go.Proofs.Ytnngjbieoakanaa
