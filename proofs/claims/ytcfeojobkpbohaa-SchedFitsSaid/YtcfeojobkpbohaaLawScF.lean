/- SchedFits: the walk. -/
import Derived.Test.YtcfeojobkpbohaaScM
namespace Go.Proofs.Ytcfeojobkpbohaa
open Go.RowKit Go.Sort
set_option linter.unusedVariables false
set_option linter.unusedSimpArgs false
/-- Those that fit; those of them that are neither for need alone nor avoided. -/
def goodP (n : Int) (x : Pth) : Bool := fitP n x && (!x.bk && !x.bd)
def cF (n : Int) (l : List Pth) (k : Nat) : Nat := ((l.take k).filter (fitP n)).length
def cG (n : Int) (l : List Pth) (k : Nat) : Nat := ((l.take k).filter (goodP n)).length
theorem cF_yes {n : Int} {l : List Pth} {k : Nat} {x : Pth} (h : l[k]? = some x) (hf : fitP n x = true) : cF n l (k + 1) = cF n l k + 1 := by unfold cF; rw [tkSnocP h]; simp [hf]
theorem cF_no {n : Int} {l : List Pth} {k : Nat} {x : Pth} (h : l[k]? = some x) (hf : fitP n x = false) : cF n l (k + 1) = cF n l k := by unfold cF; rw [tkSnocP h]; simp [hf]
theorem cG_yes {n : Int} {l : List Pth} {k : Nat} {x : Pth} (h : l[k]? = some x) (hf : goodP n x = true) : cG n l (k + 1) = cG n l k + 1 := by unfold cG; rw [tkSnocP h]; simp [hf]
theorem cG_no {n : Int} {l : List Pth} {k : Nat} {x : Pth} (h : l[k]? = some x) (hf : goodP n x = false) : cG n l (k + 1) = cG n l k := by unfold cG; rw [tkSnocP h]; simp [hf]
theorem cF_le (n : Int) (l : List Pth) (k : Nat) : cF n l k ≤ k := by
  unfold cF
  have := List.length_filter_le (fitP n) (l.take k)
  rw [List.length_take] at this
  omega
theorem cG_le (n : Int) (l : List Pth) (k : Nat) : cG n l k ≤ k := by
  unfold cG
  have := List.length_filter_le (goodP n) (l.take k)
  rw [List.length_take] at this
  omega
/-- What is chosen fits, and is good if there is a good one. -/
theorem chosen_fit {pol last n : Int} {s l : List Pth} {x : Pth} (hp : s.Perm (l.filter (fitP n))) (hs : s.Pairwise (fun x y => ltP pol last y x = false)) (hx : x ∈ chL pol s) : x ∈ l ∧ fitP n x = true ∧ (0 < cG n l l.length → x.bk = false ∧ x.bd = false) := by
  have h1 := hp.mem_iff.1 (chL_mem hx)
  obtain ⟨h2, h3⟩ := List.mem_filter.1 h1
  refine ⟨h2, h3, fun hg => ?_⟩
  unfold cG at hg
  rw [List.take_length] at hg
  obtain ⟨y, hy⟩ := List.exists_mem_of_length_pos hg
  obtain ⟨hyl, hyg⟩ := List.mem_filter.1 hy
  have hyf : fitP n y = true := by
    unfold goodP at hyg
    revert hyg; cases fitP n y <;> simp
  have hyk : y.bk = false ∧ y.bd = false := by
    unfold goodP at hyg
    rw [hyf] at hyg
    revert hyg; cases y.bk <;> cases y.bd <;> simp
  have hr := chL_rank hs hx (hp.mem_iff.2 (List.mem_filter.2 ⟨hyl, hyf⟩))
  unfold rkP at hr
  rw [hyk.1, hyk.2] at hr
  revert hr
  cases x.bk <;> cases x.bd <;> simp
theorem chosen_ne {pol last n : Int} {s l : List Pth} (hp : s.Perm (l.filter (fitP n))) : 0 < (chL pol s).length ↔ 0 < cF n l l.length := by
  unfold cF
  rw [List.take_length, ← hp.length_eq, List.length_pos_iff, List.length_pos_iff]
  exact not_congr chL_nil
theorem same_of_id {l : List Pth} (hn : (l.map Pth.id).Nodup) {x y : Pth} (hx : x ∈ l) (hy : y ∈ l) (h : x.id = y.id) : x = y := by
  induction l with
  | nil => cases hx
  | cons z l ih =>
    rw [List.map_cons, List.nodup_cons] at hn
    rcases List.mem_cons.1 hx with rfl | hx2
    · rcases List.mem_cons.1 hy with rfl | hy
      · rfl
      · exact absurd (show x.id ∈ List.map Pth.id l from List.mem_map.2 ⟨y, hy, h.symm⟩) hn.1
    · skip
      rcases List.mem_cons.1 hy with rfl | hy
      · exact absurd (show y.id ∈ List.map Pth.id l from List.mem_map.2 ⟨x, hx2, h⟩) hn.1
      · exact ih hn.2 hx2 hy
set_option maxRecDepth 20000 in
set_option maxHeartbeats 8000000 in
theorem schedFits_walk (pol last n : Int) (A : Option Addr) (m c : Nat) (l : List Pth) (w : World) (h : Rd w w.heap.size 7 A m (pths l)) :
    Calls Try.prog 5 #[.agg #[.int .i64 pol, .int .i64 last, .int .i64 n], .slice A m c] w fun e w' => e = .returned (.bool true) ∧ Below w.heap.size w w' := by
  have K1 := Lib.hid (Blk.new w 24 #[.int .i64 pol, .int .i64 last, .int .i64 n])
  have B1 := Lib.hid ((Below.refl w.heap.size w).alloc (Nat.le_refl _) (.cells #[.int .i64 pol, .int .i64 last, .int .i64 n] 24))
  by_cases hm : m ≤ 60
  · have hm' : ¬ (60 : Int) < (m : Int) := by omega
    have HR := Lib.hid (h.into B1.out)
    have HM := Sh.mk (show m ≤ 100 by omega)
    clear h
    go_enter Try.func5, Try.ntmps5
    go_upto_region 1 with fail
    generalize w.alloc (.cells #[.int .i64 pol, .int .i64 last, .int .i64 n] 24) = w2 at HR B1 K1 ⊢
    obtain ⟨X, hX⟩ : ∃ X, X = w.heap.size := ⟨_, rfl⟩
    rw [← hX] at K1 ⊢
    have HXX := Sh.mk hX
    clear hX
    go_wp2_with fail
    refine (apart_any A m c l w2 HR.out HM.out).mono ?_
    rintro e w9 ⟨b, rfl, hnd, hb⟩
    have HR9 := Lib.hid (HR.out.into hb)
    have B9 := Lib.hid (B1.out.trans (hb.mono B1.out.size))
    have K9 := Lib.hid (K1.out.below hb K1.out.lt)
    have HND0 := Lib.hid hnd
    clear hnd hb HR B1 K1
    cases b
    · go_wp2_with fail
      refine bodyPost_ret (v := .bool true) (by kernel_rfl) rfl ?_
      exact ⟨rfl, B9.out⟩
    · have HND := Lib.hid (HND0.out rfl)
      clear HND0
      have c0 : w9.cell? ⟨X, 0, none⟩ = some (.int .i64 pol) := by rw [K9.out.cell]; rfl
      have c1 : w9.cell? ⟨X, 1, none⟩ = some (.int .i64 last) := by rw [K9.out.cell]; rfl
      have c2 : w9.cell? ⟨X, 2, none⟩ = some (.int .i64 n) := by rw [K9.out.cell]; rfl
      go_wp2_with fail
      refine (choose_any pol last n A m c l w9 HR9.out HM.out).mono ?_
      rintro e w3 ⟨v3, s3, rfl, hz, hb, hp, hs⟩
      obtain ⟨A3, n3, cc3, rfl, hnc, hn3, hr3⟩ := hz.out
      have R3 := hr3
      have N3 := Sh.mk (show n3 = (chL pol s3).length by have := hn3.out; rw [List.length_map] at this; exact this.symm)
      have B3 := Lib.hid (B9.out.trans (hb.mono B9.out.size))
      have L3 := Lib.hid (HR9.out.into hb)
      have K3 := Lib.hid (K9.out.below hb K9.out.lt)
      have HL := Sh.mk HR9.out.pthLen
      have CF := Lib.hid (fun x hx => chosen_fit hp hs (x := x) hx)
      have CN := Sh.mk (chosen_ne (pol := pol) (last := last) hp)
      have n3b : n3 ≤ 100 := by
        have h1 := N3.out
        have h2 := hp.length_eq
        have h3 := List.length_filter_le (fitP n) l
        have h4 := HL.out
        have h5 := HM.out
        have h6 := @chL_len pol s3
        omega
      obtain ⟨cl, hcl⟩ : ∃ cl, cl = chL pol s3 := ⟨_, rfl⟩
      rw [← hcl] at R3 N3 CF CN
      clear hz hb hp hs hnc hn3 hr3 HR9 B9 K9 c0 c1 c2 hcl
      go_wp2_with fail
      go_loopw [6, 7, 8] (fun fv gv iv wr => ∃ (k nf ng : Nat), iv = .int .i64 (k : Nat) ∧ fv = .int .i64 (nf : Nat) ∧ gv = .int .i64 (ng : Nat) ∧ (k ≤ m ∧ nf ≤ k ∧ ng ≤ k) ∧ Sh (nf = cF n l k) ∧ Sh (ng = cG n l k) ∧ Hid (Below w3.heap.size w3 wr)) (fun _ _ iv _ => m - (intOf iv).toNat)
      case atStart => exact ⟨0, 0, 0, rfl, rfl, rfl, ⟨Nat.zero_le _, Nat.le_refl _, Nat.le_refl _⟩, ⟨rfl⟩, ⟨rfl⟩, Lib.hid (Below.refl _ _)⟩
      case round =>
        obtain ⟨k, nf, ng, rfl, rfl, rfl, hk, HNF, HNG, BB⟩ := hrel
        by_cases hlt : k < m
        · have hlt' : (k : Int) < (m : Int) := by omega
          have hk0 : (0 : Int) ≤ (k : Int) := by omega
          obtain ⟨rb, off, x, hA, hrb, HC, HX⟩ := L3.out.pth hlt
          subst hA
          obtain ⟨a0, a1, a2, a3, a4, a5, a6⟩ := pt7 (w := wr) (o := off + k * 7) (fun j v hj => (BB.out.cell (p := ⟨rb, off + k * 7 + j, none⟩) hrb).trans (HC.out j v hj))
          have c2 : wr.cell? ⟨X, 2, none⟩ = some (.int .i64 n) := (BB.out.cell (p := ⟨X, 2, none⟩) K3.out.lt).trans (by rw [K3.out.cell]; rfl)
          cases hu : x.up
          · have HF := Sh.mk (show fitP n x = false by unfold fitP; rw [hu]; rfl)
            rw [hu] at a1
            clear hu
            have HNF2 := Sh.mk (show nf = cF n l (k + 1) by rw [cF_no HX.out HF.out]; exact HNF.out)
            have HNG2 := Sh.mk (show ng = cG n l (k + 1) by rw [cG_no HX.out (by unfold goodP; rw [HF.out]; rfl)]; exact HNG.out)
            clear HNF HNG HF
            go_wp2_with fail
            refine wp_ext (by kernel_rfl) (by kernel_rfl) (fun QQ hQ => ?_)
            iterate 23 (first | (refine x_skip (by rfl) ?_; simp only [Act.put, List.setIfInBounds_toArray, List.set_cons_zero, List.set_cons_succ]) | (first | (refine x_load _ (by rfl) rfl rfl (by assumption) (by kernel_rfl) ?_; simp only [Act.put, List.setIfInBounds_toArray, List.set_cons_zero, List.set_cons_succ]) | (refine x_val (v := ?_) (by rfl) (fun w' hx => ?_) ?_; rotate_left; (focus (go_simp; (try with_reducible rfl))); (try simp only [Act.put, List.setIfInBounds_toArray, List.set_cons_zero, List.set_cons_succ]))))
            refine x_nil (hQ.out _ ?_); clear hQ QQ
            intro w4 hb4
            have B4 := Lib.hid (BB.out.trans (hb4.mono BB.out.size))
            clear hb4 BB a0 a1 a2 a3 a4 a5 a6 c2
            go_wp2_with fail
            go_roundw
            case rel => exact ⟨k + 1, nf, ng, by go_num, rfl, rfl, ⟨by omega, by omega, by omega⟩, HNF2, HNG2, B4⟩
            case measure => simp [intOf]; omega
          · rw [hu] at a1
            by_cases hr : x.room < n
            · have hrd : decide (n ≤ x.room) = false := decide_eq_false (by omega)
              by_cases h0 : x.und = 0
              · have HF := Sh.mk (show fitP n x = true by unfold fitP; rw [hu, hrd, decide_eq_true h0]; rfl)
                have h0' : (x.und == 0) = true := by simp [h0]
                clear hu h0
                have HNF2 := Sh.mk (show nf + 1 = cF n l (k + 1) by rw [cF_yes HX.out HF.out, HNF.out])
                go_wp2_with fail
                refine wp_ext (by kernel_rfl) (by kernel_rfl) (fun QQ hQ => ?_)
                iterate 23 (first | (refine x_skip (by rfl) ?_; simp only [Act.put, List.setIfInBounds_toArray, List.set_cons_zero, List.set_cons_succ]) | (first | (refine x_load _ (by rfl) rfl rfl (by assumption) (by kernel_rfl) ?_; simp only [Act.put, List.setIfInBounds_toArray, List.set_cons_zero, List.set_cons_succ]) | (refine x_val (v := ?_) (by rfl) (fun w' hx => ?_) ?_; rotate_left; (focus (go_simp; (try with_reducible rfl))); (try simp only [Act.put, List.setIfInBounds_toArray, List.set_cons_zero, List.set_cons_succ]))))
                refine x_nil (hQ.out _ ?_); clear hQ QQ
                intro w4 hb4
                have B4 := Lib.hid (BB.out.trans (hb4.mono BB.out.size))
                clear hb4 a0 a1 a2 a3 a4 a5 a6 c2 HNF
                obtain ⟨a0, a1, a2, a3, a4, a5, a6⟩ := pt7 (w := w4) (o := off + k * 7) (fun j v hj => (B4.out.cell (p := ⟨rb, off + k * 7 + j, none⟩) hrb).trans (HC.out j v hj))
                clear a0 a1 a4 a5 a6 BB
                cases hbk : x.bk
                · rw [hbk] at a2
                  cases hbd : x.bd
                  · rw [hbd] at a3
                    have HNG2 := Sh.mk (show ng + 1 = cG n l (k + 1) by rw [cG_yes HX.out (by unfold goodP; rw [HF.out, hbk, hbd]; rfl), HNG.out])
                    clear HNG HF hbk hbd
                    go_wp2_with fail
                    go_roundw
                    case rel => exact ⟨k + 1, nf + 1, ng + 1, by go_num, by go_num, by go_num, ⟨by omega, by omega, by omega⟩, HNF2, HNG2, B4⟩
                    case measure => simp [intOf]; omega
                  · rw [hbd] at a3
                    have HNG2 := Sh.mk (show ng = cG n l (k + 1) by rw [cG_no HX.out (by unfold goodP; rw [HF.out, hbk, hbd]; rfl)]; exact HNG.out)
                    clear HNG HF hbk hbd
                    go_wp2_with fail
                    go_roundw
                    case rel => exact ⟨k + 1, nf + 1, ng, by go_num, by go_num, rfl, ⟨by omega, by omega, by omega⟩, HNF2, HNG2, B4⟩
                    case measure => simp [intOf]; omega
                · rw [hbk] at a2
                  have HNG2 := Sh.mk (show ng = cG n l (k + 1) by rw [cG_no HX.out (by unfold goodP; rw [HF.out, hbk]; rfl)]; exact HNG.out)
                  clear HNG HF hbk
                  go_wp2_with fail
                  go_roundw
                  case rel => exact ⟨k + 1, nf + 1, ng, by go_num, by go_num, rfl, ⟨by omega, by omega, by omega⟩, HNF2, HNG2, B4⟩
                  case measure => simp [intOf]; omega
              · have HF := Sh.mk (show fitP n x = false by unfold fitP; rw [hu, hrd, decide_eq_false h0]; rfl)
                have h0' : (x.und == 0) = false := by simp [h0]
                clear hu h0
                have HNF2 := Sh.mk (show nf = cF n l (k + 1) by rw [cF_no HX.out HF.out]; exact HNF.out)
                have HNG2 := Sh.mk (show ng = cG n l (k + 1) by rw [cG_no HX.out (by unfold goodP; rw [HF.out]; rfl)]; exact HNG.out)
                clear HNF HNG HF
                go_wp2_with fail
                refine wp_ext (by kernel_rfl) (by kernel_rfl) (fun QQ hQ => ?_)
                iterate 23 (first | (refine x_skip (by rfl) ?_; simp only [Act.put, List.setIfInBounds_toArray, List.set_cons_zero, List.set_cons_succ]) | (first | (refine x_load _ (by rfl) rfl rfl (by assumption) (by kernel_rfl) ?_; simp only [Act.put, List.setIfInBounds_toArray, List.set_cons_zero, List.set_cons_succ]) | (refine x_val (v := ?_) (by rfl) (fun w' hx => ?_) ?_; rotate_left; (focus (go_simp; (try with_reducible rfl))); (try simp only [Act.put, List.setIfInBounds_toArray, List.set_cons_zero, List.set_cons_succ]))))
                refine x_nil (hQ.out _ ?_); clear hQ QQ
                intro w4 hb4
                have B4 := Lib.hid (BB.out.trans (hb4.mono BB.out.size))
                clear hb4 BB a0 a1 a2 a3 a4 a5 a6 c2
                go_wp2_with fail
                go_roundw
                case rel => exact ⟨k + 1, nf, ng, by go_num, rfl, rfl, ⟨by omega, by omega, by omega⟩, HNF2, HNG2, B4⟩
                case measure => simp [intOf]; omega
            · have hrd : decide (n ≤ x.room) = true := decide_eq_true (by omega)
              have HF := Sh.mk (show fitP n x = true by unfold fitP; rw [hu, hrd]; rfl)
              clear hu
              have HNF2 := Sh.mk (show nf + 1 = cF n l (k + 1) by rw [cF_yes HX.out HF.out, HNF.out])
              go_wp2_with fail
              refine wp_ext (by kernel_rfl) (by kernel_rfl) (fun QQ hQ => ?_)
              iterate 23 (first | (refine x_skip (by rfl) ?_; simp only [Act.put, List.setIfInBounds_toArray, List.set_cons_zero, List.set_cons_succ]) | (first | (refine x_load _ (by rfl) rfl rfl (by assumption) (by kernel_rfl) ?_; simp only [Act.put, List.setIfInBounds_toArray, List.set_cons_zero, List.set_cons_succ]) | (refine x_val (v := ?_) (by rfl) (fun w' hx => ?_) ?_; rotate_left; (focus (go_simp; (try with_reducible rfl))); (try simp only [Act.put, List.setIfInBounds_toArray, List.set_cons_zero, List.set_cons_succ]))))
              refine x_nil (hQ.out _ ?_); clear hQ QQ
              intro w4 hb4
              have B4 := Lib.hid (BB.out.trans (hb4.mono BB.out.size))
              clear hb4 a0 a1 a2 a3 a4 a5 a6 c2 HNF
              obtain ⟨a0, a1, a2, a3, a4, a5, a6⟩ := pt7 (w := w4) (o := off + k * 7) (fun j v hj => (B4.out.cell (p := ⟨rb, off + k * 7 + j, none⟩) hrb).trans (HC.out j v hj))
              clear a0 a1 a4 a5 a6 BB
              cases hbk : x.bk
              · rw [hbk] at a2
                cases hbd : x.bd
                · rw [hbd] at a3
                  have HNG2 := Sh.mk (show ng + 1 = cG n l (k + 1) by rw [cG_yes HX.out (by unfold goodP; rw [HF.out, hbk, hbd]; rfl), HNG.out])
                  clear HNG HF hbk hbd
                  go_wp2_with fail
                  go_roundw
                  case rel => exact ⟨k + 1, nf + 1, ng + 1, by go_num, by go_num, by go_num, ⟨by omega, by omega, by omega⟩, HNF2, HNG2, B4⟩
                  case measure => simp [intOf]; omega
                · rw [hbd] at a3
                  have HNG2 := Sh.mk (show ng = cG n l (k + 1) by rw [cG_no HX.out (by unfold goodP; rw [HF.out, hbk, hbd]; rfl)]; exact HNG.out)
                  clear HNG HF hbk hbd
                  go_wp2_with fail
                  go_roundw
                  case rel => exact ⟨k + 1, nf + 1, ng, by go_num, by go_num, rfl, ⟨by omega, by omega, by omega⟩, HNF2, HNG2, B4⟩
                  case measure => simp [intOf]; omega
              · rw [hbk] at a2
                have HNG2 := Sh.mk (show ng = cG n l (k + 1) by rw [cG_no HX.out (by unfold goodP; rw [HF.out, hbk]; rfl)]; exact HNG.out)
                clear HNG HF hbk
                go_wp2_with fail
                go_roundw
                case rel => exact ⟨k + 1, nf + 1, ng, by go_num, by go_num, rfl, ⟨by omega, by omega, by omega⟩, HNF2, HNG2, B4⟩
                case measure => simp [intOf]; omega
        · have hlt' : ¬ (k : Int) < (m : Int) := by omega
          have hkm : k = l.length := by rw [HL.out]; omega
          have HNF2 := Sh.mk (show nf = cF n l l.length by rw [← hkm]; exact HNF.out)
          have HNG2 := Sh.mk (show ng = cG n l l.length by rw [← hkm]; exact HNG.out)
          clear HNF HNG hkm
          go_wp2_with fail
          go_loopw [9] (fun iv wr2 => ∃ (i : Nat), iv = .int .i64 (i : Nat) ∧ i ≤ n3 ∧ Hid (Below w3.heap.size w3 wr2)) (fun iv _ => n3 - (intOf iv).toNat)
          case atStart => exact ⟨0, rfl, Nat.zero_le _, BB⟩
          case round =>
            obtain ⟨i, rfl, hi, BI⟩ := hrel
            by_cases hli : i < n3
            · have hli' : (i : Int) < (n3 : Int) := by omega
              have hi0 : (0 : Int) ≤ (i : Int) := by omega
              obtain ⟨rc, oc, ci, hA3, hrc, HCI, HXI⟩ := R3.out.nthz hli
              subst hA3
              obtain ⟨x, hxc, hxi⟩ : ∃ x, x ∈ cl ∧ x.id = ci := by
                have := HXI.out
                rw [List.getElem?_map] at this
                cases hg : cl[i]? with
                | none => rw [hg] at this; simp at this
                | some y => rw [hg] at this; simp at this; exact ⟨y, List.mem_of_getElem? hg, this⟩
              have CX := Lib.hid (CF.out x hxc)
              have HXC := Sh.mk hxi
              have HST := Sh.mk (show false = true ∨ ∀ j, j < 0 → ∀ y, l[j]? = some y → y.id ≠ ci from .inr fun j hj => absurd hj (Nat.not_lt_zero _))
              clear hxc hxi
              go_wp2_with fail
              go_loopw [10, 11] (fun bv kv wr2 => ∃ (k : Nat) (b : Bool), bv = .bool b ∧ kv = .int .i64 (k : Nat) ∧ k ≤ m ∧ Sh (b = true ∨ ∀ j, j < k → ∀ y, l[j]? = some y → y.id ≠ ci) ∧ Hid (Below w3.heap.size w3 wr2)) (fun _ kv _ => m - (intOf kv).toNat)
              case atStart => exact ⟨0, false, rfl, rfl, Nat.zero_le _, HST, BI⟩
              case round =>
                clear HST BI
                obtain ⟨k, b, rfl, rfl, hk, HST, BI⟩ := hrel
                by_cases hlk : k < m
                · have hlk' : (k : Int) < (m : Int) := by omega
                  have hk0 : (0 : Int) ≤ (k : Int) := by omega
                  obtain ⟨rb, off, y, hA, hrb, HC, HY⟩ := L3.out.pth hlk
                  subst hA
                  obtain ⟨a0, a1, a2, a3, a4, a5, a6⟩ := pt7 (w := wr) (o := off + k * 7) (fun j v hj => (BI.out.cell (p := ⟨rb, off + k * 7 + j, none⟩) hrb).trans (HC.out j v hj))
                  have c2 : wr.cell? ⟨X, 2, none⟩ = some (.int .i64 n) := (BI.out.cell (p := ⟨X, 2, none⟩) K3.out.lt).trans (by rw [K3.out.cell]; rfl)
                  have d0 := (BI.out.cell (p := ⟨rc, oc + i, none⟩) hrc).trans HCI
                  by_cases hid : y.id = ci
                  · have hid' : (y.id == ci) = true := by simpa using hid
                    have HYX := Sh.mk (show y = x from same_of_id HND.out (List.mem_of_getElem? HY.out) CX.out.1 (by rw [hid]; exact HXC.out.symm))
                    clear hid
                    go_wp2_with fail
                    refine wp_ext (by kernel_rfl) (by kernel_rfl) (fun QQ hQ => ?_)
                    iterate 10 (first | (refine x_skip (by rfl) ?_; simp only [Act.put, List.setIfInBounds_toArray, List.set_cons_zero, List.set_cons_succ]) | (first | (refine x_load _ (by rfl) rfl rfl (by assumption) (by kernel_rfl) ?_; simp only [Act.put, List.setIfInBounds_toArray, List.set_cons_zero, List.set_cons_succ]) | (refine x_val (v := ?_) (by rfl) (fun w' hx => ?_) ?_; rotate_left; (focus (go_simp; (try with_reducible rfl))); (try simp only [Act.put, List.setIfInBounds_toArray, List.set_cons_zero, List.set_cons_succ]))))
                    refine x_nil (hQ.out _ ?_); clear hQ QQ
                    intro w5 hb5
                    have B5 := Lib.hid (BI.out.trans (hb5.mono BI.out.size))
                    clear hb5 BI a0 a1 a2 a3 a4 a5 a6 c2 d0
                    obtain ⟨a0, a1, a2, a3, a4, a5, a6⟩ := pt7 (w := w5) (o := off + k * 7) (fun j v hj => (B5.out.cell (p := ⟨rb, off + k * 7 + j, none⟩) hrb).trans (HC.out j v hj))
                    have c2 : w5.cell? ⟨X, 2, none⟩ = some (.int .i64 n) := (B5.out.cell (p := ⟨X, 2, none⟩) K3.out.lt).trans (by rw [K3.out.cell]; rfl)
                    have FY := CX.out.2.1
                    rw [← HYX.out] at FY
                    have GY := CX.out.2.2
                    rw [← HYX.out, ← HNG2.out] at GY
                    have HST2 : Sh (true = true ∨ ∀ j, j < k + 1 → ∀ y, l[j]? = some y → y.id ≠ ci) := ⟨.inl rfl⟩
                    cases hu : y.up
                    · unfold fitP at FY
                      rw [hu] at FY
                      simp at FY
                    · rw [hu] at a1
                      unfold fitP at FY
                      rw [hu] at FY
                      clear hu
                      by_cases hr : y.room < n
                      · have hrd : decide (n ≤ y.room) = false := decide_eq_false (by omega)
                        rw [hrd] at FY
                        have h0 : y.und = 0 := by simpa using FY
                        have h0' : (y.und == 0) = true := by simp [h0]
                        clear FY h0
                        by_cases hg : ng = 0
                        · have hg' : ((ng : Int) == 0) = true := by simp [hg]
                          clear hg GY
                          go_wp2_with fail
                          refine wp_ext (by kernel_rfl) (by kernel_rfl) (fun QQ hQ => ?_)
                          iterate 44 (first | (refine x_skip (by rfl) ?_; simp only [Act.put, List.setIfInBounds_toArray, List.set_cons_zero, List.set_cons_succ]) | (first | (refine x_load _ (by rfl) rfl rfl (by assumption) (by kernel_rfl) ?_; simp only [Act.put, List.setIfInBounds_toArray, List.set_cons_zero, List.set_cons_succ]) | (refine x_val (v := ?_) (by rfl) (fun w' hx => ?_) ?_; rotate_left; (focus (go_simp; (try with_reducible rfl))); (try simp only [Act.put, List.setIfInBounds_toArray, List.set_cons_zero, List.set_cons_succ]))))
                          refine x_nil (hQ.out _ ?_); clear hQ QQ
                          intro w6 hb6
                          have B6 := Lib.hid (B5.out.trans (hb6.mono B5.out.size))
                          clear hb6 B5 a0 a1 a2 a3 a4 a5 a6 c2
                          go_wp2_with fail
                          go_roundw
                          case rel => exact ⟨k + 1, true, rfl, by go_num, by omega, ⟨.inl rfl⟩, B6⟩
                          case measure => simp [intOf]; omega
                        · have hg' : ((ng : Int) == 0) = false := by simp [hg]
                          obtain ⟨hbk, hbd⟩ := GY (by omega)
                          rw [hbk] at a2
                          rw [hbd] at a3
                          clear hg GY hbk hbd
                          go_wp2_with fail
                          refine wp_ext (by kernel_rfl) (by kernel_rfl) (fun QQ hQ => ?_)
                          iterate 44 (first | (refine x_skip (by rfl) ?_; simp only [Act.put, List.setIfInBounds_toArray, List.set_cons_zero, List.set_cons_succ]) | (first | (refine x_load _ (by rfl) rfl rfl (by assumption) (by kernel_rfl) ?_; simp only [Act.put, List.setIfInBounds_toArray, List.set_cons_zero, List.set_cons_succ]) | (refine x_val (v := ?_) (by rfl) (fun w' hx => ?_) ?_; rotate_left; (focus (go_simp; (try with_reducible rfl))); (try simp only [Act.put, List.setIfInBounds_toArray, List.set_cons_zero, List.set_cons_succ]))))
                          refine x_nil (hQ.out _ ?_); clear hQ QQ
                          intro w6 hb6
                          have B6 := Lib.hid (B5.out.trans (hb6.mono B5.out.size))
                          clear hb6 B5 a0 a1 a2 a3 a4 a5 a6 c2
                          go_wp2_with fail
                          go_roundw
                          case rel => exact ⟨k + 1, true, rfl, by go_num, by omega, ⟨.inl rfl⟩, B6⟩
                          case measure => simp [intOf]; omega
                      · have hrd : decide (n ≤ y.room) = true := decide_eq_true (by omega)
                        clear FY
                        by_cases hg : ng = 0
                        · have hg' : ((ng : Int) == 0) = true := by simp [hg]
                          clear hg GY
                          go_wp2_with fail
                          refine wp_ext (by kernel_rfl) (by kernel_rfl) (fun QQ hQ => ?_)
                          iterate 44 (first | (refine x_skip (by rfl) ?_; simp only [Act.put, List.setIfInBounds_toArray, List.set_cons_zero, List.set_cons_succ]) | (first | (refine x_load _ (by rfl) rfl rfl (by assumption) (by kernel_rfl) ?_; simp only [Act.put, List.setIfInBounds_toArray, List.set_cons_zero, List.set_cons_succ]) | (refine x_val (v := ?_) (by rfl) (fun w' hx => ?_) ?_; rotate_left; (focus (go_simp; (try with_reducible rfl))); (try simp only [Act.put, List.setIfInBounds_toArray, List.set_cons_zero, List.set_cons_succ]))))
                          refine x_nil (hQ.out _ ?_); clear hQ QQ
                          intro w6 hb6
                          have B6 := Lib.hid (B5.out.trans (hb6.mono B5.out.size))
                          clear hb6 B5 a0 a1 a2 a3 a4 a5 a6 c2
                          go_wp2_with fail
                          go_roundw
                          case rel => exact ⟨k + 1, true, rfl, by go_num, by omega, ⟨.inl rfl⟩, B6⟩
                          case measure => simp [intOf]; omega
                        · have hg' : ((ng : Int) == 0) = false := by simp [hg]
                          obtain ⟨hbk, hbd⟩ := GY (by omega)
                          rw [hbk] at a2
                          rw [hbd] at a3
                          clear hg GY hbk hbd
                          go_wp2_with fail
                          refine wp_ext (by kernel_rfl) (by kernel_rfl) (fun QQ hQ => ?_)
                          iterate 44 (first | (refine x_skip (by rfl) ?_; simp only [Act.put, List.setIfInBounds_toArray, List.set_cons_zero, List.set_cons_succ]) | (first | (refine x_load _ (by rfl) rfl rfl (by assumption) (by kernel_rfl) ?_; simp only [Act.put, List.setIfInBounds_toArray, List.set_cons_zero, List.set_cons_succ]) | (refine x_val (v := ?_) (by rfl) (fun w' hx => ?_) ?_; rotate_left; (focus (go_simp; (try with_reducible rfl))); (try simp only [Act.put, List.setIfInBounds_toArray, List.set_cons_zero, List.set_cons_succ]))))
                          refine x_nil (hQ.out _ ?_); clear hQ QQ
                          intro w6 hb6
                          have B6 := Lib.hid (B5.out.trans (hb6.mono B5.out.size))
                          clear hb6 B5 a0 a1 a2 a3 a4 a5 a6 c2
                          go_wp2_with fail
                          go_roundw
                          case rel => exact ⟨k + 1, true, rfl, by go_num, by omega, ⟨.inl rfl⟩, B6⟩
                          case measure => simp [intOf]; omega
                  · have hid' : (y.id == ci) = false := by simpa using hid
                    have HST2 := Sh.mk (show b = true ∨ ∀ j, j < k + 1 → ∀ y, l[j]? = some y → y.id ≠ ci by
                      rcases HST.out with h | h
                      · exact .inl h
                      · refine .inr fun j hj z hz => ?_
                        rcases Nat.lt_or_ge j k with hjk | hjk
                        · exact h j hjk z hz
                        · obtain rfl : j = k := by omega
                          rw [HY.out] at hz
                          injection hz with hz
                          rw [← hz]; exact hid)
                    clear hid HST
                    go_wp2_with fail
                    refine wp_ext (by kernel_rfl) (by kernel_rfl) (fun QQ hQ => ?_)
                    iterate 10 (first | (refine x_skip (by rfl) ?_; simp only [Act.put, List.setIfInBounds_toArray, List.set_cons_zero, List.set_cons_succ]) | (first | (refine x_load _ (by rfl) rfl rfl (by assumption) (by kernel_rfl) ?_; simp only [Act.put, List.setIfInBounds_toArray, List.set_cons_zero, List.set_cons_succ]) | (refine x_val (v := ?_) (by rfl) (fun w' hx => ?_) ?_; rotate_left; (focus (go_simp; (try with_reducible rfl))); (try simp only [Act.put, List.setIfInBounds_toArray, List.set_cons_zero, List.set_cons_succ]))))
                    refine x_nil (hQ.out _ ?_); clear hQ QQ
                    intro w5 hb5
                    have B5 := Lib.hid (BI.out.trans (hb5.mono BI.out.size))
                    clear hb5 BI a0 a1 a2 a3 a4 a5 a6 c2 d0
                    go_wp2_with fail
                    go_roundw
                    case rel => exact ⟨k + 1, b, rfl, by go_num, by omega, HST2, B5⟩
                    case measure => simp [intOf]; omega
                · have hlk' : ¬ (k : Int) < (m : Int) := by omega
                  have hbt : b = true := by
                    rcases HST.out with h | h
                    · exact h
                    · obtain ⟨j, hj, hg⟩ := List.getElem_of_mem CX.out.1
                      exact absurd HXC.out (h j (by have := HL.out; omega) x (by rw [List.getElem?_eq_getElem hj, hg]))
                  subst hbt
                  go_wp2_with fail
                  go_roundw
                  case rel => exact ⟨i + 1, by go_num, by omega, BI⟩
                  case measure => simp [intOf]; omega
            · have hli' : ¬ (i : Int) < (n3 : Int) := by omega
              have HAL := Lib.hid (alive_any wr)
              have CE := Sh.mk (show 0 < n3 ↔ 0 < nf by rw [N3.out, HNF2.out]; exact CN.out)
              have B6 := Lib.hid (B3.out.trans (BI.out.mono B3.out.size))
              by_cases hn0 : 0 < n3
              · have hf0 : 0 < nf := CE.out.1 hn0
                have hn0' : (0 : Int) < (n3 : Int) := by omega
                have hf0' : (0 : Int) < (nf : Int) := by omega
                go_wp2_with fail
                refine HAL.out.mono ?_
                rintro e w7 ⟨rfl, hb⟩
                have B7 := Lib.hid (B6.out.trans (hb.mono B6.out.size))
                clear hb
                go_wp2_with fail
                refine bodyPost_ret (v := .bool true) (by kernel_rfl) rfl ?_
                exact ⟨rfl, B7.out⟩
              · have hf0 : ¬ 0 < nf := fun hh => hn0 (CE.out.2 hh)
                have hn0' : ¬ (0 : Int) < (n3 : Int) := by omega
                have hf0' : ¬ (0 : Int) < (nf : Int) := by omega
                go_wp2_with fail
                refine HAL.out.mono ?_
                rintro e w7 ⟨rfl, hb⟩
                have B7 := Lib.hid (B6.out.trans (hb.mono B6.out.size))
                clear hb
                go_wp2_with fail
                refine bodyPost_ret (v := .bool true) (by kernel_rfl) rfl ?_
                exact ⟨rfl, B7.out⟩
  · have hm' : (60 : Int) < (m : Int) := by omega
    clear h
    go_enter Try.func5, Try.ntmps5
    go_wp2_with fail
    refine bodyPost_ret (v := .bool true) (by kernel_rfl) rfl ?_
    exact ⟨rfl, B1.out⟩

end Go.Proofs.Ytcfeojobkpbohaa
