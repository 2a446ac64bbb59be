/- Layer 13 by the document: paths, total, Alpha; the law's plain. -/
import Derived.Test.YtpjfheojlcahgaaCw1
namespace Go.Proofs.Ytpjfheojlcahgaa
open Go.RowKit
set_option linter.unusedVariables false
set_option linter.unusedSimpArgs false
def cpP (p : Int × Int) : Int × Int := ((szP p : Nat), (mnP p : Nat))
def pathL (l : List (Int × Int)) : List (Int × Int) := (l.take 64).map cpP
theorem pathL_len (l : List (Int × Int)) : (pathL l).length = min l.length 64 := by unfold pathL; simp [Nat.min_comm]
theorem pathL_get {l : List (Int × Int)} {k : Nat} {q : Int × Int} (h : (pathL l)[k]? = some q) : ∃ p, l[k]? = some p ∧ q = cpP p := by
  unfold pathL at h
  rw [List.getElem?_map, Option.map_eq_some_iff] at h
  obtain ⟨p, hp, hq⟩ := h
  rw [List.getElem?_take] at hp
  split at hp
  · exact ⟨p, hp, hq.symm⟩
  · cases hp
set_option maxRecDepth 20000 in
set_option maxHeartbeats 1000000 in
theorem cwplain_any (A : Option Addr) (n c B : Nat) (l : List (Int × Int)) (w : World) (h : Rd w B 2 A n (pz l)) (hB : B ≤ w.heap.size) (hn : n ≤ 1000) :
    Calls Try.prog 8 #[.slice A n c] w fun e w' => ∃ v, e = .returned v ∧ Pzs w' 51 w.heap.size v l ∧ Below w.heap.size w w' := by
  have HR := Lib.hid (h.mono hB)
  have HL := Lib.hid h.pzLen
  clear h
  go_enter Try.func8, Try.ntmps8
  go_wp2_with fail
  go_loopw [3, 4] (fun ov iv wr => ∃ k : Nat, k ≤ n ∧ iv = .int .i64 k ∧ Hid (Pzs wr 51 w.heap.size ov (l.take k)) ∧ Below w.heap.size w wr) (fun _ iv _ => n - (intOf iv).toNat)
  case atStart => exact ⟨0, Nat.zero_le _, rfl, Lib.hid (Pzs.nil _ _ _), Below.refl _ _⟩
  case round =>
    obtain ⟨k, hk, rfl, ho, hbw⟩ := hrel
    obtain ⟨A7, n7, c7, rfl, _, _, hl7, _⟩ := ho.out.out
    have hbs := hbw.size
    by_cases hlt : k < n
    · have hlt' : (k : Int) < (n : Int) := by omega
      obtain ⟨b, off, x, y, rfl, hbb, p0, p1, hp⟩ := (HR.out.below hbw).pz hlt
      have htk : l.take (k + 1) = l.take k ++ [(x, y)] := tkSnoc hp.out
      have hroom : ((l.take k).length + 1) * 16 ≤ room := by have := List.length_take_le k l; exact room_ge (by omega)
      have HT := Lib.hid htk
      clear htk hp hl7
      go_wp2_with fail
      refine wp_ord [(0, .pure), (1, .pure), (2, .pure), (3, .pure), (4, .pure), (5, .read), (6, .pure), (7, .pure), (8, .pure), (9, .pure), (10, .read), (11, .pure), (12, .sole), (13, .sole), (14, .pure)] [13] (by kernel_rfl) (by kernel_rfl) (fun QQ hQ wd hwd => ?_); simp only [List.map_cons, List.map_nil, List.getD_cons_zero, List.getD_cons_succ]
      have pp0 : wd.cell? ⟨b, off + k * 2, none⟩ = some (.int .i64 x) := by rw [hwd.out]; exact p0
      have pp1 : wd.cell? ⟨b, off + k * 2 + 1, none⟩ = some (.int .i64 y) := by rw [hwd.out]; exact p1
      have hod : Pzs wd 51 w.heap.size (.slice A7 n7 c7) (l.take k) := by rw [hwd.out]; exact ho.out
      have HOD := Lib.hid hod
      have hbd : Below w.heap.size w wd := by rw [hwd.out]; exact hbw.drew
      have hbs' : w.heap.size ≤ wd.heap.size := hbd.size
      clear hod ho hbw hbs p0 p1 hwd
      iterate 5 (refine o_pure (v := ?_) (by rfl) (fun w' => ?_) ?_; rotate_left; (focus (go_simp; (try with_reducible rfl); (try (rw [if_pos (by omega)]; (try with_reducible rfl))))); (try simp only [Act.put, List.setIfInBounds_toArray, List.set_cons_zero, List.set_cons_succ]))
      (refine o_load _ (by rfl) rfl rfl (by assumption) (by kernel_rfl) ?_; simp only [Act.put, List.setIfInBounds_toArray, List.set_cons_zero, List.set_cons_succ])
      iterate 4 (refine o_pure (v := ?_) (by rfl) (fun w' => ?_) ?_; rotate_left; (focus (go_simp; (try with_reducible rfl); (try (rw [if_pos (by omega)]; (try with_reducible rfl))))); (try simp only [Act.put, List.setIfInBounds_toArray, List.set_cons_zero, List.set_cons_succ]))
      (refine o_load _ (by rfl) rfl rfl (by assumption) (by kernel_rfl) ?_; simp only [Act.put, List.setIfInBounds_toArray, List.set_cons_zero, List.set_cons_succ])
      (refine o_pure (v := ?_) (by rfl) (fun w' => ?_) ?_; rotate_left; (focus (go_simp; (try with_reducible rfl); (try (rw [if_pos (by omega)]; (try with_reducible rfl))))); (try simp only [Act.put, List.setIfInBounds_toArray, List.set_cons_zero, List.set_cons_succ]))
      refine o_sole (fun K hK => ?_)
      go_wp2_with fail
      refine hK _ _ (fun _ => Ext.of ((Below.refl _ _).alloc (Nat.le_refl _) _)) ?_; clear hK K
      refine o_sole (fun K hK => ?_)
      refine app1pz prEl x y rfl (.tmp 11) (.tmp 23) rfl rfl HOD.out rfl rfl hroom hbs' ?_
      intro v2 w2 ho2 hg2 hb2
      have HO2 := Lib.hid ho2
      clear ho2 hg2
      refine wpList_nil ?_
      refine hK _ _ (fun h => by cases h) ?_; clear hK K
      simp only [Act.put, List.setIfInBounds_toArray, List.set_cons_zero, List.set_cons_succ]
      (refine o_pure (v := ?_) (by rfl) (fun w' => ?_) ?_; rotate_left; (focus (go_simp; (try with_reducible rfl); (try (rw [if_pos (by omega)]; (try with_reducible rfl))))); (try simp only [Act.put, List.setIfInBounds_toArray, List.set_cons_zero, List.set_cons_succ]))
      refine o_nil (hQ.out _ _ ?_); clear hQ QQ
      go_wp2_with fail
      go_roundw
      case rel => exact ⟨k + 1, by omega, by go_num, Lib.hid (by rw [HT.out]; exact HO2.out), hbd.trans hb2⟩
      case measure => simp [intOf]; omega
    · have hge : ¬ (k : Int) < (n : Int) := by omega
      have HA := Lib.hid (show l.take k = l from List.take_of_length_le (by rw [HL.out]; omega))
      go_wp2_with fail
      go_ret
      refine ⟨_, rfl, ?_, hbw⟩
      have := ho.out
      rw [HA.out] at this
      exact this
set_option maxRecDepth 20000 in
set_option maxHeartbeats 2000000 in
theorem rcwpaths_any (A : Option Addr) (n c B : Nat) (l : List (Int × Int)) (w : World) (h : Rd w B 2 A n (pz l)) (hB : B ≤ w.heap.size) (hl : ∀ p ∈ l, (Lit.int .i64 p.1).wf = true ∧ (Lit.int .i64 p.2).wf = true) :
    Calls Try.prog 26 #[.slice A n c] w fun e w' => ∃ v, e = .returned v ∧ Pzs w' 51 w.heap.size v (pathL l) ∧ Below w.heap.size w w' := by
  have HR := Lib.hid (h.mono hB)
  have HL := Lib.hid h.pzLen
  have HW := Lib.hid hl
  clear h hl
  go_enter Try.func26, Try.ntmps26
  go_wp2_with fail
  go_loopw [3, 4] (fun ov iv wr => ∃ k : Nat, k ≤ n ∧ k ≤ 64 ∧ iv = .int .i64 k ∧ Hid (Pzs wr 51 w.heap.size ov ((l.take k).map cpP)) ∧ Below w.heap.size w wr) (fun _ iv _ => n - (intOf iv).toNat)
  case atStart => exact ⟨0, Nat.zero_le _, Nat.zero_le _, rfl, Lib.hid (Pzs.nil _ _ _), Below.refl _ _⟩
  case round =>
    obtain ⟨k, hk, hk64, rfl, ho, hbw⟩ := hrel
    obtain ⟨A7, n7, c7, rfl, _, _, hl7, _⟩ := ho.out.out
    have hbs := hbw.size
    by_cases hlt : k < n
    · have hlt' : (k : Int) < (n : Int) := by omega
      by_cases h64 : k < 64
      · have h64' : (k : Int) < 64 := by omega
        obtain ⟨b, off, x, y, rfl, hbb, p0, p1, hp⟩ := (HR.out.below hbw).pz hlt
        have hx := Lib.hid ((HW.out _ (List.mem_of_getElem? hp.out)).1)
        have hy := Lib.hid ((HW.out _ (List.mem_of_getElem? hp.out)).2)
        have HT := Lib.hid (show (l.take (k + 1)).map cpP = (l.take k).map cpP ++ [(((szP (x, y) : Nat) : Int), ((mnP (x, y) : Nat) : Int))] from by rw [tkSnoc hp.out]; simp [cpP])
        have hroom : (((l.take k).map cpP).length + 1) * 16 ≤ room := by have := List.length_take_le k l; exact room_ge (by simp; omega)
        have CX := Lib.hid (fun w => cwwithin_any x 1 65536 w hx.out)
        have CY := Lib.hid (fun w => cwwithin_any y 1 4096 w hy.out)
        rw [show clN 1 65536 x = szP (x, y) from rfl] at CX
        rw [show clN 1 4096 y = mnP (x, y) from rfl] at CY
        obtain ⟨u, hu⟩ : ∃ u, u = szP (x, y) := ⟨_, rfl⟩
        obtain ⟨v, hv⟩ : ∃ v, v = mnP (x, y) := ⟨_, rfl⟩
        rw [← hu] at CX HT
        rw [← hv] at CY HT
        clear hp hl7 hx hy hu hv
        go_wp2_with fail
        refine wp_ord [(0, .pure), (1, .pure), (2, .pure), (3, .pure), (4, .pure), (5, .read), (7, .pure), (8, .pure), (9, .pure), (10, .pure), (11, .read), (6, .sole), (12, .sole), (13, .pure), (14, .sole), (15, .sole), (16, .pure)] [15] (by kernel_rfl) (by kernel_rfl) (fun QQ hQ wd hwd => ?_); simp only [List.map_cons, List.map_nil, List.getD_cons_zero, List.getD_cons_succ]
        have pp0 : wd.cell? ⟨b, off + k * 2, none⟩ = some (.int .i64 x) := by rw [hwd.out]; exact p0
        have pp1 : wd.cell? ⟨b, off + k * 2 + 1, none⟩ = some (.int .i64 y) := by rw [hwd.out]; exact p1
        have hod : Pzs wd 51 w.heap.size (.slice A7 n7 c7) ((l.take k).map cpP) := by rw [hwd.out]; exact ho.out
        have HOD := Lib.hid hod
        have hbd : Below w.heap.size w wd := by rw [hwd.out]; exact hbw.drew
        have hbs' : w.heap.size ≤ wd.heap.size := hbd.size
        clear hod ho hbw hbs p0 p1 hwd
        iterate 5 (refine o_pure (v := ?_) (by rfl) (fun w' => ?_) ?_; rotate_left; (focus (go_simp; (try with_reducible rfl); (try (rw [if_pos (by omega)]; (try with_reducible rfl))))); (try simp only [Act.put, List.setIfInBounds_toArray, List.set_cons_zero, List.set_cons_succ]))
        (refine o_load _ (by rfl) rfl rfl (by assumption) (by kernel_rfl) ?_; simp only [Act.put, List.setIfInBounds_toArray, List.set_cons_zero, List.set_cons_succ])
        iterate 4 (refine o_pure (v := ?_) (by rfl) (fun w' => ?_) ?_; rotate_left; (focus (go_simp; (try with_reducible rfl); (try (rw [if_pos (by omega)]; (try with_reducible rfl))))); (try simp only [Act.put, List.setIfInBounds_toArray, List.set_cons_zero, List.set_cons_succ]))
        (refine o_load _ (by rfl) rfl rfl (by assumption) (by kernel_rfl) ?_; simp only [Act.put, List.setIfInBounds_toArray, List.set_cons_zero, List.set_cons_succ])
        refine o_sole (fun K hK => ?_)
        go_wp2_with fail
        refine (CX.out _).mono ?_
        rintro e w5 ⟨rfl, rfl⟩
        go_wp2_with fail
        refine hK _ _ (fun _ => Ext.of (Below.refl _ _)) ?_; clear hK K
        refine o_sole (fun K hK => ?_)
        go_wp2_with fail
        refine (CY.out _).mono ?_
        rintro e w6 ⟨rfl, rfl⟩
        go_wp2_with fail
        refine hK _ _ (fun _ => Ext.of (Below.refl _ _)) ?_; clear hK K
        (refine o_pure (v := ?_) (by rfl) (fun w' => ?_) ?_; rotate_left; (focus (go_simp; (try with_reducible rfl); (try (rw [if_pos (by omega)]; (try with_reducible rfl))))); (try simp only [Act.put, List.setIfInBounds_toArray, List.set_cons_zero, List.set_cons_succ]))
        refine o_sole (fun K hK => ?_)
        go_wp2_with fail
        refine hK _ _ (fun _ => Ext.of ((Below.refl _ _).alloc (Nat.le_refl _) _)) ?_; clear hK K
        refine o_sole (fun K hK => ?_)
        refine app1pz prEl (u : Nat) (v : Nat) rfl (.tmp 15) (.tmp 29) rfl rfl HOD.out rfl rfl hroom hbs' ?_
        intro v2 w2 ho2 hg2 hb2
        have HO2 := Lib.hid ho2
        clear ho2 hg2
        refine wpList_nil ?_
        refine hK _ _ (fun h => by cases h) ?_; clear hK K
        simp only [Act.put, List.setIfInBounds_toArray, List.set_cons_zero, List.set_cons_succ]
        (refine o_pure (v := ?_) (by rfl) (fun w' => ?_) ?_; rotate_left; (focus (go_simp; (try with_reducible rfl); (try (rw [if_pos (by omega)]; (try with_reducible rfl))))); (try simp only [Act.put, List.setIfInBounds_toArray, List.set_cons_zero, List.set_cons_succ]))
        refine o_nil (hQ.out _ _ ?_); clear hQ QQ
        go_wp2_with fail
        go_roundw
        case rel => exact ⟨k + 1, by omega, by omega, by go_num, Lib.hid (by rw [HT.out]; exact HO2.out), hbd.trans hb2⟩
        case measure => simp [intOf]; omega
      · have h64' : ¬ (k : Int) < 64 := by omega
        have h64d : decide ((k : Int) < 64) = false := decide_eq_false h64'
        have HA := Lib.hid (show (l.take k).map cpP = pathL l from by unfold pathL; rw [show k = 64 by omega])
        go_wp2_with fail
        go_ret
        refine ⟨_, rfl, ?_, hbw⟩
        have := ho.out
        rw [HA.out] at this
        exact this
    · have hge : ¬ (k : Int) < (n : Int) := by omega
      have HA := Lib.hid (show (l.take k).map cpP = pathL l from by unfold pathL; rw [List.take_of_length_le (by rw [HL.out]; omega), List.take_of_length_le (by rw [HL.out]; omega)])
      go_wp2_with fail
      go_ret
      refine ⟨_, rfl, ?_, hbw⟩
      have := ho.out
      rw [HA.out] at this
      exact this
set_option maxRecDepth 20000 in
set_option maxHeartbeats 2000000 in
theorem rcwtotal_any (A : Option Addr) (n c B : Nat) (l : List (Int × Int)) (w : World) (h : Rd w B 2 A n (pz (pathL l))) (hB : B ≤ w.heap.size) :
    Calls Try.prog 28 #[.slice A n c] w fun e w' => e = .returned (.int .i64 (totL l : Nat)) ∧ w' = w := by
  have HR := Lib.hid h
  have hn := h.pzLen
  rw [pathL_len] at hn
  have HE := Lib.hid (show totL l = sumK szP l n from by unfold totL; rw [hn])
  have hn64 : n ≤ 64 := by omega
  clear h hn
  go_enter Try.func28, Try.ntmps28
  go_wp2_with fail
  go_loop [3, 4] (fun sv iv => ∃ (k s : Nat), k ≤ n ∧ iv = .int .i64 (k : Int) ∧ sv = .int .i64 (s : Int) ∧ Hid (s = sumK szP l k)) (fun _ iv => n - (intOf iv).toNat)
  case atStart => exact ⟨0, 0, Nat.zero_le _, rfl, rfl, Lib.hid rfl⟩
  case round =>
    obtain ⟨k, s, hk, rfl, rfl, hs⟩ := hrel
    have hsb : s ≤ 65536 * k := by rw [hs.out, Nat.mul_comm]; exact sumK_le (fun p _ => szP_le p) k
    by_cases hlt : k < n
    · have hlt' : (k : Int) < (n : Int) := by omega
      obtain ⟨b, off, x, y, rfl, hbb, p0, p1, hp⟩ := HR.out.pz hlt
      obtain ⟨p, hlp, hq⟩ := pathL_get hp.out
      unfold cpP at hq
      injection hq with hx hy
      have HS := Lib.hid (show s + szP p = sumK szP l (k + 1) from by rw [sumK_succ hlp, ← hs.out])
      have hub := szP_le p
      obtain ⟨u, hu⟩ : ∃ u, u = szP p := ⟨_, rfl⟩
      rw [← hu] at HS hub hx
      subst hx
      obtain ⟨t, ht⟩ : ∃ t, t = s + u := ⟨_, rfl⟩
      rw [← ht] at HS
      have hsu : (s : Int) + (u : Int) = (t : Int) := by omega
      have htb : t ≤ 65536 * (k + 1) := by omega
      have hkb : k < 64 := by omega
      clear hu hs hp hlp hy ht p1
      go_wp2_with fail
      go_round
      case rel => exact ⟨k + 1, t, by omega, by go_num, rfl, HS⟩
      case measure => simp [intOf]; omega
    · have hge : ¬ (k : Int) < (n : Int) := by omega
      obtain rfl : k = n := by omega
      have e := Lib.hid (show totL l = s from by rw [HE.out, hs.out])
      clear hs HE
      go_wp2_with fail
      go_ret
      exact ⟨by rw [e.out]; rfl, rfl⟩
end Go.Proofs.Ytpjfheojlcahgaa
