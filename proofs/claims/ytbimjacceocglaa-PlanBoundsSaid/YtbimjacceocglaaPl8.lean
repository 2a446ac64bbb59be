/- Package plan: the free ones, the used ones, in their order; numbers of paths. -/
import Derived.Test.YtbimjacceocglaaPl7
import Derived.Test.YtbimjacceocglaaSz3
namespace Go.Proofs.Ytbimjacceocglaa
open Go.RowKit Go.Sort
set_option linter.unusedVariables false
set_option linter.unusedSimpArgs false
section
variable {α : Type} [Inhabited α] {lt : α → α → Bool} {d d1 : Array α} {n : Nat}
theorem pl_perm_of (h : PermIn 0 n d d1) (hn : n = d.size) : d1.toList.Perm d.toList := by
  have h2 := h.2.2
  have hs := h.1
  subst hn
  rw [Array.extract_size] at h2
  rw [show d1.extract 0 d.size = d1 by rw [← hs]; exact Array.extract_size] at h2
  exact h2
theorem pl_pair_of (h : SortedIn lt 0 n d) (hn : n = d.size) : d.toList.Pairwise (fun x y => lt y x = false) := by
  rw [List.pairwise_iff_getElem]
  intro i j hi hj hij
  have := h i j (Nat.zero_le _) hij (by rw [hn]; simpa using hj)
  rw [getElem!_pos d j (by simpa using hj), getElem!_pos d i (by simpa using hi)] at this
  simpa using this
end
theorem plEl : El Try.prog 23 25 (.agg #[.int .i64 0, .bool false, .bool false, .bool false, .bool false, .int .i64 0, .int .i64 0]) 7 32 := ⟨Try.underlying23, by kernel_rfl, rfl, by omega, by omega⟩
theorem pl_intEl : El Try.prog 26 3 (.int .i64 0) 1 8 := ⟨Try.underlying26, by kernel_rfl, rfl, by omega, by omega⟩
theorem plps_len (l : List Plp) : (plps l).length = l.length * 7 := fm_len plp_len l
theorem plps_snoc (l : List Plp) (x : Plp) : plps (l ++ [x]) = plps l ++ x.cells.toList := by simp [plps, Plp.el]
/-- A path of a row, cell by cell. -/
theorem Rd.plp {w : World} {B n : Nat} {A : Option Addr} {l : List Plp} (h : Rd w B 7 A n (plps l)) {i : Nat} (hi : i < n) :
    ∃ (b off : Nat) (x : Plp), A = some ⟨b, off, none⟩ ∧ b < B ∧ Hid (∀ j v, x.el[j]? = some v → w.cell? ⟨b, off + i * 7 + j, none⟩ = some v) ∧ Hid (l[i]? = some x) := by
  obtain ⟨b, off, e, hb, hc⟩ := h.2 (by omega)
  have hl : l.length = n := by have := h.1; rw [plps_len] at this; omega
  have hg : l[i]? = some l[i] := by rw [List.getElem?_eq_getElem (by omega)]
  refine ⟨b, off, l[i], e, hb, Lib.hid fun j v hv => ?_, Lib.hid hg⟩
  have hj : j < 7 := by have := (List.getElem?_eq_some_iff.1 hv).1; rw [plp_len] at this; exact this
  rw [Nat.add_assoc, hc (i * 7 + j) (by omega)]
  exact (fm_get plp_len hg hj).trans hv
theorem Rd.plpLen {w : World} {B n : Nat} {A : Option Addr} {l : List Plp} (h : Rd w B 7 A n (plps l)) : l.length = n := by have := h.1; rw [plps_len] at this; omega
/-- The seven cells behind an address. -/
theorem pl7c {w : World} {b o : Nat} {x : Plp} (h : ∀ j v, x.el[j]? = some v → w.cell? ⟨b, o + j, none⟩ = some v) :
    w.cell? ⟨b, o, none⟩ = some (.int .i64 x.id) ∧ w.cell? ⟨b, o + 1, none⟩ = some (.bool x.may) ∧ w.cell? ⟨b, o + 2, none⟩ = some (.bool x.us) ∧ w.cell? ⟨b, o + 3, none⟩ = some (.bool x.bk) ∧ w.cell? ⟨b, o + 4, none⟩ = some (.bool x.bd) ∧ w.cell? ⟨b, o + 5, none⟩ = some (.int .i64 x.mean) ∧ w.cell? ⟨b, o + 6, none⟩ = some (.int .i64 x.tries) :=
  ⟨h 0 _ rfl, h 1 _ rfl, h 2 _ rfl, h 3 _ rfl, h 4 _ rfl, h 5 _ rfl, h 6 _ rfl⟩
theorem pl7b {w : World} {g : Nat} {t : TypeId} {x : Plp} (h : Blk w g t x.cells) :
    w.cell? ⟨g, 0, none⟩ = some (.int .i64 x.id) ∧ w.cell? ⟨g, 1, none⟩ = some (.bool x.may) ∧ w.cell? ⟨g, 2, none⟩ = some (.bool x.us) ∧ w.cell? ⟨g, 3, none⟩ = some (.bool x.bk) ∧ w.cell? ⟨g, 4, none⟩ = some (.bool x.bd) ∧ w.cell? ⟨g, 5, none⟩ = some (.int .i64 x.mean) ∧ w.cell? ⟨g, 6, none⟩ = some (.int .i64 x.tries) :=
  ⟨(h.cell 0).trans rfl, (h.cell 1).trans rfl, (h.cell 2).trans rfl, (h.cell 3).trans rfl, (h.cell 4).trans rfl, (h.cell 5).trans rfl, (h.cell 6).trans rfl⟩
theorem pl_snoc {l : List Plp} {k : Nat} {x : Plp} (h : l[k]? = some x) : l.take (k + 1) = l.take k ++ [x] := by
  obtain ⟨hl, hx⟩ := List.getElem?_eq_some_iff.1 h
  rw [List.take_add_one, h]
  rfl
theorem pl_yes {p : Plp → Bool} {l : List Plp} {k : Nat} {x : Plp} (h : l[k]? = some x) (hf : p x = true) : (l.take (k + 1)).filter p = (l.take k).filter p ++ [x] := by rw [pl_snoc h]; simp [hf]
theorem pl_no {p : Plp → Bool} {l : List Plp} {k : Nat} {x : Plp} (h : l[k]? = some x) (hf : p x = false) : (l.take (k + 1)).filter p = (l.take k).filter p := by rw [pl_snoc h]; simp [hf]
theorem pl_le (p : Plp → Bool) (l : List Plp) (k : Nat) : ((l.take k).filter p).length ≤ l.length := by
  have := List.length_filter_le p (l.take k)
  rw [List.length_take] at this
  omega
theorem pl_map {f : Plp → Int} {l : List Plp} {k : Nat} {x : Plp} (h : l[k]? = some x) : (l.take (k + 1)).map f = (l.take k).map f ++ [f x] := by rw [pl_snoc h]; simp
set_option maxRecDepth 20000 in
set_option maxHeartbeats 4000000 in
theorem pl_picked (F : Nat) (P : Plp → Bool) (ef : ∀ args w, (callFunc F args).run Try.prog w = .ok (.enter F args) w)
    (hp : ∀ (x : Plp) (w : World), Calls Try.prog F #[.agg #[.int .i64 x.id, .bool x.may, .bool x.us, .bool x.bk, .bool x.bd, .int .i64 x.mean, .int .i64 x.tries]] w fun e w' => e = .returned (.bool (P x)) ∧ Below w.heap.size w w')
    (A : Option Addr) (n c : Nat) (l : List Plp) (w : World) (h : Rd w w.heap.size 7 A n (plps l)) (hm : n ≤ 100) :
    Calls Try.prog 9 #[.slice A n c, .func (.func F) #[] #[]] w fun e w' => ∃ v, e = .returned v ∧ w'.ownsRow w.heap.size 25 7 v (l.filter P).length (plps (l.filter P)) ∧ Below w.heap.size w w' := by
  have HR := Lib.hid h
  have HL := Lib.hid h.plpLen
  have HPP := Lib.hid hp
  have HO0 : Hid (w.ownsRow w.heap.size 25 7 (.slice none 0 0) ((l.take 0).filter P).length (plps ((l.take 0).filter P))) := Lib.hid (World.ownsRow_nil _ _ _ _)
  clear h hp
  go_enter Try.func9, Try.ntmps9
  go_wp2_with fail
  go_loopw [5, 10] (fun qv iv wr => ∃ (k : Nat), k ≤ n ∧ iv = .int .i64 (k : Nat) ∧ Hid (wr.ownsRow w.heap.size 25 7 qv ((l.take k).filter P).length (plps ((l.take k).filter P))) ∧ Hid (Below w.heap.size w wr)) (fun _ iv _ => n - (intOf iv).toNat)
  case atStart => exact ⟨0, Nat.zero_le _, rfl, HO0, Lib.hid (Below.refl _ _)⟩
  case round =>
    clear HO0
    obtain ⟨k, hk, rfl, HO, BB⟩ := hrel
    by_cases hlt : k < n
    · have hlt' : (k : Int) < (n : Int) := by omega
      have hk0 : (0 : Int) ≤ (k : Int) := by omega
      obtain ⟨rb, off, x, hA, hrb, HC, HX⟩ := HR.out.plp hlt
      subst hA
      obtain ⟨a0, a1, a2, a3, a4, a5, a6⟩ := pl7c (w := wr) (o := off + k * 7) (fun j v hj => (BB.out.cell (p := ⟨rb, off + k * 7 + j, none⟩) hrb).trans (HC.out j v hj))
      go_upto_region 5 with fail
      have K1 := Lib.hid (Blk.new wr 25 #[.int .i64 x.id, .bool x.may, .bool x.us, .bool x.bk, .bool x.bd, .int .i64 x.mean, .int .i64 x.tries])
      have hb1 := (Below.refl wr.heap.size wr).alloc (Nat.le_refl _) (.cells #[.int .i64 x.id, .bool x.may, .bool x.us, .bool x.bk, .bool x.bd, .int .i64 x.mean, .int .i64 x.tries] 25)
      have B2 := Lib.hid (BB.out.trans (hb1.mono BB.out.size))
      have O2 := Lib.hid (own_below HO.out hb1 fun g hg => (HO.out.lt g hg).2)
      obtain ⟨Y, hY⟩ : ∃ Y, Y = wr.heap.size := ⟨_, rfl⟩
      rw [← hY] at K1 ⊢
      clear hb1 hY BB HO a0 a1 a2 a3 a4 a5 a6
      generalize wr.alloc (.cells #[.int .i64 x.id, .bool x.may, .bool x.us, .bool x.bk, .bool x.bd, .int .i64 x.mean, .int .i64 x.tries] 25) = w3 at *
      obtain ⟨b0, b1, b2, b3, b4, b5, b6⟩ := pl7b (x := x) K1.out
      have FT := Lib.hid (HPP.out x w3)
      cases hf : P x
      · rw [hf] at FT
        go_wp2_with fail
        refine FT.out.mono ?_
        rintro e w4 ⟨rfl, hb4⟩
        have B4 := Lib.hid (B2.out.trans (hb4.mono B2.out.size))
        have O4 := Lib.hid (show w4.ownsRow w.heap.size 25 7 u5 ((l.take (k + 1)).filter P).length (plps ((l.take (k + 1)).filter P)) by rw [pl_no HX.out hf]; exact own_below O2.out hb4 fun g hg => (O2.out.lt g hg).2)
        clear hb4 b0 b1 b2 b3 b4 b5 b6 FT B2 O2 K1 hf
        go_wp2_with fail
        go_roundw
        case rel => exact ⟨k + 1, by omega, by go_num, O4, B4⟩
        case measure => simp [intOf]; omega
      · rw [hf] at FT
        have HF := Sh.mk hf
        clear hf
        go_wp2_with fail
        refine FT.out.mono ?_
        rintro e w4 ⟨rfl, hb4⟩
        have B4 := Lib.hid (B2.out.trans (hb4.mono B2.out.size))
        have O4 := Lib.hid (own_below O2.out hb4 fun g hg => (O2.out.lt g hg).2)
        have K4 := Lib.hid (K1.out.below hb4 K1.out.lt)
        clear hb4 b0 b1 b2 b3 b4 b5 b6 FT B2 O2 K1
        obtain ⟨b0, b1, b2, b3, b4, b5, b6⟩ := pl7b (x := x) K4.out
        have hroom : (((l.take k).filter P).length + 1) * 32 ≤ room := room_ge (by have := pl_le P l k; have := HL.out; omega)
        have hbw : w.heap.size ≤ w4.heap.size := B4.out.size
        go_wp2_with (at_builtin; go_must (refine appZ plEl x.cells rfl (plp_one _) rfl _ _ rfl rfl O4.out rfl rfl hroom hbw ?_))
        intro v5 w5 ho5 hg5 hb5
        have O5 := Lib.hid (show w5.ownsRow w.heap.size 25 7 v5 ((l.take (k + 1)).filter P).length (plps ((l.take (k + 1)).filter P)) by rw [pl_yes HX.out HF.out, List.length_append, plps_snoc]; exact ho5)
        have B5 := Lib.hid (B4.out.trans hb5)
        clear ho5 hg5 hb5 b0 b1 b2 b3 b4 b5 b6 B4 O4 K4 hroom hbw
        go_wp2_with fail
        go_roundw
        case rel => exact ⟨k + 1, by omega, by go_num, O5, B5⟩
        case measure => simp [intOf]; omega
    · have hlt' : ¬ (k : Int) < (n : Int) := by omega
      have O2 := Lib.hid (show wr.ownsRow w.heap.size 25 7 u5 (l.filter P).length (plps (l.filter P)) by have := HO.out; rw [List.take_of_length_le (by rw [HL.out]; omega)] at this; exact this)
      clear HO
      go_wp2_with fail
      refine bodyPost_ret (v := u5) (by kernel_rfl) rfl ?_
      exact ⟨_, rfl, O2.out, BB.out⟩
set_option maxRecDepth 20000 in
set_option maxHeartbeats 4000000 in
theorem pl_ids (A : Option Addr) (m c : Nat) (l : List Plp) (w : World) (h : Rd w w.heap.size 7 A m (plps l)) (hm : m ≤ 100) :
    Calls Try.prog 11 #[.slice A m c] w fun e w' => ∃ v, e = .returned v ∧ Zats w' 3 .i64 w.heap.size v (l.map Plp.id) ∧ Below w.heap.size w w' := by
  have HR := Lib.hid h
  have HL := Lib.hid h.plpLen
  have HO0 : Hid (Zats w 3 .i64 w.heap.size (.slice none 0 0) ((l.take 0).map Plp.id)) := Lib.hid (Zats.nil _ _ _ _)
  clear h
  go_enter Try.func11, Try.ntmps11
  go_wp2_with fail
  go_loopw [3, 8] (fun qv iv wr => ∃ (k : Nat), k ≤ m ∧ iv = .int .i64 (k : Nat) ∧ Hid (Zats wr 3 .i64 w.heap.size qv ((l.take k).map Plp.id)) ∧ Hid (Below w.heap.size w wr)) (fun _ iv _ => m - (intOf iv).toNat)
  case atStart => exact ⟨0, Nat.zero_le _, rfl, HO0, Lib.hid (Below.refl _ _)⟩
  case round =>
    clear HO0
    obtain ⟨k, hk, rfl, HO, BB⟩ := hrel
    by_cases hlt : k < m
    · have hlt' : (k : Int) < (m : Int) := by omega
      have hk0 : (0 : Int) ≤ (k : Int) := by omega
      obtain ⟨rb, off, x, hA, hrb, HC, HX⟩ := HR.out.plp hlt
      subst hA
      obtain ⟨a0, a1, a2, a3, a4, a5, a6⟩ := pl7c (w := wr) (o := off + k * 7) (fun j v hj => (BB.out.cell (p := ⟨rb, off + k * 7 + j, none⟩) hrb).trans (HC.out j v hj))
      go_upto_region 5 with fail
      have K1 := Lib.hid (Blk.new wr 25 #[.int .i64 x.id, .bool x.may, .bool x.us, .bool x.bk, .bool x.bd, .int .i64 x.mean, .int .i64 x.tries])
      have hb1 := (Below.refl wr.heap.size wr).alloc (Nat.le_refl _) (.cells #[.int .i64 x.id, .bool x.may, .bool x.us, .bool x.bk, .bool x.bd, .int .i64 x.mean, .int .i64 x.tries] 25)
      have B2 := Lib.hid (BB.out.trans (hb1.mono BB.out.size))
      have O2 := Lib.hid (HO.out.below hb1)
      obtain ⟨Y, hY⟩ : ∃ Y, Y = wr.heap.size := ⟨_, rfl⟩
      rw [← hY] at K1 ⊢
      clear hb1 hY BB HO a0 a1 a2 a3 a4 a5 a6
      generalize wr.alloc (.cells #[.int .i64 x.id, .bool x.may, .bool x.us, .bool x.bk, .bool x.bd, .int .i64 x.mean, .int .i64 x.tries] 25) = w3 at *
      obtain ⟨b0, b1, b2, b3, b4, b5, b6⟩ := pl7b (x := x) K1.out
      have hroom : (((l.take k).map Plp.id).length + 1) * 8 ≤ room := room_ge (by rw [List.length_map, List.length_take]; have := HL.out; omega)
      have hbw : w.heap.size ≤ w3.heap.size := B2.out.size
      clear b1 b2 b3 b4 b5 b6
      go_wp2_with (at_builtin; go_must (refine app1z pl_intEl x.id rfl _ _ rfl rfl O2.out rfl rfl hroom hbw ?_))
      intro v5 w5 ho5 hg5 hb5
      have O5 := Lib.hid (show Zats w5 3 .i64 w.heap.size v5 ((l.take (k + 1)).map Plp.id) by rw [pl_map HX.out, List.map_take]; exact ho5)
      have B5 := Lib.hid (B2.out.trans hb5)
      clear ho5 hg5 hb5 b0 B2 O2 K1 hroom hbw
      go_wp2_with fail
      go_roundw
      case rel => exact ⟨k + 1, by omega, by go_num, O5, B5⟩
      case measure => simp [intOf]; omega
    · have hlt' : ¬ (k : Int) < (m : Int) := by omega
      have O2 := Lib.hid (show Zats wr 3 .i64 w.heap.size u3 (l.map Plp.id) by have := HO.out; rw [List.take_of_length_le (by rw [HL.out]; omega)] at this; exact this)
      clear HO
      go_wp2_with fail
      refine bodyPost_ret (v := u3) (by kernel_rfl) rfl ?_
      exact ⟨_, rfl, O2.out, BB.out⟩
set_option maxRecDepth 20000 in
set_option maxHeartbeats 4000000 in
theorem pl_free (A : Option Addr) (n c : Nat) (l : List Plp) (w : World) (h : Rd w w.heap.size 7 A n (plps l)) (hm : n ≤ 100) :
    Calls Try.prog 6 #[.slice A n c] w fun e w' => ∃ v s, e = .returned v ∧ w'.ownsRow w.heap.size 25 7 v s.length (plps s) ∧ Below w.heap.size w w' ∧ s.Perm (l.filter frP) ∧ s.Pairwise (fun x y => ltOf cfF y x = false) := by
  have HP := Lib.hid (pl_picked 16 frP (enters_of Try.func16 (by kernel_rfl) rfl) p_free A n c l w h hm)
  have HL := Lib.hid h.plpLen
  have HM := Lib.hid hm
  clear h hm
  go_enter Try.func6, Try.ntmps6
  go_wp2_with fail
  refine HP.out.mono ?_
  rintro e w2 ⟨v, rfl, ho, hb⟩
  have BB := Lib.hid hb
  obtain ⟨fl, hfl⟩ : ∃ fl, fl = l.filter frP := ⟨_, rfl⟩
  rw [← hfl] at ho
  have hfll : fl.length ≤ 100 := by have := pl_le frP l l.length; rw [List.take_length, ← hfl] at this; have := HL.out; have := HM.out; omega
  have HFL := Sh.mk hfl
  obtain ⟨fn, hfn⟩ : ∃ fn, fn = fl.length := ⟨_, rfl⟩
  have HFN := Sh.mk hfn
  rw [← hfn] at ho hfll
  clear hfn hfl hb HP
  rcases own_open ho with ⟨rfl, h0, _⟩ | ⟨rb, cc, L, rfl, hB, hb, hnc, hcm, hll, ht⟩
  · subst h0
    have hfe : fl = [] := List.eq_nil_of_length_eq_zero HFN.out.symm
    have O3 := Lib.hid (show w2.ownsRow w.heap.size 25 7 (.slice none 0 0) ([] : List Plp).length (plps []) from World.ownsRow_nil _ _ _ _)
    have HFL2 := Sh.mk (show [] = l.filter frP by rw [← HFL.out, hfe])
    clear hfe hfll ho
    go_wp2_with fail
    refine (pl_sort0 _ w2).mono ?_
    rintro e w6 ⟨rfl, hw⟩
    have hw := hw.symm
    subst hw
    go_wp2_with fail
    refine bodyPost_ret (v := .slice none 0 0) (by kernel_rfl) rfl ?_
    exact ⟨_, [], rfl, O3.out, BB.out, by rw [← HFL2.out], List.Pairwise.nil⟩
  · have hSW : PW w2 rb cc fl.toArray := ⟨⟨L, hb, hll, by rw [← HFN.out]; exact hnc, by rw [← HFN.out]; exact ht⟩⟩
    have HS := Lib.hid (pl_sort rb cc fn cc cfF 18 pclF swo_cfF fl.toArray w2 hSW (by rw [HFN.out]; simp) (by omega))
    have HB := Lib.hid hB
    have HCM := Lib.hid hcm
    clear hSW hB hb hnc hcm hll ht ho
    go_wp2_with fail
    refine HS.out.mono ?_
    rintro e w6 ⟨rfl, d2, h6, t6, z6, p6, q6⟩
    have O6 : Hid (w6.ownsRow w.heap.size 25 7 (.slice (some ⟨rb, 0, none⟩) fn cc) d2.toList.length (plps d2.toList)) := Lib.hid (by
      have hlen : fn = d2.toList.length := by rw [Array.length_toList, z6, HFN.out]; simp
      rw [hlen]
      exact h6.row.own HB.out HCM.out)
    have B6 := Lib.hid (BB.out.trans (t6.1.mono HB.out))
    have PE := Lib.hid (show d2.toList.Perm (l.filter frP) by rw [← HFL.out]; exact pl_perm_of p6 (by rw [HFN.out]; simp))
    have PW := Lib.hid (show d2.toList.Pairwise (fun x y => ltOf cfF y x = false) from pl_pair_of q6 (show fn = d2.size by rw [z6, HFN.out]; simp))
    clear h6 t6 z6 p6 q6 HS
    go_wp2_with fail
    refine bodyPost_ret (v := .slice (some ⟨rb, 0, none⟩) fn cc) (by kernel_rfl) rfl ?_
    exact ⟨_, d2.toList, rfl, O6.out, B6.out, PE.out, PW.out⟩
set_option maxRecDepth 20000 in
set_option maxHeartbeats 4000000 in
theorem pl_used (A : Option Addr) (n c : Nat) (l : List Plp) (w : World) (h : Rd w w.heap.size 7 A n (plps l)) (hm : n ≤ 100) :
    Calls Try.prog 7 #[.slice A n c] w fun e w' => ∃ v s, e = .returned v ∧ w'.ownsRow w.heap.size 25 7 v s.length (plps s) ∧ Below w.heap.size w w' ∧ s.Perm (l.filter usP) ∧ s.Pairwise (fun x y => ltOf cfU y x = false) := by
  have HP := Lib.hid (pl_picked 22 usP (enters_of Try.func22 (by kernel_rfl) rfl) p_used A n c l w h hm)
  have HL := Lib.hid h.plpLen
  have HM := Lib.hid hm
  clear h hm
  go_enter Try.func7, Try.ntmps7
  go_wp2_with fail
  refine HP.out.mono ?_
  rintro e w2 ⟨v, rfl, ho, hb⟩
  have BB := Lib.hid hb
  obtain ⟨fl, hfl⟩ : ∃ fl, fl = l.filter usP := ⟨_, rfl⟩
  rw [← hfl] at ho
  have hfll : fl.length ≤ 100 := by have := pl_le usP l l.length; rw [List.take_length, ← hfl] at this; have := HL.out; have := HM.out; omega
  have HFL := Sh.mk hfl
  obtain ⟨fn, hfn⟩ : ∃ fn, fn = fl.length := ⟨_, rfl⟩
  have HFN := Sh.mk hfn
  rw [← hfn] at ho hfll
  clear hfn hfl hb HP
  rcases own_open ho with ⟨rfl, h0, _⟩ | ⟨rb, cc, L, rfl, hB, hb, hnc, hcm, hll, ht⟩
  · subst h0
    have hfe : fl = [] := List.eq_nil_of_length_eq_zero HFN.out.symm
    have O3 := Lib.hid (show w2.ownsRow w.heap.size 25 7 (.slice none 0 0) ([] : List Plp).length (plps []) from World.ownsRow_nil _ _ _ _)
    have HFL2 := Sh.mk (show [] = l.filter usP by rw [← HFL.out, hfe])
    clear hfe hfll ho
    go_wp2_with fail
    refine (pl_sort0 _ w2).mono ?_
    rintro e w6 ⟨rfl, hw⟩
    have hw := hw.symm
    subst hw
    go_wp2_with fail
    refine bodyPost_ret (v := .slice none 0 0) (by kernel_rfl) rfl ?_
    exact ⟨_, [], rfl, O3.out, BB.out, by rw [← HFL2.out], List.Pairwise.nil⟩
  · have hSW : PW w2 rb cc fl.toArray := ⟨⟨L, hb, hll, by rw [← HFN.out]; exact hnc, by rw [← HFN.out]; exact ht⟩⟩
    have HS := Lib.hid (pl_sort rb cc fn cc cfU 23 pclU swo_cfU fl.toArray w2 hSW (by rw [HFN.out]; simp) (by omega))
    have HB := Lib.hid hB
    have HCM := Lib.hid hcm
    clear hSW hB hb hnc hcm hll ht ho
    go_wp2_with fail
    refine HS.out.mono ?_
    rintro e w6 ⟨rfl, d2, h6, t6, z6, p6, q6⟩
    have O6 : Hid (w6.ownsRow w.heap.size 25 7 (.slice (some ⟨rb, 0, none⟩) fn cc) d2.toList.length (plps d2.toList)) := Lib.hid (by
      have hlen : fn = d2.toList.length := by rw [Array.length_toList, z6, HFN.out]; simp
      rw [hlen]
      exact h6.row.own HB.out HCM.out)
    have B6 := Lib.hid (BB.out.trans (t6.1.mono HB.out))
    have PE := Lib.hid (show d2.toList.Perm (l.filter usP) by rw [← HFL.out]; exact pl_perm_of p6 (by rw [HFN.out]; simp))
    have PW := Lib.hid (show d2.toList.Pairwise (fun x y => ltOf cfU y x = false) from pl_pair_of q6 (show fn = d2.size by rw [z6, HFN.out]; simp))
    clear h6 t6 z6 p6 q6 HS
    go_wp2_with fail
    refine bodyPost_ret (v := .slice (some ⟨rb, 0, none⟩) fn cc) (by kernel_rfl) rfl ?_
    exact ⟨_, d2.toList, rfl, O6.out, B6.out, PE.out, PW.out⟩
def roomI (most : Int) (used : Nat) : Int := max (min (max most 0) 4 - used) 0
set_option maxRecDepth 20000 in
set_option maxHeartbeats 4000000 in
theorem pl_room (most : Int) (used : Nat) (hu : used ≤ 100) (w : World) : Calls Try.prog 8 #[.int .i64 most, .int .i64 (used : Nat)] w fun e w' => e = .returned (.int .i64 (roomI most used)) ∧ w' = w := by
  obtain ⟨a, ha⟩ : ∃ a, a = max most 0 := ⟨_, rfl⟩
  obtain ⟨b, hb⟩ : ∃ b, b = min a 4 := ⟨_, rfl⟩
  obtain ⟨d, hd⟩ : ∃ d, d = b - (used : Int) := ⟨_, rfl⟩
  have hr : roomI most used = max d 0 := by unfold roomI; rw [← ha, ← hb, ← hd]
  rw [hr]
  have hw : IntKind.i64.wrap d = d := by rw [IntKind.wrap_i64]; omega
  have e1 : max most 0 = a := ha.symm
  have e2 : min a 4 = b := hb.symm
  have e3 : b - (used : Int) = d := hd.symm
  have f1 : (if most < 0 then 0 else most) = a := by split <;> omega
  have f2 : (if a < 4 then a else 4) = b := by split <;> omega
  have f3 : (if 4 < a then 4 else a) = b := by split <;> omega
  have f4 : (if 0 < most then most else 0) = a := by split <;> omega
  clear ha hb hd hr
  go_enter Try.func8, Try.ntmps8
  go_wp2
  go_ret
  exact ⟨by first | rfl | (simp; try omega), rfl⟩
set_option maxRecDepth 20000 in
set_option maxHeartbeats 4000000 in
theorem pl_first (A : Option Addr) (n c : Nat) (m : Int) (hnc : n ≤ c) (w : World) : Calls Try.prog 13 #[.slice A n c, .int .i64 m] w fun e w' => e = .returned (.slice A (min m.toNat n) c) ∧ w' = w := by
  obtain ⟨k, hk⟩ : ∃ k, k = min m.toNat n := ⟨_, rfl⟩
  obtain ⟨a, ha⟩ : ∃ a, a = max m 0 := ⟨_, rfl⟩
  have e1 : max m 0 = a := ha.symm
  have e2 : min a (n : Int) = (k : Int) := by omega
  have f1 : (if m < 0 then 0 else m) = a := by split <;> omega
  have f2 : (if a < (n : Int) then a else (n : Int)) = (k : Int) := by split <;> omega
  have f3 : (if (n : Int) < a then (n : Int) else a) = (k : Int) := by split <;> omega
  have f4 : (if 0 < m then m else 0) = a := by split <;> omega
  have hs1 : ∀ w, (Instr.slice 23 (.slice A n c) none (some (.int .i64 (k : Int))) none).run Try.prog w = .ok (.slice A k c) w := fun w => run_cut_h plEl A n c k (by omega) w
  rw [← hk]
  clear hk ha
  go_enter Try.func13, Try.ntmps13
  go_wp2
  go_ret
  exact ⟨rfl, rfl⟩
set_option maxRecDepth 20000 in
set_option maxHeartbeats 4000000 in
theorem pl_others (A : Option Addr) (n c : Nat) (hnc : n ≤ c) (w : World) : Calls Try.prog 14 #[.slice A n c] w fun e w' => e = .returned (.slice (cutA A c (min 1 n) 7) (n - min 1 n) (c - min 1 n)) ∧ w' = w := by
  obtain ⟨k, hk⟩ : ∃ k, k = min 1 n := ⟨_, rfl⟩
  have e2 : min 1 (n : Int) = (k : Int) := by omega
  have f2 : (if 1 < (n : Int) then 1 else (n : Int)) = (k : Int) := by split <;> omega
  have f3 : (if (n : Int) < 1 then (n : Int) else 1) = (k : Int) := by split <;> omega
  have hs1 : ∀ w, (Instr.slice 23 (.slice A n c) (some (.int .i64 (k : Int))) none none).run Try.prog w = .ok (.slice (cutA A c k 7) (n - k) (c - k)) w := fun w => run_cut_l plEl A n c k (by omega) w
  rw [← hk]
  clear hk
  go_enter Try.func14, Try.ntmps14
  go_wp2
  go_ret
  exact ⟨rfl, rfl⟩
end Go.Proofs.Ytbimjacceocglaa
