/- Package wheel: Next. -/
import Derived.Test.YtpeagibompohhaaWhU
import Derived.Test.YtpeagibompohhaaWhN0
namespace Go.Proofs.Ytpeagibompohhaa
open Go.RowKit
set_option linter.unusedVariables false
set_option linter.unusedSimpArgs false
theorem foldl_min_le (f : Fm) : ∀ (l : List Int) (a : Nat), l.foldl (fun a i => min a (tkF f i)) a ≤ a ∧ (∀ y ∈ l, l.foldl (fun a i => min a (tkF f i)) a ≤ tkF f y) ∧ (l.foldl (fun a i => min a (tkF f i)) a = a ∨ ∃ y ∈ l, l.foldl (fun a i => min a (tkF f i)) a = tkF f y)
  | [], a => ⟨Nat.le_refl _, by simp, .inl rfl⟩
  | x :: l, a => by
    obtain ⟨h1, h2, h3⟩ := foldl_min_le f l (min a (tkF f x))
    simp only [List.foldl_cons]
    refine ⟨by omega, fun y hy => ?_, ?_⟩
    · rcases List.mem_cons.1 hy with rfl | hy
      · omega
      · exact h2 y hy
    · rcases h3 with h3 | ⟨y, hy, h3⟩
      · by_cases e : a ≤ tkF f x
        · left; omega
        · right; exact ⟨x, by simp, by omega⟩
      · right; exact ⟨y, by simp [hy], h3⟩
theorem soonW_min (f : Fm) (x : Int) (l : List Int) : (∃ y ∈ x :: l, soonW f x (x :: l) = tkF f y) ∧ ∀ y ∈ x :: l, soonW f x (x :: l) ≤ tkF f y := by
  obtain ⟨h1, h2, h3⟩ := foldl_min_le f (x :: l) (tkF f x)
  refine ⟨?_, h2⟩
  rcases h3 with h3 | h3
  · exact ⟨x, by simp, h3⟩
  · exact h3
def spq (r : Nat) : Nat := match r with | 0 => 1 | 1 => 16 | 2 => 256 | 3 => 4096 | _ => 65536
set_option maxRecDepth 20000 in
set_option maxHeartbeats 8000000 in
theorem wnext_any (g B mb most n : Nat) (sl : List Value) (S : List (List Int)) (f : Fm) (L : List Tm) (w : World) (h : WS w g B mb most n sl S) (hm : MapW w mb f L.length) (hl : WL (plW n) S f L) (hn : n ≤ 4000000000) (hll : L.length ≤ 4096) (hdu : ∀ x ∈ L, n < x.2 ∧ x.2 ≤ n + 65535) :
    Calls Try.prog 17 #[.pointer (some ⟨g, 0, none⟩)] w fun e w' => ((L = [] ∧ e = .returned (.tuple #[.int .i64 0, .bool false])) ∨ ∃ t, IsMin L t ∧ e = .returned (.tuple #[.int .i64 ((t - n : Nat) : Int), .bool true])) ∧ ∃ q, w' = w.drewN q := by
  have c1 := h.c1
  have HW := Lib.hid h
  have HM := Lib.hid hm
  have HL := Lib.hid hl
  have HDU := Lib.hid hdu
  clear h hm hl hdu
  go_enter Try.func17, Try.ntmps17
  go_wp2_with fail
  go_loopw [4, 9] (fun sv rv wr => ∃ (r : Nat), r ≤ 4 ∧ sv = .int .i64 (spq r : Nat) ∧ rv = .int .i64 (r : Nat) ∧ Hid (∀ x ∈ L, r ≤ rdW n x.2) ∧ w = wr) (fun _ rv _ => 4 - (intOf rv).toNat)
  case atStart => exact ⟨0, by omega, rfl, rfl, Lib.hid fun _ _ => Nat.zero_le _, rfl⟩
  case round =>
    obtain ⟨r, hr4, rfl, rfl, HRD, rfl⟩ := hrel
    by_cases hr : r = 4
    · subst hr
      have hnil : L = [] := by
        cases L with
        | nil => rfl
        | cons x L => have := HRD.out x (by simp); have := rdW_le n x.2; omega
      have HN := Lib.hid hnil
      simp only [spq]
      clear hnil
      go_wp2_with fail
      go_ret2
      exact ⟨.inl ⟨HN.out, rfl⟩, 0, rfl⟩
    rcases (show r = 0 ∨ r = 1 ∨ r = 2 ∨ r = 3 by omega) with rfl | rfl | rfl | rfl
    · simp only [spq]
      obtain ⟨q, hq⟩ : ∃ q, q = n / 1 := ⟨_, rfl⟩
      have HQ : Hid (n / p16 0 = q) := Lib.hid hq.symm
      have hqn0 : n = q := by omega
      have HQN := Lib.hid hqn0
      clear hqn0
      have hqb : q ≤ 4000000000 := by omega
      clear hq
      go_upto_region 6 with fail
      rw [show (n : Int) + 1 = (q : Int) + 1 by have := HQN.out; omega]
      go_wp2_with fail
      go_loopw [19] (fun iv wk => ∃ (i : Nat), i ≤ 16 ∧ iv = .int .i64 (i : Nat) ∧ Hid (∀ x ∈ L, rdW n x.2 = 0 → q + 1 + i ≤ x.2 / p16 0) ∧ w = wk) (fun iv _ => 16 - (intOf iv).toNat)
      case atStart => exact ⟨0, by omega, rfl, Lib.hid fun x hx hr => by have := (nx_range (HDU.out x hx).1 (HDU.out x hx).2 hr).1; rw [HQ.out] at this; exact this, rfl⟩
      case round =>
        obtain ⟨i, hi, rfl, HGE, hwk⟩ := hrel
        subst hwk
        by_cases hlt : i < 16
        · obtain ⟨s, hs⟩ : ∃ s, s = (q + 1 + i) % 16 := ⟨_, rfl⟩
          have hs16 : s < 16 := by omega
          obtain ⟨p, hp⟩ : ∃ p, p = 16 * 0 + s := ⟨_, rfl⟩
          have hp64 : p < 64 := by omega
          have hpe : 3 + p = 3 + s := by omega
          obtain ⟨v0, l0, hv0, hl0, hc0, hz0⟩ := HW.out.place hp64
          rw [hpe] at hc0
          have hsum : (q : Int) + 1 + (i : Int) = ((q + 1 + i : Nat) : Int) := by push_cast; rfl
          obtain ⟨a, ha⟩ : ∃ a, a = q + 1 + i := ⟨_, rfl⟩
          rw [← ha] at hsum
          have hab : a ≤ 4000000017 := by omega
          have hmod : ((a : Nat) : Int).tmod 16 = (s : Nat) := by rw [Int.tmod_eq_emod_of_nonneg (by omega)]; omega
          have hwr : IntKind.i64.wrap (a : Int) = (a : Nat) := by rw [IntKind.wrap_i64]; omega
          have hs0 : (0 : Int) ≤ (s : Int) := by omega
          have hs1 : (s : Int) < 16 := by omega
          have HP := Lib.hid (show p = 16 * 0 + (n / p16 0 + 1 + i) % 16 by rw [HQ.out, hp, hs])
          have HL0 := Lib.hid hl0
          have hrow := HL.out.row_len hl0
          obtain ⟨A0, n0, cc0, rfl, hnc0, hln0, hrd0⟩ := hz0.out
          have hn0 : n0 ≤ 5000 := by rw [← hln0.out]; omega
          have hlt' : (i : Int) < 16 := by omega
          have HV0 := Lib.hid hv0
          clear hs hp hpe hz0 hl0 ha hv0
          by_cases hn00 : n0 = 0
          · have HNO : Hid (∀ x ∈ L, plW n x.2 ≠ 16 * 0 + (n / p16 0 + 1 + i) % 16) := Lib.hid fun x hx e => by
              rw [← HP.out] at e
              obtain ⟨k, hf⟩ := HL.out.fnd (id := x.1) (t := x.2) hx
              have hwg := HL.out.wg
              rw [Fm.wo_nil] at hwg
              obtain ⟨l', h1, h2⟩ := hwg.here x.1 x.2 k hf
              rw [e, HL0.out] at h1
              injection h1 with h1
              subst h1
              have := get_lt h2
              rw [hln0.out] at this
              omega
            have HNX : Hid (∀ x ∈ L, rdW n x.2 = 0 → q + 1 + (i + 1) ≤ x.2 / p16 0) := Lib.hid (by
              have := nx_step HDU.out (r := 0) (i := i) (by rw [HQ.out]; exact HGE.out) hlt HNO.out
              rw [HQ.out] at this
              exact this)
            have hn0i : ¬ (0 : Int) < (n0 : Int) := by omega
            have hn0j : ¬ 0 < n0 := by omega
            go_wp2_with fail
            go_roundw
            case rel => exact ⟨i + 1, by omega, by go_num, HNX, trivial⟩
            case measure => simp [intOf]; omega
          · have hn01 : (0 : Int) < (n0 : Int) := by omega
            obtain ⟨x, l, hxl⟩ : ∃ x l, l0 = x :: l := by
              cases l0 with
              | nil => have := hln0.out; simp at this; omega
              | cons x l => exact ⟨x, l, rfl⟩
            subst hxl
            have HROW : Hid (∀ y ∈ x :: l, ∃ t k, f y = some (t, k) ∧ plW n t = p ∧ (y, t) ∈ L) := Lib.hid fun y hy => by
              obtain ⟨_, t, k, hf, _, hpt, hmm⟩ := HL.out.row_mem HL0.out hy
              exact ⟨t, k, hf, hpt, hmm⟩
            have HMIN : Hid (IsMin L (soonW f x (x :: l))) := Lib.hid (by
              obtain ⟨⟨y, hy, hye⟩, hle⟩ := soonW_min f x l
              refine nx_min HDU.out HRD.out (i := i) (by rw [HQ.out]; exact HGE.out) hlt ?_ fun z hz hzp => ?_
              · obtain ⟨t, k, hf, hpt, hmm⟩ := HROW.out y hy
                exact ⟨_, hmm, by rw [hye, tkF_some hf], by rw [← HP.out]; exact hpt⟩
              · rw [← HP.out] at hzp
                obtain ⟨k, hf⟩ := HL.out.fnd (id := z.1) (t := z.2) hz
                have hwg := HL.out.wg
                rw [Fm.wo_nil] at hwg
                obtain ⟨l', h1, h2⟩ := hwg.here z.1 z.2 k hf
                rw [hzp, HL0.out] at h1
                injection h1 with h1
                subst h1
                have := hle z.1 (List.mem_of_getElem? h2)
                rwa [tkF_some hf] at this)
            have HSO := Lib.hid fun w' (h1 : WS w' g B mb most n sl S) (h2 : MapW w' mb f L.length) (h3 : Rd w' w'.heap.size 1 A0 n0 (zs .i64 (x :: l))) => wsoon_any g B mb most n L.length sl S f A0 n0 cc0 x l w' h1 h2 h3 hln0.out (fun y hy => by
              obtain ⟨t, k, hf, _, hmm⟩ := HROW.out y hy
              exact ⟨HL.out.i64 _ hmm, t, k, hf⟩) (by omega)
            obtain ⟨t, ht⟩ : ∃ t, t = soonW f x (x :: l) := ⟨_, rfl⟩
            rw [← ht] at HMIN HSO
            have hntb : n < t ∧ t ≤ n + 65535 := by
              obtain ⟨y, hy, hye⟩ := HMIN.out.1
              have := HDU.out y hy
              omega
            have hnt := hntb.1
            have htb := hntb.2
            clear ht hntb
            go_wp2_with fail
            clear c1 hc0
            refine wp_ord [(0, .pure), (1, .pure), (3, .pure), (4, .pure), (5, .pure), (6, .read), (2, .sole), (7, .pure), (8, .pure), (9, .pure)] [] (by kernel_rfl) (by kernel_rfl) (fun QQ hQ wd hwd => ?_); simp only [List.map_cons, List.map_nil, List.getD_cons_zero, List.getD_cons_succ]
            have hD : Below w.heap.size w wd := by rw [hwd.out]; exact (Below.refl _ _).drew
            have c1 := (HW.out.into hD).c1
            have HSD := Lib.hid (HSO.out wd (HW.out.into hD) (HM.out.same (hD.block mb HM.out.lt)) (by rw [hwd.out]; exact hrd0.out))
            have HWD : Hid (wd = w.drew) := Lib.hid hwd.out
            clear hD hwd
            (refine o_pure (v := ?_) (by rfl) (fun w' => ?_) ?_; rotate_left; (focus (go_simp; (try with_reducible rfl); (try (rw [if_pos (by omega)]; (try with_reducible rfl))))); (try simp only [Act.put, List.setIfInBounds_toArray, List.set_cons_zero, List.set_cons_succ]))
            (refine o_pure (v := ?_) (by rfl) (fun w' => ?_) ?_; rotate_left; (focus (go_simp; (try with_reducible rfl); (try (rw [if_pos (by omega)]; (try with_reducible rfl))))); (try simp only [Act.put, List.setIfInBounds_toArray, List.set_cons_zero, List.set_cons_succ]))
            (refine o_pure (v := ?_) (by rfl) (fun w' => ?_) ?_; rotate_left; (focus (go_simp; (try with_reducible rfl); (try (rw [if_pos (by omega)]; (try with_reducible rfl))))); (try simp only [Act.put, List.setIfInBounds_toArray, List.set_cons_zero, List.set_cons_succ]))
            (refine o_pure (v := ?_) (by rfl) (fun w' => ?_) ?_; rotate_left; (focus (go_simp; (try with_reducible rfl); (try (rw [if_pos (by omega)]; (try with_reducible rfl))))); (try simp only [Act.put, List.setIfInBounds_toArray, List.set_cons_zero, List.set_cons_succ]))
            (refine o_pure (v := ?_) (by rfl) (fun w' => ?_) ?_; rotate_left; (focus (go_simp; (try with_reducible rfl); (try (rw [if_pos (by omega)]; (try with_reducible rfl))))); (try simp only [Act.put, List.setIfInBounds_toArray, List.set_cons_zero, List.set_cons_succ]))
            (refine o_load _ (by rfl) rfl rfl (by assumption) (by kernel_rfl) ?_; simp only [Act.put, List.setIfInBounds_toArray, List.set_cons_zero, List.set_cons_succ])
            refine o_sole (fun K hK => ?_)
            go_wp2_with fail
            refine HSD.out.mono ?_
            rintro e w2 ⟨rfl, hq2⟩
            have HQ2 : Hid (∃ q, w2 = w.drewN q) := Lib.hid (by obtain ⟨q, rfl⟩ := hq2; rw [HWD.out]; exact ⟨1 + q, World.drewN_drewN w 1 q⟩)
            have HEX : Hid (Below wd.heap.size wd w2) := Lib.hid (by obtain ⟨q, rfl⟩ := hq2; exact below_drewN (Below.refl _ _) q)
            clear hq2 c1
            go_wp2_with fail
            refine hK _ _ (fun _ => Ext.of HEX.out) ?_; clear hK K
            obtain ⟨d, hd⟩ : ∃ d, d = t - n := ⟨_, rfl⟩
            have hsub : (t : Int) - (n : Int) = (d : Nat) := by omega
            have hwd : IntKind.i64.wrap (d : Int) = (d : Nat) := by rw [IntKind.wrap_i64]; omega
            (refine o_pure (v := ?_) (by rfl) (fun w' => ?_) ?_; rotate_left; (focus (go_simp; (try with_reducible rfl); (try (rw [if_pos (by omega)]; (try with_reducible rfl))))); (try simp only [Act.put, List.setIfInBounds_toArray, List.set_cons_zero, List.set_cons_succ]))
            (refine o_pure (v := ?_) (by rfl) (fun w' => ?_) ?_; rotate_left; (focus (go_simp; (try with_reducible rfl); (try (rw [if_pos (by omega)]; (try with_reducible rfl))))); (try simp only [Act.put, List.setIfInBounds_toArray, List.set_cons_zero, List.set_cons_succ]))
            (refine o_pure (v := ?_) (by rfl) (fun w' => ?_) ?_; rotate_left; (focus (go_simp; (try with_reducible rfl); (try (rw [if_pos (by omega)]; (try with_reducible rfl))))); (try simp only [Act.put, List.setIfInBounds_toArray, List.set_cons_zero, List.set_cons_succ]))
            refine o_nil (hQ.out _ _ ?_); clear hQ QQ
            have HDD := Lib.hid (And.intro hwd hd)
            clear hsub hwd hd
            go_wp2_with fail
            go_ret2
            exact ⟨.inr ⟨t, HMIN.out, by first | (show Ending.returned (.tuple #[.int .i64 (IntKind.i64.wrap ((t - n : Nat) : Int)), .bool true]) = _; rw [← HDD.out.2, HDD.out.1]) | (show Ending.returned (.tuple #[.int .i64 (IntKind.i64.wrap (d : Int)), .bool true]) = _; rw [HDD.out.1, HDD.out.2])⟩, HQ2.out⟩
        · have hie : i = 16 := by omega
          subst hie
          have HNR : Hid (∀ x ∈ L, 0 + 1 ≤ rdW n x.2) := Lib.hid (nx_round HDU.out HRD.out (by rw [HQ.out]; exact HGE.out))
          go_wp2_with fail
          go_roundw
          case rel => exact ⟨0 + 1, by omega, by go_num, by go_num, HNR, trivial⟩
          case measure => simp [intOf]
    · simp only [spq]
      obtain ⟨q, hq⟩ : ∃ q, q = n / 16 := ⟨_, rfl⟩
      have HQ : Hid (n / p16 1 = q) := Lib.hid hq.symm
      have hqi : (n : Int) / 16 = (q : Nat) := by omega
      have hqb : q ≤ 4000000000 := by omega
      clear hq
      go_upto_region 6 with fail
      (try rw [hqi])
      go_wp2_with fail
      go_loopw [19] (fun iv wk => ∃ (i : Nat), i ≤ 16 ∧ iv = .int .i64 (i : Nat) ∧ Hid (∀ x ∈ L, rdW n x.2 = 1 → q + 1 + i ≤ x.2 / p16 1) ∧ w = wk) (fun iv _ => 16 - (intOf iv).toNat)
      case atStart => exact ⟨0, by omega, rfl, Lib.hid fun x hx hr => by have := (nx_range (HDU.out x hx).1 (HDU.out x hx).2 hr).1; rw [HQ.out] at this; exact this, rfl⟩
      case round =>
        obtain ⟨i, hi, rfl, HGE, hwk⟩ := hrel
        subst hwk
        by_cases hlt : i < 16
        · obtain ⟨s, hs⟩ : ∃ s, s = (q + 1 + i) % 16 := ⟨_, rfl⟩
          have hs16 : s < 16 := by omega
          obtain ⟨p, hp⟩ : ∃ p, p = 16 * 1 + s := ⟨_, rfl⟩
          have hp64 : p < 64 := by omega
          have hpe : 3 + p = 19 + s := by omega
          obtain ⟨v0, l0, hv0, hl0, hc0, hz0⟩ := HW.out.place hp64
          rw [hpe] at hc0
          have hsum : (q : Int) + 1 + (i : Int) = ((q + 1 + i : Nat) : Int) := by push_cast; rfl
          obtain ⟨a, ha⟩ : ∃ a, a = q + 1 + i := ⟨_, rfl⟩
          rw [← ha] at hsum
          have hab : a ≤ 4000000017 := by omega
          have hmod : ((a : Nat) : Int).tmod 16 = (s : Nat) := by rw [Int.tmod_eq_emod_of_nonneg (by omega)]; omega
          have hwr : IntKind.i64.wrap (a : Int) = (a : Nat) := by rw [IntKind.wrap_i64]; omega
          have hs0 : (0 : Int) ≤ (s : Int) := by omega
          have hs1 : (s : Int) < 16 := by omega
          have HP := Lib.hid (show p = 16 * 1 + (n / p16 1 + 1 + i) % 16 by rw [HQ.out, hp, hs])
          have HL0 := Lib.hid hl0
          have hrow := HL.out.row_len hl0
          obtain ⟨A0, n0, cc0, rfl, hnc0, hln0, hrd0⟩ := hz0.out
          have hn0 : n0 ≤ 5000 := by rw [← hln0.out]; omega
          have hlt' : (i : Int) < 16 := by omega
          have HV0 := Lib.hid hv0
          clear hs hp hpe hz0 hl0 ha hv0
          by_cases hn00 : n0 = 0
          · have HNO : Hid (∀ x ∈ L, plW n x.2 ≠ 16 * 1 + (n / p16 1 + 1 + i) % 16) := Lib.hid fun x hx e => by
              rw [← HP.out] at e
              obtain ⟨k, hf⟩ := HL.out.fnd (id := x.1) (t := x.2) hx
              have hwg := HL.out.wg
              rw [Fm.wo_nil] at hwg
              obtain ⟨l', h1, h2⟩ := hwg.here x.1 x.2 k hf
              rw [e, HL0.out] at h1
              injection h1 with h1
              subst h1
              have := get_lt h2
              rw [hln0.out] at this
              omega
            have HNX : Hid (∀ x ∈ L, rdW n x.2 = 1 → q + 1 + (i + 1) ≤ x.2 / p16 1) := Lib.hid (by
              have := nx_step HDU.out (r := 1) (i := i) (by rw [HQ.out]; exact HGE.out) hlt HNO.out
              rw [HQ.out] at this
              exact this)
            have hn0i : ¬ (0 : Int) < (n0 : Int) := by omega
            have hn0j : ¬ 0 < n0 := by omega
            go_wp2_with fail
            go_roundw
            case rel => exact ⟨i + 1, by omega, by go_num, HNX, trivial⟩
            case measure => simp [intOf]; omega
          · have hn01 : (0 : Int) < (n0 : Int) := by omega
            obtain ⟨x, l, hxl⟩ : ∃ x l, l0 = x :: l := by
              cases l0 with
              | nil => have := hln0.out; simp at this; omega
              | cons x l => exact ⟨x, l, rfl⟩
            subst hxl
            have HROW : Hid (∀ y ∈ x :: l, ∃ t k, f y = some (t, k) ∧ plW n t = p ∧ (y, t) ∈ L) := Lib.hid fun y hy => by
              obtain ⟨_, t, k, hf, _, hpt, hmm⟩ := HL.out.row_mem HL0.out hy
              exact ⟨t, k, hf, hpt, hmm⟩
            have HMIN : Hid (IsMin L (soonW f x (x :: l))) := Lib.hid (by
              obtain ⟨⟨y, hy, hye⟩, hle⟩ := soonW_min f x l
              refine nx_min HDU.out HRD.out (i := i) (by rw [HQ.out]; exact HGE.out) hlt ?_ fun z hz hzp => ?_
              · obtain ⟨t, k, hf, hpt, hmm⟩ := HROW.out y hy
                exact ⟨_, hmm, by rw [hye, tkF_some hf], by rw [← HP.out]; exact hpt⟩
              · rw [← HP.out] at hzp
                obtain ⟨k, hf⟩ := HL.out.fnd (id := z.1) (t := z.2) hz
                have hwg := HL.out.wg
                rw [Fm.wo_nil] at hwg
                obtain ⟨l', h1, h2⟩ := hwg.here z.1 z.2 k hf
                rw [hzp, HL0.out] at h1
                injection h1 with h1
                subst h1
                have := hle z.1 (List.mem_of_getElem? h2)
                rwa [tkF_some hf] at this)
            have HSO := Lib.hid fun w' (h1 : WS w' g B mb most n sl S) (h2 : MapW w' mb f L.length) (h3 : Rd w' w'.heap.size 1 A0 n0 (zs .i64 (x :: l))) => wsoon_any g B mb most n L.length sl S f A0 n0 cc0 x l w' h1 h2 h3 hln0.out (fun y hy => by
              obtain ⟨t, k, hf, _, hmm⟩ := HROW.out y hy
              exact ⟨HL.out.i64 _ hmm, t, k, hf⟩) (by omega)
            obtain ⟨t, ht⟩ : ∃ t, t = soonW f x (x :: l) := ⟨_, rfl⟩
            rw [← ht] at HMIN HSO
            have hntb : n < t ∧ t ≤ n + 65535 := by
              obtain ⟨y, hy, hye⟩ := HMIN.out.1
              have := HDU.out y hy
              omega
            have hnt := hntb.1
            have htb := hntb.2
            clear ht hntb
            go_wp2_with fail
            clear c1 hc0
            refine wp_ord [(0, .pure), (1, .pure), (3, .pure), (4, .pure), (5, .pure), (6, .read), (2, .sole), (7, .pure), (8, .pure), (9, .pure)] [] (by kernel_rfl) (by kernel_rfl) (fun QQ hQ wd hwd => ?_); simp only [List.map_cons, List.map_nil, List.getD_cons_zero, List.getD_cons_succ]
            have hD : Below w.heap.size w wd := by rw [hwd.out]; exact (Below.refl _ _).drew
            have c1 := (HW.out.into hD).c1
            have HSD := Lib.hid (HSO.out wd (HW.out.into hD) (HM.out.same (hD.block mb HM.out.lt)) (by rw [hwd.out]; exact hrd0.out))
            have HWD : Hid (wd = w.drew) := Lib.hid hwd.out
            clear hD hwd
            (refine o_pure (v := ?_) (by rfl) (fun w' => ?_) ?_; rotate_left; (focus (go_simp; (try with_reducible rfl); (try (rw [if_pos (by omega)]; (try with_reducible rfl))))); (try simp only [Act.put, List.setIfInBounds_toArray, List.set_cons_zero, List.set_cons_succ]))
            (refine o_pure (v := ?_) (by rfl) (fun w' => ?_) ?_; rotate_left; (focus (go_simp; (try with_reducible rfl); (try (rw [if_pos (by omega)]; (try with_reducible rfl))))); (try simp only [Act.put, List.setIfInBounds_toArray, List.set_cons_zero, List.set_cons_succ]))
            (refine o_pure (v := ?_) (by rfl) (fun w' => ?_) ?_; rotate_left; (focus (go_simp; (try with_reducible rfl); (try (rw [if_pos (by omega)]; (try with_reducible rfl))))); (try simp only [Act.put, List.setIfInBounds_toArray, List.set_cons_zero, List.set_cons_succ]))
            (refine o_pure (v := ?_) (by rfl) (fun w' => ?_) ?_; rotate_left; (focus (go_simp; (try with_reducible rfl); (try (rw [if_pos (by omega)]; (try with_reducible rfl))))); (try simp only [Act.put, List.setIfInBounds_toArray, List.set_cons_zero, List.set_cons_succ]))
            (refine o_pure (v := ?_) (by rfl) (fun w' => ?_) ?_; rotate_left; (focus (go_simp; (try with_reducible rfl); (try (rw [if_pos (by omega)]; (try with_reducible rfl))))); (try simp only [Act.put, List.setIfInBounds_toArray, List.set_cons_zero, List.set_cons_succ]))
            (refine o_load _ (by rfl) rfl rfl (by assumption) (by kernel_rfl) ?_; simp only [Act.put, List.setIfInBounds_toArray, List.set_cons_zero, List.set_cons_succ])
            refine o_sole (fun K hK => ?_)
            go_wp2_with fail
            refine HSD.out.mono ?_
            rintro e w2 ⟨rfl, hq2⟩
            have HQ2 : Hid (∃ q, w2 = w.drewN q) := Lib.hid (by obtain ⟨q, rfl⟩ := hq2; rw [HWD.out]; exact ⟨1 + q, World.drewN_drewN w 1 q⟩)
            have HEX : Hid (Below wd.heap.size wd w2) := Lib.hid (by obtain ⟨q, rfl⟩ := hq2; exact below_drewN (Below.refl _ _) q)
            clear hq2 c1
            go_wp2_with fail
            refine hK _ _ (fun _ => Ext.of HEX.out) ?_; clear hK K
            obtain ⟨d, hd⟩ : ∃ d, d = t - n := ⟨_, rfl⟩
            have hsub : (t : Int) - (n : Int) = (d : Nat) := by omega
            have hwd : IntKind.i64.wrap (d : Int) = (d : Nat) := by rw [IntKind.wrap_i64]; omega
            (refine o_pure (v := ?_) (by rfl) (fun w' => ?_) ?_; rotate_left; (focus (go_simp; (try with_reducible rfl); (try (rw [if_pos (by omega)]; (try with_reducible rfl))))); (try simp only [Act.put, List.setIfInBounds_toArray, List.set_cons_zero, List.set_cons_succ]))
            (refine o_pure (v := ?_) (by rfl) (fun w' => ?_) ?_; rotate_left; (focus (go_simp; (try with_reducible rfl); (try (rw [if_pos (by omega)]; (try with_reducible rfl))))); (try simp only [Act.put, List.setIfInBounds_toArray, List.set_cons_zero, List.set_cons_succ]))
            (refine o_pure (v := ?_) (by rfl) (fun w' => ?_) ?_; rotate_left; (focus (go_simp; (try with_reducible rfl); (try (rw [if_pos (by omega)]; (try with_reducible rfl))))); (try simp only [Act.put, List.setIfInBounds_toArray, List.set_cons_zero, List.set_cons_succ]))
            refine o_nil (hQ.out _ _ ?_); clear hQ QQ
            have HDD := Lib.hid (And.intro hwd hd)
            clear hsub hwd hd
            go_wp2_with fail
            go_ret2
            exact ⟨.inr ⟨t, HMIN.out, by first | (show Ending.returned (.tuple #[.int .i64 (IntKind.i64.wrap ((t - n : Nat) : Int)), .bool true]) = _; rw [← HDD.out.2, HDD.out.1]) | (show Ending.returned (.tuple #[.int .i64 (IntKind.i64.wrap (d : Int)), .bool true]) = _; rw [HDD.out.1, HDD.out.2])⟩, HQ2.out⟩
        · have hie : i = 16 := by omega
          subst hie
          have HNR : Hid (∀ x ∈ L, 1 + 1 ≤ rdW n x.2) := Lib.hid (nx_round HDU.out HRD.out (by rw [HQ.out]; exact HGE.out))
          go_wp2_with fail
          go_roundw
          case rel => exact ⟨1 + 1, by omega, by go_num, by go_num, HNR, trivial⟩
          case measure => simp [intOf]
    · simp only [spq]
      obtain ⟨q, hq⟩ : ∃ q, q = n / 256 := ⟨_, rfl⟩
      have HQ : Hid (n / p16 2 = q) := Lib.hid hq.symm
      have hqi : (n : Int) / 256 = (q : Nat) := by omega
      have hqb : q ≤ 4000000000 := by omega
      clear hq
      go_upto_region 6 with fail
      (try rw [hqi])
      go_wp2_with fail
      go_loopw [19] (fun iv wk => ∃ (i : Nat), i ≤ 16 ∧ iv = .int .i64 (i : Nat) ∧ Hid (∀ x ∈ L, rdW n x.2 = 2 → q + 1 + i ≤ x.2 / p16 2) ∧ w = wk) (fun iv _ => 16 - (intOf iv).toNat)
      case atStart => exact ⟨0, by omega, rfl, Lib.hid fun x hx hr => by have := (nx_range (HDU.out x hx).1 (HDU.out x hx).2 hr).1; rw [HQ.out] at this; exact this, rfl⟩
      case round =>
        obtain ⟨i, hi, rfl, HGE, hwk⟩ := hrel
        subst hwk
        by_cases hlt : i < 16
        · obtain ⟨s, hs⟩ : ∃ s, s = (q + 1 + i) % 16 := ⟨_, rfl⟩
          have hs16 : s < 16 := by omega
          obtain ⟨p, hp⟩ : ∃ p, p = 16 * 2 + s := ⟨_, rfl⟩
          have hp64 : p < 64 := by omega
          have hpe : 3 + p = 35 + s := by omega
          obtain ⟨v0, l0, hv0, hl0, hc0, hz0⟩ := HW.out.place hp64
          rw [hpe] at hc0
          have hsum : (q : Int) + 1 + (i : Int) = ((q + 1 + i : Nat) : Int) := by push_cast; rfl
          obtain ⟨a, ha⟩ : ∃ a, a = q + 1 + i := ⟨_, rfl⟩
          rw [← ha] at hsum
          have hab : a ≤ 4000000017 := by omega
          have hmod : ((a : Nat) : Int).tmod 16 = (s : Nat) := by rw [Int.tmod_eq_emod_of_nonneg (by omega)]; omega
          have hwr : IntKind.i64.wrap (a : Int) = (a : Nat) := by rw [IntKind.wrap_i64]; omega
          have hs0 : (0 : Int) ≤ (s : Int) := by omega
          have hs1 : (s : Int) < 16 := by omega
          have HP := Lib.hid (show p = 16 * 2 + (n / p16 2 + 1 + i) % 16 by rw [HQ.out, hp, hs])
          have HL0 := Lib.hid hl0
          have hrow := HL.out.row_len hl0
          obtain ⟨A0, n0, cc0, rfl, hnc0, hln0, hrd0⟩ := hz0.out
          have hn0 : n0 ≤ 5000 := by rw [← hln0.out]; omega
          have hlt' : (i : Int) < 16 := by omega
          have HV0 := Lib.hid hv0
          clear hs hp hpe hz0 hl0 ha hv0
          by_cases hn00 : n0 = 0
          · have HNO : Hid (∀ x ∈ L, plW n x.2 ≠ 16 * 2 + (n / p16 2 + 1 + i) % 16) := Lib.hid fun x hx e => by
              rw [← HP.out] at e
              obtain ⟨k, hf⟩ := HL.out.fnd (id := x.1) (t := x.2) hx
              have hwg := HL.out.wg
              rw [Fm.wo_nil] at hwg
              obtain ⟨l', h1, h2⟩ := hwg.here x.1 x.2 k hf
              rw [e, HL0.out] at h1
              injection h1 with h1
              subst h1
              have := get_lt h2
              rw [hln0.out] at this
              omega
            have HNX : Hid (∀ x ∈ L, rdW n x.2 = 2 → q + 1 + (i + 1) ≤ x.2 / p16 2) := Lib.hid (by
              have := nx_step HDU.out (r := 2) (i := i) (by rw [HQ.out]; exact HGE.out) hlt HNO.out
              rw [HQ.out] at this
              exact this)
            have hn0i : ¬ (0 : Int) < (n0 : Int) := by omega
            have hn0j : ¬ 0 < n0 := by omega
            go_wp2_with fail
            go_roundw
            case rel => exact ⟨i + 1, by omega, by go_num, HNX, trivial⟩
            case measure => simp [intOf]; omega
          · have hn01 : (0 : Int) < (n0 : Int) := by omega
            obtain ⟨x, l, hxl⟩ : ∃ x l, l0 = x :: l := by
              cases l0 with
              | nil => have := hln0.out; simp at this; omega
              | cons x l => exact ⟨x, l, rfl⟩
            subst hxl
            have HROW : Hid (∀ y ∈ x :: l, ∃ t k, f y = some (t, k) ∧ plW n t = p ∧ (y, t) ∈ L) := Lib.hid fun y hy => by
              obtain ⟨_, t, k, hf, _, hpt, hmm⟩ := HL.out.row_mem HL0.out hy
              exact ⟨t, k, hf, hpt, hmm⟩
            have HMIN : Hid (IsMin L (soonW f x (x :: l))) := Lib.hid (by
              obtain ⟨⟨y, hy, hye⟩, hle⟩ := soonW_min f x l
              refine nx_min HDU.out HRD.out (i := i) (by rw [HQ.out]; exact HGE.out) hlt ?_ fun z hz hzp => ?_
              · obtain ⟨t, k, hf, hpt, hmm⟩ := HROW.out y hy
                exact ⟨_, hmm, by rw [hye, tkF_some hf], by rw [← HP.out]; exact hpt⟩
              · rw [← HP.out] at hzp
                obtain ⟨k, hf⟩ := HL.out.fnd (id := z.1) (t := z.2) hz
                have hwg := HL.out.wg
                rw [Fm.wo_nil] at hwg
                obtain ⟨l', h1, h2⟩ := hwg.here z.1 z.2 k hf
                rw [hzp, HL0.out] at h1
                injection h1 with h1
                subst h1
                have := hle z.1 (List.mem_of_getElem? h2)
                rwa [tkF_some hf] at this)
            have HSO := Lib.hid fun w' (h1 : WS w' g B mb most n sl S) (h2 : MapW w' mb f L.length) (h3 : Rd w' w'.heap.size 1 A0 n0 (zs .i64 (x :: l))) => wsoon_any g B mb most n L.length sl S f A0 n0 cc0 x l w' h1 h2 h3 hln0.out (fun y hy => by
              obtain ⟨t, k, hf, _, hmm⟩ := HROW.out y hy
              exact ⟨HL.out.i64 _ hmm, t, k, hf⟩) (by omega)
            obtain ⟨t, ht⟩ : ∃ t, t = soonW f x (x :: l) := ⟨_, rfl⟩
            rw [← ht] at HMIN HSO
            have hntb : n < t ∧ t ≤ n + 65535 := by
              obtain ⟨y, hy, hye⟩ := HMIN.out.1
              have := HDU.out y hy
              omega
            have hnt := hntb.1
            have htb := hntb.2
            clear ht hntb
            go_wp2_with fail
            clear c1 hc0
            refine wp_ord [(0, .pure), (1, .pure), (3, .pure), (4, .pure), (5, .pure), (6, .read), (2, .sole), (7, .pure), (8, .pure), (9, .pure)] [] (by kernel_rfl) (by kernel_rfl) (fun QQ hQ wd hwd => ?_); simp only [List.map_cons, List.map_nil, List.getD_cons_zero, List.getD_cons_succ]
            have hD : Below w.heap.size w wd := by rw [hwd.out]; exact (Below.refl _ _).drew
            have c1 := (HW.out.into hD).c1
            have HSD := Lib.hid (HSO.out wd (HW.out.into hD) (HM.out.same (hD.block mb HM.out.lt)) (by rw [hwd.out]; exact hrd0.out))
            have HWD : Hid (wd = w.drew) := Lib.hid hwd.out
            clear hD hwd
            (refine o_pure (v := ?_) (by rfl) (fun w' => ?_) ?_; rotate_left; (focus (go_simp; (try with_reducible rfl); (try (rw [if_pos (by omega)]; (try with_reducible rfl))))); (try simp only [Act.put, List.setIfInBounds_toArray, List.set_cons_zero, List.set_cons_succ]))
            (refine o_pure (v := ?_) (by rfl) (fun w' => ?_) ?_; rotate_left; (focus (go_simp; (try with_reducible rfl); (try (rw [if_pos (by omega)]; (try with_reducible rfl))))); (try simp only [Act.put, List.setIfInBounds_toArray, List.set_cons_zero, List.set_cons_succ]))
            (refine o_pure (v := ?_) (by rfl) (fun w' => ?_) ?_; rotate_left; (focus (go_simp; (try with_reducible rfl); (try (rw [if_pos (by omega)]; (try with_reducible rfl))))); (try simp only [Act.put, List.setIfInBounds_toArray, List.set_cons_zero, List.set_cons_succ]))
            (refine o_pure (v := ?_) (by rfl) (fun w' => ?_) ?_; rotate_left; (focus (go_simp; (try with_reducible rfl); (try (rw [if_pos (by omega)]; (try with_reducible rfl))))); (try simp only [Act.put, List.setIfInBounds_toArray, List.set_cons_zero, List.set_cons_succ]))
            (refine o_pure (v := ?_) (by rfl) (fun w' => ?_) ?_; rotate_left; (focus (go_simp; (try with_reducible rfl); (try (rw [if_pos (by omega)]; (try with_reducible rfl))))); (try simp only [Act.put, List.setIfInBounds_toArray, List.set_cons_zero, List.set_cons_succ]))
            (refine o_load _ (by rfl) rfl rfl (by assumption) (by kernel_rfl) ?_; simp only [Act.put, List.setIfInBounds_toArray, List.set_cons_zero, List.set_cons_succ])
            refine o_sole (fun K hK => ?_)
            go_wp2_with fail
            refine HSD.out.mono ?_
            rintro e w2 ⟨rfl, hq2⟩
            have HQ2 : Hid (∃ q, w2 = w.drewN q) := Lib.hid (by obtain ⟨q, rfl⟩ := hq2; rw [HWD.out]; exact ⟨1 + q, World.drewN_drewN w 1 q⟩)
            have HEX : Hid (Below wd.heap.size wd w2) := Lib.hid (by obtain ⟨q, rfl⟩ := hq2; exact below_drewN (Below.refl _ _) q)
            clear hq2 c1
            go_wp2_with fail
            refine hK _ _ (fun _ => Ext.of HEX.out) ?_; clear hK K
            obtain ⟨d, hd⟩ : ∃ d, d = t - n := ⟨_, rfl⟩
            have hsub : (t : Int) - (n : Int) = (d : Nat) := by omega
            have hwd : IntKind.i64.wrap (d : Int) = (d : Nat) := by rw [IntKind.wrap_i64]; omega
            (refine o_pure (v := ?_) (by rfl) (fun w' => ?_) ?_; rotate_left; (focus (go_simp; (try with_reducible rfl); (try (rw [if_pos (by omega)]; (try with_reducible rfl))))); (try simp only [Act.put, List.setIfInBounds_toArray, List.set_cons_zero, List.set_cons_succ]))
            (refine o_pure (v := ?_) (by rfl) (fun w' => ?_) ?_; rotate_left; (focus (go_simp; (try with_reducible rfl); (try (rw [if_pos (by omega)]; (try with_reducible rfl))))); (try simp only [Act.put, List.setIfInBounds_toArray, List.set_cons_zero, List.set_cons_succ]))
            (refine o_pure (v := ?_) (by rfl) (fun w' => ?_) ?_; rotate_left; (focus (go_simp; (try with_reducible rfl); (try (rw [if_pos (by omega)]; (try with_reducible rfl))))); (try simp only [Act.put, List.setIfInBounds_toArray, List.set_cons_zero, List.set_cons_succ]))
            refine o_nil (hQ.out _ _ ?_); clear hQ QQ
            have HDD := Lib.hid (And.intro hwd hd)
            clear hsub hwd hd
            go_wp2_with fail
            go_ret2
            exact ⟨.inr ⟨t, HMIN.out, by first | (show Ending.returned (.tuple #[.int .i64 (IntKind.i64.wrap ((t - n : Nat) : Int)), .bool true]) = _; rw [← HDD.out.2, HDD.out.1]) | (show Ending.returned (.tuple #[.int .i64 (IntKind.i64.wrap (d : Int)), .bool true]) = _; rw [HDD.out.1, HDD.out.2])⟩, HQ2.out⟩
        · have hie : i = 16 := by omega
          subst hie
          have HNR : Hid (∀ x ∈ L, 2 + 1 ≤ rdW n x.2) := Lib.hid (nx_round HDU.out HRD.out (by rw [HQ.out]; exact HGE.out))
          go_wp2_with fail
          go_roundw
          case rel => exact ⟨2 + 1, by omega, by go_num, by go_num, HNR, trivial⟩
          case measure => simp [intOf]
    · simp only [spq]
      obtain ⟨q, hq⟩ : ∃ q, q = n / 4096 := ⟨_, rfl⟩
      have HQ : Hid (n / p16 3 = q) := Lib.hid hq.symm
      have hqi : (n : Int) / 4096 = (q : Nat) := by omega
      have hqb : q ≤ 4000000000 := by omega
      clear hq
      go_upto_region 6 with fail
      (try rw [hqi])
      go_wp2_with fail
      go_loopw [19] (fun iv wk => ∃ (i : Nat), i ≤ 16 ∧ iv = .int .i64 (i : Nat) ∧ Hid (∀ x ∈ L, rdW n x.2 = 3 → q + 1 + i ≤ x.2 / p16 3) ∧ w = wk) (fun iv _ => 16 - (intOf iv).toNat)
      case atStart => exact ⟨0, by omega, rfl, Lib.hid fun x hx hr => by have := (nx_range (HDU.out x hx).1 (HDU.out x hx).2 hr).1; rw [HQ.out] at this; exact this, rfl⟩
      case round =>
        obtain ⟨i, hi, rfl, HGE, hwk⟩ := hrel
        subst hwk
        by_cases hlt : i < 16
        · obtain ⟨s, hs⟩ : ∃ s, s = (q + 1 + i) % 16 := ⟨_, rfl⟩
          have hs16 : s < 16 := by omega
          obtain ⟨p, hp⟩ : ∃ p, p = 16 * 3 + s := ⟨_, rfl⟩
          have hp64 : p < 64 := by omega
          have hpe : 3 + p = 51 + s := by omega
          obtain ⟨v0, l0, hv0, hl0, hc0, hz0⟩ := HW.out.place hp64
          rw [hpe] at hc0
          have hsum : (q : Int) + 1 + (i : Int) = ((q + 1 + i : Nat) : Int) := by push_cast; rfl
          obtain ⟨a, ha⟩ : ∃ a, a = q + 1 + i := ⟨_, rfl⟩
          rw [← ha] at hsum
          have hab : a ≤ 4000000017 := by omega
          have hmod : ((a : Nat) : Int).tmod 16 = (s : Nat) := by rw [Int.tmod_eq_emod_of_nonneg (by omega)]; omega
          have hwr : IntKind.i64.wrap (a : Int) = (a : Nat) := by rw [IntKind.wrap_i64]; omega
          have hs0 : (0 : Int) ≤ (s : Int) := by omega
          have hs1 : (s : Int) < 16 := by omega
          have HP := Lib.hid (show p = 16 * 3 + (n / p16 3 + 1 + i) % 16 by rw [HQ.out, hp, hs])
          have HL0 := Lib.hid hl0
          have hrow := HL.out.row_len hl0
          obtain ⟨A0, n0, cc0, rfl, hnc0, hln0, hrd0⟩ := hz0.out
          have hn0 : n0 ≤ 5000 := by rw [← hln0.out]; omega
          have hlt' : (i : Int) < 16 := by omega
          have HV0 := Lib.hid hv0
          clear hs hp hpe hz0 hl0 ha hv0
          by_cases hn00 : n0 = 0
          · have HNO : Hid (∀ x ∈ L, plW n x.2 ≠ 16 * 3 + (n / p16 3 + 1 + i) % 16) := Lib.hid fun x hx e => by
              rw [← HP.out] at e
              obtain ⟨k, hf⟩ := HL.out.fnd (id := x.1) (t := x.2) hx
              have hwg := HL.out.wg
              rw [Fm.wo_nil] at hwg
              obtain ⟨l', h1, h2⟩ := hwg.here x.1 x.2 k hf
              rw [e, HL0.out] at h1
              injection h1 with h1
              subst h1
              have := get_lt h2
              rw [hln0.out] at this
              omega
            have HNX : Hid (∀ x ∈ L, rdW n x.2 = 3 → q + 1 + (i + 1) ≤ x.2 / p16 3) := Lib.hid (by
              have := nx_step HDU.out (r := 3) (i := i) (by rw [HQ.out]; exact HGE.out) hlt HNO.out
              rw [HQ.out] at this
              exact this)
            have hn0i : ¬ (0 : Int) < (n0 : Int) := by omega
            have hn0j : ¬ 0 < n0 := by omega
            go_wp2_with fail
            go_roundw
            case rel => exact ⟨i + 1, by omega, by go_num, HNX, trivial⟩
            case measure => simp [intOf]; omega
          · have hn01 : (0 : Int) < (n0 : Int) := by omega
            obtain ⟨x, l, hxl⟩ : ∃ x l, l0 = x :: l := by
              cases l0 with
              | nil => have := hln0.out; simp at this; omega
              | cons x l => exact ⟨x, l, rfl⟩
            subst hxl
            have HROW : Hid (∀ y ∈ x :: l, ∃ t k, f y = some (t, k) ∧ plW n t = p ∧ (y, t) ∈ L) := Lib.hid fun y hy => by
              obtain ⟨_, t, k, hf, _, hpt, hmm⟩ := HL.out.row_mem HL0.out hy
              exact ⟨t, k, hf, hpt, hmm⟩
            have HMIN : Hid (IsMin L (soonW f x (x :: l))) := Lib.hid (by
              obtain ⟨⟨y, hy, hye⟩, hle⟩ := soonW_min f x l
              refine nx_min HDU.out HRD.out (i := i) (by rw [HQ.out]; exact HGE.out) hlt ?_ fun z hz hzp => ?_
              · obtain ⟨t, k, hf, hpt, hmm⟩ := HROW.out y hy
                exact ⟨_, hmm, by rw [hye, tkF_some hf], by rw [← HP.out]; exact hpt⟩
              · rw [← HP.out] at hzp
                obtain ⟨k, hf⟩ := HL.out.fnd (id := z.1) (t := z.2) hz
                have hwg := HL.out.wg
                rw [Fm.wo_nil] at hwg
                obtain ⟨l', h1, h2⟩ := hwg.here z.1 z.2 k hf
                rw [hzp, HL0.out] at h1
                injection h1 with h1
                subst h1
                have := hle z.1 (List.mem_of_getElem? h2)
                rwa [tkF_some hf] at this)
            have HSO := Lib.hid fun w' (h1 : WS w' g B mb most n sl S) (h2 : MapW w' mb f L.length) (h3 : Rd w' w'.heap.size 1 A0 n0 (zs .i64 (x :: l))) => wsoon_any g B mb most n L.length sl S f A0 n0 cc0 x l w' h1 h2 h3 hln0.out (fun y hy => by
              obtain ⟨t, k, hf, _, hmm⟩ := HROW.out y hy
              exact ⟨HL.out.i64 _ hmm, t, k, hf⟩) (by omega)
            obtain ⟨t, ht⟩ : ∃ t, t = soonW f x (x :: l) := ⟨_, rfl⟩
            rw [← ht] at HMIN HSO
            have hntb : n < t ∧ t ≤ n + 65535 := by
              obtain ⟨y, hy, hye⟩ := HMIN.out.1
              have := HDU.out y hy
              omega
            have hnt := hntb.1
            have htb := hntb.2
            clear ht hntb
            go_wp2_with fail
            clear c1 hc0
            refine wp_ord [(0, .pure), (1, .pure), (3, .pure), (4, .pure), (5, .pure), (6, .read), (2, .sole), (7, .pure), (8, .pure), (9, .pure)] [] (by kernel_rfl) (by kernel_rfl) (fun QQ hQ wd hwd => ?_); simp only [List.map_cons, List.map_nil, List.getD_cons_zero, List.getD_cons_succ]
            have hD : Below w.heap.size w wd := by rw [hwd.out]; exact (Below.refl _ _).drew
            have c1 := (HW.out.into hD).c1
            have HSD := Lib.hid (HSO.out wd (HW.out.into hD) (HM.out.same (hD.block mb HM.out.lt)) (by rw [hwd.out]; exact hrd0.out))
            have HWD : Hid (wd = w.drew) := Lib.hid hwd.out
            clear hD hwd
            (refine o_pure (v := ?_) (by rfl) (fun w' => ?_) ?_; rotate_left; (focus (go_simp; (try with_reducible rfl); (try (rw [if_pos (by omega)]; (try with_reducible rfl))))); (try simp only [Act.put, List.setIfInBounds_toArray, List.set_cons_zero, List.set_cons_succ]))
            (refine o_pure (v := ?_) (by rfl) (fun w' => ?_) ?_; rotate_left; (focus (go_simp; (try with_reducible rfl); (try (rw [if_pos (by omega)]; (try with_reducible rfl))))); (try simp only [Act.put, List.setIfInBounds_toArray, List.set_cons_zero, List.set_cons_succ]))
            (refine o_pure (v := ?_) (by rfl) (fun w' => ?_) ?_; rotate_left; (focus (go_simp; (try with_reducible rfl); (try (rw [if_pos (by omega)]; (try with_reducible rfl))))); (try simp only [Act.put, List.setIfInBounds_toArray, List.set_cons_zero, List.set_cons_succ]))
            (refine o_pure (v := ?_) (by rfl) (fun w' => ?_) ?_; rotate_left; (focus (go_simp; (try with_reducible rfl); (try (rw [if_pos (by omega)]; (try with_reducible rfl))))); (try simp only [Act.put, List.setIfInBounds_toArray, List.set_cons_zero, List.set_cons_succ]))
            (refine o_pure (v := ?_) (by rfl) (fun w' => ?_) ?_; rotate_left; (focus (go_simp; (try with_reducible rfl); (try (rw [if_pos (by omega)]; (try with_reducible rfl))))); (try simp only [Act.put, List.setIfInBounds_toArray, List.set_cons_zero, List.set_cons_succ]))
            (refine o_load _ (by rfl) rfl rfl (by assumption) (by kernel_rfl) ?_; simp only [Act.put, List.setIfInBounds_toArray, List.set_cons_zero, List.set_cons_succ])
            refine o_sole (fun K hK => ?_)
            go_wp2_with fail
            refine HSD.out.mono ?_
            rintro e w2 ⟨rfl, hq2⟩
            have HQ2 : Hid (∃ q, w2 = w.drewN q) := Lib.hid (by obtain ⟨q, rfl⟩ := hq2; rw [HWD.out]; exact ⟨1 + q, World.drewN_drewN w 1 q⟩)
            have HEX : Hid (Below wd.heap.size wd w2) := Lib.hid (by obtain ⟨q, rfl⟩ := hq2; exact below_drewN (Below.refl _ _) q)
            clear hq2 c1
            go_wp2_with fail
            refine hK _ _ (fun _ => Ext.of HEX.out) ?_; clear hK K
            obtain ⟨d, hd⟩ : ∃ d, d = t - n := ⟨_, rfl⟩
            have hsub : (t : Int) - (n : Int) = (d : Nat) := by omega
            have hwd : IntKind.i64.wrap (d : Int) = (d : Nat) := by rw [IntKind.wrap_i64]; omega
            (refine o_pure (v := ?_) (by rfl) (fun w' => ?_) ?_; rotate_left; (focus (go_simp; (try with_reducible rfl); (try (rw [if_pos (by omega)]; (try with_reducible rfl))))); (try simp only [Act.put, List.setIfInBounds_toArray, List.set_cons_zero, List.set_cons_succ]))
            (refine o_pure (v := ?_) (by rfl) (fun w' => ?_) ?_; rotate_left; (focus (go_simp; (try with_reducible rfl); (try (rw [if_pos (by omega)]; (try with_reducible rfl))))); (try simp only [Act.put, List.setIfInBounds_toArray, List.set_cons_zero, List.set_cons_succ]))
            (refine o_pure (v := ?_) (by rfl) (fun w' => ?_) ?_; rotate_left; (focus (go_simp; (try with_reducible rfl); (try (rw [if_pos (by omega)]; (try with_reducible rfl))))); (try simp only [Act.put, List.setIfInBounds_toArray, List.set_cons_zero, List.set_cons_succ]))
            refine o_nil (hQ.out _ _ ?_); clear hQ QQ
            have HDD := Lib.hid (And.intro hwd hd)
            clear hsub hwd hd
            go_wp2_with fail
            go_ret2
            exact ⟨.inr ⟨t, HMIN.out, by first | (show Ending.returned (.tuple #[.int .i64 (IntKind.i64.wrap ((t - n : Nat) : Int)), .bool true]) = _; rw [← HDD.out.2, HDD.out.1]) | (show Ending.returned (.tuple #[.int .i64 (IntKind.i64.wrap (d : Int)), .bool true]) = _; rw [HDD.out.1, HDD.out.2])⟩, HQ2.out⟩
        · have hie : i = 16 := by omega
          subst hie
          have HNR : Hid (∀ x ∈ L, 3 + 1 ≤ rdW n x.2) := Lib.hid (nx_round HDU.out HRD.out (by rw [HQ.out]; exact HGE.out))
          go_wp2_with fail
          go_roundw
          case rel => exact ⟨3 + 1, by omega, by go_num, by go_num, HNR, trivial⟩
          case measure => simp [intOf]
theorem wnextI (g B mb most n : Nat) (sl : List Value) (L : List Tm) (w : World) (h : WA w g B mb most n sl L) (hn : n ≤ 4000000000) :
    Calls Try.prog 17 #[.pointer (some ⟨g, 0, none⟩)] w fun e w' => ((L = [] ∧ e = .returned (.tuple #[.int .i64 0, .bool false])) ∨ ∃ t, IsMin L t ∧ e = .returned (.tuple #[.int .i64 ((t - n : Nat) : Int), .bool true])) ∧ Below w.heap.size w w' := by
  obtain ⟨S, f, hw, hm, hl⟩ := h.ex
  refine (wnext_any g B mb most n sl S f L w hw hm hl hn (Nat.le_trans h.len h.most) h.due).mono ?_
  rintro e w' ⟨h1, q, rfl⟩
  exact ⟨h1, below_drewN (Below.refl _ _) q⟩
end Go.Proofs.Ytpeagibompohhaa
