/- SchedTurns: turn by turn. -/
import Derived.Test.YtcfeojobkpbohaaScM
namespace Go.Proofs.Ytcfeojobkpbohaa
open Go.RowKit Go.Sort
set_option linter.unusedVariables false
set_option linter.unusedSimpArgs false
/-- The path of a number. -/
def mkP (id i : Int) : Pth := ⟨id, true, false, false, 0, 0, i⟩
def mkL : Nat → List Int → List Pth
  | _, [] => []
  | k, x :: l => mkP x (k : Nat) :: mkL (k + 1) l
theorem mkL_snoc (k : Nat) (l : List Int) (x : Int) : mkL k (l ++ [x]) = mkL k l ++ [mkP x ((k + l.length : Nat) : Int)] := by
  induction l generalizing k with
  | nil => rfl
  | cons y l ih =>
    rw [List.cons_append, mkL, mkL, ih (k + 1), List.cons_append, List.length_cons, show k + (l.length + 1) = k + 1 + l.length by omega]
theorem mkL_ids (k : Nat) (l : List Int) : (mkL k l).map Pth.id = l := by
  induction l generalizing k with
  | nil => rfl
  | cons y l ih => rw [mkL, List.map_cons, ih]; rfl
theorem mkL_len (k : Nat) (l : List Int) : (mkL k l).length = l.length := by
  induction l generalizing k with
  | nil => rfl
  | cons y l ih => rw [mkL, List.length_cons, ih, List.length_cons]
theorem mkL_all (k : Nat) (l : List Int) {x : Pth} (h : x ∈ mkL k l) : x.up = true ∧ x.bk = false ∧ x.bd = false ∧ x.und = 0 := by
  induction l generalizing k with
  | nil => cases h
  | cons y l ih =>
    rw [mkL] at h
    rcases List.mem_cons.1 h with rfl | h
    · exact ⟨rfl, rfl, rfl, rfl⟩
    · exact ih (k + 1) h
theorem mkL_fit (n : Int) (l : List Int) : (mkL 0 l).filter (fitP n) = mkL 0 l := by
  refine List.filter_eq_self.2 fun x hx => ?_
  obtain ⟨h1, _, _, h4⟩ := mkL_all 0 l hx
  unfold fitP
  rw [h1, h4]
  simp
/-- The number that is next: of those behind the last one the least, else the least of all. -/
def NextT (l : List Int) (last a : Int) : Prop := a ∈ l ∧ ((last < a ∧ ∀ x ∈ l, last < x → a ≤ x) ∨ (∀ x ∈ l, x ≤ last ∧ a ≤ x))
theorem next_of {n last : Int} {l : List Int} {s : List Pth} (hp : s.Perm ((mkL 0 l).filter (fitP n))) (hs : s.Pairwise (fun x y => ltP 2 last y x = false)) (hl : l ≠ []) : ∃ a, (chL 2 s).map Pth.id = [a] ∧ NextT l last a := by
  rw [mkL_fit] at hp
  cases s with
  | nil =>
    have := hp.length_eq
    rw [mkL_len] at this
    exact absurd (List.eq_nil_of_length_eq_zero this.symm) hl
  | cons z r =>
    obtain ⟨h1, _⟩ := List.pairwise_cons.1 hs
    have hzm : z ∈ mkL 0 l := hp.mem_iff.1 (by simp)
    obtain ⟨_, zb, zd, _⟩ := mkL_all 0 l hzm
    have hz : ∀ x ∈ l, (tnP last z < (if last < x then 0 else 1)) ∨ tnP last z = (if last < x then 0 else 1) ∧ z.id ≤ x := fun x hx => by
      rw [← mkL_ids 0 l] at hx
      obtain ⟨y, hy, rfl⟩ := List.mem_map.1 hx
      obtain ⟨_, yb, yd, _⟩ := mkL_all 0 l hy
      have hym := hp.mem_iff.2 hy
      rcases List.mem_cons.1 hym with rfl | hyr
      · exact .inr ⟨rfl, Int.le_refl _⟩
      · have := of_decide_eq_false (h1 y hyr)
        have ry : rkP y = 0 := by unfold rkP; rw [yb, yd]; rfl
        have rz : rkP z = 0 := by unfold rkP; rw [zb, zd]; rfl
        have ky : k2P 2 last y = tnP last y := by unfold k2P; rw [if_pos rfl]
        have kz : k2P 2 last z = tnP last z := by unfold k2P; rw [if_pos rfl]
        rw [ry, rz, ky, kz] at this
        have ty : tnP last y = (if last < y.id then 0 else 1) := rfl
        rw [← ty]
        omega
    refine ⟨z.id, by unfold chL; simp, ?_⟩
    have hzl : z.id ∈ l := by rw [← mkL_ids 0 l]; exact List.mem_map.2 ⟨z, hzm, rfl⟩
    refine ⟨hzl, ?_⟩
    unfold tnP at hz
    by_cases hlt : last < z.id
    · refine .inl ⟨hlt, fun x hx hxl => ?_⟩
      have := hz x hx
      rw [if_pos hlt, if_pos hxl] at this
      omega
    · refine .inr fun x hx => ?_
      have := hz x hx
      rw [if_neg hlt] at this
      by_cases hxl : last < x
      · rw [if_pos hxl] at this; omega
      · rw [if_neg hxl] at this; omega
/-- What was chosen up to now: nothing; or from the first one on up to the last one; or round. -/
def TurnS (l ch : List Int) (last : Int) : Prop := ch = [] ∨ ∃ f, (∀ x, x ∈ ch ↔ x ∈ l ∧ f ≤ x ∧ x ≤ last) ∧ f ≤ last ∨ (∀ x, x ∈ ch ↔ x ∈ l ∧ (f ≤ x ∨ x ≤ last)) ∧ last < f
theorem nodup_sub {l ch : List Int} (hn : l.Nodup) (hs : ∀ x ∈ l, x ∈ ch) : l.length ≤ ch.length := List.Nodup.length_le_of_subset hn (fun x hx => hs x hx)
theorem turn_new {l ch : List Int} {last a : Int} (hn : l.Nodup) (hc : ch.length < l.length) (ht : TurnS l ch last) (ha : NextT l last a) : a ∉ ch := fun hm => by
  obtain ⟨hal, ha⟩ := ha
  rcases ht with rfl | ⟨f, ⟨h, hf⟩ | ⟨h, hf⟩⟩
  · cases hm
  · have h1 := (h a).1 hm
    rcases ha with ⟨h2, _⟩ | h2
    · omega
    · refine absurd (nodup_sub (ch := ch) hn fun x hx => ?_) (by omega)
      have := h2 x hx
      exact (h x).2 ⟨hx, by omega, this.1⟩
  · have h1 := (h a).1 hm
    refine absurd (nodup_sub (ch := ch) hn fun x hx => ?_) (by omega)
    refine (h x).2 ⟨hx, ?_⟩
    rcases ha with ⟨h2, h3⟩ | h2
    · rcases Int.lt_or_le last x with h4 | h4
      · have := h3 x hx h4; omega
      · exact .inr h4
    · have := h2 x hx; omega
theorem turn_step {l ch : List Int} {last a : Int} (hn : l.Nodup) (hc : ch.length < l.length) (ht : TurnS l ch last) (ha : NextT l last a) : TurnS l (ch ++ [a]) a := by
  have hnew := turn_new hn hc ht ha
  obtain ⟨hal, ha⟩ := ha
  right
  rcases ht with rfl | ⟨f, ⟨h, hf⟩ | ⟨h, hf⟩⟩
  · refine ⟨a, .inl ⟨fun x => ?_, Int.le_refl _⟩⟩
    simp only [List.nil_append, List.mem_singleton]
    constructor
    · rintro rfl; exact ⟨hal, Int.le_refl _, Int.le_refl _⟩
    · rintro ⟨_, h1, h2⟩; omega
  · rcases ha with ⟨h2, h3⟩ | h2
    · refine ⟨f, .inl ⟨fun x => ?_, by omega⟩⟩
      simp only [List.mem_append, List.mem_singleton]
      rw [h x]
      constructor
      · rintro (⟨h4, h5, h6⟩ | rfl)
        · exact ⟨h4, h5, by omega⟩
        · exact ⟨hal, by omega, Int.le_refl _⟩
      · rintro ⟨h4, h5, h6⟩
        rcases Int.lt_or_le last x with h7 | h7
        · have := h3 x h4 h7; exact .inr (by omega)
        · exact .inl ⟨h4, h5, h7⟩
    · have haf : a < f := by
        rcases Int.lt_or_le a f with h5 | h5
        · exact h5
        · exact absurd ((h a).2 ⟨hal, h5, (h2 a hal).1⟩) hnew
      refine ⟨f, .inr ⟨fun x => ?_, haf⟩⟩
      simp only [List.mem_append, List.mem_singleton]
      rw [h x]
      constructor
      · rintro (⟨h4, h5, h6⟩ | rfl)
        · exact ⟨h4, .inl h5⟩
        · exact ⟨hal, .inr (Int.le_refl _)⟩
      · rintro ⟨h4, h5⟩
        have := h2 x h4
        rcases h5 with h5 | h5
        · exact .inl ⟨h4, h5, this.1⟩
        · exact .inr (by omega)
  · have haf : a < f := by
      rcases Int.lt_or_le a f with h5 | h5
      · exact h5
      · exact absurd ((h a).2 ⟨hal, .inl h5⟩) hnew
    refine ⟨f, .inr ⟨fun x => ?_, haf⟩⟩
    simp only [List.mem_append, List.mem_singleton]
    rw [h x]
    have hla : last < a := by
      rcases Int.lt_or_le last a with h5 | h5
      · exact h5
      · exact absurd ((h a).2 ⟨hal, .inr h5⟩) hnew
    have h3 : ∀ x ∈ l, last < x → a ≤ x := by
      rcases ha with ⟨_, h3⟩ | h2
      · exact h3
      · intro x hx _; exact (h2 x hx).2
    constructor
    · rintro (⟨h4, h5⟩ | rfl)
      · exact ⟨h4, by omega⟩
      · exact ⟨hal, .inr (Int.le_refl _)⟩
    · rintro ⟨h4, h5⟩
      rcases Int.lt_or_le last x with h7 | h7
      · have := h3 x h4 h7
        rcases h5 with h5 | h5
        · exact .inl ⟨h4, .inl h5⟩
        · exact .inr (by omega)
      · exact .inl ⟨h4, .inr h7⟩
set_option maxRecDepth 20000 in
set_option maxHeartbeats 8000000 in
theorem schedTurns_walk (A : Option Addr) (m c : Nat) (l : List Int) (last : Int) (w : World) (h : Rd w w.heap.size 1 A m (zs .i64 l)) :
    Calls Try.prog 6 #[.slice A m c, .int .i64 last] w fun e w' => e = .returned (.bool true) ∧ Below w.heap.size w w' := by
  have HR := Lib.hid h
  have HL := Sh.mk h.intLen
  clear h
  by_cases hm : m ≤ 40
  · have hm' : ¬ (40 : Int) < (m : Int) := by omega
    have HO0 : Hid (w.ownsRow w.heap.size 36 7 (.slice none 0 0) (l.take 0).length (pths (mkL 0 (l.take 0)))) := Lib.hid (World.ownsRow_nil _ _ _ _)
    go_enter Try.func6, Try.ntmps6
    go_wp2_with fail
    go_loopw [5, 6] (fun qv iv wr => ∃ (k : Nat), k ≤ m ∧ iv = .int .i64 (k : Nat) ∧ Hid (wr.ownsRow w.heap.size 36 7 qv (l.take k).length (pths (mkL 0 (l.take k)))) ∧ Hid ((l.take k).Nodup) ∧ Hid (Below w.heap.size w wr)) (fun _ iv _ => m - (intOf iv).toNat)
    case atStart => exact ⟨0, Nat.zero_le _, rfl, HO0, Lib.hid (by simp), Lib.hid (Below.refl _ _)⟩
    case round =>
      clear HO0
      obtain ⟨k, hk, rfl, HO, HN, BB⟩ := hrel
      by_cases hlt : k < m
      · have hlt' : (k : Int) < (m : Int) := by omega
        have hk0 : (0 : Int) ≤ (k : Int) := by omega
        obtain ⟨rb, off, x, hA, hrb, hcx, HX⟩ := HR.out.nthz hlt
        subst hA
        have HCX := Lib.hid hcx
        have HQ0 := Sh.mk (show ∀ j y, j < 0 → l[j]? = some y → y ≠ x from fun j y hj => absurd hj (Nat.not_lt_zero _))
        clear hcx
        go_wp2_with fail
        go_loopw [7] (fun jv wr => ∃ (j : Nat), j ≤ k ∧ jv = .int .i64 (j : Nat) ∧ Hid (wr.ownsRow w.heap.size 36 7 u5 (l.take k).length (pths (mkL 0 (l.take k)))) ∧ Sh (∀ i y, i < j → l[i]? = some y → y ≠ x) ∧ Hid (Below w.heap.size w wr)) (fun jv _ => m - (intOf jv).toNat)
        case atStart => exact ⟨0, Nat.zero_le _, rfl, HO, HQ0, BB⟩
        case round =>
          clear HO HQ0 BB
          obtain ⟨j, hj, rfl, HO, HQ, BB⟩ := hrel
          by_cases hjk : j < k
          · have hjk' : (j : Int) < (k : Int) := by omega
            have hj0 : (0 : Int) ≤ (j : Int) := by omega
            have hjm : j < m := by omega
            have hjm' : (j : Int) < (m : Int) := by omega
            obtain ⟨rb2, off2, y, hA2, hrb2, hcy, HY⟩ := HR.out.nthz hjm
            injection hA2 with hA2
            injection hA2 with e1 e2
            subst e1
            subst e2
            have a0 := (BB.out.cell (p := ⟨rb, off + k, none⟩) hrb).trans HCX.out
            have c0 := (BB.out.cell (p := ⟨rb, off + j, none⟩) hrb).trans hcy
            clear hcy
            by_cases hx : y = x
            · have hx' : (y == x) = true := by simpa using hx
              clear hx
              go_wp2_with fail
              refine wp_ext (by kernel_rfl) (by kernel_rfl) (fun QQ hQ => ?_)
              iterate 9 (first | (refine x_load _ (by rfl) rfl rfl (by assumption) (by kernel_rfl) ?_; simp only [Act.put, List.setIfInBounds_toArray, List.set_cons_zero, List.set_cons_succ]) | (refine x_val (v := ?_) (by rfl) (fun w' hx => ?_) ?_; rotate_left; (focus (go_simp; (try with_reducible rfl))); (try simp only [Act.put, List.setIfInBounds_toArray, List.set_cons_zero, List.set_cons_succ])))
              refine x_nil (hQ.out _ ?_); clear hQ QQ
              intro w4 hb4
              have B4 := Lib.hid (BB.out.trans (hb4.mono BB.out.size))
              clear hb4 BB a0 c0
              go_wp2_with fail
              refine bodyPost_ret (v := .bool true) (by kernel_rfl) rfl ?_
              exact ⟨rfl, B4.out⟩
            · have hx' : (y == x) = false := by simpa using hx
              have HQ2 := Sh.mk (show ∀ i z, i < j + 1 → l[i]? = some z → z ≠ x by
                intro i z hi hz
                rcases Nat.lt_or_ge i j with h1 | h1
                · exact HQ.out i z h1 hz
                · obtain rfl : i = j := by omega
                  rw [HY.out] at hz
                  injection hz with hz
                  rw [← hz]; exact hx)
              clear hx HQ
              go_wp2_with fail
              refine wp_ext (by kernel_rfl) (by kernel_rfl) (fun QQ hQ => ?_)
              iterate 9 (first | (refine x_load _ (by rfl) rfl rfl (by assumption) (by kernel_rfl) ?_; simp only [Act.put, List.setIfInBounds_toArray, List.set_cons_zero, List.set_cons_succ]) | (refine x_val (v := ?_) (by rfl) (fun w' hx => ?_) ?_; rotate_left; (focus (go_simp; (try with_reducible rfl))); (try simp only [Act.put, List.setIfInBounds_toArray, List.set_cons_zero, List.set_cons_succ])))
              refine x_nil (hQ.out _ ?_); clear hQ QQ
              intro w4 hb4
              have B4 := Lib.hid (BB.out.trans (hb4.mono BB.out.size))
              have O4 := Lib.hid (own_below HO.out hb4 fun g hg => (HO.out.lt g hg).2)
              clear hb4 BB HO a0 c0
              go_wp2_with fail
              go_roundw
              case rel => exact ⟨j + 1, by omega, by go_num, O4, HQ2, B4⟩
              case measure => simp [intOf]; omega
          · have hjk' : ¬ (j : Int) < (k : Int) := by omega
            have hjke : j = k := by omega
            have a0 := (BB.out.cell (p := ⟨rb, off + k, none⟩) hrb).trans HCX.out
            have HN2 := Lib.hid (show (l.take (k + 1)).Nodup by
              rw [List.take_add_one, HX.out]
              refine List.nodup_append.2 ⟨HN.out, by simp, ?_⟩
              intro a ha b hb
              simp at hb
              subst hb
              obtain ⟨i, hi, rfl⟩ := List.getElem_of_mem ha
              rw [List.length_take] at hi
              rw [List.getElem_take]
              exact HQ.out i _ (by omega) (List.getElem?_eq_getElem (by omega)))
            have hroom : ((l.take k).length + 1) * 40 ≤ room := room_ge (by rw [List.length_take]; omega)
            have hbw : w.heap.size ≤ wr.heap.size := BB.out.size
            have PONE := Sh.mk (pth_one (mkP x (k : Nat)))
            unfold mkP Pth.cells at PONE
            dsimp only at PONE
            go_wp2_with (at_builtin; go_must (refine appZ scEl #[.int .i64 x, .bool true, .bool false, .bool false, .int .i64 0, .int .i64 0, .int .i64 (k : Nat)] rfl PONE.out rfl _ _ rfl rfl HO.out rfl rfl hroom hbw ?_))
            intro v5 w5 ho5 hg5 hb5
            have O5 := Lib.hid (show w5.ownsRow w.heap.size 36 7 v5 (l.take (k + 1)).length (pths (mkL 0 (l.take (k + 1)))) by
              have e : l.take (k + 1) = l.take k ++ [x] := by rw [List.take_add_one, HX.out]; rfl
              rw [e, mkL_snoc, pths_snoc, List.length_append, List.length_take, Nat.zero_add, Nat.min_eq_left (by have := HL.out; omega)]
              have h5 := ho5
              simp only [List.length_take, Nat.min_eq_left (show k ≤ l.length by have := HL.out; omega)] at h5
              exact h5)
            have B5 := Lib.hid (BB.out.trans hb5)
            clear ho5 hg5 hb5 a0 HO BB hroom hbw PONE HQ hjke HN
            go_wp2_with fail
            go_roundw
            case rel => exact ⟨k + 1, by omega, by go_num, O5, HN2, B5⟩
            case measure => simp [intOf]; omega
      · have hlt' : ¬ (k : Int) < (m : Int) := by omega
        have htk : l.take k = l := List.take_of_length_le (by have := HL.out; omega)
        have HN2 := Lib.hid (show l.Nodup by have := HN.out; rwa [htk] at this)
        have HO2 := HO.out
        rw [htk] at HO2
        obtain ⟨A2, c2, rfl, h1, h2, h3⟩ := own_form HO2
        have R2 := Lib.hid (show Rd wr wr.heap.size 7 A2 l.length (pths (mkL 0 l)) from h3)
        rw [HL.out] at R2 ⊢
        have HM := Sh.mk (show m ≤ 100 by omega)
        clear HO HN HO2 h1 h2 h3 htk
        have HZ0 : Hid (Zats wr 3 .i64 wr.heap.size (.slice none 0 0) []) := Lib.hid (Zats.nil _ _ _ _)
        obtain ⟨wa, hwa⟩ : ∃ wa, wa = wr := ⟨_, rfl⟩
        rw [← hwa] at HZ0 R2 BB ⊢
        clear hwa
        go_wp2_with fail
        go_loopw [1, 8, 9] (fun lv qv iv wr => ∃ (k : Nat) (la : Int) (ch : List Int), lv = .int .i64 la ∧ iv = .int .i64 (k : Nat) ∧ k ≤ m ∧ Sh (ch.length = k) ∧ Sh (TurnS l ch la) ∧ Hid (Zats wr 3 .i64 wa.heap.size qv ch) ∧ Hid (Below wa.heap.size wa wr)) (fun _ _ iv _ => m - (intOf iv).toNat)
        case atStart => exact ⟨0, last, [], rfl, rfl, Nat.zero_le _, ⟨rfl⟩, ⟨.inl rfl⟩, HZ0, Lib.hid (Below.refl _ _)⟩
        case round =>
          clear HZ0
          obtain ⟨i, la, ch, rfl, rfl, hi, HCL, HT, HZ, BI⟩ := hrel
          by_cases him : i < m
          · have him' : (i : Int) < (m : Int) := by omega
            have HC := Lib.hid (choose_any 2 la 5 A2 m c2 (mkL 0 l) wr (R2.out.into BI.out) HM.out)
            go_wp2_with fail
            refine HC.out.mono ?_
            rintro e w4 ⟨v4, s4, rfl, hz, hb, hp, hs⟩
            obtain ⟨a, ha, hnx⟩ := next_of hp hs (by intro hh; have := HL.out; rw [hh] at this; simp at this; omega)
            rw [ha] at hz
            obtain ⟨X, hX⟩ : ∃ X, X = wr.heap.size := ⟨_, rfl⟩
            have HQX := Lib.hid (fun g (hg : u8.ownBlock = some g) => (show g < X by rw [hX]; exact (HZ.out.lt g hg).2))
            have HVX := Lib.hid (fun g (hg : v4.ownBlock = some g) => (show X ≤ g by rw [hX]; exact (hz.lt g hg).1))
            obtain ⟨A4, n4, c4, rfl, hnc, hn4, hr4⟩ := hz.out
            have hn1 := hn4.out
            simp at hn1
            subst hn1
            obtain ⟨rc, oc, ca, rfl, hrc, hca, hxa⟩ := hr4.out.nthz (i := 0) (by omega)
            have hca2 := hxa.out
            simp at hca2
            have hca3 := hca2.symm
            subst hca3
            have HCA := Lib.hid hca
            have HXR := Sh.mk (show X ≤ rc from HVX.out rc (by simp [Value.ownBlock]))
            have HRC := Lib.hid hrc
            have HNX := Sh.mk hnx
            have HNEW := Sh.mk (turn_new HN2.out (by have := HCL.out; have := HL.out; omega) HT.out hnx)
            have HT2 := Sh.mk (turn_step HN2.out (by have := HCL.out; have := HL.out; omega) HT.out hnx)
            have HZ4 := Lib.hid (HZ.out.below hb)
            have B4 := Lib.hid (BI.out.trans (hb.mono BI.out.size))
            obtain ⟨AQ, nq, cq, rfl, hncq, hnq, hrq⟩ := HZ4.out.out
            have HNQ := Sh.mk hnq.out
            have HRQ := hrq
            have hnqb : nq ≤ 40 := by have := hnq.out; have := HCL.out; omega
            clear hz hb hp hs ha hnx hnc hn4 hr4 hca hrc hxa HZ BI HT HC hncq hnq hrq HVX hX
            go_wp2_with fail
            go_loopw [11] (fun jv wr => ∃ (j : Nat), j ≤ nq ∧ jv = .int .i64 (j : Nat) ∧ Hid (Below w4.heap.size w4 wr)) (fun jv _ => nq - (intOf jv).toNat)
            case atStart => exact ⟨0, Nat.zero_le _, rfl, Lib.hid (Below.refl _ _)⟩
            case round =>
              obtain ⟨j, hj, rfl, BJ⟩ := hrel
              have d0 : wr.cell? ⟨rc, oc, none⟩ = some (.int .i64 ca) := (BJ.out.cell (p := ⟨rc, oc, none⟩) HRC.out).trans (by have := HCA.out; rwa [Nat.add_zero] at this)
              by_cases hjq : j < nq
              · have hjq' : (j : Int) < (nq : Int) := by omega
                have hj0 : (0 : Int) ≤ (j : Int) := by omega
                obtain ⟨rq, oq, y, rfl, hrq, hcy, hy⟩ := HRQ.out.nthz hjq
                have a0 := (BJ.out.cell (p := ⟨rq, oq + j, none⟩) hrq).trans hcy
                have hne : (y == ca) = false := by
                  have : ¬ y = ca := fun e => HNEW.out (e ▸ List.mem_of_getElem? hy.out)
                  simpa using this
                clear hcy hy
                go_wp2_with fail
                refine wp_ext (by kernel_rfl) (by kernel_rfl) (fun QQ hQ => ?_)
                iterate 8 (first | (refine x_load _ (by rfl) rfl rfl (by assumption) (by kernel_rfl) ?_; simp only [Act.put, List.setIfInBounds_toArray, List.set_cons_zero, List.set_cons_succ]) | (refine x_val (v := ?_) (by rfl) (fun w' hx => ?_) ?_; rotate_left; (focus (go_simp; (try with_reducible rfl))); (try simp only [Act.put, List.setIfInBounds_toArray, List.set_cons_zero, List.set_cons_succ])))
                refine x_nil (hQ.out _ ?_); clear hQ QQ
                intro w6 hb6
                have B6 := Lib.hid (BJ.out.trans (hb6.mono BJ.out.size))
                clear hb6 BJ a0 d0 hne
                go_wp2_with fail
                go_roundw
                case rel => exact ⟨j + 1, by omega, by go_num, B6⟩
                case measure => simp [intOf]; omega
              · have hjq' : ¬ (j : Int) < (nq : Int) := by omega
                have HZ6 := Lib.hid (HZ4.out.below BJ.out)
                have B6 := Lib.hid (B4.out.trans (BJ.out.mono B4.out.size))
                have hroom : (ch.length + 1) * 8 ≤ room := room_ge (by have := HCL.out; omega)
                have hbw : wa.heap.size ≤ wr.heap.size := B6.out.size
                clear HZ4 B4
                go_wp2_with (at_builtin; go_must (refine app1z intEl ca rfl _ _ rfl rfl HZ6.out rfl rfl hroom hbw ?_))
                intro v7 w7 ho7 hg7 hb7
                have HZ7 := Lib.hid ho7
                have B7 := Lib.hid (B6.out.trans hb7)
                have d7 : w7.cell? ⟨rc, oc, none⟩ = some (.int .i64 ca) := by
                  have h := hg7.block rc (Nat.lt_of_lt_of_le HRC.out BJ.out.size) (fun e => by have h1 := HQX.out rc e.symm; have h2 := HXR.out; omega)
                  have h2 : w7.cell? ⟨rc, oc, none⟩ = wr.cell? ⟨rc, oc, none⟩ := by simp only [World.cell?, h]
                  rw [h2]; exact d0
                have HCL7 := Sh.mk (show (ch ++ [ca]).length = i + 1 by rw [List.length_append, HCL.out]; rfl)
                clear ho7 hg7 hb7 HZ6 B6 hroom hbw BJ d0
                go_wp2_with fail
                go_roundw
                case rel => exact ⟨i + 1, ca, ch ++ [ca], rfl, by go_num, by omega, HCL7, HT2, HZ7, B7⟩
                case measure => simp [intOf]; omega
          · have him' : ¬ (i : Int) < (m : Int) := by omega
            have HC := Lib.hid (choose_any 2 la 5 none 0 0 [] wr (Rd.nil _ _ _ _) (by omega))
            have B4 := Lib.hid (BB.out.trans (BI.out.mono BB.out.size))
            go_wp2_with fail
            refine HC.out.mono ?_
            rintro e w5 ⟨v5, s5, rfl, hz, hb, hp, hs⟩
            have hs0 : s5 = [] := List.eq_nil_of_length_eq_zero (by have := hp.length_eq; simpa using this)
            subst hs0
            obtain ⟨A5, n5, c5, rfl, hnc, hn5, hr5⟩ := hz.out
            have hn0 : n5 = 0 := by have := hn5.out; rw [show (chL 2 ([] : List Pth)).map Pth.id = [] from rfl] at this; simpa using this.symm
            subst hn0
            have B5 := Lib.hid (B4.out.trans (hb.mono B4.out.size))
            clear hz hb hp hs hnc hn5 hr5
            go_wp2_with fail
            refine (alive_any w5).mono ?_
            rintro e w6 ⟨rfl, hb⟩
            have B6 := Lib.hid (B5.out.trans (hb.mono B5.out.size))
            clear hb
            go_wp2_with fail
            refine bodyPost_ret (v := .bool true) (by kernel_rfl) rfl ?_
            exact ⟨rfl, B6.out⟩
  · have hm' : (40 : Int) < (m : Int) := by omega
    go_enter Try.func6, Try.ntmps6
    go_wp2_with fail
    refine bodyPost_ret (v := .bool true) (by kernel_rfl) rfl ?_
    exact ⟨rfl, Below.refl _ _⟩

end Go.Proofs.Ytcfeojobkpbohaa
