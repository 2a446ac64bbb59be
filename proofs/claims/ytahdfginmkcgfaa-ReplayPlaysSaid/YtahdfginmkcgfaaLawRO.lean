/- Layer 41: the law ReplayOnce answers true, and nothing that was there has turned. -/
import Derived.Test.YtahdfginmkcgfaaRep2
import Derived.Test.YtahdfginmkcgfaaOpen
import Derived.Deep.QuietTactic
import Derived.BigQuiet
namespace Go.Proofs.Ytahdfginmkcgfaa
open Go.RowKit
set_option linter.unusedVariables false

theorem el64 : El Try.prog 44 22 (.int .u64 0) 1 8 := ⟨Try.underlying44, by kernel_rfl, rfl, by omega, by omega⟩
theorem Nats.apartB {w : World} {g : Nat} {t e : TypeId} {cs : Array Value} {k : IntKind} {B : Nat} {v : Value} {l : List Nat} (h : Blk w g t cs) (ho : Nats w e k B v l) (hne : e ≠ t) : ∀ g', v.ownBlock = some g' → g' ≠ g := by
  rintro g' hg rfl
  rcases ho.2 with ⟨rfl, _⟩ | ⟨g2, cap, cur, rfl, _, hc, _⟩
  · cases hg
  · injection hg with hg
    subst hg
    unfold Blk at h
    rw [h] at hc
    injection hc with hc
    injection hc with _ h2
    exact hne h2.symm
/-- What stands in memory: the argument, the window, the numbers that went through. -/
structure St (w0 : World) (A : Option Addr) (n : Nat) (l : List Nat) (thr : Value) (r : List Nat) (top : Nat) (cw : List Nat) (w : World) : Prop where
  rd : Rd w w0.heap.size 1 A n (ns .u64 l)
  win : Win w w0.heap.size top cw
  nats : Nats w 22 .u64 w0.heap.size thr r
  bel : Below w0.heap.size w0 w
section
variable {w0 : World} {A : Option Addr} {n : Nat} {l : List Nat} {thr : Value} {r : List Nat} {top : Nat} {cw : List Nat} {w : World}
theorem St.drewN (h : St w0 A n l thr r top cw w) (q : Nat) : St w0 A n l thr r top cw (w.drewN q) := ⟨h.rd.drewN q, h.win, h.nats, below_drewN h.bel q⟩
theorem St.solo (h : St w0 A n l thr r top cw w) {w' : World} {top' : Nat} {cw' : List Nat} (hs : Solo w0.heap.size w w') (hw : Win w' w0.heap.size top' cw') : St w0 A n l thr r top' cw' w' :=
  ⟨h.rd.below hs.1, hw, h.nats.kept fun g' hg => hs.2.2 g' (Nats.apartB h.win h.nats (by decide) g' hg), h.bel.trans hs.1⟩
theorem St.grow (h : St w0 A n l thr r top cw w) {w' : World} {thr' : Value} {r' : List Nat} (hn : Nats w' 22 .u64 w0.heap.size thr' r') (hg : w.grownBy w' thr.ownBlock) (hb : Below w0.heap.size w w') : St w0 A n l thr' r' top cw w' :=
  ⟨h.rd.below hb, h.win.far h.nats (by decide) hg, hn, h.bel.trans hb⟩
end
def allB (l : List Nat) (x : Nat) : Bool := l.all fun y => decide (y < x)
theorem allB_snoc {l : List Nat} {x y j : Nat} (h : l[j]? = some y) : allB (l.take (j + 1)) x = (allB (l.take j) x && decide (y < x)) := by
  unfold allB
  rw [List.take_add_one, h]
  simp
theorem allB_mem {l : List Nat} {x m : Nat} (h : allB l x = true) (hm : m ∈ l) : m < x := by
  unfold allB at h
  have := List.all_eq_true.1 h m hm
  simpa using this
theorem Came.above {r : List Nat} {top n : Nat} {cw : List Nat} (h : Came r top cw) (ha : ∀ m ∈ r, m < n) : freshB top cw n = true := by
  by_cases hr : r = []
  · subst hr
    exact h.none
  · exact h.fresh.2 (Or.inl (ha _ (h.2.2.1 hr)))
theorem Came.notin {r : List Nat} {top n : Nat} {cw : List Nat} (h : Came r top cw) (hf : freshB top cw n = true) : n ∉ r := by
  rcases h.fresh.1 hf with h1 | h1
  · intro hn
    have := h.2.1 n hn
    omega
  · exact h1.2
set_option maxRecDepth 20000 in
set_option maxHeartbeats 1000000 in
theorem replayOnce_walk (A : Option Addr) (n c : Nat) (l : List Nat) (w : World) (hr : Rd w w.heap.size 1 A n (ns .u64 l)) (hnc : n ≤ c) (hmax : c ≤ maxLen) (hb : ∀ x ∈ l, x < 18446744073709551616) :
    Calls Try.prog 11 #[.slice A n c] w fun e w' => e = .returned (.bool true) ∧ Below w.heap.size w w' := by
  have HR := Lib.hid hr; have HB := Lib.hid hb
  clear hr hb
  unfold maxLen at hmax
  by_cases hn : 300 < n
  · go_enter Try.func11, Try.ntmps11
    go_wp2_with fail
    go_ret
    exact ⟨rfl, Below.refl _ _⟩
  have HM := Lib.hid hmax; clear hmax
  have hn2 : n ≤ 300 := by omega
  clear hn
  go_enter Try.func11, Try.ntmps11
  go_wp2_with fail
  have hw0 : Win (w.alloc (.cells #[.int .u64 0, .int .u64 0, .int .u64 0, .int .u64 0, .int .u64 0] 47)) w.heap.size 0 [0, 0, 0, 0] := Blk.new w _ _
  have hb0 : Below w.heap.size w (w.alloc (.cells #[.int .u64 0, .int .u64 0, .int .u64 0, .int .u64 0, .int .u64 0] 47)) := (Below.refl _ _).alloc (Nat.le_refl _) _
  generalize (w.alloc (.cells #[.int .u64 0, .int .u64 0, .int .u64 0, .int .u64 0, .int .u64 0] 47)) = wa at hw0 hb0 ⊢
  have HS0 : Hid (St w A n l (.slice none 0 0) [] 0 [0, 0, 0, 0] wa) := Lib.hid ⟨HR.out.below hb0, hw0, Nats.nil _ _ _ _, hb0⟩
  clear hw0 hb0
  go_loopw [4, 5] (fun thr i wr => ∃ (k : Nat) (r : List Nat) (top : Nat) (cw : List Nat), k ≤ n ∧ i = .int .i64 k ∧ r.length ≤ k ∧ top < 18446744073709551616 ∧ Hid (∀ m ∈ r, m ∈ l.take k) ∧ Hid (Came r top cw) ∧ Hid (St w A n l thr r top cw wr)) (fun _ i _ => n - (intOf i).toNat)
  case atStart => exact ⟨0, [], 0, [0, 0, 0, 0], Nat.zero_le _, rfl, Nat.le_refl _, by omega, Lib.hid (by simp), Lib.hid Came.zero, HS0⟩
  case round =>
    obtain ⟨k, r, top, cw, hk, rfl, hrk, htop, hsub, hcame, hst⟩ := hrel
    by_cases hlt : k < n
    · obtain ⟨bb, off, x, rfl, hbk, hcell, hx⟩ := hst.out.rd.nth hlt
      have hx64 := HB.out _ (nth_mem hx)
      go_wp2_with fail
      go_loopw [6, 7] (fun ab kv wv => ∃ j : Nat, j ≤ k ∧ kv = .int .i64 j ∧ ab = .bool (allB (l.take j) x) ∧ Hid (St w (some ⟨bb, off, none⟩) n l u4 r top cw wv)) (fun _ kv _ => k - (intOf kv).toNat)
      case atStart => exact ⟨0, Nat.zero_le _, rfl, rfl, hst⟩
      case round =>
        obtain ⟨j, hj, rfl, rfl, hsv⟩ := hrel
        by_cases hlt2 : j < k
        · obtain ⟨b2, o2, y, e2, _, hcj, hy⟩ := hsv.out.rd.nth (i := j) (by omega)
          obtain ⟨rfl, rfl⟩ : b2 = bb ∧ o2 = off := by injection e2 with e2; injection e2 with e4 e5; exact ⟨e4.symm, e5.symm⟩
          clear e2
          obtain ⟨b3, o3, x3, e3, _, hck, hx3⟩ := hsv.out.rd.nth hlt
          obtain ⟨rfl, rfl⟩ : b3 = b2 ∧ o3 = o2 := by injection e3 with e3; injection e3 with e4 e5; exact ⟨e4.symm, e5.symm⟩
          obtain rfl : x3 = x := Option.some.inj (hx3.out.symm.trans hx.out)
          clear e3 hx3 hcell
          have hj1 : ((j : Nat) : Int) < ((n : Nat) : Int) := by omega
          have hk1 : ((k : Nat) : Int) < ((n : Nat) : Int) := by omega
          have hA := allB_snoc (x := x3) hy.out
          have HA := Lib.hid hA
          clear hA
          cases ha : allB (l.take j) x3
          · rw [ha, Bool.false_and] at HA
            clear ha
            go_wp2_with fail
            go_quiet (fail)
            go_wp2
            go_roundw
            case rel => exact ⟨j + 1, by omega, by go_num, by rw [HA.out], Lib.hid (hsv.out.drewN _)⟩
            case measure => simp [intOf]; omega
          · rw [ha, Bool.true_and] at HA
            clear ha
            go_wp2_with fail
            go_quiet (fail)
            go_wp2
            go_roundw
            case rel => exact ⟨j + 1, by omega, by go_num, by rw [HA.out], Lib.hid (hsv.out.drewN _)⟩
            case measure => simp [intOf]; omega
        · obtain rfl : j = k := by omega
          obtain ⟨b3, o3, x3, e3, _, hck, hx3⟩ := hsv.out.rd.nth hlt
          obtain ⟨rfl, rfl⟩ : b3 = bb ∧ o3 = off := by injection e3 with e3; injection e3 with e4 e5; exact ⟨e4.symm, e5.symm⟩
          obtain rfl : x3 = x := Option.some.inj (hx3.out.symm.trans hx.out)
          clear e3 hx3 hcell
          have hk1 : ((j : Nat) : Int) < ((n : Nat) : Int) := by omega
          obtain ⟨ab, hab⟩ : ∃ ab, ab = allB (l.take j) x3 := ⟨_, rfl⟩
          have hfr : ab = true → freshB top cw x3 = true := fun h => hcame.out.above fun m hm => allB_mem (hab ▸ h) (hsub.out m hm)
          have HFR := Lib.hid hfr
          have hsub2 : Hid (∀ m ∈ r, m ∈ l.take (j + 1)) := Lib.hid fun m hm => by
            have := hsub.out m hm
            rw [List.take_add_one]
            exact List.mem_append_left _ this
          rw [← hab]
          clear hab hfr
          go_wp2_with fail
          refine (take_win w.heap.size top x3 r cw wr hsv.out.win hcame.out hx64 htop).mono ?_
          rintro e w4 ⟨rfl, hs4, ⟨hf, hw4⟩ | ⟨hf, cw', hw4, hc4⟩⟩
          · have hst4 := Lib.hid (hsv.out.solo hs4 hw4)
            rw [hf]
            have hab : ab = false := by
              cases ab
              · rfl
              · have := HFR.out rfl
                rw [hf] at this
                cases this
            subst hab
            clear HFR hf hw4 hs4
            go_wp2_with fail
            go_roundw
            case rel => exact ⟨j + 1, r, top, cw, by omega, by go_num, by omega, htop, hsub2, hcame, hst4⟩
            case measure => simp [intOf]; omega
          · have hst4 := Lib.hid (hsv.out.solo hs4 hw4)
            have hni := Lib.hid (hcame.out.notin hf)
            have HC4 := Lib.hid hc4
            rw [hf]
            clear HFR hf hw4 hs4 hc4
            obtain ⟨A2, n2, c2, rfl, hc2, hl2, _⟩ := hst4.out.nats.out
            clear hst hsv hck
            have hn2b : n2 ≤ 300 := by rw [← hl2.out]; omega
            cases ab
            · go_wp2_with fail
              go_loopw [9] (fun iv wv => ∃ q : Nat, q ≤ n2 ∧ iv = .int .i64 q ∧ Hid (St w (some ⟨b3, o3, none⟩) n l (.slice A2 n2 c2) r (max top x3) cw' wv)) (fun iv _ => n2 - (intOf iv).toNat)
              case atStart => exact ⟨0, Nat.zero_le _, rfl, hst4⟩
              case round =>
                obtain ⟨q, hq, rfl, hsq⟩ := hrel
                obtain ⟨b5, o5, x5, e5, _, hck5, hx5⟩ := hsq.out.rd.nth hlt
                obtain ⟨rfl, rfl⟩ : b5 = b3 ∧ o5 = o3 := by injection e5 with e5; injection e5 with e6 e7; exact ⟨e6.symm, e7.symm⟩
                obtain rfl : x5 = x3 := Option.some.inj (hx5.out.symm.trans hx.out)
                clear e5 hx5
                by_cases hltq : q < n2
                · obtain ⟨b6, o6, y6, e6, _, hc6, hy6⟩ := hsq.out.nats.rd.nth (i := q) (by rw [hl2.out]; exact hltq)
                  subst e6
                  have hne : y6 ≠ x5 := fun e => hni.out (e ▸ nth_mem hy6)
                  have hni6 : ¬ ((y6 : Nat) : Int) = ((x5 : Nat) : Int) := by omega
                  have hb6 : (((y6 : Nat) : Int) == ((x5 : Nat) : Int)) = false := beq_eq_false_iff_ne.2 hni6
                  have hq1 : ((q : Nat) : Int) < ((n2 : Nat) : Int) := by omega
                  go_wp2_with fail
                  go_quiet (fail)
                  go_wp2
                  go_roundw
                  case rel => exact ⟨q + 1, by omega, by go_num, Lib.hid (hsq.out.drewN _)⟩
                  case measure => simp [intOf]; omega
                · have hN := hsq.out.nats
                  have HN := Lib.hid hN
                  clear hN
                  have hz := hsq.out.bel.size
                  go_wp2_with (at_builtin; go_must (refine app1n el64 x5 rfl _ _ rfl rfl HN.out rfl rfl ?_ ?_ ?_))
                  · rw [hl2.out]; exact room_ge (by have := hl2.out; omega)
                  · exact hz
                  · intro v7 w7 hn7 hg7 hb7
                    go_wp2
                    go_roundw
                    case rel => exact ⟨j + 1, r ++ [x5], max top x5, cw', by omega, by go_num, by simp; omega, by omega, Lib.hid (fun m hm => by
                      rcases List.mem_append.1 hm with hm | hm
                      · exact hsub2.out m hm
                      · simp at hm
                        subst hm
                        rw [List.take_add_one, hx.out]
                        simp), HC4, Lib.hid (hsq.out.grow hn7 hg7 hb7)⟩
                    case measure => simp [intOf]; omega
            · go_wp2_with fail
              go_loopw [9] (fun iv wv => ∃ q : Nat, q ≤ n2 ∧ iv = .int .i64 q ∧ Hid (St w (some ⟨b3, o3, none⟩) n l (.slice A2 n2 c2) r (max top x3) cw' wv)) (fun iv _ => n2 - (intOf iv).toNat)
              case atStart => exact ⟨0, Nat.zero_le _, rfl, hst4⟩
              case round =>
                obtain ⟨q, hq, rfl, hsq⟩ := hrel
                obtain ⟨b5, o5, x5, e5, _, hck5, hx5⟩ := hsq.out.rd.nth hlt
                obtain ⟨rfl, rfl⟩ : b5 = b3 ∧ o5 = o3 := by injection e5 with e5; injection e5 with e6 e7; exact ⟨e6.symm, e7.symm⟩
                obtain rfl : x5 = x3 := Option.some.inj (hx5.out.symm.trans hx.out)
                clear e5 hx5
                by_cases hltq : q < n2
                · obtain ⟨b6, o6, y6, e6, _, hc6, hy6⟩ := hsq.out.nats.rd.nth (i := q) (by rw [hl2.out]; exact hltq)
                  subst e6
                  have hne : y6 ≠ x5 := fun e => hni.out (e ▸ nth_mem hy6)
                  have hni6 : ¬ ((y6 : Nat) : Int) = ((x5 : Nat) : Int) := by omega
                  have hb6 : (((y6 : Nat) : Int) == ((x5 : Nat) : Int)) = false := beq_eq_false_iff_ne.2 hni6
                  have hq1 : ((q : Nat) : Int) < ((n2 : Nat) : Int) := by omega
                  go_wp2_with fail
                  go_quiet (fail)
                  go_wp2
                  go_roundw
                  case rel => exact ⟨q + 1, by omega, by go_num, Lib.hid (hsq.out.drewN _)⟩
                  case measure => simp [intOf]; omega
                · have hN := hsq.out.nats
                  have HN := Lib.hid hN
                  clear hN
                  have hz := hsq.out.bel.size
                  go_wp2_with (at_builtin; go_must (refine app1n el64 x5 rfl _ _ rfl rfl HN.out rfl rfl ?_ ?_ ?_))
                  · rw [hl2.out]; exact room_ge (by have := hl2.out; omega)
                  · exact hz
                  · intro v7 w7 hn7 hg7 hb7
                    go_wp2
                    go_roundw
                    case rel => exact ⟨j + 1, r ++ [x5], max top x5, cw', by omega, by go_num, by simp; omega, by omega, Lib.hid (fun m hm => by
                      rcases List.mem_append.1 hm with hm | hm
                      · exact hsub2.out m hm
                      · simp at hm
                        subst hm
                        rw [List.take_add_one, hx.out]
                        simp), HC4, Lib.hid (hsq.out.grow hn7 hg7 hb7)⟩
                    case measure => simp [intOf]; omega
    · obtain rfl : k = n := by omega
      go_wp2_with fail
      refine (alive41 wr).mono ?_
      rintro e w3 ⟨rfl, hb3⟩
      go_wp2_with fail
      go_ret
      exact ⟨rfl, hst.out.bel.trans (hb3.mono hst.out.bel.size)⟩
end Go.Proofs.Ytahdfginmkcgfaa
