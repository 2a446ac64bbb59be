/- Layer 29 by the document: Tick. -/
import Derived.Test.YtpeagibompohhaaWhR1
namespace Go.Proofs.Ytpeagibompohhaa
open Go.RowKit
set_option linter.unusedVariables false
set_option linter.unusedSimpArgs false
theorem wfar {w w' : World} {B B' sz sz' n n' : Nat} {e e' : TypeId} {v v' : Value} {xs xs' : List Value} (h : w.ownsRow B e sz v n xs) (ho : w.ownsRow B' e' sz' v' n' xs') (hne : e ≠ e') (hg : w.grownBy w' v'.ownBlock) : w'.ownsRow B e sz v n xs :=
  own_kept h fun k hk => hg.block k (h.lt k hk).2 fun he => by
    rcases own_open ho with ⟨rfl, _, _⟩ | ⟨rb, c, L, rfl, _, hr, _⟩
    · simp [Value.ownBlock] at he
    · simp [Value.ownBlock] at he
      subst he
      exact own_nw h hr hne hk
theorem left_take {l : List Tm} {i t : Nat} {x : Tm} (h : Hid (l[i]? = some x)) : leftL (l.take (i + 1)) t = leftL (l.take i) t ++ (if x.2 = t then [] else [x]) := by
  rw [nth_take h]
  unfold leftL
  rw [List.filter_append]
  by_cases e : x.2 = t <;> simp [e]
theorem due_take {l : List Tm} {i t : Nat} {x : Tm} (h : Hid (l[i]? = some x)) : dueL (l.take (i + 1)) t = dueL (l.take i) t ++ (if x.2 = t then [x.1] else []) := by
  rw [nth_take h]
  unfold dueL
  rw [List.filter_append]
  by_cases e : x.2 = t <;> simp [e]
theorem leftL_le (L : List Tm) (t : Nat) : (leftL L t).length ≤ L.length := List.length_filter_le _ _
theorem dueL_le (L : List Tm) (t : Nat) : (dueL L t).length ≤ L.length := by unfold dueL; rw [List.length_map]; exact List.length_filter_le _ _
/-- Sorted, and all of it. -/
def SortOf (O D : List Int) : Prop := O.Perm D ∧ O.Pairwise (fun x y => x ≤ y)
theorem SortOf.eq {O D : List Int} (h : SortOf O D) : O = sortI D :=
  (h.1.trans (sortI_perm D).symm).eq_of_pairwise (fun a b _ _ h1 h2 => Int.le_antisymm h1 h2) h.2 (sortI_sorted D)
theorem SortOf.ins {p s D : List Int} {x : Int} (h : SortOf (p ++ s) D) (h1 : ∀ y ∈ s, x < y) (h2 : ∀ y, p.getLast? = some y → y ≤ x) : SortOf (p ++ x :: s) (D ++ [x]) := by
  obtain ⟨hp, hs⟩ := h
  refine ⟨?_, ?_⟩
  · have e1 : (p ++ x :: s).Perm (x :: (p ++ s)) := List.perm_middle
    have e2 : (D ++ [x]).Perm (x :: D) := List.perm_append_comm
    exact e1.trans ((hp.cons x).trans e2.symm)
  · obtain ⟨a, b, c⟩ := List.pairwise_append.1 hs
    have hpx : ∀ y ∈ p, y ≤ x := by
      intro y hy
      rcases List.eq_nil_or_concat p with rfl | ⟨q, z, rfl⟩
      · cases hy
      · rw [List.concat_eq_append] at *
        have hz : z ≤ x := h2 z (by simp)
        rcases List.mem_append.1 hy with hy | hy
        · have := (List.pairwise_append.1 a).2.2 y hy z (by simp)
          omega
        · obtain rfl := List.mem_singleton.1 hy
          exact hz
    refine List.pairwise_append.2 ⟨a, List.pairwise_cons.2 ⟨fun y hy => Int.le_of_lt (h1 y hy), b⟩, fun y hy z hz => ?_⟩
    rcases List.mem_cons.1 hz with rfl | hz
    · exact hpx y hy
    · exact c y hy z hz
theorem wzblk (w : World) (cs : Array Value) (now : Int) (most : Int) (v : Value) (h : cs = #[.int .i64 now, .int .i64 most, v]) : True := trivial
set_option maxRecDepth 20000 in
set_option maxHeartbeats 4000000 in
theorem rtick_any (A : Option Addr) (n c B now now' most : Nat) (L : List Tm) (w : World) (h : Rd w B 2 A n (tcs L)) (hn : n ≤ 5000) (hB : B ≤ w.heap.size) (hnow : now ≤ 4000000000) (hn' : now' = now + 1) :
    Calls Try.prog 10 #[.agg #[.int .i64 (now : Nat), .int .i64 (most : Nat), .slice A n c]] w fun e w' => ∃ v d, e = .returned (.tuple #[.agg #[.int .i64 (now' : Nat), .int .i64 (most : Nat), v], d]) ∧ TOwn w' w.heap.size v (leftL L now') ∧ Zats w' 3 .i64 w.heap.size d (sortI (dueL L now')) ∧ Below w.heap.size w w' := by
  have HR := Lib.hid h
  have HL := Lib.hid h.tmLen
  have K0 := Lib.hid (wblk0 w #[.int .i64 (now : Nat), .int .i64 (most : Nat), .slice A n c])
  have K1 := Lib.hid (wblk1 w #[.int .i64 (now : Nat), .int .i64 (most : Nat), .slice A n c])
  have B0 := Lib.hid (wblkB w #[.int .i64 (now : Nat), .int .i64 (most : Nat), .slice A n c])
  have HNW := Lib.hid hn'
  have hnb : now' ≤ 4000000001 := by omega
  clear h hn'
  go_enter Try.func10, Try.ntmps10
  go_upto_region 1 with fail
  obtain ⟨g0, hg0⟩ : ∃ x, x = w.heap.size := ⟨_, rfl⟩
  have HG0 := Lib.hid hg0
  generalize ((w.alloc (.cells #[.int .i64 (now : Nat), .int .i64 (most : Nat), .slice A n c] 27)).alloc (.cells #[.int .i64 0, .int .i64 0, .slice none 0 0] 27)) = w2 at K0 K1 B0 ⊢
  rw [← hg0] at K0 K1 B0 ⊢
  clear hg0
  obtain ⟨c0, c1, c2⟩ := ptc3 K0.out
  have f0 := K0.out.frozen 0
  go_upto_region 2 with fail
  have hs3 : Solo g0 w2 (w2.setCell ⟨g0, 0, none⟩ (.int .i64 ((now : Int) + 1))) := Solo.refl.setCell 0 _
  have K3 : Hid (Blk (w2.setCell ⟨g0, 0, none⟩ (.int .i64 ((now : Int) + 1))) g0 27 #[.int .i64 (now' : Nat), .int .i64 (most : Nat), .slice A n c]) := Lib.hid (by
    have := K0.out.set 0 (.int .i64 ((now : Int) + 1))
    rw [HNW.out]
    rw [show (now : Int) + 1 = ((now + 1 : Nat) : Int) by push_cast; rfl] at this ⊢
    exact this)
  have M3 := Lib.hid (hs3.blk K1.out (by omega))
  have B3 := Lib.hid (B0.out.trans hs3.1)
  clear hs3 K0 K1 B0 c0 c1 c2 f0
  generalize w2.setCell ⟨g0, 0, none⟩ (.int .i64 ((now : Int) + 1)) = w3 at K3 M3 B3 ⊢
  go_wp2_with fail
  go_loopw [4, 5, 6] (fun lv ov iv wr => ∃ (i : Nat) (O : List Int), i ≤ n ∧ iv = .int .i64 (i : Nat) ∧ O.length ≤ i ∧ Hid (Blk wr g0 27 #[.int .i64 (now' : Nat), .int .i64 (most : Nat), .slice A n c]) ∧ Hid (Blk wr (g0 + 1) 27 #[.int .i64 0, .int .i64 0, .slice none 0 0]) ∧ Hid (TOwn wr g0 lv (leftL (L.take i) now')) ∧ Hid (Zats wr 3 .i64 g0 ov O) ∧ Hid (SortOf O (dueL (L.take i) now')) ∧ Hid (Below g0 w wr)) (fun _ _ iv _ => n - (intOf iv).toNat)
  case atStart => exact ⟨0, [], Nat.zero_le _, rfl, by simp, K3, M3, Lib.hid (World.ownsRow_nil _ _ _ _), Lib.hid (Zats.nil _ _ _ _), Lib.hid ⟨List.Perm.refl _, List.Pairwise.nil⟩, B3⟩
  case round =>
    clear K3 M3 B3
    obtain ⟨i, O, hi, rfl, hOl, K0, K1, HO, HZ, HS, BB⟩ := hrel
    obtain ⟨c0, c1, c2⟩ := ptc3 K0.out
    obtain ⟨A1, cc1, rfl, hnc1, hcm1, _⟩ := own_form HO.out
    obtain ⟨A2, cc2, rfl, hnc2, hcm2, _⟩ := own_form HZ.out
    obtain ⟨n1, hn1⟩ : ∃ k, k = (leftL (L.take i) now').length := ⟨_, rfl⟩
    have hle1 : n1 ≤ i := by rw [hn1]; exact Nat.le_trans (leftL_le _ _) (by simp; omega)
    have HN1 := Lib.hid hn1
    rw [← hn1] at hnc1 ⊢
    obtain ⟨n2, hn2⟩ : ∃ k, k = O.length := ⟨_, rfl⟩
    have HN2 := Lib.hid hn2
    rw [← hn2] at hnc2 hOl ⊢
    clear hn1 hn2
    have hsz : g0 ≤ wr.heap.size := Nat.le_of_lt K0.out.lt
    by_cases hlt : i < n
    · have hlt' : (i : Int) < (n : Int) := by omega
      obtain ⟨b, o, x, y, rfl, hb, q0, q1, hx⟩ := (HR.out.below (BB.out.mono (by rw [HG0.out]; exact hB))).tm hlt
      have hlk := left_take (t := now') hx
      have hdk := due_take (t := now') hx
      by_cases he : y = now'
      · subst he
        rw [if_pos rfl, List.append_nil] at hlk
        rw [if_pos rfl] at hdk
        have HLK := Lib.hid hlk
        have HDK := Lib.hid hdk
        have hbw : b < wr.heap.size := Nat.lt_of_lt_of_le hb (Nat.le_trans hB BB.out.size)
        clear hx hlk hdk
        go_wp2_with fail
        refine wp_ext (by kernel_rfl) (by kernel_rfl) (fun QQ hQ => ?_)
        iterate 9 (first | (refine x_skip (by rfl) ?_; simp only [Act.put, List.setIfInBounds_toArray, List.set_cons_zero, List.set_cons_succ]) | (first | (refine x_load _ (by rfl) rfl rfl (by assumption) (by kernel_rfl) ?_; simp only [Act.put, List.setIfInBounds_toArray, List.set_cons_zero, List.set_cons_succ]) | (refine x_val (v := ?_) (by rfl) (fun w' hx => ?_) ?_; rotate_left; (focus (go_simp; (try with_reducible rfl))); (try simp only [Act.put, List.setIfInBounds_toArray, List.set_cons_zero, List.set_cons_succ]))))
        refine x_nil (hQ.out _ ?_); clear hQ QQ
        intro w4 hb4
        have K4 := Lib.hid (K0.out.below hb4 K0.out.lt)
        have M4 := Lib.hid (K1.out.below hb4 K1.out.lt)
        have O4 := Lib.hid (own_below HO.out hb4 fun k hk => (HO.out.lt k hk).2)
        have Z4 := Lib.hid (own_below HZ.out hb4 fun k hk => (HZ.out.lt k hk).2)
        have B4 := Lib.hid (BB.out.trans (hb4.mono hsz))
        have p0 := (hb4.cell (p := ⟨b, o + i * 2, none⟩) hbw).trans q0
        have p1 := (hb4.cell (p := ⟨b, o + i * 2 + 1, none⟩) hbw).trans q1
        clear hb4 q0 q1 c0 c1 c2 K0 K1 HO HZ BB hsz
        obtain ⟨c0, c1, c2⟩ := ptc3 K4.out
        have hsz : g0 ≤ w4.heap.size := Nat.le_of_lt K4.out.lt
        have hroom2 := room_ge (x := (O.length + 1) * 8) (by rw [← HN2.out]; omega)
        have Z4' : Hid (Zats w4 3 .i64 g0 (.slice A2 n2 cc2) O) := Lib.hid (by unfold Zats; have := Z4.out; rw [← HN2.out] at this ⊢; exact this)
        go_wp2_with (at_builtin; go_must (refine app1z iElT x rfl _ _ rfl rfl Z4'.out rfl rfl hroom2 hsz ?_))
        intro v5 w5 hz5 hg5 hb5
        have K5 := Lib.hid (K4.out.far2 Z4'.out (by decide) hg5)
        have M5 := Lib.hid (M4.out.far2 Z4'.out (by decide) hg5)
        have O5 : Hid (w5.ownsRow g0 56 2 (.slice A1 n1 cc1) n1 (tcs (leftL (L.take i) y))) := Lib.hid (by have := wfar O4.out Z4'.out (by decide) hg5; rw [← HN1.out] at this; exact this)
        have B5 := Lib.hid (B4.out.trans hb5)
        obtain ⟨n5, hn5⟩ : ∃ k, k = n2 + 1 := ⟨_, rfl⟩
        obtain ⟨rb, c5, rfl, hBr, hnc5, hcm5, Z5⟩ : ∃ rb c5, v5 = .slice (some ⟨rb, 0, none⟩) n5 c5 ∧ g0 ≤ rb ∧ n5 ≤ c5 ∧ c5 ≤ maxLen ∧ Hid (w5.ownsRow g0 3 1 (.slice (some ⟨rb, 0, none⟩) n5 c5) n5 (zs .i64 (O ++ x :: []))) := by
          have hz := hz5
          unfold Zats at hz
          rw [List.length_append, ← HN2.out, show n2 + [x].length = n5 by rw [hn5]; rfl] at hz
          rcases own_open hz with ⟨_, h0, _⟩ | ⟨rb, c, L, rfl, hB, hr, hnc, hcm, _⟩
          · omega
          · exact ⟨rb, c, rfl, hB, hnc, hcm, Lib.hid hz⟩
        have HN5 := Lib.hid hn5
        have hn5b : n5 ≤ 5001 := by omega
        clear hn5 hz5 hg5 hb5 K4 M4 O4 Z4 Z4' B4 p0 p1 hsz c0 c1 c2
        unfold maxLen at hcm5
        go_wp2_with fail
        go_loopw [7] (fun kv wk => ∃ (p s : List Int), kv = .int .i64 (p.length : Nat) ∧ p.length ≤ n2 ∧ Hid (O = p ++ s) ∧ Hid (∀ z ∈ s, x < z) ∧ Hid (Blk wk g0 27 #[.int .i64 (y : Nat), .int .i64 (most : Nat), .slice (some ⟨b, o, none⟩) n c]) ∧ Hid (Blk wk (g0 + 1) 27 #[.int .i64 0, .int .i64 0, .slice none 0 0]) ∧ Hid (wk.ownsRow g0 56 2 (.slice A1 n1 cc1) n1 (tcs (leftL (L.take i) y))) ∧ Hid (wk.ownsRow g0 3 1 (.slice (some ⟨rb, 0, none⟩) n5 c5) n5 (zs .i64 (p ++ x :: s))) ∧ Hid (Below g0 w wk)) (fun kv _ => (intOf kv).toNat)
        case atStart => exact ⟨O, [], by rw [← HN2.out, HN5.out]; exact congrArg (Value.int IntKind.i64) (by omega), by rw [← HN2.out]; exact Nat.le_refl _, Lib.hid (by simp), Lib.hid (by simp), K5, M5, O5, Z5, B5⟩
        case round =>
          clear K5 M5 O5 Z5 B5
          obtain ⟨p, s, rfl, hpl, HPS, HGT, K6, M6, O6, Z6, B6⟩ := hrel
          have HLEN : Hid ((p ++ x :: s).length = n5) := Lib.hid (by
            have h0 := HN5.out
            have h1 := congrArg List.length HPS.out
            rw [← HN2.out] at h1
            rw [List.length_append] at h1 ⊢
            simp only [List.length_cons]
            omega)
          rcases List.eq_nil_or_concat p with hnil | ⟨q, z, hq⟩
          · subst hnil
            simp only [List.length_nil] at *
            have hsi := HS.out
            rw [HPS.out] at hsi
            have hso := hsi.ins HGT.out (by simp)
            rw [← HDK.out] at hso
            have HSO := Lib.hid hso
            clear hsi hso
            go_wp2_with fail
            refine wp_ext (by kernel_rfl) (by kernel_rfl) (fun QQ hQ => ?_)
            iterate 14 (first | (refine x_skip (by rfl) ?_; simp only [Act.put, List.setIfInBounds_toArray, List.set_cons_zero, List.set_cons_succ]) | (first | (refine x_load _ (by rfl) rfl rfl (by assumption) (by kernel_rfl) ?_; simp only [Act.put, List.setIfInBounds_toArray, List.set_cons_zero, List.set_cons_succ]) | (refine x_val (v := ?_) (by rfl) (fun w' hx => ?_) ?_; rotate_left; (focus (go_simp; (try with_reducible rfl))); (try simp only [Act.put, List.setIfInBounds_toArray, List.set_cons_zero, List.set_cons_succ]))))
            refine x_nil (hQ.out _ ?_); clear hQ QQ
            intro w8 hb8
            have K8 := Lib.hid (K6.out.below hb8 K6.out.lt)
            have M8 := Lib.hid (M6.out.below hb8 M6.out.lt)
            have O8 := Lib.hid (own_below O6.out hb8 fun k hk => (O6.out.lt k hk).2)
            have Z8 := Lib.hid (own_below Z6.out hb8 fun k hk => (Z6.out.lt k hk).2)
            have B8 := Lib.hid (B6.out.trans (hb8.mono (Nat.le_of_lt K6.out.lt)))
            have Z8' : Hid (Zats w8 3 .i64 g0 (.slice (some ⟨rb, 0, none⟩) n5 c5) ([] ++ x :: s)) := Lib.hid (by unfold Zats; rw [HLEN.out]; exact Z8.out)
            clear hb8 K6 M6 O6 Z6 B6
            go_wp2_with fail
            go_roundw
            case rel => exact ⟨i + 1, [] ++ x :: s, by omega, by go_num, by rw [HLEN.out]; have := HN5.out; omega, K8, M8, Lib.hid (by unfold TOwn; rw [HLK.out, ← HN1.out]; exact O8.out), Z8', HSO, B8⟩
            case measure => simp [intOf]; omega
          · rw [List.concat_eq_append] at hq
            obtain ⟨k, hk⟩ : ∃ k, k = q.length := ⟨_, rfl⟩
            obtain ⟨K, hKl⟩ : ∃ K, K = p.length := ⟨_, rfl⟩
            have hKk : K = k + 1 := by rw [hKl, hq, hk]; simp
            rw [← hKl] at hpl ⊢
            have HKL := Lib.hid hKl
            have HK := Lib.hid hk
            have hK1 : (K : Int) - 1 = (k : Nat) := by omega
            have hwk : IntKind.i64.wrap (k : Int) = (k : Nat) := by rw [IntKind.wrap_i64]; omega
            have hK0 : (0 : Int) < (K : Int) := by omega
            have hK0n : 0 < K := by omega
            have dK : decide (0 < K) = true := decide_eq_true hK0n
            have hKn : (K : Int) < (n5 : Int) := by have := HN5.out; omega
            have hkn : (k : Int) < (n5 : Int) := by have := HN5.out; omega
            have hKn2 : K < n5 := by omega
            have hkn2 : k < n5 := by omega
            have gK : (p ++ x :: s)[K]? = some x := by rw [hKl, List.getElem?_append_right (Nat.le_refl _)]; simp
            have gk : (p ++ x :: s)[k]? = some z := by rw [hq, hk, List.append_assoc, List.getElem?_append_right (Nat.le_refl _)]; simp
            have xK : _root_.Go.World.cell? _ ⟨rb, K, none⟩ = some (.int .i64 x) := (Z6.out.cellAt K (by omega)).trans (zs_get gK)
            have xk : _root_.Go.World.cell? _ ⟨rb, k, none⟩ = some (.int .i64 z) := (Z6.out.cellAt k (by omega)).trans (zs_get gk)
            have GK := Lib.hid gK
            have Gk := Lib.hid gk
            have HQ := Lib.hid hq
            have HKK := Lib.hid hKk
            clear hk hKl gK gk hq hKk
            by_cases hlt2 : x < z
            · have dxz : decide (x < z) = true := decide_eq_true hlt2
              go_wp2_with fail
              refine wp_ext (by kernel_rfl) (by kernel_rfl) (fun QQ hQ => ?_)
              iterate 14 (first | (refine x_skip (by rfl) ?_; simp only [Act.put, List.setIfInBounds_toArray, List.set_cons_zero, List.set_cons_succ]) | (first | (refine x_load _ (by rfl) rfl rfl (by assumption) (by kernel_rfl) ?_; simp only [Act.put, List.setIfInBounds_toArray, List.set_cons_zero, List.set_cons_succ]) | (refine x_val (v := ?_) (by rfl) (fun w' hx => ?_) ?_; rotate_left; (focus (go_simp; (try with_reducible rfl))); (try simp only [Act.put, List.setIfInBounds_toArray, List.set_cons_zero, List.set_cons_succ]))))
              refine x_nil (hQ.out _ ?_); clear hQ QQ
              intro w8 hb8
              have K8 := Lib.hid (K6.out.below hb8 K6.out.lt)
              have M8 := Lib.hid (M6.out.below hb8 M6.out.lt)
              have O8 := Lib.hid (own_below O6.out hb8 fun k hk => (O6.out.lt k hk).2)
              have Z8 := Lib.hid (own_below Z6.out hb8 fun k hk => (Z6.out.lt k hk).2)
              have B8 := Lib.hid (B6.out.trans (hb8.mono (Nat.le_of_lt K6.out.lt)))
              clear hb8 K6 M6 O6 Z6 B6 xK xk
              go_wp2_with fail
              refine wp_ord [(0, .pure), (1, .pure), (2, .pure), (3, .pure), (4, .pure), (5, .pure), (6, .pure), (7, .pure), (8, .pure), (9, .read), (10, .pure), (11, .pure), (12, .pure), (13, .read), (14, .pure), (15, .sole), (16, .pure), (17, .sole)] [15, 17] (by kernel_rfl) (by kernel_rfl) (fun QQ hQ wd hwd => ?_); simp only [List.map_cons, List.map_nil, List.getD_cons_zero, List.getD_cons_succ]
              have hD : Below w8.heap.size w8 wd := by rw [hwd.out]; exact (Below.refl _ _).drew
              have K9 := Lib.hid (K8.out.below hD K8.out.lt)
              have M9 := Lib.hid (M8.out.below hD M8.out.lt)
              have O9 := Lib.hid (own_below O8.out hD fun k hk => (O8.out.lt k hk).2)
              have Z9 := Lib.hid (own_below Z8.out hD fun k hk => (Z8.out.lt k hk).2)
              have B9 := Lib.hid (B8.out.trans (hD.mono (Nat.le_of_lt K8.out.lt)))
              clear hD hwd K8 M8 O8 Z8 B8
              have xK : wd.cell? ⟨rb, K, none⟩ = some (.int .i64 x) := (Z9.out.cellAt K (by omega)).trans (zs_get GK.out)
              have xk : wd.cell? ⟨rb, k, none⟩ = some (.int .i64 z) := (Z9.out.cellAt k (by omega)).trans (zs_get Gk.out)
              have fK := Z9.out.frozenAt K
              (refine o_pure (v := ?_) (by rfl) (fun w' => ?_) ?_; rotate_left; (focus (go_simp; (try with_reducible rfl); (try (rw [if_pos (by omega)]; (try with_reducible rfl))))); (try simp only [Act.put, List.setIfInBounds_toArray, List.set_cons_zero, List.set_cons_succ]))
              (refine o_pure (v := ?_) (by rfl) (fun w' => ?_) ?_; rotate_left; (focus (go_simp; (try with_reducible rfl); (try (rw [if_pos (by omega)]; (try with_reducible rfl))))); (try simp only [Act.put, List.setIfInBounds_toArray, List.set_cons_zero, List.set_cons_succ]))
              (refine o_pure (v := ?_) (by rfl) (fun w' => ?_) ?_; rotate_left; (focus (go_simp; (try with_reducible rfl); (try (rw [if_pos (by omega)]; (try with_reducible rfl))))); (try simp only [Act.put, List.setIfInBounds_toArray, List.set_cons_zero, List.set_cons_succ]))
              (refine o_pure (v := ?_) (by rfl) (fun w' => ?_) ?_; rotate_left; (focus (go_simp; (try with_reducible rfl); (try (rw [if_pos (by omega)]; (try with_reducible rfl))))); (try simp only [Act.put, List.setIfInBounds_toArray, List.set_cons_zero, List.set_cons_succ]))
              (refine o_pure (v := ?_) (by rfl) (fun w' => ?_) ?_; rotate_left; (focus (go_simp; (try with_reducible rfl); (try (rw [if_pos (by omega)]; (try with_reducible rfl))))); (try simp only [Act.put, List.setIfInBounds_toArray, List.set_cons_zero, List.set_cons_succ]))
              (refine o_pure (v := ?_) (by rfl) (fun w' => ?_) ?_; rotate_left; (focus (go_simp; (try with_reducible rfl); (try (rw [if_pos (by omega)]; (try with_reducible rfl))))); (try simp only [Act.put, List.setIfInBounds_toArray, List.set_cons_zero, List.set_cons_succ]))
              (refine o_pure (v := ?_) (by rfl) (fun w' => ?_) ?_; rotate_left; (focus (go_simp; (try with_reducible rfl); (try (rw [if_pos (by omega)]; (try with_reducible rfl))))); (try simp only [Act.put, List.setIfInBounds_toArray, List.set_cons_zero, List.set_cons_succ]))
              (refine o_pure (v := ?_) (by rfl) (fun w' => ?_) ?_; rotate_left; (focus (go_simp; (try with_reducible rfl); (try (rw [if_pos (by omega)]; (try with_reducible rfl))))); (try simp only [Act.put, List.setIfInBounds_toArray, List.set_cons_zero, List.set_cons_succ]))
              (refine o_pure (v := ?_) (by rfl) (fun w' => ?_) ?_; rotate_left; (focus (go_simp; (try with_reducible rfl); (try (rw [if_pos (by omega)]; (try with_reducible rfl))))); (try simp only [Act.put, List.setIfInBounds_toArray, List.set_cons_zero, List.set_cons_succ]))
              (refine o_load _ (by rfl) rfl rfl (by assumption) (by kernel_rfl) ?_; simp only [Act.put, List.setIfInBounds_toArray, List.set_cons_zero, List.set_cons_succ])
              (refine o_pure (v := ?_) (by rfl) (fun w' => ?_) ?_; rotate_left; (focus (go_simp; (try with_reducible rfl); (try (rw [if_pos (by omega)]; (try with_reducible rfl))))); (try simp only [Act.put, List.setIfInBounds_toArray, List.set_cons_zero, List.set_cons_succ]))
              (refine o_pure (v := ?_) (by rfl) (fun w' => ?_) ?_; rotate_left; (focus (go_simp; (try with_reducible rfl); (try (rw [if_pos (by omega)]; (try with_reducible rfl))))); (try simp only [Act.put, List.setIfInBounds_toArray, List.set_cons_zero, List.set_cons_succ]))
              (refine o_pure (v := ?_) (by rfl) (fun w' => ?_) ?_; rotate_left; (focus (go_simp; (try with_reducible rfl); (try (rw [if_pos (by omega)]; (try with_reducible rfl))))); (try simp only [Act.put, List.setIfInBounds_toArray, List.set_cons_zero, List.set_cons_succ]))
              (refine o_load _ (by rfl) rfl rfl (by assumption) (by kernel_rfl) ?_; simp only [Act.put, List.setIfInBounds_toArray, List.set_cons_zero, List.set_cons_succ])
              (refine o_pure (v := ?_) (by rfl) (fun w' => ?_) ?_; rotate_left; (focus (go_simp; (try with_reducible rfl); (try (rw [if_pos (by omega)]; (try with_reducible rfl))))); (try simp only [Act.put, List.setIfInBounds_toArray, List.set_cons_zero, List.set_cons_succ]))
              refine o_sole (fun K hK => ?_)
              go_wp2_with fail
              refine hK _ _ (fun h => by cases h) ?_; clear hK K
              obtain ⟨ho1, hg1⟩ := Z9.out.stored K (.int .i64 z)
              rw [zs_set] at ho1
              have hs1 : Solo rb wd (wd.setCell ⟨rb, K, none⟩ (.int .i64 z)) := Solo.refl.setCell K _
              have Za := Lib.hid ho1
              have HS1 := Lib.hid hs1
              clear ho1 hg1 hs1 xK xk fK
              generalize wd.setCell ⟨rb, K, none⟩ (.int .i64 z) = wa at Za HS1 ⊢
              have ga : ((p ++ x :: s).set K z)[k]? = some z := by rw [List.getElem?_set_ne (by have := HKK.out; omega)]; exact Gk.out
              have xk : wa.cell? ⟨rb, k, none⟩ = some (.int .i64 z) := (Za.out.cellAt k (by omega)).trans (zs_get ga)
              have fk := Za.out.frozenAt k
              clear ga
              (refine o_pure (v := ?_) (by rfl) (fun w' => ?_) ?_; rotate_left; (focus (go_simp; (try with_reducible rfl); (try (rw [if_pos (by omega)]; (try with_reducible rfl))))); (try simp only [Act.put, List.setIfInBounds_toArray, List.set_cons_zero, List.set_cons_succ]))
              refine o_sole (fun K hK => ?_)
              go_wp2_with fail
              refine hK _ _ (fun h => by cases h) ?_; clear hK K
              refine o_nil (hQ.out _ _ ?_); clear hQ QQ
              obtain ⟨ho2, hg2⟩ := Za.out.stored k (.int .i64 x)
              rw [zs_set] at ho2
              have hs2 : Solo rb wa (wa.setCell ⟨rb, k, none⟩ (.int .i64 x)) := Solo.refl.setCell k _
              have e9 : ((p ++ x :: s).set K z).set k x = q ++ x :: z :: s := by
                rw [HKK.out, HQ.out, HK.out, List.append_assoc, List.set_append_right _ _ (by omega), List.set_append_right _ _ (by omega)]
                simp [show q.length + 1 - q.length = 1 by omega]
              rw [e9] at ho2
              have Zb := Lib.hid ho2
              have HS2 := Lib.hid (HS1.out.trans hs2)
              have hrg0 : g0 ≠ rb := fun e => own_nw Z9.out K9.out (by decide) (by rw [e]; rfl)
              have hrg1 : g0 + 1 ≠ rb := fun e => own_nw Z9.out M9.out (by decide) (by rw [e]; rfl)
              have Kb := Lib.hid (HS2.out.blk K9.out hrg0)
              have Mb := Lib.hid (HS2.out.blk M9.out hrg1)
              have Ob := Lib.hid (own_kept O9.out fun j hj => HS2.out.2.2 j fun e => by
                subst e
                rcases own_open Z9.out with ⟨h0, _, _⟩ | ⟨rb', c', L', hv, _, hr, _⟩
                · cases h0
                · injection hv with hv _ _
                  injection hv with hv
                  injection hv with hv _ _
                  subst hv
                  exact own_nw O9.out hr (by decide) hj)
              have Bb := Lib.hid (B9.out.trans (HS2.out.1.mono hBr))
              clear ho2 hg2 hs2 e9 xk fk Za HS1 HS2 hrg0 hrg1 K9 M9 O9 Z9 B9
              generalize wa.setCell ⟨rb, k, none⟩ (.int .i64 x) = wb at Zb Kb Mb Ob Bb ⊢
              have HPS2 : Hid (O = q ++ z :: s) := Lib.hid (by rw [HPS.out, HQ.out]; simp)
              have HGT2 : Hid (∀ y ∈ z :: s, x < y) := Lib.hid (by
                intro y hy
                rcases List.mem_cons.1 hy with rfl | hy
                · exact hlt2
                · exact HGT.out y hy)
              go_wp2_with fail
              go_roundw
              case rel => exact ⟨q, z :: s, by rw [← HK.out], by rw [← HK.out]; have := HKK.out; omega, HPS2, HGT2, Kb, Mb, Ob, Zb, Bb⟩
              case measure => simp [intOf]; have := HKK.out; omega
            · have dxz : decide (x < z) = false := decide_eq_false hlt2
              have hsi := HS.out
              rw [HPS.out] at hsi
              have hso := hsi.ins HGT.out (by rw [HQ.out]; intro y hy; simp at hy; subst hy; omega)
              rw [← HDK.out] at hso
              have HSO := Lib.hid hso
              clear hsi hso
              go_wp2_with fail
              refine wp_ext (by kernel_rfl) (by kernel_rfl) (fun QQ hQ => ?_)
              iterate 14 (first | (refine x_skip (by rfl) ?_; simp only [Act.put, List.setIfInBounds_toArray, List.set_cons_zero, List.set_cons_succ]) | (first | (refine x_load _ (by rfl) rfl rfl (by assumption) (by kernel_rfl) ?_; simp only [Act.put, List.setIfInBounds_toArray, List.set_cons_zero, List.set_cons_succ]) | (refine x_val (v := ?_) (by rfl) (fun w' hx => ?_) ?_; rotate_left; (focus (go_simp; (try with_reducible rfl))); (try simp only [Act.put, List.setIfInBounds_toArray, List.set_cons_zero, List.set_cons_succ]))))
              refine x_nil (hQ.out _ ?_); clear hQ QQ
              intro w8 hb8
              have K8 := Lib.hid (K6.out.below hb8 K6.out.lt)
              have M8 := Lib.hid (M6.out.below hb8 M6.out.lt)
              have O8 := Lib.hid (own_below O6.out hb8 fun k hk => (O6.out.lt k hk).2)
              have Z8 := Lib.hid (own_below Z6.out hb8 fun k hk => (Z6.out.lt k hk).2)
              have B8 := Lib.hid (B6.out.trans (hb8.mono (Nat.le_of_lt K6.out.lt)))
              have Z8' : Hid (Zats w8 3 .i64 g0 (.slice (some ⟨rb, 0, none⟩) n5 c5) (p ++ x :: s)) := Lib.hid (by unfold Zats; rw [HLEN.out]; exact Z8.out)
              clear hb8 K6 M6 O6 Z6 B6
              go_wp2_with fail
              go_roundw
              case rel => exact ⟨i + 1, p ++ x :: s, by omega, by go_num, by rw [HLEN.out]; have := HN5.out; omega, K8, M8, Lib.hid (by unfold TOwn; rw [HLK.out, ← HN1.out]; exact O8.out), Z8', HSO, B8⟩
              case measure => simp [intOf]; omega
      · rw [if_neg he] at hlk hdk
        rw [List.append_nil] at hdk
        have HLK := Lib.hid hlk
        have HDK := Lib.hid hdk
        have hbw : b < wr.heap.size := Nat.lt_of_lt_of_le hb (Nat.le_trans hB BB.out.size)
        clear hx hlk hdk
        go_wp2_with fail
        refine wp_ext (by kernel_rfl) (by kernel_rfl) (fun QQ hQ => ?_)
        iterate 9 (first | (refine x_skip (by rfl) ?_; simp only [Act.put, List.setIfInBounds_toArray, List.set_cons_zero, List.set_cons_succ]) | (first | (refine x_load _ (by rfl) rfl rfl (by assumption) (by kernel_rfl) ?_; simp only [Act.put, List.setIfInBounds_toArray, List.set_cons_zero, List.set_cons_succ]) | (refine x_val (v := ?_) (by rfl) (fun w' hx => ?_) ?_; rotate_left; (focus (go_simp; (try with_reducible rfl))); (try simp only [Act.put, List.setIfInBounds_toArray, List.set_cons_zero, List.set_cons_succ]))))
        refine x_nil (hQ.out _ ?_); clear hQ QQ
        intro w4 hb4
        have K4 := Lib.hid (K0.out.below hb4 K0.out.lt)
        have M4 := Lib.hid (K1.out.below hb4 K1.out.lt)
        have O4 := Lib.hid (own_below HO.out hb4 fun k hk => (HO.out.lt k hk).2)
        have Z4 := Lib.hid (own_below HZ.out hb4 fun k hk => (HZ.out.lt k hk).2)
        have B4 := Lib.hid (BB.out.trans (hb4.mono hsz))
        have p0 := (hb4.cell (p := ⟨b, o + i * 2, none⟩) hbw).trans q0
        have p1 := (hb4.cell (p := ⟨b, o + i * 2 + 1, none⟩) hbw).trans q1
        clear hb4 q0 q1 c0 c1 c2 K0 K1 HO HZ BB hsz
        obtain ⟨c0, c1, c2⟩ := ptc3 K4.out
        have hsz : g0 ≤ w4.heap.size := Nat.le_of_lt K4.out.lt
        have hroom2 := room_ge (x := (n1 + 1) * 16) (by omega)
        have hone : ∀ u ∈ (#[Value.int .i64 x, .int .i64 (y : Nat)] : Array Value).toList, u.oneCell' = true := tcs_one [(x, y)]
        have HONE := Lib.hid hone
        have O4' : Hid (w4.ownsRow g0 56 2 (.slice A1 n1 cc1) n1 (tcs (leftL (L.take i) now'))) := Lib.hid (by have := O4.out; rw [← HN1.out] at this; exact this)
        clear hone
        go_wp2_with (at_builtin; go_must (refine appZ tEl _ rfl HONE.out rfl _ _ rfl rfl O4'.out rfl rfl hroom2 hsz ?_))
        intro v5 w5 ho5 hg5 hb5
        have O5 : Hid (TOwn w5 g0 v5 (leftL (L.take (i + 1)) now')) := Lib.hid (by unfold TOwn; rw [HLK.out, List.length_append, ← HN1.out, tcs_append]; exact ho5)
        have K5 := Lib.hid (K4.out.far2 O4'.out (by decide) hg5)
        have M5 := Lib.hid (M4.out.far2 O4'.out (by decide) hg5)
        have Z5 := Lib.hid (wfar Z4.out O4'.out (by decide) hg5)
        have B5 := Lib.hid (B4.out.trans hb5)
        obtain ⟨A5, cc5, rfl, _⟩ := own_form O5.out
        have HS5 : Hid (SortOf O (dueL (L.take (i + 1)) now')) := Lib.hid (by rw [HDK.out]; exact HS.out)
        clear ho5 hg5 hb5 K4 M4 O4 O4' Z4 B4 p0 p1 hsz c0 c1 c2
        go_wp2_with fail
        go_roundw
        case rel => exact ⟨i + 1, O, by omega, by go_num, by rw [← HN2.out]; omega, K5, M5, O5, by rw [HN2.out]; exact Z5, HS5, B5⟩
        case measure => simp [intOf]; omega
    · have hie : i = n := by omega
      subst hie
      have HTK : Hid (L.take i = L) := Lib.hid (List.take_of_length_le (by rw [HL.out]; exact Nat.le_refl _))
      rw [HTK.out] at HO HN1 HS
      have f2 := K0.out.frozen 2
      have z0 := K1.out.frozen 0
      have z1 := K1.out.frozen 1
      have z2 := K1.out.frozen 2
      obtain ⟨d0, d1, d2⟩ := ptc3 K1.out
      have HSQ := Lib.hid HS.out.eq
      go_wp2_with fail
      have hs1 : Solo g0 wr (wr.setCell ⟨g0, 2, none⟩ (.slice A1 n1 cc1)) := Solo.refl.setCell 2 _
      have M9 := (((hs1.blk K1.out (by omega)).set 0 (.int .i64 (now' : Nat))).set 1 (.int .i64 (most : Nat))).set 2 (.slice A1 n1 cc1)
      have hs2 := (((Solo.refl (g := g0 + 1) (w := wr.setCell ⟨g0, 2, none⟩ (.slice A1 n1 cc1))).setCell 0 (.int .i64 (now' : Nat))).setCell 1 (.int .i64 (most : Nat))).setCell 2 (.slice A1 n1 cc1)
      have M9 := (show Blk _ (g0 + 1) 27 #[.int .i64 (now' : Nat), .int .i64 (most : Nat), .slice A1 n1 cc1] from M9)
      have HO9 := own_kept HO.out fun k hk => (hs2.2.2 k (fun e => own_nw HO.out K1.out (by decide) (by rw [← e]; exact hk))).trans (hs1.2.2 k (fun e => own_nw HO.out K0.out (by decide) (by rw [← e]; exact hk)))
      have HZ9 := own_kept HZ.out fun k hk => (hs2.2.2 k (fun e => own_nw HZ.out K1.out (by decide) (by rw [← e]; exact hk))).trans (hs1.2.2 k (fun e => own_nw HZ.out K0.out (by decide) (by rw [← e]; exact hk)))
      have HB9 := (BB.out.trans hs1.1).trans (hs2.1.mono (Nat.le_succ g0))
      generalize ((((wr.setCell ⟨g0, 2, none⟩ (.slice A1 n1 cc1)).setCell ⟨g0 + 1, 0, none⟩ (.int .i64 (now' : Nat))).setCell ⟨g0 + 1, 1, none⟩ (.int .i64 (most : Nat))).setCell ⟨g0 + 1, 2, none⟩ (.slice A1 n1 cc1)) = w9 at M9 HO9 HZ9 HB9 ⊢
      obtain ⟨y0, y1, y2⟩ := ptc3 M9
      rw [← HG0.out, ← HSQ.out]
      exact bodyPost_ret (v := .tuple #[.agg #[.int .i64 (now' : Nat), .int .i64 (most : Nat), .slice A1 n1 cc1], .slice A2 n2 cc2]) (by simp [results, Try.results10, go_sem, y0, y1, y2]) rfl ⟨_, _, by rw [HN1.out, HN2.out], HO9, HZ9, HB9⟩
end Go.Proofs.Ytpeagibompohhaa
