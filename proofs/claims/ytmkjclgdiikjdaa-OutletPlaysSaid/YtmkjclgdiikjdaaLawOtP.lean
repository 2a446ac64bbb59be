/- Layer 17: the law OutletPlays answers true, and nothing that was there has turned. -/
import Derived.Test.YtmkjclgdiikjdaaOt9
import Derived.Test.YtmkjclgdiikjdaaOrd
import Derived.Test.YtmkjclgdiikjdaaGho2
namespace Go.Proofs.Ytmkjclgdiikjdaa
open Go.RowKit
set_option linter.unusedVariables false
set_option linter.unusedSimpArgs false
theorem OtOp.ok.below {w w' : World} {q : OtOp} (h : q.ok w) (hb : Below w.heap.size w w') : q.ok w' := ⟨h.k, h.nn, h.to, h.rd.into hb, h.mc, h.cm, h.lt⟩
set_option maxRecDepth 20000 in
set_option maxHeartbeats 8000000 in
theorem outletPlays_walk (size : Int) (base0 : Nat) (A : Option Addr) (n c : Nat) (l : List OtOp) (w : World) (hbase : base0 < 18446744073709551616) (hr : Rd w w.heap.size 4 A n (otcs l)) (hl : ∀ q ∈ l, q.ok w) :
    Calls Try.prog 3 #[.int .i64 size, .int .u64 (base0 : Int), .slice A n c] w fun e w' => e = .returned (.bool true) ∧ Below w.heap.size w w' := by
  have HR := Sh.mk hr
  have HL := Sh.mk hl
  clear hr hl
  go_enter Try.func3, Try.ntmps3
  go_wp2_with fail
  refine (great17 A n c l w HR.out).mono ?_
  rintro e w1 ⟨b, rfl, b1, hg1⟩
  cases b
  case true =>
    go_wp2_with fail
    go_ret
    exact ⟨rfl, b1⟩
  case false =>
    obtain ⟨hn60, hm300⟩ := hg1 rfl
    have HM := Sh.mk hm300
    clear hg1 hm300
    by_cases a1 : qLim < base0
    · clear hbase
      go_wp2_with fail
      refine (ou_at_lim size base0 w1 a1).mono ?_
      rintro e w2 ⟨rfl, b2⟩
      go_wp2_with fail
      refine (r_at_lim size base0 w2 a1).mono ?_
      rintro e w3 ⟨rfl, b3⟩
      have HB3 := Sh.mk ((b1.trans (b2.mono b1.size)).trans (b3.mono (Nat.le_trans b1.size b2.size)))
      clear b1 b2 b3
      go_wp2_with fail
      go_loopw [11] (fun iv wr => iv = .int .i64 0 ∧ Below w.heap.size w wr) (fun _ _ => 0)
      case atStart => exact ⟨rfl, HB3.out.alloc HB3.out.size _⟩
      case round =>
        obtain ⟨rfl, hb⟩ := hrel
        by_cases hlt : 0 < n
        · have hlt' : (0 : Int) < (n : Int) := by omega
          go_wp2_with fail
          refine (alive17 wr).mono ?_
          rintro e w6 ⟨rfl, hb6⟩
          go_wp2_with fail
          go_ret
          exact ⟨rfl, hb.trans (hb6.mono hb.size)⟩
        · obtain rfl : n = 0 := by omega
          go_wp2_with fail
          refine (alive17 wr).mono ?_
          rintro e w6 ⟨rfl, hb6⟩
          go_wp2_with fail
          go_ret
          exact ⟨rfl, hb.trans (hb6.mono hb.size)⟩
    have a1' : base0 ≤ qLim := by omega
    by_cases a2 : size < 1 ∨ 65536 < size
    · clear hbase a1
      go_wp2_with fail
      refine (ou_at_ring size base0 w1 a1' a2).mono ?_
      rintro e w2 ⟨rfl, b2⟩
      go_wp2_with fail
      refine (r_at_ring size base0 w2 a1' a2).mono ?_
      rintro e w3 ⟨rfl, b3⟩
      have HB3 := Sh.mk ((b1.trans (b2.mono b1.size)).trans (b3.mono (Nat.le_trans b1.size b2.size)))
      clear b1 b2 b3
      go_wp2_with fail
      go_loopw [11] (fun iv wr => iv = .int .i64 0 ∧ Below w.heap.size w wr) (fun _ _ => 0)
      case atStart => exact ⟨rfl, HB3.out.alloc HB3.out.size _⟩
      case round =>
        obtain ⟨rfl, hb⟩ := hrel
        by_cases hlt : 0 < n
        · have hlt' : (0 : Int) < (n : Int) := by omega
          go_wp2_with fail
          refine (alive17 wr).mono ?_
          rintro e w6 ⟨rfl, hb6⟩
          go_wp2_with fail
          go_ret
          exact ⟨rfl, hb.trans (hb6.mono hb.size)⟩
        · obtain rfl : n = 0 := by omega
          go_wp2_with fail
          refine (alive17 wr).mono ?_
          rintro e w6 ⟨rfl, hb6⟩
          go_wp2_with fail
          go_ret
          exact ⟨rfl, hb.trans (hb6.mono hb.size)⟩
    obtain ⟨z, rfl⟩ : ∃ z : Nat, size = (z : Int) := ⟨size.toNat, by omega⟩
    have hz1 : 1 ≤ z := by omega
    have hz2 : z ≤ 65536 := by omega
    clear a1 a2 hbase
    go_wp2_with fail
    refine (ou_at z base0 w1 a1' hz1 hz2).mono ?_
    rintro e w2 ⟨o, g, p, rfl, ho, hg, hp, b2, hu⟩
    have HU2 := Sh.mk hu
    clear hu
    go_wp2_with fail
    refine (r_at z base0 w2 a1' hz1 hz2).mono ?_
    rintro e w3 ⟨rfl, b3⟩
    have HS1 := Sh.mk b1.size
    have HO := Sh.mk (show (w.heap.size ≤ o ∧ o < w3.heap.size) ∧ (w.heap.size ≤ g ∧ g < w3.heap.size) ∧ (w.heap.size ≤ p ∧ p < w3.heap.size) by have := HU2.out.lt; have := b3.size; have := b1.size; omega)
    have HU3 := Sh.mk (HU2.out.into b3)
    have HB3 := Sh.mk ((b1.trans (b2.mono b1.size)).trans (b3.mono (Nat.le_trans b1.size b2.size)))
    clear b1 b2 b3 HU2 ho hg hp a1'
    go_upto_region 5 with fail
    have KX : Hid (Blk (w3.alloc (.cells #[.slice none 0 0, .int .u64 (base0 : Int), .int .i64 (z : Int), .bool false, .bool false] 31)) (w3.heap.size) 31 #[.slice none 0 0, .int .u64 (base0 : Int), .int .i64 (z : Int), .bool false, .bool false]) := Lib.hid ((Blk.new w3 31 #[.slice none 0 0, .int .u64 (base0 : Int), .int .i64 (z : Int), .bool false, .bool false]))
    have b1 : Hid (Below w3.heap.size w3 (w3.alloc (.cells #[.slice none 0 0, .int .u64 (base0 : Int), .int .i64 (z : Int), .bool false, .bool false] 31))) := Lib.hid ((Below.refl w3.heap.size w3).alloc (Nat.le_refl _) (.cells #[.slice none 0 0, .int .u64 (base0 : Int), .int .i64 (z : Int), .bool false, .bool false] 31))
    have hz : (w3.alloc (.cells #[.slice none 0 0, .int .u64 (base0 : Int), .int .i64 (z : Int), .bool false, .bool false] 31)).heap.size = w3.heap.size + 1 := by simp
    generalize (w3.alloc (.cells #[.slice none 0 0, .int .u64 (base0 : Int), .int .i64 (z : Int), .bool false, .bool false] 31)) = w4 at KX b1 hz ⊢
    have HZ := Lib.hid hz
    clear hz
    have HU4 := Sh.mk (HU3.out.into b1.out)
    have HB4 := Sh.mk (HB3.out.trans (b1.out.mono HB3.out.size))
    have HW3 := Sh.mk HB3.out.size
    obtain ⟨X, hX⟩ : ∃ X, X = w3.heap.size := ⟨_, rfl⟩
    rw [← hX] at KX HO HZ HW3
    try simp only [← hX]
    clear b1 HU3 HB3 hX
    go_wp2_with fail
    go_loopw [11] (fun iv wr => ∃ (i base : Nat) (cl dn : Bool) (bs : List Nat) (A2 : Option Addr) (n2 c2 : Nat), i ≤ n ∧ iv = .int .i64 (i : Int) ∧ Sh (OU wr o g p z base cl dn bs) ∧ Sh (Nats wr 5 .u8 (X + 1) (.slice A2 n2 c2) bs) ∧ Sh (Blk wr X 31 #[.slice A2 n2 c2, .int .u64 (base : Int), .int .i64 (z : Int), .bool cl, .bool dn]) ∧ Sh (Below w.heap.size w wr) ∧ Sh (X + 1 ≤ wr.heap.size)) (fun iv _ => n - (intOf iv).toNat)
    case atStart => exact ⟨0, base0, false, false, [], none, 0, 0, Nat.zero_le _, rfl, HU4, Sh.mk (Nats.nil _ _ _ _), Sh.mk KX.out, HB4, Sh.mk (by have := HZ.out; omega)⟩
    case round =>
      obtain ⟨i, base, cl, dn, bs, A1, n1, c1, hi, rfl, HU, HN, KX5, BB, HX5⟩ := hrel
      clear HU4 KX HB4 HZ
      by_cases hlt : i < n
      · have hlt' : (i : Int) < (n : Int) := by omega
        have h0 : (0 : Int) ≤ (i : Int) := by omega
        obtain ⟨bb, off, q, rfl, hbb, q0, q1, q2, q3, hq⟩ := HR.out.otop hlt
        have HQ := Sh.mk (HL.out q (nth_mem hq))
        have HQM := Sh.mk (HM.out q (nth_mem hq))
        have HQC := Sh.mk (show ∀ j x, [Value.int .i64 q.k, .int .i64 q.nn, .int .u64 (q.to : Int), .slice q.A q.m q.c][j]? = some x → w.cell? ⟨bb, off + i * 4 + j, none⟩ = some x from fun j x hj => by
          match j, hj with
          | 0, hj => simp at hj; rw [← hj]; exact q0
          | 1, hj => simp at hj; rw [← hj]; exact q1
          | 2, hj => simp at hj; rw [← hj]; exact q2
          | 3, hj => simp at hj; rw [← hj]; exact q3
          | n + 4, hj => simp at hj)
        have HBB := Sh.mk hbb
        clear q0 q1 q2 q3 hq
        go_upto_region 11 with fail
        refine wp_ord [(0, .pure), (1, .read), (2, .pure), (3, .pure), (4, .pure), (5, .read), (6, .sole), (7, .pure), (8, .pure), (9, .pure), (10, .sole), (11, .pure)] [6, 10] (by kernel_rfl) (by kernel_rfl) (fun QQ hQ wd hwd => ?_); simp only [List.map_cons, List.map_nil, List.getD_cons_zero, List.getD_cons_succ]
        have hD : Below wr.heap.size wr wd := by rw [hwd.out]; exact (Below.refl _ _).drew
        replace HU := Sh.mk (HU.out.into hD)
        replace HN := Sh.mk (HN.out.below hD)
        replace KX5 := Sh.mk (KX5.out.below hD KX5.out.lt)
        replace BB := Sh.mk (BB.out.trans (hD.mono (by have := HX5.out; have := HW3.out; omega)))
        replace HX5 := Sh.mk (show X + 1 ≤ wd.heap.size by have := HX5.out; have := hD.size; omega)
        have HQD := Sh.mk (show ∀ j x, [Value.int .i64 q.k, .int .i64 q.nn, .int .u64 (q.to : Int), .slice q.A q.m q.c][j]? = some x → wd.cell? ⟨bb, off + i * 4 + j, none⟩ = some x from fun j x hj => (BB.out.cell (p := ⟨bb, off + i * 4 + j, none⟩) HBB.out).trans (HQC.out j x hj))
        clear hD hwd HQC
        (refine o_pure (v := ?_) (by rfl) (fun w' => ?_) ?_; rotate_left; (focus (go_simp; (try with_reducible rfl); (try (rw [if_pos (by omega)]; (try with_reducible rfl))))); (try simp only [Act.put, List.setIfInBounds_toArray, List.set_cons_zero, List.set_cons_succ]))
        (refine o_loads _ [.slice A1 n1 c1, .int .u64 (base : Int), .int .i64 (z : Int), .bool cl, .bool dn] (by rfl) rfl rfl (fun j x hj => by rw [KX5.out.cell, Nat.zero_add]; simpa using hj) (Nat.succ_pos _) (by kernel_rfl) (by kernel_rfl) ?_; simp only [Act.put, List.setIfInBounds_toArray, List.set_cons_zero, List.set_cons_succ])
        (refine o_pure (v := ?_) (by rfl) (fun w' => ?_) ?_; rotate_left; (focus (go_simp; (try with_reducible rfl); (try (rw [if_pos (by omega)]; (try with_reducible rfl))))); (try simp only [Act.put, List.setIfInBounds_toArray, List.set_cons_zero, List.set_cons_succ]))
        (refine o_pure (v := ?_) (by rfl) (fun w' => ?_) ?_; rotate_left; (focus (go_simp; (try with_reducible rfl); (try (rw [if_pos (by omega)]; (try with_reducible rfl))))); (try simp only [Act.put, List.setIfInBounds_toArray, List.set_cons_zero, List.set_cons_succ]))
        (refine o_pure (v := ?_) (by rfl) (fun w' => ?_) ?_; rotate_left; (focus (go_simp; (try with_reducible rfl); (try (rw [if_pos (by omega)]; (try with_reducible rfl))))); (try simp only [Act.put, List.setIfInBounds_toArray, List.set_cons_zero, List.set_cons_succ]))
        (refine o_loads _ [.int .i64 q.k, .int .i64 q.nn, .int .u64 (q.to : Int), .slice q.A q.m q.c] (by rfl) rfl rfl (HQD.out) (Nat.succ_pos _) (by kernel_rfl) (by kernel_rfl) ?_; simp only [Act.put, List.setIfInBounds_toArray, List.set_cons_zero, List.set_cons_succ])
        refine o_sole (fun K hK => ?_)
        go_wp2_with fail
        refine (one17 (X + 1) w.heap.size o g p z base cl dn bs A1 n1 c1 q wd HU.out HN.out (by have := HO.out; omega) (by have := HO.out; omega) (by have := HO.out; omega) HX5.out (HQ.out.below BB.out) (HQ.out.rd.below BB.out) HQM.out).mono ?_
        rintro e w5 ⟨base2, cl2, dn2, bs2, A2, n2, c2, rfl, u5, r5, bb5, s5, ff5⟩
        have KX6 := Sh.mk (show Blk w5 X _ _ from (ff5 X (by have := HX5.out; omega) (by have := HO.out; omega) (by have := HO.out; omega) (by have := HO.out; omega)).trans KX5.out)
        have HU6 := Sh.mk u5
        have HN6 := Sh.mk r5
        replace BB := Sh.mk (BB.out.trans bb5)
        replace HX5 := Sh.mk (Nat.le_trans HX5.out s5)
        clear u5 r5 bb5 s5 ff5 HU HN KX5 HQD HQ HQM HBB
        go_wp2_with fail
        refine hK _ _ (fun h => by cases h) ?_; clear hK K
        (refine o_pure (v := ?_) (by rfl) (fun w' => ?_) ?_; rotate_left; (focus (go_simp; (try with_reducible rfl); (try (rw [if_pos (by omega)]; (try with_reducible rfl))))); (try simp only [Act.put, List.setIfInBounds_toArray, List.set_cons_zero, List.set_cons_succ]))
        (refine o_pure (v := ?_) (by rfl) (fun w' => ?_) ?_; rotate_left; (focus (go_simp; (try with_reducible rfl); (try (rw [if_pos (by omega)]; (try with_reducible rfl))))); (try simp only [Act.put, List.setIfInBounds_toArray, List.set_cons_zero, List.set_cons_succ]))
        (refine o_pure (v := ?_) (by rfl) (fun w' => ?_) ?_; rotate_left; (focus (go_simp; (try with_reducible rfl); (try (rw [if_pos (by omega)]; (try with_reducible rfl))))); (try simp only [Act.put, List.setIfInBounds_toArray, List.set_cons_zero, List.set_cons_succ]))
        refine o_sole (fun K hK => ?_)
        refine stm_store (cs' := #[.slice A2 n2 c2, .int .u64 (base2 : Int), .int .i64 (z : Int), .bool cl2, .bool dn2]) KX6.out rfl _ _ rfl rfl rfl (by simp) (by kernel_rfl) (by simp [Value.oneCell']) (by simp [setL]) fun w6 hk hs => ?_
        refine wpList_nil ?_
        refine hK _ _ (fun h => by cases h) ?_; clear hK K
        have HX7 := Sh.mk hk
        have HU7 := Sh.mk (HU6.out.below hs.1 (by have := HO.out; omega) (by have := HO.out; omega) (by have := HO.out; omega))
        have HN7 := Sh.mk (HN6.out.kept (w' := w6) fun i hi => hs.2.2 i (by have := (HN6.out.lt i hi).1; omega))
        replace BB := Sh.mk (BB.out.trans (hs.1.mono HW3.out))
        replace HX5 := Sh.mk (show X + 1 ≤ w6.heap.size by rw [hs.2.1]; exact HX5.out)
        clear hk hs KX6 HU6 HN6
        (refine o_pure (v := ?_) (by rfl) (fun w' => ?_) ?_; rotate_left; (focus (go_simp; (try with_reducible rfl); (try (rw [if_pos (by omega)]; (try with_reducible rfl))))); (try simp only [Act.put, List.setIfInBounds_toArray, List.set_cons_zero, List.set_cons_succ]))
        refine o_nil (hQ.out _ _ ?_); clear hQ QQ
        have hnl := HN7.out.len.1
        obtain ⟨en, hen⟩ : ∃ en, en = base2 + bs2.length := ⟨_, rfl⟩
        obtain ⟨tp, htp⟩ : ∃ tp, tp = base2 + bs2.length + (if cl2 then 1 else 0) := ⟨_, rfl⟩
        obtain ⟨fr, hfr0⟩ : ∃ fr, fr = z - bs2.length := ⟨_, rfl⟩
        have hsz := HU7.out.sz
        have hlm := HU7.out.bb
        have HE2 := Sh.mk (And.intro hen.symm (And.intro htp.symm (And.intro hnl (And.intro hfr0.symm True.intro))))
        have hfr : (z : Int) - (n2 : Int) = (fr : Int) := by omega
        have hfw : IntKind.i64.wrap (fr : Int) = (fr : Int) := by rw [IntKind.wrap_i64]; omega
        have RE2 := Sh.mk (fun w => r_end A2 n2 c2 base2 z cl2 dn2 w en (by omega) (by omega))
        have RT2 := Sh.mk (fun w => r_top A2 n2 c2 base2 z cl2 dn2 w tp (by rw [htp, hnl]) (by rw [← hnl]; exact hlm))
        have CBASE := Sh.mk (show ∀ w', OU w' o g p z base2 cl2 dn2 bs2 → Calls Try.prog 10 #[.pointer (some ⟨o, 0, none⟩)] w' fun e w'' => e = .returned (.int .u64 (base2 : Int)) ∧ Below w'.heap.size w' w'' from fun w' h => by
          have hc := ou_base o g p z base2 cl2 dn2 bs2 w' h
          exact hc.mono (by rintro e w'' ⟨rfl, hx⟩; exact ⟨rfl, by subst hx; exact Below.refl _ _⟩))
        have CEND := Sh.mk (show ∀ w', OU w' o g p z base2 cl2 dn2 bs2 → Calls Try.prog 11 #[.pointer (some ⟨o, 0, none⟩)] w' fun e w'' => e = .returned (.int .u64 (en : Int)) ∧ Below w'.heap.size w' w'' from fun w' h => by
          have hc := ou_end o g p z base2 cl2 dn2 bs2 w' h
          rw [HE2.out.1] at hc
          exact hc.mono (by rintro e w'' ⟨rfl, hx⟩; exact ⟨rfl, by obtain ⟨qn, rfl⟩ := hx; exact below_drewN (Below.refl _ _) qn⟩))
        have CTOP := Sh.mk (show ∀ w', OU w' o g p z base2 cl2 dn2 bs2 → Calls Try.prog 13 #[.pointer (some ⟨o, 0, none⟩)] w' fun e w'' => e = .returned (.int .u64 (tp : Int)) ∧ Below w'.heap.size w' w'' from fun w' h => by
          have hc := ou_top o g p z base2 cl2 dn2 bs2 w' h
          rw [HE2.out.2.1] at hc
          exact hc.mono (by rintro e w'' ⟨rfl, hx⟩; exact ⟨rfl, by obtain ⟨qn, rfl⟩ := hx; exact below_drewN (Below.refl _ _) qn⟩))
        have CDONE := Sh.mk (show ∀ w', OU w' o g p z base2 cl2 dn2 bs2 → Calls Try.prog 15 #[.pointer (some ⟨o, 0, none⟩)] w' fun e w'' => e = .returned (.bool dn2) ∧ Below w'.heap.size w' w'' from fun w' h => by
          have hc := ou_done o g p z base2 cl2 dn2 bs2 w' h
          exact hc.mono (by rintro e w'' ⟨rfl, hx⟩; exact ⟨rfl, by subst hx; exact Below.refl _ _⟩))
        have CCLOSED := Sh.mk (show ∀ w', OU w' o g p z base2 cl2 dn2 bs2 → Calls Try.prog 16 #[.pointer (some ⟨o, 0, none⟩)] w' fun e w'' => e = .returned (.bool cl2) ∧ Below w'.heap.size w' w'' from fun w' h => by
          have hc := ou_closed o g p z base2 cl2 dn2 bs2 w' h
          exact hc.mono (by rintro e w'' ⟨rfl, hx⟩; exact ⟨rfl, by subst hx; exact Below.refl _ _⟩))
        have CLEN := Sh.mk (show ∀ w', OU w' o g p z base2 cl2 dn2 bs2 → Calls Try.prog 17 #[.pointer (some ⟨g, 0, none⟩)] w' fun e w'' => e = .returned (.int .i64 (n2 : Int)) ∧ Below w'.heap.size w' w'' from fun w' h => by
          have hc := ou_len o g p z base2 cl2 dn2 bs2 w' h
          rw [HE2.out.2.2.1] at hc
          exact hc.mono (by rintro e w'' ⟨rfl, hx⟩; exact ⟨rfl, by subst hx; exact Below.refl _ _⟩))
        have CFREE := Sh.mk (show ∀ w', OU w' o g p z base2 cl2 dn2 bs2 → Calls Try.prog 18 #[.pointer (some ⟨g, 0, none⟩)] w' fun e w'' => e = .returned (.int .i64 (fr : Int)) ∧ Below w'.heap.size w' w'' from fun w' h => by
          have hc := ou_free o g p z base2 cl2 dn2 bs2 w' h
          rw [HE2.out.2.2.2.1] at hc
          exact hc.mono (by rintro e w'' ⟨rfl, hx⟩; exact ⟨rfl, by obtain ⟨qn, rfl⟩ := hx; exact below_drewN (Below.refl _ _) qn⟩))
        clear hen htp hfr0 hsz hlm hnl HE2
        go_upto_region 12 with fail
        refine GH.wp_ghl2 (M := false) 61 ((GH.SP.eq (.bool true)) :: (GH.SP.eq (.bool false)) :: (GH.SP.eq (.bool false)) :: (GH.SP.eq (.pointer (some ⟨o, 0, none⟩))) :: (GH.SP.eq (.int .u64 (base2 : Int))) :: (GH.SP.eq (.pointer (some ⟨X, 1, none⟩))) :: (GH.SP.eq (.int .u64 (base2 : Int))) :: (GH.SP.eq (.bool false)) :: (GH.SP.eq (.bool false)) :: (GH.SP.eq (.bool false)) :: (GH.SP.eq (.pointer (some ⟨o, 0, none⟩))) :: (GH.SP.eq (.int .u64 (en : Int))) :: (GH.SP.eq (.agg #[.slice A2 n2 c2, .int .u64 (base2 : Int), .int .i64 (z : Int), .bool cl2, .bool dn2])) :: (GH.SP.eq (.int .u64 (en : Int))) :: (GH.SP.eq (.bool false)) :: (GH.SP.eq (.bool false)) :: (GH.SP.eq (.bool false)) :: (GH.SP.eq (.pointer (some ⟨o, 0, none⟩))) :: (GH.SP.eq (.int .u64 (tp : Int))) :: (GH.SP.eq (.agg #[.slice A2 n2 c2, .int .u64 (base2 : Int), .int .i64 (z : Int), .bool cl2, .bool dn2])) :: (GH.SP.eq (.int .u64 (tp : Int))) :: (GH.SP.eq (.bool false)) :: (GH.SP.eq (.bool false)) :: (GH.SP.eq (.bool false)) :: (GH.SP.eq (.pointer (some ⟨o, 0, none⟩))) :: (GH.SP.eq (.bool dn2)) :: (GH.SP.eq (.pointer (some ⟨X, 4, none⟩))) :: (GH.SP.eq (.bool dn2)) :: (GH.SP.eq (.bool false)) :: (GH.SP.eq (.bool false)) :: (GH.SP.eq (.bool false)) :: (GH.SP.eq (.pointer (some ⟨o, 0, none⟩))) :: (GH.SP.eq (.bool cl2)) :: (GH.SP.eq (.pointer (some ⟨X, 3, none⟩))) :: (GH.SP.eq (.bool cl2)) :: (GH.SP.eq (.bool false)) :: (GH.SP.eq (.bool false)) :: (GH.SP.eq (.bool false)) :: (GH.SP.eq (.pointer (some ⟨o, 0, none⟩))) :: (GH.SP.eq (.pointer (some ⟨o, 0, none⟩))) :: (GH.SP.eq (.pointer (some ⟨o, 0, none⟩))) :: (GH.SP.eq (.pointer (some ⟨g, 0, none⟩))) :: (GH.SP.eq (.int .i64 (n2 : Int))) :: (GH.SP.eq (.pointer (some ⟨X, 0, none⟩))) :: (GH.SP.eq (.slice A2 n2 c2)) :: (GH.SP.eq (.int .i64 (n2 : Nat))) :: (GH.SP.eq (.bool false)) :: (GH.SP.eq (.bool false)) :: (GH.SP.eq (.bool false)) :: (GH.SP.eq (.pointer (some ⟨o, 0, none⟩))) :: (GH.SP.eq (.pointer (some ⟨o, 0, none⟩))) :: (GH.SP.eq (.pointer (some ⟨o, 0, none⟩))) :: (GH.SP.eq (.pointer (some ⟨g, 0, none⟩))) :: (GH.SP.eq (.int .i64 (fr : Int))) :: (GH.SP.eq (.int .i64 (z : Int))) :: (GH.SP.eq (.pointer (some ⟨X, 0, none⟩))) :: (GH.SP.eq (.slice A2 n2 c2)) :: (GH.SP.eq (.int .i64 (n2 : Nat))) :: (GH.SP.eq (.int .i64 (fr : Int))) :: (GH.SP.eq (.bool false)) :: (GH.SP.eq (.bool false)) :: []) (none :: none :: none :: none :: none :: none :: none :: none :: none :: none :: none :: none :: none :: none :: none :: none :: none :: none :: none :: none :: none :: none :: none :: none :: none :: none :: none :: none :: none :: none :: none :: none :: none :: none :: none :: none :: none :: none :: none :: none :: none :: none :: none :: none :: none :: none :: none :: none :: none :: none :: none :: none :: none :: none :: none :: none :: none :: (some 0) :: (some 1) :: (some 2) :: (some 3) :: (some 4) :: (some 5) :: (some 6) :: (some 7) :: (some 8) :: (some 9) :: (some 10) :: (some 11) :: (some 12) :: (some 13) :: (some 14) :: (some 15) :: (some 16) :: (some 17) :: (some 18) :: (some 19) :: (some 20) :: (some 21) :: (some 22) :: (some 23) :: (some 24) :: (some 25) :: (some 26) :: (some 27) :: (some 28) :: (some 29) :: (some 30) :: (some 31) :: (some 32) :: (some 33) :: (some 34) :: (some 35) :: (some 36) :: (some 37) :: (some 38) :: (some 39) :: (some 40) :: (some 41) :: (some 42) :: (some 43) :: (some 44) :: (some 45) :: (some 46) :: (some 47) :: (some 48) :: (some 49) :: (some 50) :: (some 51) :: (some 52) :: (some 53) :: (some 54) :: (some 55) :: (some 56) :: (some 57) :: (some 58) :: (some 59) :: (some 60) :: none :: []) [57, 58, 59, 60, 61, 62, 63, 64, 65, 66, 67, 68, 69, 70, 71, 72, 73, 74, 75, 76, 77, 78, 79, 80, 81, 82, 83, 84, 85, 86, 87, 88, 89, 90, 91, 92, 93, 94, 95, 96, 97, 98, 99, 100, 101, 102, 103, 104, 105, 106, 107, 108, 109, 110, 111, 112, 113, 114, 115, 116, 117] (by rfl) (by kernel_rfl) (by kernel_rfl) ?_ ?_ ?_
        · intro S jx v hjx
          match jx, hjx with
          | 0, _ => rfl
          | 1, _ => rfl
          | 2, _ => rfl
          | 3, _ => rfl
          | 4, _ => rfl
          | 5, _ => rfl
          | 6, _ => rfl
          | 7, _ => rfl
          | 8, _ => rfl
          | 9, _ => rfl
          | 10, _ => rfl
          | 11, _ => rfl
          | 12, _ => rfl
          | 13, _ => rfl
          | 14, _ => rfl
          | 15, _ => rfl
          | 16, _ => rfl
          | 17, _ => rfl
          | 18, _ => rfl
          | 19, _ => rfl
          | 20, _ => rfl
          | 21, _ => rfl
          | 22, _ => rfl
          | 23, _ => rfl
          | 24, _ => rfl
          | 25, _ => rfl
          | 26, _ => rfl
          | 27, _ => rfl
          | 28, _ => rfl
          | 29, _ => rfl
          | 30, _ => rfl
          | 31, _ => rfl
          | 32, _ => rfl
          | 33, _ => rfl
          | 34, _ => rfl
          | 35, _ => rfl
          | 36, _ => rfl
          | 37, _ => rfl
          | 38, _ => rfl
          | 39, _ => rfl
          | 40, _ => rfl
          | 41, _ => rfl
          | 42, _ => rfl
          | 43, _ => rfl
          | 44, _ => rfl
          | 45, _ => rfl
          | 46, _ => rfl
          | 47, _ => rfl
          | 48, _ => rfl
          | 49, _ => rfl
          | 50, _ => rfl
          | 51, _ => rfl
          | 52, _ => rfl
          | 53, _ => rfl
          | 54, _ => rfl
          | 55, _ => rfl
          | 56, _ => rfl
          | 57, _ => rfl
          | 58, _ => rfl
          | 59, _ => rfl
          | 60, _ => rfl
          | nx + 61, hjx => omega
        · intro jx hjx S w' hb hd
          match jx, hjx, hd with
          | 0, _, hd =>
            simp only [GH.mkL, List.getD_cons_succ, List.getD_cons_zero]
            clear hd
            refine GH.st_eq (by rfl) ?_
            go_simp
            (try with_reducible rfl)
          | 1, _, hd =>
            simp only [GH.mkL, List.getD_cons_succ, List.getD_cons_zero]
            have d0 : S 0 = .bool true := (hd 0 (by kernel_rfl)).2
            rw [d0]
            clear d0
            clear hd
            refine GH.st_eq (by rfl) ?_
            go_simp
            (try simp only [bne_self_eq_false])
            (try with_reducible rfl)
          | 2, _, hd =>
            simp only [GH.mkL, List.getD_cons_succ, List.getD_cons_zero]
            have d1 : S 1 = .bool false := (hd 1 (by kernel_rfl)).2
            rw [d1]
            clear d1
            clear hd
            refine GH.st_eq (by rfl) ?_
            go_simp
            (try with_reducible rfl)
          | 3, _, hd =>
            simp only [GH.mkL, List.getD_cons_succ, List.getD_cons_zero]
            have d2 : S 2 = .bool false := (hd 2 (by kernel_rfl)).2
            rw [d2]
            clear d2
            clear hd
            refine GH.st_eq (by rfl) ?_
            go_simp
            (try with_reducible rfl)
          | 4, _, hd =>
            simp only [GH.mkL, List.getD_cons_succ, List.getD_cons_zero]
            have d2 : S 2 = .bool false := (hd 2 (by kernel_rfl)).2
            rw [d2]
            clear d2
            have d3 : S 3 = .pointer (some ⟨o, 0, none⟩) := (hd 3 (by kernel_rfl)).2
            rw [d3]
            clear d3
            clear hd
            refine GH.st_call (by rfl) hb.below.size (by go_simp) ((CBASE.out w' (HU7.out.into hb.below)).mono ?_)
            rintro e w9 ⟨rfl, hb9⟩
            exact ⟨_, rfl, hb9, rfl⟩
          | 5, _, hd =>
            simp only [GH.mkL, List.getD_cons_succ, List.getD_cons_zero]
            have d2 : S 2 = .bool false := (hd 2 (by kernel_rfl)).2
            rw [d2]
            clear d2
            clear hd
            refine GH.st_eq (by rfl) ?_
            go_simp
            (try with_reducible rfl)
          | 6, _, hd =>
            simp only [GH.mkL, List.getD_cons_succ, List.getD_cons_zero]
            have d2 : S 2 = .bool false := (hd 2 (by kernel_rfl)).2
            rw [d2]
            clear d2
            have d5 : S 5 = .pointer (some ⟨X, 1, none⟩) := (hd 5 (by kernel_rfl)).2
            rw [d5]
            clear d5
            clear hd
            exact GH.st_load _ (by rfl) rfl rfl (((HX7.out.below hb.below HX7.out.lt)).cell 1) (by kernel_rfl)
          | 7, _, hd =>
            simp only [GH.mkL, List.getD_cons_succ, List.getD_cons_zero]
            have d2 : S 2 = .bool false := (hd 2 (by kernel_rfl)).2
            rw [d2]
            clear d2
            have d4 : S 4 = .int .u64 (base2 : Int) := (hd 4 (by kernel_rfl)).2
            rw [d4]
            clear d4
            have d6 : S 6 = .int .u64 (base2 : Int) := (hd 6 (by kernel_rfl)).2
            rw [d6]
            clear d6
            clear hd
            refine GH.st_eq (by rfl) ?_
            go_simp
            (try simp only [bne_self_eq_false])
            (try with_reducible rfl)
          | 8, _, hd =>
            simp only [GH.mkL, List.getD_cons_succ, List.getD_cons_zero]
            have d2 : S 2 = .bool false := (hd 2 (by kernel_rfl)).2
            rw [d2]
            clear d2
            have d7 : S 7 = .bool false := (hd 7 (by kernel_rfl)).2
            rw [d7]
            clear d7
            clear hd
            refine GH.st_eq (by rfl) ?_
            go_simp
            (try simp only [bne_self_eq_false])
            (try with_reducible rfl)
          | 9, _, hd =>
            simp only [GH.mkL, List.getD_cons_succ, List.getD_cons_zero]
            have d4 : S 4 = .int .u64 (base2 : Int) := (hd 4 (by kernel_rfl)).2
            rw [d4]
            clear d4
            have d8 : S 8 = .bool false := (hd 8 (by kernel_rfl)).2
            rw [d8]
            clear d8
            clear hd
            refine GH.st_eq (by rfl) ?_
            go_simp
            (try with_reducible rfl)
          | 10, _, hd =>
            simp only [GH.mkL, List.getD_cons_succ, List.getD_cons_zero]
            have d9 : S 9 = .bool false := (hd 9 (by kernel_rfl)).2
            rw [d9]
            clear d9
            clear hd
            refine GH.st_eq (by rfl) ?_
            go_simp
            (try with_reducible rfl)
          | 11, _, hd =>
            simp only [GH.mkL, List.getD_cons_succ, List.getD_cons_zero]
            have d9 : S 9 = .bool false := (hd 9 (by kernel_rfl)).2
            rw [d9]
            clear d9
            have d10 : S 10 = .pointer (some ⟨o, 0, none⟩) := (hd 10 (by kernel_rfl)).2
            rw [d10]
            clear d10
            clear hd
            refine GH.st_call (by rfl) hb.below.size (by go_simp) ((CEND.out w' (HU7.out.into hb.below)).mono ?_)
            rintro e w9 ⟨rfl, hb9⟩
            exact ⟨_, rfl, hb9, rfl⟩
          | 12, _, hd =>
            simp only [GH.mkL, List.getD_cons_succ, List.getD_cons_zero]
            have d9 : S 9 = .bool false := (hd 9 (by kernel_rfl)).2
            rw [d9]
            clear d9
            clear hd
            exact GH.st_loads _ [.slice A2 n2 c2, .int .u64 (base2 : Int), .int .i64 (z : Int), .bool cl2, .bool dn2] (by rfl) rfl rfl (((HX7.out.below hb.below HX7.out.lt)).loads 0 _ (by rfl)) (by kernel_rfl) (by kernel_rfl)
          | 13, _, hd =>
            simp only [GH.mkL, List.getD_cons_succ, List.getD_cons_zero]
            have d9 : S 9 = .bool false := (hd 9 (by kernel_rfl)).2
            rw [d9]
            clear d9
            have d11 : S 11 = .int .u64 (en : Int) := (hd 11 (by kernel_rfl)).2
            rw [d11]
            clear d11
            have d12 : S 12 = .agg #[.slice A2 n2 c2, .int .u64 (base2 : Int), .int .i64 (z : Int), .bool cl2, .bool dn2] := (hd 12 (by kernel_rfl)).2
            rw [d12]
            clear d12
            clear hd
            refine GH.st_call (by rfl) hb.below.size (by go_simp) ((RE2.out w').mono ?_)
            rintro e w9 ⟨rfl, hb9⟩
            exact ⟨_, rfl, hb9, rfl⟩
          | 14, _, hd =>
            simp only [GH.mkL, List.getD_cons_succ, List.getD_cons_zero]
            have d9 : S 9 = .bool false := (hd 9 (by kernel_rfl)).2
            rw [d9]
            clear d9
            have d11 : S 11 = .int .u64 (en : Int) := (hd 11 (by kernel_rfl)).2
            rw [d11]
            clear d11
            have d13 : S 13 = .int .u64 (en : Int) := (hd 13 (by kernel_rfl)).2
            rw [d13]
            clear d13
            clear hd
            refine GH.st_eq (by rfl) ?_
            go_simp
            (try simp only [bne_self_eq_false])
            (try with_reducible rfl)
          | 15, _, hd =>
            simp only [GH.mkL, List.getD_cons_succ, List.getD_cons_zero]
            have d9 : S 9 = .bool false := (hd 9 (by kernel_rfl)).2
            rw [d9]
            clear d9
            have d14 : S 14 = .bool false := (hd 14 (by kernel_rfl)).2
            rw [d14]
            clear d14
            clear hd
            refine GH.st_eq (by rfl) ?_
            go_simp
            (try simp only [bne_self_eq_false])
            (try with_reducible rfl)
          | 16, _, hd =>
            simp only [GH.mkL, List.getD_cons_succ, List.getD_cons_zero]
            have d13 : S 13 = .int .u64 (en : Int) := (hd 13 (by kernel_rfl)).2
            rw [d13]
            clear d13
            have d15 : S 15 = .bool false := (hd 15 (by kernel_rfl)).2
            rw [d15]
            clear d15
            clear hd
            refine GH.st_eq (by rfl) ?_
            go_simp
            (try with_reducible rfl)
          | 17, _, hd =>
            simp only [GH.mkL, List.getD_cons_succ, List.getD_cons_zero]
            have d16 : S 16 = .bool false := (hd 16 (by kernel_rfl)).2
            rw [d16]
            clear d16
            clear hd
            refine GH.st_eq (by rfl) ?_
            go_simp
            (try with_reducible rfl)
          | 18, _, hd =>
            simp only [GH.mkL, List.getD_cons_succ, List.getD_cons_zero]
            have d16 : S 16 = .bool false := (hd 16 (by kernel_rfl)).2
            rw [d16]
            clear d16
            have d17 : S 17 = .pointer (some ⟨o, 0, none⟩) := (hd 17 (by kernel_rfl)).2
            rw [d17]
            clear d17
            clear hd
            refine GH.st_call (by rfl) hb.below.size (by go_simp) ((CTOP.out w' (HU7.out.into hb.below)).mono ?_)
            rintro e w9 ⟨rfl, hb9⟩
            exact ⟨_, rfl, hb9, rfl⟩
          | 19, _, hd =>
            simp only [GH.mkL, List.getD_cons_succ, List.getD_cons_zero]
            have d16 : S 16 = .bool false := (hd 16 (by kernel_rfl)).2
            rw [d16]
            clear d16
            clear hd
            exact GH.st_loads _ [.slice A2 n2 c2, .int .u64 (base2 : Int), .int .i64 (z : Int), .bool cl2, .bool dn2] (by rfl) rfl rfl (((HX7.out.below hb.below HX7.out.lt)).loads 0 _ (by rfl)) (by kernel_rfl) (by kernel_rfl)
          | 20, _, hd =>
            simp only [GH.mkL, List.getD_cons_succ, List.getD_cons_zero]
            have d16 : S 16 = .bool false := (hd 16 (by kernel_rfl)).2
            rw [d16]
            clear d16
            have d18 : S 18 = .int .u64 (tp : Int) := (hd 18 (by kernel_rfl)).2
            rw [d18]
            clear d18
            have d19 : S 19 = .agg #[.slice A2 n2 c2, .int .u64 (base2 : Int), .int .i64 (z : Int), .bool cl2, .bool dn2] := (hd 19 (by kernel_rfl)).2
            rw [d19]
            clear d19
            clear hd
            refine GH.st_call (by rfl) hb.below.size (by go_simp) ((RT2.out w').mono ?_)
            rintro e w9 ⟨rfl, hb9⟩
            exact ⟨_, rfl, hb9, rfl⟩
          | 21, _, hd =>
            simp only [GH.mkL, List.getD_cons_succ, List.getD_cons_zero]
            have d16 : S 16 = .bool false := (hd 16 (by kernel_rfl)).2
            rw [d16]
            clear d16
            have d18 : S 18 = .int .u64 (tp : Int) := (hd 18 (by kernel_rfl)).2
            rw [d18]
            clear d18
            have d20 : S 20 = .int .u64 (tp : Int) := (hd 20 (by kernel_rfl)).2
            rw [d20]
            clear d20
            clear hd
            refine GH.st_eq (by rfl) ?_
            go_simp
            (try simp only [bne_self_eq_false])
            (try with_reducible rfl)
          | 22, _, hd =>
            simp only [GH.mkL, List.getD_cons_succ, List.getD_cons_zero]
            have d16 : S 16 = .bool false := (hd 16 (by kernel_rfl)).2
            rw [d16]
            clear d16
            have d21 : S 21 = .bool false := (hd 21 (by kernel_rfl)).2
            rw [d21]
            clear d21
            clear hd
            refine GH.st_eq (by rfl) ?_
            go_simp
            (try simp only [bne_self_eq_false])
            (try with_reducible rfl)
          | 23, _, hd =>
            simp only [GH.mkL, List.getD_cons_succ, List.getD_cons_zero]
            have d20 : S 20 = .int .u64 (tp : Int) := (hd 20 (by kernel_rfl)).2
            rw [d20]
            clear d20
            have d22 : S 22 = .bool false := (hd 22 (by kernel_rfl)).2
            rw [d22]
            clear d22
            clear hd
            refine GH.st_eq (by rfl) ?_
            go_simp
            (try with_reducible rfl)
          | 24, _, hd =>
            simp only [GH.mkL, List.getD_cons_succ, List.getD_cons_zero]
            have d23 : S 23 = .bool false := (hd 23 (by kernel_rfl)).2
            rw [d23]
            clear d23
            clear hd
            refine GH.st_eq (by rfl) ?_
            go_simp
            (try with_reducible rfl)
          | 25, _, hd =>
            simp only [GH.mkL, List.getD_cons_succ, List.getD_cons_zero]
            have d23 : S 23 = .bool false := (hd 23 (by kernel_rfl)).2
            rw [d23]
            clear d23
            have d24 : S 24 = .pointer (some ⟨o, 0, none⟩) := (hd 24 (by kernel_rfl)).2
            rw [d24]
            clear d24
            clear hd
            refine GH.st_call (by rfl) hb.below.size (by go_simp) ((CDONE.out w' (HU7.out.into hb.below)).mono ?_)
            rintro e w9 ⟨rfl, hb9⟩
            exact ⟨_, rfl, hb9, rfl⟩
          | 26, _, hd =>
            simp only [GH.mkL, List.getD_cons_succ, List.getD_cons_zero]
            have d23 : S 23 = .bool false := (hd 23 (by kernel_rfl)).2
            rw [d23]
            clear d23
            clear hd
            refine GH.st_eq (by rfl) ?_
            go_simp
            (try with_reducible rfl)
          | 27, _, hd =>
            simp only [GH.mkL, List.getD_cons_succ, List.getD_cons_zero]
            have d23 : S 23 = .bool false := (hd 23 (by kernel_rfl)).2
            rw [d23]
            clear d23
            have d26 : S 26 = .pointer (some ⟨X, 4, none⟩) := (hd 26 (by kernel_rfl)).2
            rw [d26]
            clear d26
            clear hd
            exact GH.st_load _ (by rfl) rfl rfl (((HX7.out.below hb.below HX7.out.lt)).cell 4) (by kernel_rfl)
          | 28, _, hd =>
            simp only [GH.mkL, List.getD_cons_succ, List.getD_cons_zero]
            have d23 : S 23 = .bool false := (hd 23 (by kernel_rfl)).2
            rw [d23]
            clear d23
            have d25 : S 25 = .bool dn2 := (hd 25 (by kernel_rfl)).2
            rw [d25]
            clear d25
            have d27 : S 27 = .bool dn2 := (hd 27 (by kernel_rfl)).2
            rw [d27]
            clear d27
            clear hd
            refine GH.st_eq (by rfl) ?_
            go_simp
            (try simp only [bne_self_eq_false])
            (try with_reducible rfl)
          | 29, _, hd =>
            simp only [GH.mkL, List.getD_cons_succ, List.getD_cons_zero]
            have d23 : S 23 = .bool false := (hd 23 (by kernel_rfl)).2
            rw [d23]
            clear d23
            have d28 : S 28 = .bool false := (hd 28 (by kernel_rfl)).2
            rw [d28]
            clear d28
            clear hd
            refine GH.st_eq (by rfl) ?_
            go_simp
            (try simp only [bne_self_eq_false])
            (try with_reducible rfl)
          | 30, _, hd =>
            simp only [GH.mkL, List.getD_cons_succ, List.getD_cons_zero]
            have d25 : S 25 = .bool dn2 := (hd 25 (by kernel_rfl)).2
            rw [d25]
            clear d25
            have d29 : S 29 = .bool false := (hd 29 (by kernel_rfl)).2
            rw [d29]
            clear d29
            clear hd
            refine GH.st_eq (by rfl) ?_
            go_simp
            (try with_reducible rfl)
          | 31, _, hd =>
            simp only [GH.mkL, List.getD_cons_succ, List.getD_cons_zero]
            have d30 : S 30 = .bool false := (hd 30 (by kernel_rfl)).2
            rw [d30]
            clear d30
            clear hd
            refine GH.st_eq (by rfl) ?_
            go_simp
            (try with_reducible rfl)
          | 32, _, hd =>
            simp only [GH.mkL, List.getD_cons_succ, List.getD_cons_zero]
            have d30 : S 30 = .bool false := (hd 30 (by kernel_rfl)).2
            rw [d30]
            clear d30
            have d31 : S 31 = .pointer (some ⟨o, 0, none⟩) := (hd 31 (by kernel_rfl)).2
            rw [d31]
            clear d31
            clear hd
            refine GH.st_call (by rfl) hb.below.size (by go_simp) ((CCLOSED.out w' (HU7.out.into hb.below)).mono ?_)
            rintro e w9 ⟨rfl, hb9⟩
            exact ⟨_, rfl, hb9, rfl⟩
          | 33, _, hd =>
            simp only [GH.mkL, List.getD_cons_succ, List.getD_cons_zero]
            have d30 : S 30 = .bool false := (hd 30 (by kernel_rfl)).2
            rw [d30]
            clear d30
            clear hd
            refine GH.st_eq (by rfl) ?_
            go_simp
            (try with_reducible rfl)
          | 34, _, hd =>
            simp only [GH.mkL, List.getD_cons_succ, List.getD_cons_zero]
            have d30 : S 30 = .bool false := (hd 30 (by kernel_rfl)).2
            rw [d30]
            clear d30
            have d33 : S 33 = .pointer (some ⟨X, 3, none⟩) := (hd 33 (by kernel_rfl)).2
            rw [d33]
            clear d33
            clear hd
            exact GH.st_load _ (by rfl) rfl rfl (((HX7.out.below hb.below HX7.out.lt)).cell 3) (by kernel_rfl)
          | 35, _, hd =>
            simp only [GH.mkL, List.getD_cons_succ, List.getD_cons_zero]
            have d30 : S 30 = .bool false := (hd 30 (by kernel_rfl)).2
            rw [d30]
            clear d30
            have d32 : S 32 = .bool cl2 := (hd 32 (by kernel_rfl)).2
            rw [d32]
            clear d32
            have d34 : S 34 = .bool cl2 := (hd 34 (by kernel_rfl)).2
            rw [d34]
            clear d34
            clear hd
            refine GH.st_eq (by rfl) ?_
            go_simp
            (try simp only [bne_self_eq_false])
            (try with_reducible rfl)
          | 36, _, hd =>
            simp only [GH.mkL, List.getD_cons_succ, List.getD_cons_zero]
            have d30 : S 30 = .bool false := (hd 30 (by kernel_rfl)).2
            rw [d30]
            clear d30
            have d35 : S 35 = .bool false := (hd 35 (by kernel_rfl)).2
            rw [d35]
            clear d35
            clear hd
            refine GH.st_eq (by rfl) ?_
            go_simp
            (try simp only [bne_self_eq_false])
            (try with_reducible rfl)
          | 37, _, hd =>
            simp only [GH.mkL, List.getD_cons_succ, List.getD_cons_zero]
            have d32 : S 32 = .bool cl2 := (hd 32 (by kernel_rfl)).2
            rw [d32]
            clear d32
            have d36 : S 36 = .bool false := (hd 36 (by kernel_rfl)).2
            rw [d36]
            clear d36
            clear hd
            refine GH.st_eq (by rfl) ?_
            go_simp
            (try with_reducible rfl)
          | 38, _, hd =>
            simp only [GH.mkL, List.getD_cons_succ, List.getD_cons_zero]
            have d37 : S 37 = .bool false := (hd 37 (by kernel_rfl)).2
            rw [d37]
            clear d37
            clear hd
            refine GH.st_eq (by rfl) ?_
            go_simp
            (try with_reducible rfl)
          | 39, _, hd =>
            simp only [GH.mkL, List.getD_cons_succ, List.getD_cons_zero]
            have d37 : S 37 = .bool false := (hd 37 (by kernel_rfl)).2
            rw [d37]
            clear d37
            have d38 : S 38 = .pointer (some ⟨o, 0, none⟩) := (hd 38 (by kernel_rfl)).2
            rw [d38]
            clear d38
            clear hd
            refine GH.st_eq (by rfl) ?_
            go_simp
            (try with_reducible rfl)
          | 40, _, hd =>
            simp only [GH.mkL, List.getD_cons_succ, List.getD_cons_zero]
            have d37 : S 37 = .bool false := (hd 37 (by kernel_rfl)).2
            rw [d37]
            clear d37
            have d39 : S 39 = .pointer (some ⟨o, 0, none⟩) := (hd 39 (by kernel_rfl)).2
            rw [d39]
            clear d39
            clear hd
            refine GH.st_eq (by rfl) ?_
            go_simp
            (try with_reducible rfl)
          | 41, _, hd =>
            simp only [GH.mkL, List.getD_cons_succ, List.getD_cons_zero]
            have d37 : S 37 = .bool false := (hd 37 (by kernel_rfl)).2
            rw [d37]
            clear d37
            have d40 : S 40 = .pointer (some ⟨o, 0, none⟩) := (hd 40 (by kernel_rfl)).2
            rw [d40]
            clear d40
            clear hd
            exact GH.st_load _ (by rfl) rfl rfl ((((HU7.out.into hb.below).blk)).cell 0) (by kernel_rfl)
          | 42, _, hd =>
            simp only [GH.mkL, List.getD_cons_succ, List.getD_cons_zero]
            have d37 : S 37 = .bool false := (hd 37 (by kernel_rfl)).2
            rw [d37]
            clear d37
            have d41 : S 41 = .pointer (some ⟨g, 0, none⟩) := (hd 41 (by kernel_rfl)).2
            rw [d41]
            clear d41
            clear hd
            refine GH.st_call (by rfl) hb.below.size (by go_simp) ((CLEN.out w' (HU7.out.into hb.below)).mono ?_)
            rintro e w9 ⟨rfl, hb9⟩
            exact ⟨_, rfl, hb9, rfl⟩
          | 43, _, hd =>
            simp only [GH.mkL, List.getD_cons_succ, List.getD_cons_zero]
            have d37 : S 37 = .bool false := (hd 37 (by kernel_rfl)).2
            rw [d37]
            clear d37
            clear hd
            refine GH.st_eq (by rfl) ?_
            go_simp
            (try with_reducible rfl)
          | 44, _, hd =>
            simp only [GH.mkL, List.getD_cons_succ, List.getD_cons_zero]
            have d37 : S 37 = .bool false := (hd 37 (by kernel_rfl)).2
            rw [d37]
            clear d37
            have d43 : S 43 = .pointer (some ⟨X, 0, none⟩) := (hd 43 (by kernel_rfl)).2
            rw [d43]
            clear d43
            clear hd
            exact GH.st_load _ (by rfl) rfl rfl (((HX7.out.below hb.below HX7.out.lt)).cell 0) (by kernel_rfl)
          | 45, _, hd =>
            simp only [GH.mkL, List.getD_cons_succ, List.getD_cons_zero]
            have d37 : S 37 = .bool false := (hd 37 (by kernel_rfl)).2
            rw [d37]
            clear d37
            have d44 : S 44 = .slice A2 n2 c2 := (hd 44 (by kernel_rfl)).2
            rw [d44]
            clear d44
            clear hd
            refine GH.st_eq (by rfl) ?_
            go_simp
            (try with_reducible rfl)
          | 46, _, hd =>
            simp only [GH.mkL, List.getD_cons_succ, List.getD_cons_zero]
            have d37 : S 37 = .bool false := (hd 37 (by kernel_rfl)).2
            rw [d37]
            clear d37
            have d42 : S 42 = .int .i64 (n2 : Int) := (hd 42 (by kernel_rfl)).2
            rw [d42]
            clear d42
            have d45 : S 45 = .int .i64 (n2 : Nat) := (hd 45 (by kernel_rfl)).2
            rw [d45]
            clear d45
            clear hd
            refine GH.st_eq (by rfl) ?_
            go_simp
            (try simp only [bne_self_eq_false])
            (try with_reducible rfl)
          | 47, _, hd =>
            simp only [GH.mkL, List.getD_cons_succ, List.getD_cons_zero]
            have d37 : S 37 = .bool false := (hd 37 (by kernel_rfl)).2
            rw [d37]
            clear d37
            have d46 : S 46 = .bool false := (hd 46 (by kernel_rfl)).2
            rw [d46]
            clear d46
            clear hd
            refine GH.st_eq (by rfl) ?_
            go_simp
            (try simp only [bne_self_eq_false])
            (try with_reducible rfl)
          | 48, _, hd =>
            simp only [GH.mkL, List.getD_cons_succ, List.getD_cons_zero]
            have d42 : S 42 = .int .i64 (n2 : Int) := (hd 42 (by kernel_rfl)).2
            rw [d42]
            clear d42
            have d47 : S 47 = .bool false := (hd 47 (by kernel_rfl)).2
            rw [d47]
            clear d47
            clear hd
            refine GH.st_eq (by rfl) ?_
            go_simp
            (try with_reducible rfl)
          | 49, _, hd =>
            simp only [GH.mkL, List.getD_cons_succ, List.getD_cons_zero]
            have d48 : S 48 = .bool false := (hd 48 (by kernel_rfl)).2
            rw [d48]
            clear d48
            clear hd
            refine GH.st_eq (by rfl) ?_
            go_simp
            (try with_reducible rfl)
          | 50, _, hd =>
            simp only [GH.mkL, List.getD_cons_succ, List.getD_cons_zero]
            have d48 : S 48 = .bool false := (hd 48 (by kernel_rfl)).2
            rw [d48]
            clear d48
            have d49 : S 49 = .pointer (some ⟨o, 0, none⟩) := (hd 49 (by kernel_rfl)).2
            rw [d49]
            clear d49
            clear hd
            refine GH.st_eq (by rfl) ?_
            go_simp
            (try with_reducible rfl)
          | 51, _, hd =>
            simp only [GH.mkL, List.getD_cons_succ, List.getD_cons_zero]
            have d48 : S 48 = .bool false := (hd 48 (by kernel_rfl)).2
            rw [d48]
            clear d48
            have d50 : S 50 = .pointer (some ⟨o, 0, none⟩) := (hd 50 (by kernel_rfl)).2
            rw [d50]
            clear d50
            clear hd
            refine GH.st_eq (by rfl) ?_
            go_simp
            (try with_reducible rfl)
          | 52, _, hd =>
            simp only [GH.mkL, List.getD_cons_succ, List.getD_cons_zero]
            have d48 : S 48 = .bool false := (hd 48 (by kernel_rfl)).2
            rw [d48]
            clear d48
            have d51 : S 51 = .pointer (some ⟨o, 0, none⟩) := (hd 51 (by kernel_rfl)).2
            rw [d51]
            clear d51
            clear hd
            exact GH.st_load _ (by rfl) rfl rfl ((((HU7.out.into hb.below).blk)).cell 0) (by kernel_rfl)
          | 53, _, hd =>
            simp only [GH.mkL, List.getD_cons_succ, List.getD_cons_zero]
            have d48 : S 48 = .bool false := (hd 48 (by kernel_rfl)).2
            rw [d48]
            clear d48
            have d52 : S 52 = .pointer (some ⟨g, 0, none⟩) := (hd 52 (by kernel_rfl)).2
            rw [d52]
            clear d52
            clear hd
            refine GH.st_call (by rfl) hb.below.size (by go_simp) ((CFREE.out w' (HU7.out.into hb.below)).mono ?_)
            rintro e w9 ⟨rfl, hb9⟩
            exact ⟨_, rfl, hb9, rfl⟩
          | 54, _, hd =>
            simp only [GH.mkL, List.getD_cons_succ, List.getD_cons_zero]
            have d48 : S 48 = .bool false := (hd 48 (by kernel_rfl)).2
            rw [d48]
            clear d48
            clear hd
            refine GH.st_eq (by rfl) ?_
            go_simp
            (try with_reducible rfl)
          | 55, _, hd =>
            simp only [GH.mkL, List.getD_cons_succ, List.getD_cons_zero]
            have d48 : S 48 = .bool false := (hd 48 (by kernel_rfl)).2
            rw [d48]
            clear d48
            clear hd
            refine GH.st_eq (by rfl) ?_
            go_simp
            (try with_reducible rfl)
          | 56, _, hd =>
            simp only [GH.mkL, List.getD_cons_succ, List.getD_cons_zero]
            have d48 : S 48 = .bool false := (hd 48 (by kernel_rfl)).2
            rw [d48]
            clear d48
            have d55 : S 55 = .pointer (some ⟨X, 0, none⟩) := (hd 55 (by kernel_rfl)).2
            rw [d55]
            clear d55
            clear hd
            exact GH.st_load _ (by rfl) rfl rfl (((HX7.out.below hb.below HX7.out.lt)).cell 0) (by kernel_rfl)
          | 57, _, hd =>
            simp only [GH.mkL, List.getD_cons_succ, List.getD_cons_zero]
            have d48 : S 48 = .bool false := (hd 48 (by kernel_rfl)).2
            rw [d48]
            clear d48
            have d56 : S 56 = .slice A2 n2 c2 := (hd 56 (by kernel_rfl)).2
            rw [d56]
            clear d56
            clear hd
            refine GH.st_eq (by rfl) ?_
            go_simp
            (try with_reducible rfl)
          | 58, _, hd =>
            simp only [GH.mkL, List.getD_cons_succ, List.getD_cons_zero]
            have d48 : S 48 = .bool false := (hd 48 (by kernel_rfl)).2
            rw [d48]
            clear d48
            have d54 : S 54 = .int .i64 (z : Int) := (hd 54 (by kernel_rfl)).2
            rw [d54]
            clear d54
            have d57 : S 57 = .int .i64 (n2 : Nat) := (hd 57 (by kernel_rfl)).2
            rw [d57]
            clear d57
            clear hd
            refine GH.st_eq (by rfl) ?_
            go_simp
            (try simp only [hfr, hfw])
            (try with_reducible rfl)
          | 59, _, hd =>
            simp only [GH.mkL, List.getD_cons_succ, List.getD_cons_zero]
            have d48 : S 48 = .bool false := (hd 48 (by kernel_rfl)).2
            rw [d48]
            clear d48
            have d53 : S 53 = .int .i64 (fr : Int) := (hd 53 (by kernel_rfl)).2
            rw [d53]
            clear d53
            have d58 : S 58 = .int .i64 (fr : Int) := (hd 58 (by kernel_rfl)).2
            rw [d58]
            clear d58
            clear hd
            refine GH.st_eq (by rfl) ?_
            go_simp
            (try simp only [bne_self_eq_false])
            (try with_reducible rfl)
          | 60, _, hd =>
            simp only [GH.mkL, List.getD_cons_succ, List.getD_cons_zero]
            have d48 : S 48 = .bool false := (hd 48 (by kernel_rfl)).2
            rw [d48]
            clear d48
            have d59 : S 59 = .bool false := (hd 59 (by kernel_rfl)).2
            rw [d59]
            clear d59
            clear hd
            refine GH.st_eq (by rfl) ?_
            go_simp
            (try simp only [bne_self_eq_false])
            (try with_reducible rfl)
          | nx + 61, hjx, _ => omega
        intro S w' hb hG
        simp only [GH.mkL, List.drop_succ_cons, List.drop_zero]
        have d60 : S 60 = .bool false := hG 60 (by omega)
        rw [d60]
        clear d60
        clear hG
        have HB8 := Sh.mk (BB.out.trans (hb.below.mono (by have := HX5.out; have := HW3.out; omega)))
        have HU8 := Sh.mk (HU7.out.into hb.below)
        have HN8 := Sh.mk (HN7.out.below hb.below)
        have HX8 := Sh.mk (HX7.out.below hb.below HX7.out.lt)
        replace HX5 := Sh.mk (show X + 1 ≤ w'.heap.size by have := HX5.out; have := hb.below.size; omega)
        clear hb HU7 HN7 HX7 BB CBASE CEND CTOP CDONE CCLOSED CLEN CFREE RE2 RT2
        refine wpList_nil ?_
        go_wp2_with fail
        go_roundw
        case rel => exact ⟨i + 1, base2, cl2, dn2, bs2, A2, n2, c2, by omega, by go_num, HU8, HN8, HX8, HB8, HX5⟩
        case measure => simp [intOf]; omega
      · obtain rfl : i = n := by omega
        go_wp2_with fail
        refine (alive17 wr).mono ?_
        rintro e w6 ⟨rfl, hb6⟩
        go_wp2_with fail
        go_ret
        exact ⟨rfl, BB.out.trans (hb6.mono BB.out.size)⟩
end Go.Proofs.Ytmkjclgdiikjdaa
