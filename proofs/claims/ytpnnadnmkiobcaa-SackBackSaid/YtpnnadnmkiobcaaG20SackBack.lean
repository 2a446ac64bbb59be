/- Layer 31 by the document: Parse. -/
import Derived.Test.YtpnnadnmkiobcaaG16SackBack
import Derived.Test.YtpnnadnmkiobcaaG17SackBack
import Derived.Test.YtpnnadnmkiobcaaG6SackBack
import Derived.Test.YtpnnadnmkiobcaaG18SackBack
import Derived.Test.YtpnnadnmkiobcaaG19SackBack
import Derived.Deep.Cut

namespace Go.Proofs.Ytpnnadnmkiobcaa
open Go.RowKit
set_option linter.unusedVariables false
set_option linter.unusedSimpArgs false
theorem cut44 {l : List Nat} (h : 8 ≤ l.length) : cut l [4, 4] = some ([ub (l.take 4), ub ((l.drop 4).take 4)], l.drop 8) := by
  have h1 : 4 ≤ l.length := by omega
  have h2 : 4 ≤ l.length - 4 := by omega
  simp [cut, okS, h1, h2]
/-- So many numbers on, going round. -/
def nx (a : Int) (k : Nat) : Int := (a + (k : Int)) % 4294967296
theorem nx_u32 (a : Int) (k : Nat) : U32 (nx a k) := by unfold nx U32; omega
theorem nx_wrap (a : Int) (k : Nat) : IntKind.u32.wrap (a + (k : Int)) = nx a k := by unfold nx; rw [IntKind.wrap_u32]
/-- The piece that eight bytes say. -/
def pcB (a : Int) (b : List Nat) : Bk := (nx a (ub (b.take 4)), nx (nx a (ub (b.take 4))) (ub ((b.drop 4).take 4)))
def parB : Nat → Int → List Nat → List Bk
  | 0, _, _ => []
  | m + 1, a, b => pcB a b :: parB m (pcB a b).2 (b.drop 8)
theorem parB_len : ∀ (m : Nat) (a : Int) (b : List Nat), (parB m a b).length = m
  | 0, _, _ => rfl
  | m + 1, a, b => by simp [parB, parB_len m]
theorem parB_snoc : ∀ (i : Nat) (a : Int) (b : List Nat), parB (i + 1) a b = parB i a b ++ [pcB (bkLast a (parB i a b)) (b.drop (8 * i))]
  | 0, a, b => by simp [parB, bkLast]
  | i + 1, a, b => by
    rw [parB, parB_snoc i, parB]
    simp only [List.cons_append, bkLast, List.drop_drop]
    rw [show 8 + 8 * i = 8 * (i + 1) by omega]
theorem parB_u32 : ∀ (m : Nat) (a : Int) (b : List Nat), U32s (parB m a b)
  | 0, _, _ => by intro p hp; cases hp
  | m + 1, a, b => by
    intro p hp
    rcases List.mem_cons.1 hp with rfl | hp
    · exact ⟨nx_u32 _ _, nx_u32 _ _⟩
    · exact parB_u32 m _ _ p hp
theorem bkLast_u32 {a : Int} (ha : U32 a) : ∀ {l : List Bk}, U32s l → U32 (bkLast a l)
  | [], _ => ha
  | p :: l, h => by
    show U32 (bkLast p.2 l)
    exact bkLast_u32 (h p (by simp)).2 fun q hq => h q (by simp [hq])
/-- May these bytes be read as pieces? -/
def SPOk (wait kind : Int) (n : Nat) (lb : List Nat) : Prop := kind = 9 ∧ n ≠ 0 ∧ n % 8 = 0 ∧ n ≤ 32 ∧ bkR wait (parB (n / 8) wait lb)
def SPPost (wait kind : Int) (n : Nat) (lb : List Nat) (B : Nat) (w' : World) (e : Ending) : Prop :=
  (SPOk wait kind n lb ∧ ∃ v, e = .returned (.tuple #[v, .bool true]) ∧ BO w' B v (parB (n / 8) wait lb)) ∨ (¬ SPOk wait kind n lb ∧ e = .returned (.tuple #[.slice none 0 0, .bool false]))
theorem SPPost.no {wait kind : Int} {n B : Nat} {lb : List Nat} {w' : World} (h : ¬ SPOk wait kind n lb) : SPPost wait kind n lb B w' (.returned (.tuple #[.slice none 0 0, .bool false])) := .inr ⟨h, rfl⟩
set_option maxRecDepth 20000 in
set_option maxHeartbeats 4000000 in
theorem rsparse_any (wait kind : Int) (A : Option Addr) (n c : Nat) (lb : List Nat) (w : World) (h : Rd w w.heap.size 1 A n (ns .u8 lb)) (hnc : n ≤ c) (hb : ∀ x ∈ lb, x < 256) (hn : n ≤ 1000) (hw : U32 wait) :
    Calls Try.prog 9 #[.int .u32 wait, .agg #[.int .u8 kind, .slice A n c]] w fun e w' => SPPost wait kind n lb w.heap.size w' e ∧ Below w.heap.size w w' := by
  have HR := Lib.hid h
  have HB := Lib.hid hb
  have HW := Lib.hid hw
  have HL := Lib.hid h.natLen
  have k0 := Blk.new w 26 #[.int .u8 kind, .slice A n c]
  have hA0 : Below w.heap.size w (w.alloc (.cells #[.int .u8 kind, .slice A n c] 26)) := (Below.refl _ _).alloc (Nat.le_refl _) _
  have K0 := Lib.hid k0
  have B0 := Lib.hid hA0
  clear h hb hw k0 hA0
  go_enter Try.func9, Try.ntmps9
  go_upto_region 1 with fail
  obtain ⟨g0, hg0⟩ : ∃ x, x = w.heap.size := ⟨_, rfl⟩
  have HG0 := Lib.hid hg0
  generalize (w.alloc (.cells #[.int .u8 kind, .slice A n c] 26)) = w2 at K0 B0 ⊢
  rw [← hg0] at K0 B0 ⊢
  clear hg0
  obtain ⟨c0, c1⟩ := ptc2 K0.out
  by_cases h9 : kind = 9
  case neg =>
    have HN := Lib.hid (show ¬ SPOk wait kind n lb from fun h => h9 h.1)
    go_wp2_with fail
    go_ret2
    exact ⟨by rw [← HG0.out]; exact SPPost.no HN.out, by rw [← HG0.out]; exact B0.out⟩
  subst h9
  by_cases hn0 : n = 0
  · have HN := Lib.hid (show ¬ SPOk wait 9 n lb from fun h => h.2.1 hn0)
    have hn0i : (n : Int) = 0 := by omega
    go_wp2_with fail
    go_ret2
    exact ⟨by rw [← HG0.out]; exact SPPost.no HN.out, by rw [← HG0.out]; exact B0.out⟩
  have hn0i : ¬ (n : Int) = 0 := by omega
  by_cases hn8 : n % 8 = 0
  case neg =>
    have HN := Lib.hid (show ¬ SPOk wait 9 n lb from fun h => hn8 h.2.2.1)
    have hn8i : ¬ (n : Int) % 8 = 0 := by omega
    go_wp2_with fail
    go_ret2
    exact ⟨by rw [← HG0.out]; exact SPPost.no HN.out, by rw [← HG0.out]; exact B0.out⟩
  have hn8i : (n : Int) % 8 = 0 := by omega
  by_cases hn32 : 32 < n
  · have HN := Lib.hid (show ¬ SPOk wait 9 n lb from fun h => by have := h.2.2.2.1; omega)
    have hn32i : (32 : Int) < (n : Int) := by omega
    go_wp2_with fail
    go_ret2
    exact ⟨by rw [← HG0.out]; exact SPPost.no HN.out, by rw [← HG0.out]; exact B0.out⟩
  have hn32i : ¬ (32 : Int) < (n : Int) := by omega
  go_wp2_with fail
  go_loopw [6, 7, 8] (fun ov lv iv wr => ∃ (i m : Nat) (a : Int), m = 8 * i ∧ m ≤ n ∧ iv = .int .i64 (m : Nat) ∧ lv = .int .u32 a ∧ Hid (a = bkLast wait (parB i wait lb)) ∧ Hid (BO wr g0 ov (parB i wait lb)) ∧ Hid (Blk wr g0 26 #[.int .u8 9, .slice A n c]) ∧ Hid (Below g0 w wr)) (fun _ _ iv _ => n - (intOf iv).toNat)
  case atStart => exact ⟨0, 0, wait, rfl, Nat.zero_le _, rfl, rfl, Lib.hid rfl, Lib.hid (BO.nil _ _), K0, B0⟩
  case round =>
    clear K0 B0
    obtain ⟨i, m, a, hmi, hm, rfl, rfl, HA, HO, K0, BB⟩ := hrel
    have HMI := Lib.hid hmi
    obtain ⟨c0, c1⟩ := ptc2 K0.out
    have hi4 : i ≤ 4 := by omega
    obtain ⟨A6, c6, rfl, hnc6, hcm6, hr6⟩ := own_form HO.out
    clear hr6
    rw [parB_len] at HO hnc6 ⊢
    by_cases hlt : m < n
    · have hlt' : (m : Int) < (n : Int) := by omega
      have hm8 : m + 8 ≤ n := by omega
      clear hmi
      obtain ⟨d, hd⟩ : ∃ d, d = n - m := ⟨_, rfl⟩
      obtain ⟨e2, he2⟩ : ∃ e, e = c - m := ⟨_, rfl⟩
      have hu : Try.prog.underlying 24 = some (.slice (Try.prog.elem 24)) := by unfold Program.elem; rw [Try.underlying24]
      have hc1 : ∀ w, (Instr.slice 24 (.slice A n c) (some (.int .i64 (m : Nat))) none none).run Try.prog w = .ok (.slice (cutA A c m 1) d e2) w := by rw [hd, he2]; exact run_cut_l pel8 A n c m hm
      have hc2 : ∀ w, (Instr.sliceAt 24 (.slice A n c) (some (.int .i64 (m : Nat))) none none).run Try.prog w = .ok (.slice (cutA A c m 1) d e2) w := fun w => (run_sliceAt_slice w _ _ _ _ _ hu).trans (hc1 w)
      have hr1 : Rd wr wr.heap.size 1 (cutA A c m 1) d (ns .u8 (lb.drop m)) := by
        have := (HR.out.into (by rw [← HG0.out]; exact BB.out)).drop (k := m) (cap := c) hm hnc
        rw [Nat.mul_one, ← hd] at this
        simpa [ns, List.map_drop, cutA] using this
      have hlen : (lb.drop m).length = d := by rw [List.length_drop, HL.out, hd]
      have hd8 : 8 ≤ d := by omega
      have hd32 : d ≤ 32 := by omega
      have hde : d ≤ e2 := by omega
      generalize cutA A c m 1 = X at hc1 hc2 hr1
      have hA : Below wr.heap.size wr (wr.alloc (.cells #[.int .i64 4, .int .i64 4] 3)) := (Below.refl _ _).alloc (Nat.le_refl _) _
      have hzs := Zats.lit (w := wr) (e := 3) (k := .i64) (ss := [4, 4]) (n := 2) #[.int .i64 4, .int .i64 4] rfl rfl (by unfold maxLen; omega)
      have HALL := Lib.hid (rall2_any X (some ⟨wr.heap.size, 0, none⟩) d 2 e2 2 wr.heap.size (lb.drop m) [4, 4] _ (hr1.below hA) hA.size hzs.rd hde (fun x hx => HB.out x (List.mem_of_mem_drop hx)) (by omega) (by omega) (by omega))
      have hcut := cut44 (l := lb.drop m) (by omega)
      have hf1 := ub_lt 4 ((lb.drop m).take 4) (by rw [List.length_take, hlen]; omega) fun x hx => HB.out x (List.mem_of_mem_drop (List.mem_of_mem_take hx))
      have hf2 := ub_lt 4 (((lb.drop m).drop 4).take 4) (by rw [List.length_take, List.length_drop, hlen]; omega) fun x hx => HB.out x (List.mem_of_mem_drop (List.mem_of_mem_drop (List.mem_of_mem_take hx)))
      have HPC : Hid (pcB a (lb.drop m) = (nx a (ub ((lb.drop m).take 4)), nx (nx a (ub ((lb.drop m).take 4))) (ub (((lb.drop m).drop 4).take 4)))) := Lib.hid rfl
      obtain ⟨f, hf⟩ : ∃ f, f = ub ((lb.drop m).take 4) := ⟨_, rfl⟩
      obtain ⟨t, ht⟩ : ∃ t, t = ub (((lb.drop m).drop 4).take 4) := ⟨_, rfl⟩
      rw [← hf] at hcut hf1 HPC
      rw [← ht] at hcut hf2 HPC
      obtain ⟨x1, hx1⟩ : ∃ x, x = nx a f := ⟨_, rfl⟩
      obtain ⟨x2, hx2⟩ : ∃ x, x = nx x1 t := ⟨_, rfl⟩
      rw [← hx1, ← hx2] at HPC
      have wf : IntKind.u32.wrap (f : Int) = (f : Nat) := by rw [IntKind.wrap_u32]; omega
      have wt : IntKind.u32.wrap (t : Int) = (t : Nat) := by rw [IntKind.wrap_u32]; omega
      have w1 : IntKind.u32.wrap (a + (f : Int)) = x1 := by rw [hx1]; exact nx_wrap a f
      have w2' : IntKind.u32.wrap (x1 + (t : Int)) = x2 := by rw [hx2]; exact nx_wrap x1 t
      have HCUT := Lib.hid hcut
      have HSN := Lib.hid (parB_snoc i wait lb)
      rw [← HMI.out, ← HA.out, HPC.out] at HSN
      have W1 := Lib.hid w1; have W2 := Lib.hid w2'; have WF := Lib.hid wf; have WT0 := Lib.hid wt
      have HK0 := Lib.hid (K0.out.below hA K0.out.lt)
      have HO1 := Lib.hid (HO.out.below hA)
      have HB1 := Lib.hid (BB.out.trans (hA.mono (Nat.le_of_lt K0.out.lt)))
      clear hd he2 hu hr1 hlen hzs hcut hf hx1 hx2 w1 w2' wf wt hA ht
      go_wp2_with fail
      refine HALL.out.mono ?_
      rintro e w4 ⟨hb4, hres⟩
      rw [HCUT.out] at hres
      rcases hres with ⟨xs, rest, v, A1, n1, c1', hcut, rfl, hN, _, _, _⟩ | ⟨hcut, _⟩
      rotate_left
      · cases hcut
      injection hcut with hcut
      injection hcut with e1 _
      subst e1
      have K4 := Lib.hid (HK0.out.below hb4 HK0.out.lt)
      have O4 := Lib.hid (HO1.out.below hb4)
      have B4 := Lib.hid (HB1.out.trans (hb4.mono (Nat.le_of_lt HK0.out.lt)))
      obtain ⟨A4, n4, c4, rfl, hnc4, hl4, hr4⟩ := hN.out
      obtain rfl : n4 = 2 := hl4.out.symm
      obtain ⟨b4, o4, y1, rfl, hb4lt, q0, hy1⟩ := hr4.out.nth (i := 0) (by omega)
      obtain ⟨b5, o5, y2, e5, _, q1, hy2⟩ := hr4.out.nth (i := 1) (by omega)
      injection e5 with e5
      injection e5 with e5 e6 _
      subst e5 e6
      obtain rfl : f = y1 := Option.some.inj hy1.out
      obtain rfl : t = y2 := Option.some.inj hy2.out
      simp only [Nat.add_zero] at q0
      clear hN hr4 hy1 hy2 hb4 HALL c0 c1 hl4 HK0 HO1 HB1
      have wf := WF.out
      have wt := WT0.out
      have w1 := W1.out
      go_upto_region 10 with fail
      have hA5 : Below w4.heap.size w4 (w4.alloc (.cells #[.int .u32 x1, .int .u32 0] 51)) := (Below.refl _ _).alloc (Nat.le_refl _) _
      have K5 := Lib.hid (K4.out.below hA5 K4.out.lt)
      have O5 := Lib.hid (O4.out.below hA5)
      have B5 := Lib.hid (B4.out.trans (hA5.mono (Nat.le_of_lt K4.out.lt)))
      have X5 := Lib.hid (Blk.new w4 51 #[.int .u32 x1, .int .u32 0])
      have p1 := (hA5.cell (p := ⟨b4, o4 + 1, none⟩) hb4lt).trans q1
      obtain ⟨xb, hxb⟩ : ∃ x, x = w4.heap.size := ⟨_, rfl⟩
      have hgx : g0 ≠ xb := by rw [hxb]; exact Nat.ne_of_lt K4.out.lt
      have hgx2 : g0 ≤ xb := by rw [hxb]; exact Nat.le_of_lt K4.out.lt
      have HLT : Hid (∀ k, (Value.slice A6 i c6).ownBlock = some k → k < xb) := Lib.hid fun k hk => by rw [hxb]; exact (O4.out.lt k hk).2
      rw [← hxb] at X5 ⊢
      clear hA5 K4 O4 B4 q0 q1 hxb
      generalize (w4.alloc (.cells #[.int .u32 x1, .int .u32 0] 51)) = w5 at K5 O5 B5 X5 p1 ⊢
      have w2' := W2.out
      refine wp_ord [(0, .pure), (1, .read), (2, .pure), (3, .pure), (4, .read), (5, .pure), (6, .pure), (7, .pure), (8, .sole)] [8] (by kernel_rfl) (by kernel_rfl) (fun QQ hQ wd hwd => ?_); simp only [List.map_cons, List.map_nil, List.getD_cons_zero, List.getD_cons_succ]
      have hD : Below w5.heap.size w5 wd := by rw [hwd.out]; exact (Below.refl _ _).drew
      have Kd := Lib.hid (K5.out.below hD K5.out.lt)
      have Od := Lib.hid (O5.out.below hD)
      have Bd := Lib.hid (B5.out.trans (hD.mono (Nat.le_of_lt K5.out.lt)))
      have Xd := Lib.hid (X5.out.below hD X5.out.lt)
      have pd : wd.cell? ⟨b4, o4 + 1, none⟩ = some (.int .u64 (t : Nat)) := by rw [hwd.out]; exact p1
      clear hD hwd K5 O5 B5 X5 p1
      obtain ⟨z0, z1⟩ := ptc2 Xd.out
      have fz := Xd.out.frozen 1
      (refine o_pure (v := ?_) (by rfl) (fun w' => ?_) ?_; rotate_left; (focus (go_simp; (try with_reducible rfl); (try (rw [if_pos (by omega)]; (try with_reducible rfl))))); (try simp only [Act.put, List.setIfInBounds_toArray, List.set_cons_zero, List.set_cons_succ]))
      (refine o_load _ (by rfl) rfl rfl (by assumption) (by kernel_rfl) ?_; simp only [Act.put, List.setIfInBounds_toArray, List.set_cons_zero, List.set_cons_succ])
      (refine o_pure (v := ?_) (by rfl) (fun w' => ?_) ?_; rotate_left; (focus (go_simp; (try with_reducible rfl); (try (rw [if_pos (by omega)]; (try with_reducible rfl))))); (try simp only [Act.put, List.setIfInBounds_toArray, List.set_cons_zero, List.set_cons_succ]))
      (refine o_pure (v := ?_) (by rfl) (fun w' => ?_) ?_; rotate_left; (focus (go_simp; (try with_reducible rfl); (try (rw [if_pos (by omega)]; (try with_reducible rfl))))); (try simp only [Act.put, List.setIfInBounds_toArray, List.set_cons_zero, List.set_cons_succ]))
      (refine o_load _ (by rfl) rfl rfl (by assumption) (by kernel_rfl) ?_; simp only [Act.put, List.setIfInBounds_toArray, List.set_cons_zero, List.set_cons_succ])
      (refine o_pure (v := ?_) (by rfl) (fun w' => ?_) ?_; rotate_left; (focus (go_simp; (try with_reducible rfl); (try (rw [if_pos (by omega)]; (try with_reducible rfl))))); (try simp only [Act.put, List.setIfInBounds_toArray, List.set_cons_zero, List.set_cons_succ]))
      (refine o_pure (v := ?_) (by rfl) (fun w' => ?_) ?_; rotate_left; (focus (go_simp; (try with_reducible rfl); (try (rw [if_pos (by omega)]; (try with_reducible rfl))))); (try simp only [Act.put, List.setIfInBounds_toArray, List.set_cons_zero, List.set_cons_succ]))
      (refine o_pure (v := ?_) (by rfl) (fun w' => ?_) ?_; rotate_left; (focus (go_simp; (try with_reducible rfl); (try (rw [if_pos (by omega)]; (try with_reducible rfl))))); (try simp only [Act.put, List.setIfInBounds_toArray, List.set_cons_zero, List.set_cons_succ]))
      refine o_sole (fun K hK => ?_)
      go_wp2_with fail
      refine hK _ _ (fun h => by cases h) ?_; clear hK K
      refine o_nil (hQ.out _ _ ?_); clear hQ QQ
      have hs6 : Solo xb wd (wd.setCell ⟨xb, 1, none⟩ (.int .u32 x2)) := Solo.refl.setCell 1 _
      have X6 := Lib.hid (show Blk (wd.setCell ⟨xb, 1, none⟩ (.int .u32 x2)) xb 51 #[.int .u32 x1, .int .u32 x2] from Xd.out.set 1 (.int .u32 x2))
      have K6 := Lib.hid (hs6.blk Kd.out hgx)
      have O6 : Hid ((wd.setCell ⟨xb, 1, none⟩ (.int .u32 x2)).ownsRow g0 51 2 (.slice A6 i c6) i (bks (parB i wait lb))) := Lib.hid (by
        have := own_kept Od.out fun k hk => hs6.2.2 k fun e => by have := HLT.out k hk; omega
        rw [parB_len] at this
        exact this)
      have B6 := Lib.hid (Bd.out.trans (hs6.1.mono hgx2))
      clear hs6 Kd Od Bd Xd pd z0 z1 fz wf wt w1 w2'
      generalize wd.setCell ⟨xb, 1, none⟩ (.int .u32 x2) = w6 at X6 K6 O6 B6 ⊢
      obtain ⟨z0, z1⟩ := ptc2 X6.out
      have hsz : g0 ≤ w6.heap.size := Nat.le_of_lt K6.out.lt
      have hroom2 := room_ge (x := (i + 1) * 8) (by omega)
      have HONE := Lib.hid (show ∀ u ∈ (#[Value.int .u32 x1, .int .u32 x2] : Array Value).toList, u.oneCell' = true from bks_one [(x1, x2)])
      go_wp2_with (at_builtin; go_must (refine appZ relB _ rfl HONE.out rfl _ _ rfl rfl O6.out rfl rfl hroom2 hsz ?_))
      intro v7 w7 ho7 hg7 hb7
      have K7 := Lib.hid (K6.out.far2 O6.out (by decide) hg7)
      have X7 : Hid (Blk w7 xb 51 #[.int .u32 x1, .int .u32 x2]) := Lib.hid ((hg7.block xb X6.out.lt fun e => by have := HLT.out xb e.symm; omega).trans X6.out)
      have O7 : Hid (BO w7 g0 v7 (parB (i + 1) wait lb)) := Lib.hid (by unfold BO; rw [parB_len, HSN.out, bks_append]; exact ho7)
      have B7 := Lib.hid (B6.out.trans hb7)
      obtain ⟨A8, c8, rfl, _⟩ := own_form O7.out
      clear ho7 hg7 hb7 X6 K6 O6 B6 z0 z1 hsz hroom2
      obtain ⟨z0, z1⟩ := ptc2 X7.out
      have HA7 : Hid (x2 = bkLast wait (parB (i + 1) wait lb)) := Lib.hid (by rw [HSN.out, bkLast_snoc])
      go_wp2_with fail
      go_roundw
      case rel => exact ⟨i + 1, m + 8, x2, by rw [HMI.out]; omega, by omega, by go_num, rfl, HA7, O7, K7, B7⟩
      case measure => simp [intOf]; omega
    · have hin : n / 8 = i := by omega
      obtain rfl : m = n := by omega
      clear hlt hm
      have HIN := Lib.hid hin
      have HO2 : Hid (BO wr g0 (.slice A6 i c6) (parB i wait lb)) := Lib.hid (by have := HO.out; exact this)
      obtain ⟨A7, c7, e7, hz8, hz9, hrd⟩ := own_form HO2.out
      clear hz8 hz9
      injection e7 with e7 e7b e8
      clear e7b
      subst e7 e8
      rw [parB_len] at hrd
      have HSR := Lib.hid (srright_any wait A6 i c6 (parB i wait lb) wr hrd (by omega) (parB_u32 _ _ _) HW.out)
      have HOK : Hid (SPOk wait 9 m lb ↔ bkR wait (parB i wait lb)) := Lib.hid ⟨fun h => by have := h.2.2.2.2; rw [HIN.out] at this; exact this, fun h => ⟨rfl, hn0, hn8, by omega, by rw [HIN.out]; exact h⟩⟩
      have HFIN : Hid (∀ w', BO w' g0 (.slice A6 i c6) (parB i wait lb) → bkR wait (parB i wait lb) → SPPost wait 9 m lb g0 w' (.returned (.tuple #[.slice A6 i c6, .bool true]))) := Lib.hid fun w' h1 h2 => .inl ⟨HOK.out.2 h2, _, rfl, by rw [HIN.out]; exact h1⟩
      clear hrd hin hmi hn8i hn8 hn0i hn0 hn32i hn32 HA HMI HL HR HO HIN
      go_wp2_with fail
      refine HSR.out.mono ?_
      rintro e w9 ⟨⟨b, rfl, hbb⟩, hb9⟩
      have B9 := Lib.hid (BB.out.trans (hb9.mono (Nat.le_of_lt K0.out.lt)))
      have O9 := Lib.hid (HO2.out.below hb9)
      have HBB := Lib.hid hbb
      clear hb9 hbb HSR c0 c1
      cases b with
      | false =>
        have HN := Lib.hid (show ¬ SPOk wait 9 m lb from fun h => by have := HBB.out.2 (HOK.out.1 h); cases this)
        go_wp2_with fail
        go_ret2
        exact ⟨by rw [← HG0.out]; exact SPPost.no HN.out, by rw [← HG0.out]; exact B9.out⟩
      | true =>
        have HY := Lib.hid (HFIN.out w9 O9.out (HBB.out.1 rfl))
        go_wp2_with fail
        go_ret2
        exact ⟨by rw [← HG0.out]; exact HY.out, by rw [← HG0.out]; exact B9.out⟩
end Go.Proofs.Ytpnnadnmkiobcaa
