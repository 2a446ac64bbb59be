/- Package sched: the paths that fit, in their order. -/
import Derived.Test.YtcfeojobkpbohaaSc6
import Derived.Test.YtcfeojobkpbohaaSc7
import Derived.Test.YtcfeojobkpbohaaSz3
namespace Go.Proofs.Ytcfeojobkpbohaa
open Go.RowKit Go.Sort
set_option linter.unusedVariables false
set_option linter.unusedSimpArgs false
set_option maxRecDepth 20000 in
set_option maxHeartbeats 4000000 in
theorem clo_any (b1 b2 : Nat) (pol last : Int) : CL (cfP pol last) b1 b2 pol last := by
  intro w x y h1 h2
  have e9 : cfP pol last x y = orI [cmpI (rkP x) (rkP y), cmpI (k2P pol last x) (k2P pol last y), cmpI x.id y.id] := rfl
  rw [e9]
  unfold Pth.cells
  have P1 := Lib.hid h1
  have P2 := Lib.hid h2
  have K1 := Lib.hid ((Blk.new w 36 #[.int .i64 x.id, .bool x.up, .bool x.bk, .bool x.bd, .int .i64 x.room, .int .i64 x.und, .int .i64 x.mean]).alloc (.cells #[.int .i64 y.id, .bool y.up, .bool y.bk, .bool y.bd, .int .i64 y.room, .int .i64 y.und, .int .i64 y.mean] 36))
  have K2 := Lib.hid (Blk.new (w.alloc (.cells #[.int .i64 x.id, .bool x.up, .bool x.bk, .bool x.bd, .int .i64 x.room, .int .i64 x.und, .int .i64 x.mean] 36)) 36 #[.int .i64 y.id, .bool y.up, .bool y.bk, .bool y.bd, .int .i64 y.room, .int .i64 y.und, .int .i64 y.mean])
  have B1 := Lib.hid (((Below.refl w.heap.size w).alloc (Nat.le_refl _) (.cells #[.int .i64 x.id, .bool x.up, .bool x.bk, .bool x.bd, .int .i64 x.room, .int .i64 x.und, .int .i64 x.mean] 36)).alloc (by simp) (.cells #[.int .i64 y.id, .bool y.up, .bool y.bk, .bool y.bd, .int .i64 y.room, .int .i64 y.und, .int .i64 y.mean] 36))
  have hsz : (w.alloc (.cells #[.int .i64 x.id, .bool x.up, .bool x.bk, .bool x.bd, .int .i64 x.room, .int .i64 x.und, .int .i64 x.mean] 36)).heap.size = w.heap.size + 1 := by simp
  have R1 := Lib.hid (rank_any x)
  have R2 := Lib.hid (rank_any y)
  have BP := Lib.hid (byp_any pol last x y)
  have C1 := Lib.hid (cmp_int (rkP x) (rkP y))
  have C3 := Lib.hid (cmp_int x.id y.id)
  clear e9 h1 h2
  generalize rkP x = r1 at *
  generalize rkP y = r2 at *
  generalize cmpI r1 r2 = z1 at *
  generalize cmpI (k2P pol last x) (k2P pol last y) = z2 at *
  generalize cmpI x.id y.id = z3 at *
  generalize hz : orI [z1, z2, z3] = z
  have HZ := Lib.hid hz
  clear hz
  go_enter Try.func22, Try.ntmps22
  go_upto_region 1 with fail
  rw [hsz] at K2
  have P1' := Lib.hid (P1.out.below B1.out P1.out.lt)
  have P2' := Lib.hid (P2.out.below B1.out P2.out.lt)
  clear P1 P2
  generalize ((w.alloc (.cells #[.int .i64 x.id, .bool x.up, .bool x.bk, .bool x.bd, .int .i64 x.room, .int .i64 x.und, .int .i64 x.mean] 36)).alloc (.cells #[.int .i64 y.id, .bool y.up, .bool y.bk, .bool y.bd, .int .i64 y.room, .int .i64 y.und, .int .i64 y.mean] 36)) = w2 at K1 K2 B1 P1' P2' ⊢
  obtain ⟨X, hX⟩ : ∃ X, X = w.heap.size := ⟨_, rfl⟩
  rw [← hX] at K1 K2 ⊢
  have HXX := Sh.mk hX
  clear hX hsz
  refine wp_ord [(0, .read), (2, .read), (5, .read), (6, .read), (7, .read), (8, .read), (10, .pure), (11, .read), (12, .pure), (13, .read), (1, .sole), (3, .sole), (4, .sole), (9, .sole), (14, .sole), (15, .sole), (16, .sole), (17, .pure)] [] (by kernel_rfl) (by kernel_rfl) (fun QQ hQ wd hwd => ?_); simp only [List.map_cons, List.map_nil, List.getD_cons_zero, List.getD_cons_succ]
  have hD : Below w2.heap.size w2 wd := by rw [hwd.out]; exact (Below.refl _ _).drew
  have K1d := Lib.hid (K1.out.below hD K1.out.lt)
  have K2d := Lib.hid (K2.out.below hD K2.out.lt)
  have P1d := Lib.hid (P1'.out.below hD P1'.out.lt)
  have P2d := Lib.hid (P2'.out.below hD P2'.out.lt)
  have Bd := Lib.hid (B1.out.trans (hD.mono B1.out.size))
  have c5 : wd.cell? ⟨b1, 0, none⟩ = some (.int .i64 pol) := by rw [P1d.out.cell]; rfl
  have c6 : wd.cell? ⟨b2, 0, none⟩ = some (.int .i64 last) := by rw [P2d.out.cell]; rfl
  have c11 : wd.cell? ⟨X, 0, none⟩ = some (.int .i64 x.id) := by rw [K1d.out.cell]; rfl
  have c13 : wd.cell? ⟨X + 1, 0, none⟩ = some (.int .i64 y.id) := by rw [K2d.out.cell]; rfl
  clear hD hwd K1 K2 P1' P2' B1
  (refine o_loads _ [.int .i64 x.id, .bool x.up, .bool x.bk, .bool x.bd, .int .i64 x.room, .int .i64 x.und, .int .i64 x.mean] (by rfl) rfl rfl (K1d.out.loads 0 _ (by rfl)) (Nat.succ_pos _) (by kernel_rfl) (by kernel_rfl) ?_; simp only [Act.put, List.setIfInBounds_toArray, List.set_cons_zero, List.set_cons_succ])
  (refine o_loads _ [.int .i64 y.id, .bool y.up, .bool y.bk, .bool y.bd, .int .i64 y.room, .int .i64 y.und, .int .i64 y.mean] (by rfl) rfl rfl (K2d.out.loads 0 _ (by rfl)) (Nat.succ_pos _) (by kernel_rfl) (by kernel_rfl) ?_; simp only [Act.put, List.setIfInBounds_toArray, List.set_cons_zero, List.set_cons_succ])
  (refine o_load _ (by rfl) rfl rfl (by assumption) (by kernel_rfl) ?_; simp only [Act.put, List.setIfInBounds_toArray, List.set_cons_zero, List.set_cons_succ])
  (refine o_load _ (by rfl) rfl rfl (by assumption) (by kernel_rfl) ?_; simp only [Act.put, List.setIfInBounds_toArray, List.set_cons_zero, List.set_cons_succ])
  (refine o_loads _ [.int .i64 x.id, .bool x.up, .bool x.bk, .bool x.bd, .int .i64 x.room, .int .i64 x.und, .int .i64 x.mean] (by rfl) rfl rfl (K1d.out.loads 0 _ (by rfl)) (Nat.succ_pos _) (by kernel_rfl) (by kernel_rfl) ?_; simp only [Act.put, List.setIfInBounds_toArray, List.set_cons_zero, List.set_cons_succ])
  (refine o_loads _ [.int .i64 y.id, .bool y.up, .bool y.bk, .bool y.bd, .int .i64 y.room, .int .i64 y.und, .int .i64 y.mean] (by rfl) rfl rfl (K2d.out.loads 0 _ (by rfl)) (Nat.succ_pos _) (by kernel_rfl) (by kernel_rfl) ?_; simp only [Act.put, List.setIfInBounds_toArray, List.set_cons_zero, List.set_cons_succ])
  (refine o_pure (v := ?_) (by rfl) (fun w' => ?_) ?_; rotate_left; (focus (go_simp; (try with_reducible rfl); (try (rw [if_pos (by omega)]; (try with_reducible rfl))))); (try simp only [Act.put, List.setIfInBounds_toArray, List.set_cons_zero, List.set_cons_succ]))
  (refine o_load _ (by rfl) rfl rfl (by assumption) (by kernel_rfl) ?_; simp only [Act.put, List.setIfInBounds_toArray, List.set_cons_zero, List.set_cons_succ])
  (refine o_pure (v := ?_) (by rfl) (fun w' => ?_) ?_; rotate_left; (focus (go_simp; (try with_reducible rfl); (try (rw [if_pos (by omega)]; (try with_reducible rfl))))); (try simp only [Act.put, List.setIfInBounds_toArray, List.set_cons_zero, List.set_cons_succ]))
  (refine o_load _ (by rfl) rfl rfl (by assumption) (by kernel_rfl) ?_; simp only [Act.put, List.setIfInBounds_toArray, List.set_cons_zero, List.set_cons_succ])
  clear c5 c6 c11 c13 K1d K2d P1d P2d
  refine o_sole (fun K hK => ?_)
  go_wp2_with fail
  refine (R1.out wd).mono ?_
  rintro e w5 ⟨rfl, hb⟩
  go_wp2_with fail
  refine hK _ _ (fun _ => Ext.of hb) ?_; clear hK K
  have B5 := Lib.hid (Bd.out.trans (hb.mono Bd.out.size))
  clear hb Bd
  refine o_sole (fun K hK => ?_)
  go_wp2_with fail
  refine (R2.out w5).mono ?_
  rintro e w6 ⟨rfl, hb⟩
  go_wp2_with fail
  refine hK _ _ (fun _ => Ext.of hb) ?_; clear hK K
  have B6 := Lib.hid (B5.out.trans (hb.mono B5.out.size))
  clear hb B5
  refine o_sole (fun K hK => ?_)
  go_wp2_with fail
  refine (C1.out w6).mono ?_
  rintro e w7 ⟨rfl, hw⟩
  have hb : Below w6.heap.size w6 w7 := by rw [hw]; exact Below.refl _ _
  clear hw
  go_wp2_with fail
  refine hK _ _ (fun _ => Ext.of hb) ?_; clear hK K
  have B7 := Lib.hid (B6.out.trans (hb.mono B6.out.size))
  clear hb B6
  refine o_sole (fun K hK => ?_)
  go_wp2_with fail
  refine (BP.out w7).mono ?_
  rintro e w8 ⟨rfl, hb⟩
  go_wp2_with fail
  refine hK _ _ (fun _ => Ext.of hb) ?_; clear hK K
  have B8 := Lib.hid (B7.out.trans (hb.mono B7.out.size))
  clear hb B7
  refine o_sole (fun K hK => ?_)
  go_wp2_with fail
  refine (C3.out w8).mono ?_
  rintro e w9 ⟨rfl, hw⟩
  have hb : Below w8.heap.size w8 w9 := by rw [hw]; exact Below.refl _ _
  clear hw
  go_wp2_with fail
  refine hK _ _ (fun _ => Ext.of hb) ?_; clear hK K
  have B9 := Lib.hid (B8.out.trans (hb.mono B8.out.size))
  clear hb B8
  refine o_sole (fun K hK => ?_)
  go_wp2_with fail
  refine hK _ _ (fun _ => Ext.of ((Below.refl _ _).alloc (Nat.le_refl _) _)) ?_; clear hK K
  have RL := Lib.hid (Rd.litz (w := w9) (t := 3) (cs := #[.int .i64 z1, .int .i64 z2, .int .i64 z3]) (B := w9.heap.size + 1) (n := 3) [z1, z2, z3] rfl (Nat.lt_succ_self _) rfl rfl)
  have B10 := Lib.hid (B9.out.trans (((Below.refl w9.heap.size w9).alloc (Nat.le_refl _) (.cells #[.int .i64 z1, .int .i64 z2, .int .i64 z3] 3)).mono B9.out.size))
  generalize w9.alloc (.cells #[.int .i64 z1, .int .i64 z2, .int .i64 z3] 3) = w10 at RL B10 ⊢
  refine o_sole (fun K hK => ?_)
  go_wp2_with fail
  refine (or_any (some ⟨w9.heap.size, 0, none⟩) 3 3 (w9.heap.size + 1) [z1, z2, z3] w10 RL.out (by omega)).mono ?_
  rintro e w11 ⟨rfl, hw⟩
  have hb : Below w10.heap.size w10 w11 := by rw [hw]; exact Below.refl _ _
  clear hw
  go_wp2_with fail
  refine hK _ _ (fun _ => Ext.of hb) ?_; clear hK K
  have B11 := Lib.hid (B10.out.trans (hb.mono B10.out.size))
  clear hb B10 RL
  (refine o_pure (v := ?_) (by rfl) (fun w' => ?_) ?_; rotate_left; (focus (go_simp; (try with_reducible rfl); (try (rw [if_pos (by omega)]; (try with_reducible rfl))))); (try simp only [Act.put, List.setIfInBounds_toArray, List.set_cons_zero, List.set_cons_succ]))
  refine o_nil (hQ.out _ _ ?_); clear hQ QQ
  go_wp2_with fail
  go_ret
  refine ⟨?_, B11.out⟩
  rw [← HZ.out]
  rfl
section
variable {α : Type} [Inhabited α] {lt : α → α → Bool} {d d1 : Array α} {n : Nat}
theorem perm_of (h : PermIn 0 n d d1) (hn : n = d.size) : d1.toList.Perm d.toList := by
  have h2 := h.2.2
  have hs := h.1
  subst hn
  rw [Array.extract_size] at h2
  rw [show d1.extract 0 d.size = d1 by rw [← hs]; exact Array.extract_size] at h2
  exact h2
theorem pair_of (h : SortedIn lt 0 n d) (hn : n = d.size) : d.toList.Pairwise (fun x y => lt y x = false) := by
  rw [List.pairwise_iff_getElem]
  intro i j hi hj hij
  have := h i j (Nat.zero_le _) hij (by rw [hn]; simpa using hj)
  rw [getElem!_pos d j (by simpa using hj), getElem!_pos d i (by simpa using hi)] at this
  simpa using this
end
theorem scEl : El Try.prog 25 36 (.agg #[.int .i64 0, .bool false, .bool false, .bool false, .int .i64 0, .int .i64 0, .int .i64 0]) 7 40 := ⟨Try.underlying25, by kernel_rfl, rfl, by omega, by omega⟩
theorem pths_len (l : List Pth) : (pths l).length = l.length * 7 := fm_len pth_len l
theorem pths_snoc (l : List Pth) (x : Pth) : pths (l ++ [x]) = pths l ++ x.cells.toList := by simp [pths, Pth.el]
/-- A path of a row, cell by cell. -/
theorem Rd.pth {w : World} {B n : Nat} {A : Option Addr} {l : List Pth} (h : Rd w B 7 A n (pths l)) {i : Nat} (hi : i < n) :
    ∃ (b off : Nat) (x : Pth), A = some ⟨b, off, none⟩ ∧ b < B ∧ Hid (∀ j v, x.el[j]? = some v → w.cell? ⟨b, off + i * 7 + j, none⟩ = some v) ∧ Hid (l[i]? = some x) := by
  obtain ⟨b, off, e, hb, hc⟩ := h.2 (by omega)
  have hl : l.length = n := by have := h.1; rw [pths_len] at this; omega
  have hg : l[i]? = some l[i] := by rw [List.getElem?_eq_getElem (by omega)]
  refine ⟨b, off, l[i], e, hb, Lib.hid fun j v hv => ?_, Lib.hid hg⟩
  have hj : j < 7 := by have := (List.getElem?_eq_some_iff.1 hv).1; rw [pth_len] at this; exact this
  rw [Nat.add_assoc, hc (i * 7 + j) (by omega)]
  exact (fm_get pth_len hg hj).trans hv
theorem Rd.pthLen {w : World} {B n : Nat} {A : Option Addr} {l : List Pth} (h : Rd w B 7 A n (pths l)) : l.length = n := by have := h.1; rw [pths_len] at this; omega
/-- The seven cells behind an address. -/
theorem pt7 {w : World} {b o : Nat} {x : Pth} (h : ∀ j v, x.el[j]? = some v → w.cell? ⟨b, o + j, none⟩ = some v) :
    w.cell? ⟨b, o, none⟩ = some (.int .i64 x.id) ∧ w.cell? ⟨b, o + 1, none⟩ = some (.bool x.up) ∧ w.cell? ⟨b, o + 2, none⟩ = some (.bool x.bk) ∧ w.cell? ⟨b, o + 3, none⟩ = some (.bool x.bd) ∧ w.cell? ⟨b, o + 4, none⟩ = some (.int .i64 x.room) ∧ w.cell? ⟨b, o + 5, none⟩ = some (.int .i64 x.und) ∧ w.cell? ⟨b, o + 6, none⟩ = some (.int .i64 x.mean) :=
  ⟨h 0 _ rfl, h 1 _ rfl, h 2 _ rfl, h 3 _ rfl, h 4 _ rfl, h 5 _ rfl, h 6 _ rfl⟩
theorem ptb {w : World} {g : Nat} {t : TypeId} {x : Pth} (h : Blk w g t x.cells) :
    w.cell? ⟨g, 0, none⟩ = some (.int .i64 x.id) ∧ w.cell? ⟨g, 1, none⟩ = some (.bool x.up) ∧ w.cell? ⟨g, 2, none⟩ = some (.bool x.bk) ∧ w.cell? ⟨g, 3, none⟩ = some (.bool x.bd) ∧ w.cell? ⟨g, 4, none⟩ = some (.int .i64 x.room) ∧ w.cell? ⟨g, 5, none⟩ = some (.int .i64 x.und) ∧ w.cell? ⟨g, 6, none⟩ = some (.int .i64 x.mean) :=
  ⟨(h.cell 0).trans rfl, (h.cell 1).trans rfl, (h.cell 2).trans rfl, (h.cell 3).trans rfl, (h.cell 4).trans rfl, (h.cell 5).trans rfl, (h.cell 6).trans rfl⟩
theorem tkSnocP {l : List Pth} {k : Nat} {x : Pth} (h : l[k]? = some x) : l.take (k + 1) = l.take k ++ [x] := by
  obtain ⟨hl, hx⟩ := List.getElem?_eq_some_iff.1 h
  rw [List.take_add_one, h]
  rfl
theorem fitl_yes {n : Int} {l : List Pth} {k : Nat} {x : Pth} (h : l[k]? = some x) (hf : fitP n x = true) : (l.take (k + 1)).filter (fitP n) = (l.take k).filter (fitP n) ++ [x] := by rw [tkSnocP h]; simp [hf]
theorem fitl_no {n : Int} {l : List Pth} {k : Nat} {x : Pth} (h : l[k]? = some x) (hf : fitP n x = false) : (l.take (k + 1)).filter (fitP n) = (l.take k).filter (fitP n) := by rw [tkSnocP h]; simp [hf]
theorem fitl_le (n : Int) (l : List Pth) (k : Nat) : ((l.take k).filter (fitP n)).length ≤ l.length := by
  have := List.length_filter_le (fitP n) (l.take k)
  rw [List.length_take] at this
  omega
set_option maxRecDepth 20000 in
set_option maxHeartbeats 4000000 in
theorem ord_any (pol last n : Int) (A : Option Addr) (m c : Nat) (l : List Pth) (w : World) (h : Rd w w.heap.size 7 A m (pths l)) (hm : m ≤ 100) :
    Calls Try.prog 16 #[.int .i64 pol, .int .i64 last, .int .i64 n, .slice A m c] w fun e w' => ∃ v s, e = .returned v ∧ w'.ownsRow w.heap.size 36 7 v s.length (pths s) ∧ Below w.heap.size w w' ∧ s.Perm (l.filter (fitP n)) ∧ s.Pairwise (fun x y => ltP pol last y x = false) := by
  have HR := Lib.hid h
  have HL := Lib.hid h.pthLen
  have P1 := Lib.hid ((Blk.new w 22 #[.int .i64 pol]).alloc (.cells #[.int .i64 last] 3))
  have P2 := Lib.hid (Blk.new (w.alloc (.cells #[.int .i64 pol] 22)) 3 #[.int .i64 last])
  have B1 := Lib.hid (((Below.refl w.heap.size w).alloc (Nat.le_refl _) (.cells #[.int .i64 pol] 22)).alloc (by simp) (.cells #[.int .i64 last] 3))
  have hsz : (w.alloc (.cells #[.int .i64 pol] 22)).heap.size = w.heap.size + 1 := by simp
  clear h
  go_enter Try.func16, Try.ntmps16
  go_upto_region 1 with fail
  rw [hsz] at P2
  generalize (w.alloc (.cells #[.int .i64 pol] 22)).alloc (.cells #[.int .i64 last] 3) = w2 at P1 P2 B1 ⊢
  obtain ⟨X, hX⟩ : ∃ X, X = w.heap.size := ⟨_, rfl⟩
  have HXX := Sh.mk hX
  rw [← hX] at P1 P2 ⊢
  clear hX hsz
  have HO0 : Hid (w2.ownsRow w.heap.size 36 7 (.slice none 0 0) ((l.take 0).filter (fitP n)).length (pths ((l.take 0).filter (fitP n)))) := Lib.hid (World.ownsRow_nil _ _ _ _)
  go_wp2_with fail
  go_loopw [9, 14] (fun qv iv wr => ∃ (k : Nat), k ≤ m ∧ iv = .int .i64 (k : Nat) ∧ Hid (wr.ownsRow w.heap.size 36 7 qv ((l.take k).filter (fitP n)).length (pths ((l.take k).filter (fitP n)))) ∧ Hid (Blk wr X 22 #[.int .i64 pol]) ∧ Hid (Blk wr (X + 1) 3 #[.int .i64 last]) ∧ Hid (Below w.heap.size w wr)) (fun _ iv _ => m - (intOf iv).toNat)
  case atStart => exact ⟨0, Nat.zero_le _, rfl, HO0, P1, P2, B1⟩
  case round =>
    clear HO0 P1 P2 B1
    obtain ⟨k, hk, rfl, HO, P1, P2, BB⟩ := hrel
    by_cases hlt : k < m
    · have hlt' : (k : Int) < (m : Int) := by omega
      have hk0 : (0 : Int) ≤ (k : Int) := by omega
      obtain ⟨rb, off, x, hA, hrb, HC, HX⟩ := HR.out.pth hlt
      subst hA
      obtain ⟨a0, a1, a2, a3, a4, a5, a6⟩ := pt7 (w := wr) (o := off + k * 7) (fun j v hj => (BB.out.cell (p := ⟨rb, off + k * 7 + j, none⟩) hrb).trans (HC.out j v hj))
      go_upto_region 5 with fail
      have K1 := Lib.hid (Blk.new wr 36 #[.int .i64 x.id, .bool x.up, .bool x.bk, .bool x.bd, .int .i64 x.room, .int .i64 x.und, .int .i64 x.mean])
      have hb1 := (Below.refl wr.heap.size wr).alloc (Nat.le_refl _) (.cells #[.int .i64 x.id, .bool x.up, .bool x.bk, .bool x.bd, .int .i64 x.room, .int .i64 x.und, .int .i64 x.mean] 36)
      have B2 := Lib.hid (BB.out.trans (hb1.mono BB.out.size))
      have O2 := Lib.hid (own_below HO.out hb1 fun g hg => (HO.out.lt g hg).2)
      have P12 := Lib.hid (P1.out.below hb1 P1.out.lt)
      have P22 := Lib.hid (P2.out.below hb1 P2.out.lt)
      obtain ⟨Y, hY⟩ : ∃ Y, Y = wr.heap.size := ⟨_, rfl⟩
      rw [← hY] at K1 ⊢
      clear hb1 hY BB HO P1 P2 a0 a1 a2 a3 a4 a5 a6
      generalize wr.alloc (.cells #[.int .i64 x.id, .bool x.up, .bool x.bk, .bool x.bd, .int .i64 x.room, .int .i64 x.und, .int .i64 x.mean] 36) = w3 at *
      obtain ⟨b0, b1, b2, b3, b4, b5, b6⟩ := ptb (x := x) K1.out
      have FT := Lib.hid (fits_any x n w3)
      cases hf : fitP n x
      · rw [hf] at FT
        go_wp2_with fail
        refine FT.out.mono ?_
        rintro e w4 ⟨rfl, hb4⟩
        have B4 := Lib.hid (B2.out.trans (hb4.mono B2.out.size))
        have O4 := Lib.hid (show w4.ownsRow w.heap.size 36 7 u9 ((l.take (k + 1)).filter (fitP n)).length (pths ((l.take (k + 1)).filter (fitP n))) by rw [fitl_no HX.out hf]; exact own_below O2.out hb4 fun g hg => (O2.out.lt g hg).2)
        have P14 := Lib.hid (P12.out.below hb4 P12.out.lt)
        have P24 := Lib.hid (P22.out.below hb4 P22.out.lt)
        clear hb4 b0 b1 b2 b3 b4 b5 b6 FT B2 O2 P12 P22 K1 hf
        go_wp2_with fail
        go_roundw
        case rel => exact ⟨k + 1, by omega, by go_num, O4, P14, P24, B4⟩
        case measure => simp [intOf]; omega
      · rw [hf] at FT
        have HF := Sh.mk hf
        clear hf
        go_wp2_with fail
        refine FT.out.mono ?_
        rintro e w4 ⟨rfl, hb4⟩
        have B4 := Lib.hid (B2.out.trans (hb4.mono B2.out.size))
        have O4 := Lib.hid (own_below O2.out hb4 fun g hg => (O2.out.lt g hg).2)
        have P14 := Lib.hid (P12.out.below hb4 P12.out.lt)
        have P24 := Lib.hid (P22.out.below hb4 P22.out.lt)
        have K4 := Lib.hid (K1.out.below hb4 K1.out.lt)
        clear hb4 b0 b1 b2 b3 b4 b5 b6 FT B2 O2 P12 P22 K1
        obtain ⟨b0, b1, b2, b3, b4, b5, b6⟩ := ptb (x := x) K4.out
        have hroom : (((l.take k).filter (fitP n)).length + 1) * 40 ≤ room := room_ge (by have := fitl_le n l k; have := HL.out; omega)
        have hbw : w.heap.size ≤ w4.heap.size := B4.out.size
        go_wp2_with (at_builtin; go_must (refine appZ scEl x.cells rfl (pth_one _) rfl _ _ rfl rfl O4.out rfl rfl hroom hbw ?_))
        intro v5 w5 ho5 hg5 hb5
        have O5 := Lib.hid (show w5.ownsRow w.heap.size 36 7 v5 ((l.take (k + 1)).filter (fitP n)).length (pths ((l.take (k + 1)).filter (fitP n))) by rw [fitl_yes HX.out HF.out, List.length_append, pths_snoc]; exact ho5)
        have P15 := Lib.hid ((hg5.block _ P14.out.lt fun e => own_nt O4.out P14.out (by decide) e.symm).trans P14.out)
        have P25 := Lib.hid ((hg5.block _ P24.out.lt fun e => own_nt O4.out P24.out (by decide) e.symm).trans P24.out)
        have B5 := Lib.hid (B4.out.trans hb5)
        clear ho5 hg5 hb5 b0 b1 b2 b3 b4 b5 b6 B4 O4 P14 P24 K4 hroom hbw
        go_wp2_with fail
        go_roundw
        case rel => exact ⟨k + 1, by omega, by go_num, O5, P15, P25, B5⟩
        case measure => simp [intOf]; omega
    · have hlt' : ¬ (k : Int) < (m : Int) := by omega
      obtain ⟨fl, hfl⟩ : ∃ fl, fl = l.filter (fitP n) := ⟨_, rfl⟩
      have O2 := Lib.hid (show wr.ownsRow w.heap.size 36 7 u9 fl.length (pths fl) by have := HO.out; rw [List.take_of_length_le (by rw [HL.out]; omega), ← hfl] at this; exact this)
      have hfll : fl.length ≤ 100 := by rw [hfl]; have := List.length_filter_le (fitP n) l; have := HL.out; omega
      have HFL := Sh.mk hfl
      clear HO hfl
      obtain ⟨fn, hfn⟩ : ∃ fn, fn = fl.length := ⟨_, rfl⟩
      have HFN := Sh.mk hfn
      rw [← hfn] at O2 hfll
      clear hfn
      rcases own_open O2.out with ⟨rfl, h0, _⟩ | ⟨rb, cc, L, rfl, hB, hb, hnc, hcm, hll, ht⟩
      · subst h0
        have hfe : fl = [] := List.eq_nil_of_length_eq_zero HFN.out.symm
        have O3 := Lib.hid (show wr.ownsRow w.heap.size 36 7 (.slice none 0 0) ([] : List Pth).length (pths []) from World.ownsRow_nil _ _ _ _)
        have HFL2 := Sh.mk (show [] = l.filter (fitP n) by rw [← HFL.out, hfe])
        clear hfe hfll O2
        go_wp2_with fail
        refine (sc_sort0 _ wr).mono ?_
        rintro e w6 ⟨rfl, hw⟩
        have hw := hw.symm
        subst hw
        go_wp2_with fail
        refine bodyPost_ret (v := .slice none 0 0) (by kernel_rfl) rfl ?_
        exact ⟨_, [], rfl, O3.out, BB.out, by rw [← HFL2.out], List.Pairwise.nil⟩
      · have hSW : SW wr rb cc X (X + 1) pol last fl.toArray := ⟨⟨L, hb, hll, by rw [← HFN.out]; exact hnc, by rw [← HFN.out]; exact ht⟩, P1.out, P2.out⟩
        have HS := Lib.hid (sc_sort rb cc X (X + 1) fn cc pol last (cfP pol last) (clo_any X (X + 1) pol last) (swo_cfP pol last) fl.toArray wr hSW (by rw [HFN.out]; simp) (by omega))
        have HB := Lib.hid hB
        have HCM := Lib.hid hcm
        have HRL := Lib.hid hb.lt
        clear hSW hB hb hnc hcm hll ht O2 P1 P2
        go_wp2_with fail
        refine HS.out.mono ?_
        rintro e w6 ⟨rfl, d2, h6, t6, z6, p6, q6⟩
        have O6 : Hid (w6.ownsRow w.heap.size 36 7 (.slice (some ⟨rb, 0, none⟩) fn cc) d2.toList.length (pths d2.toList)) := Lib.hid (by
          have hlen : fn = d2.toList.length := by rw [Array.length_toList, z6, HFN.out]; simp
          rw [hlen]
          exact h6.row.own HB.out HCM.out)
        have B6 := Lib.hid (BB.out.trans (t6.1.mono HB.out))
        have PE := Lib.hid (show d2.toList.Perm (l.filter (fitP n)) by rw [← HFL.out]; exact perm_of p6 (by rw [HFN.out]; simp))
        have PW := Lib.hid (show d2.toList.Pairwise (fun x y => ltP pol last y x = false) by
          have := pair_of q6 (show fn = d2.size by rw [z6, HFN.out]; simp)
          refine this.imp ?_
          intro x y hxy
          rw [← ltOf_cfP]
          exact hxy)
        clear h6 t6 z6 p6 q6 HS
        go_wp2_with fail
        refine bodyPost_ret (v := .slice (some ⟨rb, 0, none⟩) fn cc) (by kernel_rfl) rfl ?_
        exact ⟨_, d2.toList, rfl, O6.out, B6.out, PE.out, PW.out⟩
end Go.Proofs.Ytcfeojobkpbohaa
