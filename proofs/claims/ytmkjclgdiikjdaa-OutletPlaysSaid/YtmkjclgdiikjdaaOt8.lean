/- Layer 17: a call of both: Acked. -/
import Derived.Test.YtmkjclgdiikjdaaOt7
import Derived.Deep.Cut
namespace Go.Proofs.Ytmkjclgdiikjdaa
open Go.RowKit
set_option linter.unusedVariables false
set_option linter.unusedSimpArgs false
/-- What a call of both leaves. -/
def OnePost (B1 W0 o g p size : Nat) (w : World) (e : Ending) (w' : World) : Prop := ∃ (base : Nat) (cl dn : Bool) (bs : List Nat) (A : Option Addr) (n c : Nat), e = .returned (.tuple #[.agg #[.slice A n c, .int .u64 (base : Int), .int .i64 (size : Int), .bool cl, .bool dn], .bool true]) ∧ OU w' o g p size base cl dn bs ∧ Nats w' 5 .u8 B1 (.slice A n c) bs ∧ Below W0 w w' ∧ w.heap.size ≤ w'.heap.size ∧ ∀ k, k < w.heap.size → k ≠ o → k ≠ g → k ≠ p → w'.heap[k]? = w.heap[k]?
theorem Nats.len {w : World} {e : TypeId} {k : IntKind} {B n c : Nat} {A : Option Addr} {l : List Nat} (h : Nats w e k B (.slice A n c) l) : l.length = n ∧ n ≤ c := by
  obtain ⟨A', c', e1, hc⟩ := h.form
  injection e1 with _ h1 h2
  subst h1; subst h2
  exact ⟨rfl, hc⟩
theorem Tri.blk {o g p i : Nat} {w w' : World} {t : TypeId} {cs : Array Value} (h : Tri o g p w w') (hb : Blk w i t cs) (ho : i ≠ o) (hg : i ≠ g) (hp : i ≠ p) : Blk w' i t cs := (h.2.2 i ho hg hp).trans hb
/-- Which call it is. -/
def cls (k : Int) : Nat := (k.tmod 7 + 7).toNat % 7
set_option maxRecDepth 20000 in
set_option maxHeartbeats 4000000 in
theorem one_acked (B1 W0 o g p size base : Nat) (cl dn : Bool) (bs : List Nat) (A : Option Addr) (n c : Nat) (q : OtOp) (w : World) (h : OU w o g p size base cl dn bs) (hx : Nats w 5 .u8 B1 (.slice A n c) bs) (ho : W0 ≤ o ∧ o < B1) (hg : W0 ≤ g ∧ g < B1) (hp : W0 ≤ p ∧ p < B1) (hB : B1 ≤ w.heap.size) (hq : q.ok w) (hqr : Rd w W0 1 q.A q.m (ns .u8 q.l)) (hm : q.m ≤ 300) (hcl : cls q.k = 3 ∨ cls q.k = 4) :
    Calls Try.prog 9 #[.pointer (some ⟨o, 0, none⟩), .agg #[.slice A n c, .int .u64 (base : Int), .int .i64 (size : Int), .bool cl, .bool dn], .agg #[.int .i64 q.k, .int .i64 q.nn, .int .u64 (q.to : Int), .slice q.A q.m q.c]] w fun e w' => OnePost B1 W0 o g p size w e w' := by
  obtain ⟨hk, hnn, hto, _, hmc, hcm, hlt⟩ := hq
  have HN := Sh.mk hx.len
  have HG := Sh.mk (show ∀ i, (Value.slice A n c).ownBlock = some i → i ≠ w.heap.size ∧ i ≠ w.heap.size + 2 from fun i hi => by have := (hx.lt i hi).2; omega)
  have HR := Sh.mk hx
  have HU := Sh.mk h
  have HQ := Sh.mk hqr
  have HLT := Sh.mk hlt
  have HO := Sh.mk (And.intro ho (And.intro hg hp))
  have HB := Sh.mk hB
  have HLIM := Sh.mk h.bb
  have HNN := Sh.mk hnn
  have HSZ := Sh.mk h.sz
  obtain ⟨r1, hr1⟩ : ∃ r1 : Int, q.k.tmod 7 = r1 := ⟨_, rfl⟩
  have hr1a : r1 < 7 := by rw [← hr1]; exact Int.tmod_lt_of_pos q.k (by omega)
  have hr1b : -7 < r1 := by rw [← hr1]; have := Int.lt_tmod_of_pos q.k (show (0 : Int) < 7 by omega); omega
  have hr1w : IntKind.i64.wrap r1 = r1 := by rw [IntKind.wrap_i64]; omega
  obtain ⟨s1, hs1e⟩ : ∃ s1 : Nat, r1 + 7 = (s1 : Int) := ⟨(r1 + 7).toNat, by omega⟩
  have hs1w : IntKind.i64.wrap (s1 : Int) = (s1 : Nat) := by rw [IntKind.wrap_i64]; omega
  obtain ⟨y, hy⟩ : ∃ y, y = s1 % 7 := ⟨_, rfl⟩
  have hyt : (s1 : Int).tmod 7 = (y : Nat) := by rw [Int.tmod_eq_emod_of_nonneg (by omega)]; omega
  have hyw : IntKind.i64.wrap (y : Int) = (y : Nat) := by rw [IntKind.wrap_i64]; omega
  obtain ⟨r2, hr2⟩ : ∃ r2 : Int, q.k.tmod 2 = r2 := ⟨_, rfl⟩
  have hr2a : r2 < 2 := by rw [← hr2]; exact Int.tmod_lt_of_pos q.k (by omega)
  have hr2b : -2 < r2 := by rw [← hr2]; have := Int.lt_tmod_of_pos q.k (show (0 : Int) < 2 by omega); omega
  have hr2w : IntKind.i64.wrap r2 = r2 := by rw [IntKind.wrap_i64]; omega
  have hyc : y = cls q.k := by unfold cls; rw [hr1]; omega
  rw [← hyc] at hcl
  clear hyc hk hnn hy hr1a hr1b hr2a hr2b hcm h hx hqr hlt ho hg hp hB
  rcases (show r2 = 0 ∨ r2 ≠ 0 by omega) with a | a
  · subst a
    obtain ⟨tv, htv⟩ : ∃ tv, tv = (base + q.to) % 18446744073709551616 := ⟨_, rfl⟩
    have htw : IntKind.u64.wrap ((base : Int) + (q.to : Int)) = (tv : Nat) := by rw [IntKind.wrap_u64]; omega
    have HT := Sh.mk (show tv < 18446744073709551616 by omega)
    clear htv hto
    rcases hcl with hcl | hcl
    · subst hcl
      rcases (show (dn = true ∨ tv ≤ base ∨ base + bs.length + (if cl then 1 else 0) < tv) ∨ (dn = false ∧ base < tv ∧ tv ≤ base + bs.length + (if cl then 1 else 0)) by cases dn <;> simp <;> omega) with hno | ⟨hdn, hyes⟩
      · have HNO := Sh.mk hno
        clear hno
        go_enter Try.func9, Try.ntmps9
        go_upto_region 1 with fail
        have KX : Hid (Blk (w.alloc (.cells #[.slice A n c, .int .u64 (base : Int), .int .i64 (size : Int), .bool cl, .bool dn] 31)) (w.heap.size) 31 #[.slice A n c, .int .u64 (base : Int), .int .i64 (size : Int), .bool cl, .bool dn]) := Lib.hid ((Blk.new w 31 #[.slice A n c, .int .u64 (base : Int), .int .i64 (size : Int), .bool cl, .bool dn]))
        replace KX : Hid (Blk ((w.alloc (.cells #[.slice A n c, .int .u64 (base : Int), .int .i64 (size : Int), .bool cl, .bool dn] 31)).alloc (.cells #[.int .i64 q.k, .int .i64 q.nn, .int .u64 (q.to : Int), .slice q.A q.m q.c] 37)) (w.heap.size) 31 #[.slice A n c, .int .u64 (base : Int), .int .i64 (size : Int), .bool cl, .bool dn]) := Lib.hid (KX.out.alloc _)
        replace KX : Hid (Blk (((w.alloc (.cells #[.slice A n c, .int .u64 (base : Int), .int .i64 (size : Int), .bool cl, .bool dn] 31)).alloc (.cells #[.int .i64 q.k, .int .i64 q.nn, .int .u64 (q.to : Int), .slice q.A q.m q.c] 37)).alloc (.cells #[.slice none 0 0, .int .u64 0, .int .i64 0, .bool false, .bool false] 31)) (w.heap.size) 31 #[.slice A n c, .int .u64 (base : Int), .int .i64 (size : Int), .bool cl, .bool dn]) := Lib.hid (KX.out.alloc _)
        have KP : Hid (Blk ((w.alloc (.cells #[.slice A n c, .int .u64 (base : Int), .int .i64 (size : Int), .bool cl, .bool dn] 31)).alloc (.cells #[.int .i64 q.k, .int .i64 q.nn, .int .u64 (q.to : Int), .slice q.A q.m q.c] 37)) (w.heap.size + 1) 37 #[.int .i64 q.k, .int .i64 q.nn, .int .u64 (q.to : Int), .slice q.A q.m q.c]) := Lib.hid ((Blk.new (w.alloc (.cells #[.slice A n c, .int .u64 (base : Int), .int .i64 (size : Int), .bool cl, .bool dn] 31)) 37 #[.int .i64 q.k, .int .i64 q.nn, .int .u64 (q.to : Int), .slice q.A q.m q.c]) |> fun h => by simpa using h)
        replace KP : Hid (Blk (((w.alloc (.cells #[.slice A n c, .int .u64 (base : Int), .int .i64 (size : Int), .bool cl, .bool dn] 31)).alloc (.cells #[.int .i64 q.k, .int .i64 q.nn, .int .u64 (q.to : Int), .slice q.A q.m q.c] 37)).alloc (.cells #[.slice none 0 0, .int .u64 0, .int .i64 0, .bool false, .bool false] 31)) (w.heap.size + 1) 37 #[.int .i64 q.k, .int .i64 q.nn, .int .u64 (q.to : Int), .slice q.A q.m q.c]) := Lib.hid (KP.out.alloc _)
        have KR : Hid (Blk (((w.alloc (.cells #[.slice A n c, .int .u64 (base : Int), .int .i64 (size : Int), .bool cl, .bool dn] 31)).alloc (.cells #[.int .i64 q.k, .int .i64 q.nn, .int .u64 (q.to : Int), .slice q.A q.m q.c] 37)).alloc (.cells #[.slice none 0 0, .int .u64 0, .int .i64 0, .bool false, .bool false] 31)) (w.heap.size + 2) 31 #[.slice none 0 0, .int .u64 0, .int .i64 0, .bool false, .bool false]) := Lib.hid ((Blk.new ((w.alloc (.cells #[.slice A n c, .int .u64 (base : Int), .int .i64 (size : Int), .bool cl, .bool dn] 31)).alloc (.cells #[.int .i64 q.k, .int .i64 q.nn, .int .u64 (q.to : Int), .slice q.A q.m q.c] 37)) 31 #[.slice none 0 0, .int .u64 0, .int .i64 0, .bool false, .bool false]) |> fun h => by simpa using h)
        have b1 : Hid (Below w.heap.size w (((w.alloc (.cells #[.slice A n c, .int .u64 (base : Int), .int .i64 (size : Int), .bool cl, .bool dn] 31)).alloc (.cells #[.int .i64 q.k, .int .i64 q.nn, .int .u64 (q.to : Int), .slice q.A q.m q.c] 37)).alloc (.cells #[.slice none 0 0, .int .u64 0, .int .i64 0, .bool false, .bool false] 31))) := Lib.hid ((((Below.refl w.heap.size w).alloc (Nat.le_refl _) (.cells #[.slice A n c, .int .u64 (base : Int), .int .i64 (size : Int), .bool cl, .bool dn] 31)).alloc (by simp <;> omega) (.cells #[.int .i64 q.k, .int .i64 q.nn, .int .u64 (q.to : Int), .slice q.A q.m q.c] 37)).alloc (by simp <;> omega) (.cells #[.slice none 0 0, .int .u64 0, .int .i64 0, .bool false, .bool false] 31))
        have hz : (((w.alloc (.cells #[.slice A n c, .int .u64 (base : Int), .int .i64 (size : Int), .bool cl, .bool dn] 31)).alloc (.cells #[.int .i64 q.k, .int .i64 q.nn, .int .u64 (q.to : Int), .slice q.A q.m q.c] 37)).alloc (.cells #[.slice none 0 0, .int .u64 0, .int .i64 0, .bool false, .bool false] 31)).heap.size = w.heap.size + 3 := by simp
        generalize (((w.alloc (.cells #[.slice A n c, .int .u64 (base : Int), .int .i64 (size : Int), .bool cl, .bool dn] 31)).alloc (.cells #[.int .i64 q.k, .int .i64 q.nn, .int .u64 (q.to : Int), .slice q.A q.m q.c] 37)).alloc (.cells #[.slice none 0 0, .int .u64 0, .int .i64 0, .bool false, .bool false] 31)) = w2 at KX KP KR b1 hz ⊢
        have HZ := Lib.hid hz
        clear hz
        replace HU := Sh.mk (HU.out.into b1.out)
        replace HR := Sh.mk (HR.out.below b1.out)
        replace HQ := Sh.mk (HQ.out.below (b1.out.mono (by have := HO.out; have := HB.out; omega)))
        have BB := Sh.mk (b1.out.mono (show W0 ≤ w.heap.size by have := HO.out; have := HB.out; omega))
        have FF := Sh.mk (show ∀ k, k < w.heap.size → k ≠ o → k ≠ g → k ≠ p → w2.heap[k]? = w.heap[k]? from fun k hk _ _ _ => b1.out.block k hk)
        replace HZ := Sh.mk (show w.heap.size + 3 ≤ w2.heap.size by have := HZ.out; omega)
        clear b1
        have x0 : w2.cell? ⟨w.heap.size, 0, none⟩ = some (.slice A n c) := by rw [KX.out.cell]; rfl
        have x1 : w2.cell? ⟨w.heap.size, 1, none⟩ = some (.int .u64 (base : Int)) := by rw [KX.out.cell]; rfl
        have x2 : w2.cell? ⟨w.heap.size, 2, none⟩ = some (.int .i64 (size : Int)) := by rw [KX.out.cell]; rfl
        have x3 : w2.cell? ⟨w.heap.size, 3, none⟩ = some (.bool cl) := by rw [KX.out.cell]; rfl
        have x4 : w2.cell? ⟨w.heap.size, 4, none⟩ = some (.bool dn) := by rw [KX.out.cell]; rfl
        have p0 : w2.cell? ⟨(w.heap.size + 1), 0, none⟩ = some (.int .i64 q.k) := by rw [KP.out.cell]; rfl
        have p1 : w2.cell? ⟨(w.heap.size + 1), 1, none⟩ = some (.int .i64 q.nn) := by rw [KP.out.cell]; rfl
        have p2 : w2.cell? ⟨(w.heap.size + 1), 2, none⟩ = some (.int .u64 (q.to : Int)) := by rw [KP.out.cell]; rfl
        have p3 : w2.cell? ⟨(w.heap.size + 1), 3, none⟩ = some (.slice q.A q.m q.c) := by rw [KP.out.cell]; rfl
        go_wp2_with fail
        refine (r_acked_no A n c base size cl dn tv w2 (by rw [← HN.out.1]; exact HLIM.out) (by rw [← HN.out.1]; exact HNO.out)).mono ?_
        rintro e w3 ⟨rfl, b3⟩
        replace HU := Sh.mk (HU.out.into b3)
        replace HR := Sh.mk (HR.out.below b3)
        replace HQ := Sh.mk (HQ.out.below (b3.mono (by have := HO.out; have := HB.out; have := HZ.out; omega)))
        replace KX := Sh.mk (KX.out.below b3 KX.out.lt)
        replace KP := Sh.mk (KP.out.below b3 KP.out.lt)
        replace KR := Sh.mk (KR.out.below b3 KR.out.lt)
        replace BB := Sh.mk (BB.out.trans (b3.mono (by have := HO.out; have := HB.out; have := HZ.out; omega)))
        replace FF := Sh.mk (show ∀ k, k < w.heap.size → k ≠ o → k ≠ g → k ≠ p → w3.heap[k]? = w.heap[k]? from fun k hk a1 a2 a3 => (b3.block k (by have := HZ.out; omega)).trans (FF.out k hk a1 a2 a3))
        replace HZ := Sh.mk (show w.heap.size + 3 ≤ w3.heap.size by have := HZ.out; have := b3.size; omega)
        clear b3 x0 x1 x2 x3 x4 p0 p1 p2 p3
        go_wp2_with (refine stm_store (cs' := #[.slice A n c, .int .u64 (base : Int), .int .i64 (size : Int), .bool cl, .bool dn]) KX.out rfl _ _ rfl rfl rfl (by simp) (by kernel_rfl) (by simp [Value.oneCell']) (by simp [setL]) fun w4 hk hs => ?_)
        replace HU := Sh.mk (HU.out.below hs.1 (by have := HO.out; have := HB.out; omega) (by have := HO.out; have := HB.out; omega) (by have := HO.out; have := HB.out; omega))
        replace HR := Sh.mk (HR.out.kept (w' := w4) fun i hi => hs.2.2 i (by have := HG.out i hi; omega))
        replace HQ := Sh.mk (HQ.out.below (hs.1.mono (by have := HO.out; have := HB.out; omega)))
        replace KP := Sh.mk (hs.blk KP.out (by omega))
        replace KX := Sh.mk hk
        replace KR := Sh.mk (hs.blk KR.out (by omega))
        replace FF := Sh.mk (show ∀ k, k < w.heap.size → k ≠ o → k ≠ g → k ≠ p → w4.heap[k]? = w.heap[k]? from fun k hk a1 a2 a3 => (hs.2.2 k (by omega)).trans (FF.out k hk a1 a2 a3))
        replace BB := Sh.mk (BB.out.trans (hs.1.mono (by have := HO.out; have := HB.out; omega)))
        replace HZ := Sh.mk (show w.heap.size + 3 ≤ w4.heap.size by rw [hs.2.1]; exact HZ.out)
        clear hk hs
        go_upto_region 9 with fail
        refine OX.wp_ord [(0, .read), (1, .pure), (2, .pure), (4, .pure), (3, .sole), (5, .pure), (6, .sole), (7, .pure)] ⟨fun k => k = o ∨ k = g ∨ k = p ∨ k = w.heap.size + 2, []⟩ (by kernel_rfl) (by kernel_rfl) (fun QQ hQ wd hwd => ?_); (try simp only [List.map_cons, List.map_nil, List.getD_cons_zero, List.getD_cons_succ])
        have hD : Below w4.heap.size w4 wd := by rw [hwd.out]; exact (Below.refl _ _).drew
        replace HU := Sh.mk (HU.out.into hD)
        replace HR := Sh.mk (HR.out.below hD)
        replace HQ := Sh.mk (HQ.out.below (hD.mono (by have := HO.out; have := HB.out; have := HZ.out; omega)))
        replace KX := Sh.mk (KX.out.below hD KX.out.lt)
        replace KP := Sh.mk (KP.out.below hD KP.out.lt)
        replace KR := Sh.mk (KR.out.below hD KR.out.lt)
        replace BB := Sh.mk (BB.out.trans (hD.mono (by have := HO.out; have := HB.out; have := HZ.out; omega)))
        replace FF := Sh.mk (show ∀ k, k < w.heap.size → k ≠ o → k ≠ g → k ≠ p → wd.heap[k]? = w.heap[k]? from fun k hk a1 a2 a3 => (hD.block k (by have := HZ.out; omega)).trans (FF.out k hk a1 a2 a3))
        replace HZ := Sh.mk (show w.heap.size + 3 ≤ wd.heap.size by have := HZ.out; have := hD.size; omega)
        clear hD hwd
        have hne : ¬ (w.heap.size = o ∨ w.heap.size = g ∨ w.heap.size = p ∨ w.heap.size = w.heap.size + 2) := by have := HO.out; have := HB.out; omega
        (refine OX.o_loads _ [.slice A n c, .int .u64 (base : Int), .int .i64 (size : Int), .bool cl, .bool dn] (by rfl) rfl rfl (by dsimp only; first | assumption | omega) (fun j x hj => by rw [KX.out.cell, Nat.zero_add]; simpa using hj) (Nat.succ_pos _) (by kernel_rfl) (by kernel_rfl) ?_; simp only [Act.put, List.setIfInBounds_toArray, List.set_cons_zero, List.set_cons_succ])
        (refine OX.o_pure (v := ?_) (by rfl) (fun w' => ?_) ?_; rotate_left; (focus (go_simp; (try with_reducible rfl))); (try simp only [Act.put, List.setIfInBounds_toArray, List.set_cons_zero, List.set_cons_succ]))
        (refine OX.o_pure (v := ?_) (by rfl) (fun w' => ?_) ?_; rotate_left; (focus (go_simp; (try with_reducible rfl))); (try simp only [Act.put, List.setIfInBounds_toArray, List.set_cons_zero, List.set_cons_succ]))
        (refine OX.o_pure (v := ?_) (by rfl) (fun w' => ?_) ?_; rotate_left; (focus (go_simp; (try with_reducible rfl))); (try simp only [Act.put, List.setIfInBounds_toArray, List.set_cons_zero, List.set_cons_succ]))
        refine OX.o_sole (fun K hK => ?_)
        go_wp2_with fail
        refine (ou_acked_no o g p size base cl dn bs tv wd HU.out HNO.out).mono ?_
        rintro e w5 ⟨rfl, qn, hqn⟩
        have tN : Tri o g p wd w5 := hqn ▸ Tri.refl.drewN qn
        have uN : OU w5 o g p size base cl dn bs := hqn ▸ HU.out.drewN qn
        clear hqn
        go_wp2_with fail
        refine hK _ _ (fun _ => ⟨Nat.le_of_eq tN.2.1.symm, fun k _ hk => tN.2.2 k (fun e => hk (by simp [e])) (fun e => hk (by simp [e])) (fun e => hk (by simp [e]))⟩) ?_; clear hK K
        replace HU := Sh.mk uN
        replace HR := Sh.mk (tN.nats HR.out HO.out.1.2 HO.out.2.1.2 HO.out.2.2.2)
        replace HQ := Sh.mk (HQ.out.below (tN.below HO.out.1.1 HO.out.2.1.1 HO.out.2.2.1))
        replace KX := Sh.mk (tN.blk KX.out (by have := HO.out; have := HB.out; omega) (by have := HO.out; have := HB.out; omega) (by have := HO.out; have := HB.out; omega))
        replace KP := Sh.mk (tN.blk KP.out (by have := HO.out; have := HB.out; omega) (by have := HO.out; have := HB.out; omega) (by have := HO.out; have := HB.out; omega))
        replace KR := Sh.mk (tN.blk KR.out (by have := HO.out; have := HB.out; omega) (by have := HO.out; have := HB.out; omega) (by have := HO.out; have := HB.out; omega))
        replace FF := Sh.mk (show ∀ k, k < w.heap.size → k ≠ o → k ≠ g → k ≠ p → w5.heap[k]? = w.heap[k]? from fun k hk a1 a2 a3 => (tN.2.2 k a1 a2 a3).trans (FF.out k hk a1 a2 a3))
        replace BB := Sh.mk (BB.out.trans (tN.below HO.out.1.1 HO.out.2.1.1 HO.out.2.2.1))
        replace HZ := Sh.mk (show w.heap.size + 3 ≤ w5.heap.size by rw [tN.2.1]; exact HZ.out)
        clear tN uN
        (refine OX.o_pure (v := ?_) (by rfl) (fun w' => ?_) ?_; rotate_left; (focus (go_simp; (try with_reducible rfl))); (try simp only [Act.put, List.setIfInBounds_toArray, List.set_cons_zero, List.set_cons_succ]))
        refine OX.o_sole (fun K hK => ?_)
        refine stm_store (cs' := #[.slice A n c, .int .u64 (base : Int), .int .i64 (size : Int), .bool cl, .bool dn]) KR.out rfl _ _ rfl rfl rfl (by simp) (by kernel_rfl) (by simp [Value.oneCell']) (by simp [setL]) fun w6 hk hs => ?_
        refine wpList_nil ?_
        refine hK _ _ (fun _ => OX.ExtB.solo hs (by simp)) ?_; clear hK K
        replace HU := Sh.mk (HU.out.below hs.1 (by have := HO.out; have := HB.out; omega) (by have := HO.out; have := HB.out; omega) (by have := HO.out; have := HB.out; omega))
        replace HR := Sh.mk (HR.out.kept (w' := w6) fun i hi => hs.2.2 i (by have := HG.out i hi; omega))
        replace HQ := Sh.mk (HQ.out.below (hs.1.mono (by have := HO.out; have := HB.out; omega)))
        replace KP := Sh.mk (hs.blk KP.out (by omega))
        replace KX := Sh.mk (hs.blk KX.out (by omega))
        replace KR := Sh.mk hk
        replace FF := Sh.mk (show ∀ k, k < w.heap.size → k ≠ o → k ≠ g → k ≠ p → w6.heap[k]? = w.heap[k]? from fun k hk a1 a2 a3 => (hs.2.2 k (by omega)).trans (FF.out k hk a1 a2 a3))
        replace BB := Sh.mk (BB.out.trans (hs.1.mono (by have := HO.out; have := HB.out; omega)))
        replace HZ := Sh.mk (show w.heap.size + 3 ≤ w6.heap.size by rw [hs.2.1]; exact HZ.out)
        clear hk hs
        (refine OX.o_pure (v := ?_) (by rfl) (fun w' => ?_) ?_; rotate_left; (focus (go_simp; (try with_reducible rfl))); (try simp only [Act.put, List.setIfInBounds_toArray, List.set_cons_zero, List.set_cons_succ]))
        refine OX.o_nil (hQ.out _ _ ?_); clear hQ QQ
        go_wp2_with fail
        have v0 : w6.cell? ⟨(w.heap.size + 2), 0, none⟩ = some (.slice A n c) := by rw [KR.out.cell]; rfl
        have v1 : w6.cell? ⟨(w.heap.size + 2), 1, none⟩ = some (.int .u64 (base : Int)) := by rw [KR.out.cell]; rfl
        have v2 : w6.cell? ⟨(w.heap.size + 2), 2, none⟩ = some (.int .i64 (size : Int)) := by rw [KR.out.cell]; rfl
        have v3 : w6.cell? ⟨(w.heap.size + 2), 3, none⟩ = some (.bool cl) := by rw [KR.out.cell]; rfl
        have v4 : w6.cell? ⟨(w.heap.size + 2), 4, none⟩ = some (.bool dn) := by rw [KR.out.cell]; rfl
        refine bodyPost_ret (v := .tuple #[.agg #[.slice A n c, .int .u64 (base : Int), .int .i64 (size : Int), .bool cl, .bool dn], .bool true]) (by simp [results, Try.results9, go_sem, v0, v1, v2, v3, v4]) rfl ?_
        exact ⟨_, _, _, _, _, _, _, rfl, HU.out, HR.out, BB.out, by have := HZ.out; omega, FF.out⟩
      · subst hdn
        have HYES := Sh.mk hyes
        clear hyes
        go_enter Try.func9, Try.ntmps9
        go_upto_region 1 with fail
        have KX : Hid (Blk (w.alloc (.cells #[.slice A n c, .int .u64 (base : Int), .int .i64 (size : Int), .bool cl, .bool false] 31)) (w.heap.size) 31 #[.slice A n c, .int .u64 (base : Int), .int .i64 (size : Int), .bool cl, .bool false]) := Lib.hid ((Blk.new w 31 #[.slice A n c, .int .u64 (base : Int), .int .i64 (size : Int), .bool cl, .bool false]))
        replace KX : Hid (Blk ((w.alloc (.cells #[.slice A n c, .int .u64 (base : Int), .int .i64 (size : Int), .bool cl, .bool false] 31)).alloc (.cells #[.int .i64 q.k, .int .i64 q.nn, .int .u64 (q.to : Int), .slice q.A q.m q.c] 37)) (w.heap.size) 31 #[.slice A n c, .int .u64 (base : Int), .int .i64 (size : Int), .bool cl, .bool false]) := Lib.hid (KX.out.alloc _)
        replace KX : Hid (Blk (((w.alloc (.cells #[.slice A n c, .int .u64 (base : Int), .int .i64 (size : Int), .bool cl, .bool false] 31)).alloc (.cells #[.int .i64 q.k, .int .i64 q.nn, .int .u64 (q.to : Int), .slice q.A q.m q.c] 37)).alloc (.cells #[.slice none 0 0, .int .u64 0, .int .i64 0, .bool false, .bool false] 31)) (w.heap.size) 31 #[.slice A n c, .int .u64 (base : Int), .int .i64 (size : Int), .bool cl, .bool false]) := Lib.hid (KX.out.alloc _)
        have KP : Hid (Blk ((w.alloc (.cells #[.slice A n c, .int .u64 (base : Int), .int .i64 (size : Int), .bool cl, .bool false] 31)).alloc (.cells #[.int .i64 q.k, .int .i64 q.nn, .int .u64 (q.to : Int), .slice q.A q.m q.c] 37)) (w.heap.size + 1) 37 #[.int .i64 q.k, .int .i64 q.nn, .int .u64 (q.to : Int), .slice q.A q.m q.c]) := Lib.hid ((Blk.new (w.alloc (.cells #[.slice A n c, .int .u64 (base : Int), .int .i64 (size : Int), .bool cl, .bool false] 31)) 37 #[.int .i64 q.k, .int .i64 q.nn, .int .u64 (q.to : Int), .slice q.A q.m q.c]) |> fun h => by simpa using h)
        replace KP : Hid (Blk (((w.alloc (.cells #[.slice A n c, .int .u64 (base : Int), .int .i64 (size : Int), .bool cl, .bool false] 31)).alloc (.cells #[.int .i64 q.k, .int .i64 q.nn, .int .u64 (q.to : Int), .slice q.A q.m q.c] 37)).alloc (.cells #[.slice none 0 0, .int .u64 0, .int .i64 0, .bool false, .bool false] 31)) (w.heap.size + 1) 37 #[.int .i64 q.k, .int .i64 q.nn, .int .u64 (q.to : Int), .slice q.A q.m q.c]) := Lib.hid (KP.out.alloc _)
        have KR : Hid (Blk (((w.alloc (.cells #[.slice A n c, .int .u64 (base : Int), .int .i64 (size : Int), .bool cl, .bool false] 31)).alloc (.cells #[.int .i64 q.k, .int .i64 q.nn, .int .u64 (q.to : Int), .slice q.A q.m q.c] 37)).alloc (.cells #[.slice none 0 0, .int .u64 0, .int .i64 0, .bool false, .bool false] 31)) (w.heap.size + 2) 31 #[.slice none 0 0, .int .u64 0, .int .i64 0, .bool false, .bool false]) := Lib.hid ((Blk.new ((w.alloc (.cells #[.slice A n c, .int .u64 (base : Int), .int .i64 (size : Int), .bool cl, .bool false] 31)).alloc (.cells #[.int .i64 q.k, .int .i64 q.nn, .int .u64 (q.to : Int), .slice q.A q.m q.c] 37)) 31 #[.slice none 0 0, .int .u64 0, .int .i64 0, .bool false, .bool false]) |> fun h => by simpa using h)
        have b1 : Hid (Below w.heap.size w (((w.alloc (.cells #[.slice A n c, .int .u64 (base : Int), .int .i64 (size : Int), .bool cl, .bool false] 31)).alloc (.cells #[.int .i64 q.k, .int .i64 q.nn, .int .u64 (q.to : Int), .slice q.A q.m q.c] 37)).alloc (.cells #[.slice none 0 0, .int .u64 0, .int .i64 0, .bool false, .bool false] 31))) := Lib.hid ((((Below.refl w.heap.size w).alloc (Nat.le_refl _) (.cells #[.slice A n c, .int .u64 (base : Int), .int .i64 (size : Int), .bool cl, .bool false] 31)).alloc (by simp <;> omega) (.cells #[.int .i64 q.k, .int .i64 q.nn, .int .u64 (q.to : Int), .slice q.A q.m q.c] 37)).alloc (by simp <;> omega) (.cells #[.slice none 0 0, .int .u64 0, .int .i64 0, .bool false, .bool false] 31))
        have hz : (((w.alloc (.cells #[.slice A n c, .int .u64 (base : Int), .int .i64 (size : Int), .bool cl, .bool false] 31)).alloc (.cells #[.int .i64 q.k, .int .i64 q.nn, .int .u64 (q.to : Int), .slice q.A q.m q.c] 37)).alloc (.cells #[.slice none 0 0, .int .u64 0, .int .i64 0, .bool false, .bool false] 31)).heap.size = w.heap.size + 3 := by simp
        generalize (((w.alloc (.cells #[.slice A n c, .int .u64 (base : Int), .int .i64 (size : Int), .bool cl, .bool false] 31)).alloc (.cells #[.int .i64 q.k, .int .i64 q.nn, .int .u64 (q.to : Int), .slice q.A q.m q.c] 37)).alloc (.cells #[.slice none 0 0, .int .u64 0, .int .i64 0, .bool false, .bool false] 31)) = w2 at KX KP KR b1 hz ⊢
        have HZ := Lib.hid hz
        clear hz
        replace HU := Sh.mk (HU.out.into b1.out)
        replace HR := Sh.mk (HR.out.below b1.out)
        replace HQ := Sh.mk (HQ.out.below (b1.out.mono (by have := HO.out; have := HB.out; omega)))
        have BB := Sh.mk (b1.out.mono (show W0 ≤ w.heap.size by have := HO.out; have := HB.out; omega))
        have FF := Sh.mk (show ∀ k, k < w.heap.size → k ≠ o → k ≠ g → k ≠ p → w2.heap[k]? = w.heap[k]? from fun k hk _ _ _ => b1.out.block k hk)
        replace HZ := Sh.mk (show w.heap.size + 3 ≤ w2.heap.size by have := HZ.out; omega)
        clear b1
        have x0 : w2.cell? ⟨w.heap.size, 0, none⟩ = some (.slice A n c) := by rw [KX.out.cell]; rfl
        have x1 : w2.cell? ⟨w.heap.size, 1, none⟩ = some (.int .u64 (base : Int)) := by rw [KX.out.cell]; rfl
        have x2 : w2.cell? ⟨w.heap.size, 2, none⟩ = some (.int .i64 (size : Int)) := by rw [KX.out.cell]; rfl
        have x3 : w2.cell? ⟨w.heap.size, 3, none⟩ = some (.bool cl) := by rw [KX.out.cell]; rfl
        have x4 : w2.cell? ⟨w.heap.size, 4, none⟩ = some (.bool false) := by rw [KX.out.cell]; rfl
        have p0 : w2.cell? ⟨(w.heap.size + 1), 0, none⟩ = some (.int .i64 q.k) := by rw [KP.out.cell]; rfl
        have p1 : w2.cell? ⟨(w.heap.size + 1), 1, none⟩ = some (.int .i64 q.nn) := by rw [KP.out.cell]; rfl
        have p2 : w2.cell? ⟨(w.heap.size + 1), 2, none⟩ = some (.int .u64 (q.to : Int)) := by rw [KP.out.cell]; rfl
        have p3 : w2.cell? ⟨(w.heap.size + 1), 3, none⟩ = some (.slice q.A q.m q.c) := by rw [KP.out.cell]; rfl
        obtain ⟨z, hz⟩ : ∃ z, z = min tv (base + bs.length) := ⟨_, rfl⟩
        obtain ⟨f, hf⟩ : ∃ f, f = decide (base + n < tv) := ⟨_, rfl⟩
        have RA := r_acked_yes A n c base size cl bs tv w2 (HR.out.rd.re HN.out.1) HN.out.2 (by have := HSZ.out; have := HN.out; omega) (by rw [← HN.out.1]; exact HLIM.out) HYES.out.1 (by rw [← HN.out.1]; exact HYES.out.2) z (by rw [← HN.out.1]; exact hz)
        rw [← hf] at RA
        have RAS := Sh.mk RA
        have HZE := Sh.mk (And.intro hz hf)
        clear RA hz hf
        go_wp2_with fail
        refine RAS.out.mono ?_
        rintro e w3 ⟨v, rfl, hv, b3⟩
        have HV := Sh.mk (hv.mono (show B1 ≤ w2.heap.size by have := HB.out; have := HZ.out; omega))
        replace HG := Sh.mk (show ∀ i, v.ownBlock = some i → i ≠ w.heap.size ∧ i ≠ w.heap.size + 2 from fun i hi => by have := (hv.lt i hi).1; have := HZ.out; omega)
        obtain ⟨A8, n8, c8, rfl, _, _, _⟩ := hv.out
        clear RAS hv
        replace HU := Sh.mk (HU.out.into b3)
        replace HR := Sh.mk (HR.out.below b3)
        replace HQ := Sh.mk (HQ.out.below (b3.mono (by have := HO.out; have := HB.out; have := HZ.out; omega)))
        replace KX := Sh.mk (KX.out.below b3 KX.out.lt)
        replace KP := Sh.mk (KP.out.below b3 KP.out.lt)
        replace KR := Sh.mk (KR.out.below b3 KR.out.lt)
        replace BB := Sh.mk (BB.out.trans (b3.mono (by have := HO.out; have := HB.out; have := HZ.out; omega)))
        replace FF := Sh.mk (show ∀ k, k < w.heap.size → k ≠ o → k ≠ g → k ≠ p → w3.heap[k]? = w.heap[k]? from fun k hk a1 a2 a3 => (b3.block k (by have := HZ.out; omega)).trans (FF.out k hk a1 a2 a3))
        replace HZ := Sh.mk (show w.heap.size + 3 ≤ w3.heap.size by have := HZ.out; have := b3.size; omega)
        replace HR := HV
        clear HV b3 x0 x1 x2 x3 x4 p0 p1 p2 p3
        go_wp2_with (refine stm_store (cs' := #[.slice A8 n8 c8, .int .u64 (z : Int), .int .i64 (size : Int), .bool cl, .bool f]) KX.out rfl _ _ rfl rfl rfl (by simp) (by kernel_rfl) (by simp [Value.oneCell']) (by simp [setL]) fun w4 hk hs => ?_)
        replace HU := Sh.mk (HU.out.below hs.1 (by have := HO.out; have := HB.out; omega) (by have := HO.out; have := HB.out; omega) (by have := HO.out; have := HB.out; omega))
        replace HR := Sh.mk (HR.out.kept (w' := w4) fun i hi => hs.2.2 i (by have := HG.out i hi; omega))
        replace HQ := Sh.mk (HQ.out.below (hs.1.mono (by have := HO.out; have := HB.out; omega)))
        replace KP := Sh.mk (hs.blk KP.out (by omega))
        replace KX := Sh.mk hk
        replace KR := Sh.mk (hs.blk KR.out (by omega))
        replace FF := Sh.mk (show ∀ k, k < w.heap.size → k ≠ o → k ≠ g → k ≠ p → w4.heap[k]? = w.heap[k]? from fun k hk a1 a2 a3 => (hs.2.2 k (by omega)).trans (FF.out k hk a1 a2 a3))
        replace BB := Sh.mk (BB.out.trans (hs.1.mono (by have := HO.out; have := HB.out; omega)))
        replace HZ := Sh.mk (show w.heap.size + 3 ≤ w4.heap.size by rw [hs.2.1]; exact HZ.out)
        clear hk hs
        go_upto_region 9 with fail
        refine OX.wp_ord [(0, .read), (1, .pure), (2, .pure), (4, .pure), (3, .sole), (5, .pure), (6, .sole), (7, .pure)] ⟨fun k => k = o ∨ k = g ∨ k = p ∨ k = w.heap.size + 2, []⟩ (by kernel_rfl) (by kernel_rfl) (fun QQ hQ wd hwd => ?_); (try simp only [List.map_cons, List.map_nil, List.getD_cons_zero, List.getD_cons_succ])
        have hD : Below w4.heap.size w4 wd := by rw [hwd.out]; exact (Below.refl _ _).drew
        replace HU := Sh.mk (HU.out.into hD)
        replace HR := Sh.mk (HR.out.below hD)
        replace HQ := Sh.mk (HQ.out.below (hD.mono (by have := HO.out; have := HB.out; have := HZ.out; omega)))
        replace KX := Sh.mk (KX.out.below hD KX.out.lt)
        replace KP := Sh.mk (KP.out.below hD KP.out.lt)
        replace KR := Sh.mk (KR.out.below hD KR.out.lt)
        replace BB := Sh.mk (BB.out.trans (hD.mono (by have := HO.out; have := HB.out; have := HZ.out; omega)))
        replace FF := Sh.mk (show ∀ k, k < w.heap.size → k ≠ o → k ≠ g → k ≠ p → wd.heap[k]? = w.heap[k]? from fun k hk a1 a2 a3 => (hD.block k (by have := HZ.out; omega)).trans (FF.out k hk a1 a2 a3))
        replace HZ := Sh.mk (show w.heap.size + 3 ≤ wd.heap.size by have := HZ.out; have := hD.size; omega)
        clear hD hwd
        have hne : ¬ (w.heap.size = o ∨ w.heap.size = g ∨ w.heap.size = p ∨ w.heap.size = w.heap.size + 2) := by have := HO.out; have := HB.out; omega
        (refine OX.o_loads _ [.slice A8 n8 c8, .int .u64 (z : Int), .int .i64 (size : Int), .bool cl, .bool f] (by rfl) rfl rfl (by dsimp only; first | assumption | omega) (fun j x hj => by rw [KX.out.cell, Nat.zero_add]; simpa using hj) (Nat.succ_pos _) (by kernel_rfl) (by kernel_rfl) ?_; simp only [Act.put, List.setIfInBounds_toArray, List.set_cons_zero, List.set_cons_succ])
        (refine OX.o_pure (v := ?_) (by rfl) (fun w' => ?_) ?_; rotate_left; (focus (go_simp; (try with_reducible rfl))); (try simp only [Act.put, List.setIfInBounds_toArray, List.set_cons_zero, List.set_cons_succ]))
        (refine OX.o_pure (v := ?_) (by rfl) (fun w' => ?_) ?_; rotate_left; (focus (go_simp; (try with_reducible rfl))); (try simp only [Act.put, List.setIfInBounds_toArray, List.set_cons_zero, List.set_cons_succ]))
        (refine OX.o_pure (v := ?_) (by rfl) (fun w' => ?_) ?_; rotate_left; (focus (go_simp; (try with_reducible rfl))); (try simp only [Act.put, List.setIfInBounds_toArray, List.set_cons_zero, List.set_cons_succ]))
        refine OX.o_sole (fun K hK => ?_)
        go_wp2_with fail
        have OA := ou_acked_yes o g p size base cl bs tv wd HU.out HYES.out.1 HYES.out.2 z HZE.out.1
        rw [HN.out.1, ← HZE.out.2] at OA
        refine OA.mono ?_
        rintro e w5 ⟨rfl, tN, uN⟩
        clear OA
        go_wp2_with fail
        refine hK _ _ (fun _ => ⟨Nat.le_of_eq tN.2.1.symm, fun k _ hk => tN.2.2 k (fun e => hk (by simp [e])) (fun e => hk (by simp [e])) (fun e => hk (by simp [e]))⟩) ?_; clear hK K
        replace HU := Sh.mk uN
        replace HR := Sh.mk (tN.nats HR.out HO.out.1.2 HO.out.2.1.2 HO.out.2.2.2)
        replace HQ := Sh.mk (HQ.out.below (tN.below HO.out.1.1 HO.out.2.1.1 HO.out.2.2.1))
        replace KX := Sh.mk (tN.blk KX.out (by have := HO.out; have := HB.out; omega) (by have := HO.out; have := HB.out; omega) (by have := HO.out; have := HB.out; omega))
        replace KP := Sh.mk (tN.blk KP.out (by have := HO.out; have := HB.out; omega) (by have := HO.out; have := HB.out; omega) (by have := HO.out; have := HB.out; omega))
        replace KR := Sh.mk (tN.blk KR.out (by have := HO.out; have := HB.out; omega) (by have := HO.out; have := HB.out; omega) (by have := HO.out; have := HB.out; omega))
        replace FF := Sh.mk (show ∀ k, k < w.heap.size → k ≠ o → k ≠ g → k ≠ p → w5.heap[k]? = w.heap[k]? from fun k hk a1 a2 a3 => (tN.2.2 k a1 a2 a3).trans (FF.out k hk a1 a2 a3))
        replace BB := Sh.mk (BB.out.trans (tN.below HO.out.1.1 HO.out.2.1.1 HO.out.2.2.1))
        replace HZ := Sh.mk (show w.heap.size + 3 ≤ w5.heap.size by rw [tN.2.1]; exact HZ.out)
        clear tN uN
        (refine OX.o_pure (v := ?_) (by rfl) (fun w' => ?_) ?_; rotate_left; (focus (go_simp; (try with_reducible rfl))); (try simp only [Act.put, List.setIfInBounds_toArray, List.set_cons_zero, List.set_cons_succ]))
        refine OX.o_sole (fun K hK => ?_)
        refine stm_store (cs' := #[.slice A8 n8 c8, .int .u64 (z : Int), .int .i64 (size : Int), .bool cl, .bool f]) KR.out rfl _ _ rfl rfl rfl (by simp) (by kernel_rfl) (by simp [Value.oneCell']) (by simp [setL]) fun w6 hk hs => ?_
        refine wpList_nil ?_
        refine hK _ _ (fun _ => OX.ExtB.solo hs (by simp)) ?_; clear hK K
        replace HU := Sh.mk (HU.out.below hs.1 (by have := HO.out; have := HB.out; omega) (by have := HO.out; have := HB.out; omega) (by have := HO.out; have := HB.out; omega))
        replace HR := Sh.mk (HR.out.kept (w' := w6) fun i hi => hs.2.2 i (by have := HG.out i hi; omega))
        replace HQ := Sh.mk (HQ.out.below (hs.1.mono (by have := HO.out; have := HB.out; omega)))
        replace KP := Sh.mk (hs.blk KP.out (by omega))
        replace KX := Sh.mk (hs.blk KX.out (by omega))
        replace KR := Sh.mk hk
        replace FF := Sh.mk (show ∀ k, k < w.heap.size → k ≠ o → k ≠ g → k ≠ p → w6.heap[k]? = w.heap[k]? from fun k hk a1 a2 a3 => (hs.2.2 k (by omega)).trans (FF.out k hk a1 a2 a3))
        replace BB := Sh.mk (BB.out.trans (hs.1.mono (by have := HO.out; have := HB.out; omega)))
        replace HZ := Sh.mk (show w.heap.size + 3 ≤ w6.heap.size by rw [hs.2.1]; exact HZ.out)
        clear hk hs
        (refine OX.o_pure (v := ?_) (by rfl) (fun w' => ?_) ?_; rotate_left; (focus (go_simp; (try with_reducible rfl))); (try simp only [Act.put, List.setIfInBounds_toArray, List.set_cons_zero, List.set_cons_succ]))
        refine OX.o_nil (hQ.out _ _ ?_); clear hQ QQ
        go_wp2_with fail
        have v0 : w6.cell? ⟨(w.heap.size + 2), 0, none⟩ = some (.slice A8 n8 c8) := by rw [KR.out.cell]; rfl
        have v1 : w6.cell? ⟨(w.heap.size + 2), 1, none⟩ = some (.int .u64 (z : Int)) := by rw [KR.out.cell]; rfl
        have v2 : w6.cell? ⟨(w.heap.size + 2), 2, none⟩ = some (.int .i64 (size : Int)) := by rw [KR.out.cell]; rfl
        have v3 : w6.cell? ⟨(w.heap.size + 2), 3, none⟩ = some (.bool cl) := by rw [KR.out.cell]; rfl
        have v4 : w6.cell? ⟨(w.heap.size + 2), 4, none⟩ = some (.bool f) := by rw [KR.out.cell]; rfl
        refine bodyPost_ret (v := .tuple #[.agg #[.slice A8 n8 c8, .int .u64 (z : Int), .int .i64 (size : Int), .bool cl, .bool f], .bool true]) (by simp [results, Try.results9, go_sem, v0, v1, v2, v3, v4]) rfl ?_
        exact ⟨_, _, _, _, _, _, _, rfl, HU.out, HR.out, BB.out, by have := HZ.out; omega, FF.out⟩
    · subst hcl
      rcases (show (dn = true ∨ tv ≤ base ∨ base + bs.length + (if cl then 1 else 0) < tv) ∨ (dn = false ∧ base < tv ∧ tv ≤ base + bs.length + (if cl then 1 else 0)) by cases dn <;> simp <;> omega) with hno | ⟨hdn, hyes⟩
      · have HNO := Sh.mk hno
        clear hno
        go_enter Try.func9, Try.ntmps9
        go_upto_region 1 with fail
        have KX : Hid (Blk (w.alloc (.cells #[.slice A n c, .int .u64 (base : Int), .int .i64 (size : Int), .bool cl, .bool dn] 31)) (w.heap.size) 31 #[.slice A n c, .int .u64 (base : Int), .int .i64 (size : Int), .bool cl, .bool dn]) := Lib.hid ((Blk.new w 31 #[.slice A n c, .int .u64 (base : Int), .int .i64 (size : Int), .bool cl, .bool dn]))
        replace KX : Hid (Blk ((w.alloc (.cells #[.slice A n c, .int .u64 (base : Int), .int .i64 (size : Int), .bool cl, .bool dn] 31)).alloc (.cells #[.int .i64 q.k, .int .i64 q.nn, .int .u64 (q.to : Int), .slice q.A q.m q.c] 37)) (w.heap.size) 31 #[.slice A n c, .int .u64 (base : Int), .int .i64 (size : Int), .bool cl, .bool dn]) := Lib.hid (KX.out.alloc _)
        replace KX : Hid (Blk (((w.alloc (.cells #[.slice A n c, .int .u64 (base : Int), .int .i64 (size : Int), .bool cl, .bool dn] 31)).alloc (.cells #[.int .i64 q.k, .int .i64 q.nn, .int .u64 (q.to : Int), .slice q.A q.m q.c] 37)).alloc (.cells #[.slice none 0 0, .int .u64 0, .int .i64 0, .bool false, .bool false] 31)) (w.heap.size) 31 #[.slice A n c, .int .u64 (base : Int), .int .i64 (size : Int), .bool cl, .bool dn]) := Lib.hid (KX.out.alloc _)
        have KP : Hid (Blk ((w.alloc (.cells #[.slice A n c, .int .u64 (base : Int), .int .i64 (size : Int), .bool cl, .bool dn] 31)).alloc (.cells #[.int .i64 q.k, .int .i64 q.nn, .int .u64 (q.to : Int), .slice q.A q.m q.c] 37)) (w.heap.size + 1) 37 #[.int .i64 q.k, .int .i64 q.nn, .int .u64 (q.to : Int), .slice q.A q.m q.c]) := Lib.hid ((Blk.new (w.alloc (.cells #[.slice A n c, .int .u64 (base : Int), .int .i64 (size : Int), .bool cl, .bool dn] 31)) 37 #[.int .i64 q.k, .int .i64 q.nn, .int .u64 (q.to : Int), .slice q.A q.m q.c]) |> fun h => by simpa using h)
        replace KP : Hid (Blk (((w.alloc (.cells #[.slice A n c, .int .u64 (base : Int), .int .i64 (size : Int), .bool cl, .bool dn] 31)).alloc (.cells #[.int .i64 q.k, .int .i64 q.nn, .int .u64 (q.to : Int), .slice q.A q.m q.c] 37)).alloc (.cells #[.slice none 0 0, .int .u64 0, .int .i64 0, .bool false, .bool false] 31)) (w.heap.size + 1) 37 #[.int .i64 q.k, .int .i64 q.nn, .int .u64 (q.to : Int), .slice q.A q.m q.c]) := Lib.hid (KP.out.alloc _)
        have KR : Hid (Blk (((w.alloc (.cells #[.slice A n c, .int .u64 (base : Int), .int .i64 (size : Int), .bool cl, .bool dn] 31)).alloc (.cells #[.int .i64 q.k, .int .i64 q.nn, .int .u64 (q.to : Int), .slice q.A q.m q.c] 37)).alloc (.cells #[.slice none 0 0, .int .u64 0, .int .i64 0, .bool false, .bool false] 31)) (w.heap.size + 2) 31 #[.slice none 0 0, .int .u64 0, .int .i64 0, .bool false, .bool false]) := Lib.hid ((Blk.new ((w.alloc (.cells #[.slice A n c, .int .u64 (base : Int), .int .i64 (size : Int), .bool cl, .bool dn] 31)).alloc (.cells #[.int .i64 q.k, .int .i64 q.nn, .int .u64 (q.to : Int), .slice q.A q.m q.c] 37)) 31 #[.slice none 0 0, .int .u64 0, .int .i64 0, .bool false, .bool false]) |> fun h => by simpa using h)
        have b1 : Hid (Below w.heap.size w (((w.alloc (.cells #[.slice A n c, .int .u64 (base : Int), .int .i64 (size : Int), .bool cl, .bool dn] 31)).alloc (.cells #[.int .i64 q.k, .int .i64 q.nn, .int .u64 (q.to : Int), .slice q.A q.m q.c] 37)).alloc (.cells #[.slice none 0 0, .int .u64 0, .int .i64 0, .bool false, .bool false] 31))) := Lib.hid ((((Below.refl w.heap.size w).alloc (Nat.le_refl _) (.cells #[.slice A n c, .int .u64 (base : Int), .int .i64 (size : Int), .bool cl, .bool dn] 31)).alloc (by simp <;> omega) (.cells #[.int .i64 q.k, .int .i64 q.nn, .int .u64 (q.to : Int), .slice q.A q.m q.c] 37)).alloc (by simp <;> omega) (.cells #[.slice none 0 0, .int .u64 0, .int .i64 0, .bool false, .bool false] 31))
        have hz : (((w.alloc (.cells #[.slice A n c, .int .u64 (base : Int), .int .i64 (size : Int), .bool cl, .bool dn] 31)).alloc (.cells #[.int .i64 q.k, .int .i64 q.nn, .int .u64 (q.to : Int), .slice q.A q.m q.c] 37)).alloc (.cells #[.slice none 0 0, .int .u64 0, .int .i64 0, .bool false, .bool false] 31)).heap.size = w.heap.size + 3 := by simp
        generalize (((w.alloc (.cells #[.slice A n c, .int .u64 (base : Int), .int .i64 (size : Int), .bool cl, .bool dn] 31)).alloc (.cells #[.int .i64 q.k, .int .i64 q.nn, .int .u64 (q.to : Int), .slice q.A q.m q.c] 37)).alloc (.cells #[.slice none 0 0, .int .u64 0, .int .i64 0, .bool false, .bool false] 31)) = w2 at KX KP KR b1 hz ⊢
        have HZ := Lib.hid hz
        clear hz
        replace HU := Sh.mk (HU.out.into b1.out)
        replace HR := Sh.mk (HR.out.below b1.out)
        replace HQ := Sh.mk (HQ.out.below (b1.out.mono (by have := HO.out; have := HB.out; omega)))
        have BB := Sh.mk (b1.out.mono (show W0 ≤ w.heap.size by have := HO.out; have := HB.out; omega))
        have FF := Sh.mk (show ∀ k, k < w.heap.size → k ≠ o → k ≠ g → k ≠ p → w2.heap[k]? = w.heap[k]? from fun k hk _ _ _ => b1.out.block k hk)
        replace HZ := Sh.mk (show w.heap.size + 3 ≤ w2.heap.size by have := HZ.out; omega)
        clear b1
        have x0 : w2.cell? ⟨w.heap.size, 0, none⟩ = some (.slice A n c) := by rw [KX.out.cell]; rfl
        have x1 : w2.cell? ⟨w.heap.size, 1, none⟩ = some (.int .u64 (base : Int)) := by rw [KX.out.cell]; rfl
        have x2 : w2.cell? ⟨w.heap.size, 2, none⟩ = some (.int .i64 (size : Int)) := by rw [KX.out.cell]; rfl
        have x3 : w2.cell? ⟨w.heap.size, 3, none⟩ = some (.bool cl) := by rw [KX.out.cell]; rfl
        have x4 : w2.cell? ⟨w.heap.size, 4, none⟩ = some (.bool dn) := by rw [KX.out.cell]; rfl
        have p0 : w2.cell? ⟨(w.heap.size + 1), 0, none⟩ = some (.int .i64 q.k) := by rw [KP.out.cell]; rfl
        have p1 : w2.cell? ⟨(w.heap.size + 1), 1, none⟩ = some (.int .i64 q.nn) := by rw [KP.out.cell]; rfl
        have p2 : w2.cell? ⟨(w.heap.size + 1), 2, none⟩ = some (.int .u64 (q.to : Int)) := by rw [KP.out.cell]; rfl
        have p3 : w2.cell? ⟨(w.heap.size + 1), 3, none⟩ = some (.slice q.A q.m q.c) := by rw [KP.out.cell]; rfl
        go_wp2_with fail
        refine (r_acked_no A n c base size cl dn tv w2 (by rw [← HN.out.1]; exact HLIM.out) (by rw [← HN.out.1]; exact HNO.out)).mono ?_
        rintro e w3 ⟨rfl, b3⟩
        replace HU := Sh.mk (HU.out.into b3)
        replace HR := Sh.mk (HR.out.below b3)
        replace HQ := Sh.mk (HQ.out.below (b3.mono (by have := HO.out; have := HB.out; have := HZ.out; omega)))
        replace KX := Sh.mk (KX.out.below b3 KX.out.lt)
        replace KP := Sh.mk (KP.out.below b3 KP.out.lt)
        replace KR := Sh.mk (KR.out.below b3 KR.out.lt)
        replace BB := Sh.mk (BB.out.trans (b3.mono (by have := HO.out; have := HB.out; have := HZ.out; omega)))
        replace FF := Sh.mk (show ∀ k, k < w.heap.size → k ≠ o → k ≠ g → k ≠ p → w3.heap[k]? = w.heap[k]? from fun k hk a1 a2 a3 => (b3.block k (by have := HZ.out; omega)).trans (FF.out k hk a1 a2 a3))
        replace HZ := Sh.mk (show w.heap.size + 3 ≤ w3.heap.size by have := HZ.out; have := b3.size; omega)
        clear b3 x0 x1 x2 x3 x4 p0 p1 p2 p3
        go_wp2_with (refine stm_store (cs' := #[.slice A n c, .int .u64 (base : Int), .int .i64 (size : Int), .bool cl, .bool dn]) KX.out rfl _ _ rfl rfl rfl (by simp) (by kernel_rfl) (by simp [Value.oneCell']) (by simp [setL]) fun w4 hk hs => ?_)
        replace HU := Sh.mk (HU.out.below hs.1 (by have := HO.out; have := HB.out; omega) (by have := HO.out; have := HB.out; omega) (by have := HO.out; have := HB.out; omega))
        replace HR := Sh.mk (HR.out.kept (w' := w4) fun i hi => hs.2.2 i (by have := HG.out i hi; omega))
        replace HQ := Sh.mk (HQ.out.below (hs.1.mono (by have := HO.out; have := HB.out; omega)))
        replace KP := Sh.mk (hs.blk KP.out (by omega))
        replace KX := Sh.mk hk
        replace KR := Sh.mk (hs.blk KR.out (by omega))
        replace FF := Sh.mk (show ∀ k, k < w.heap.size → k ≠ o → k ≠ g → k ≠ p → w4.heap[k]? = w.heap[k]? from fun k hk a1 a2 a3 => (hs.2.2 k (by omega)).trans (FF.out k hk a1 a2 a3))
        replace BB := Sh.mk (BB.out.trans (hs.1.mono (by have := HO.out; have := HB.out; omega)))
        replace HZ := Sh.mk (show w.heap.size + 3 ≤ w4.heap.size by rw [hs.2.1]; exact HZ.out)
        clear hk hs
        go_upto_region 9 with fail
        refine OX.wp_ord [(0, .read), (1, .pure), (2, .pure), (4, .pure), (3, .sole), (5, .pure), (6, .sole), (7, .pure)] ⟨fun k => k = o ∨ k = g ∨ k = p ∨ k = w.heap.size + 2, []⟩ (by kernel_rfl) (by kernel_rfl) (fun QQ hQ wd hwd => ?_); (try simp only [List.map_cons, List.map_nil, List.getD_cons_zero, List.getD_cons_succ])
        have hD : Below w4.heap.size w4 wd := by rw [hwd.out]; exact (Below.refl _ _).drew
        replace HU := Sh.mk (HU.out.into hD)
        replace HR := Sh.mk (HR.out.below hD)
        replace HQ := Sh.mk (HQ.out.below (hD.mono (by have := HO.out; have := HB.out; have := HZ.out; omega)))
        replace KX := Sh.mk (KX.out.below hD KX.out.lt)
        replace KP := Sh.mk (KP.out.below hD KP.out.lt)
        replace KR := Sh.mk (KR.out.below hD KR.out.lt)
        replace BB := Sh.mk (BB.out.trans (hD.mono (by have := HO.out; have := HB.out; have := HZ.out; omega)))
        replace FF := Sh.mk (show ∀ k, k < w.heap.size → k ≠ o → k ≠ g → k ≠ p → wd.heap[k]? = w.heap[k]? from fun k hk a1 a2 a3 => (hD.block k (by have := HZ.out; omega)).trans (FF.out k hk a1 a2 a3))
        replace HZ := Sh.mk (show w.heap.size + 3 ≤ wd.heap.size by have := HZ.out; have := hD.size; omega)
        clear hD hwd
        have hne : ¬ (w.heap.size = o ∨ w.heap.size = g ∨ w.heap.size = p ∨ w.heap.size = w.heap.size + 2) := by have := HO.out; have := HB.out; omega
        (refine OX.o_loads _ [.slice A n c, .int .u64 (base : Int), .int .i64 (size : Int), .bool cl, .bool dn] (by rfl) rfl rfl (by dsimp only; first | assumption | omega) (fun j x hj => by rw [KX.out.cell, Nat.zero_add]; simpa using hj) (Nat.succ_pos _) (by kernel_rfl) (by kernel_rfl) ?_; simp only [Act.put, List.setIfInBounds_toArray, List.set_cons_zero, List.set_cons_succ])
        (refine OX.o_pure (v := ?_) (by rfl) (fun w' => ?_) ?_; rotate_left; (focus (go_simp; (try with_reducible rfl))); (try simp only [Act.put, List.setIfInBounds_toArray, List.set_cons_zero, List.set_cons_succ]))
        (refine OX.o_pure (v := ?_) (by rfl) (fun w' => ?_) ?_; rotate_left; (focus (go_simp; (try with_reducible rfl))); (try simp only [Act.put, List.setIfInBounds_toArray, List.set_cons_zero, List.set_cons_succ]))
        (refine OX.o_pure (v := ?_) (by rfl) (fun w' => ?_) ?_; rotate_left; (focus (go_simp; (try with_reducible rfl))); (try simp only [Act.put, List.setIfInBounds_toArray, List.set_cons_zero, List.set_cons_succ]))
        refine OX.o_sole (fun K hK => ?_)
        go_wp2_with fail
        refine (ou_acked_no o g p size base cl dn bs tv wd HU.out HNO.out).mono ?_
        rintro e w5 ⟨rfl, qn, hqn⟩
        have tN : Tri o g p wd w5 := hqn ▸ Tri.refl.drewN qn
        have uN : OU w5 o g p size base cl dn bs := hqn ▸ HU.out.drewN qn
        clear hqn
        go_wp2_with fail
        refine hK _ _ (fun _ => ⟨Nat.le_of_eq tN.2.1.symm, fun k _ hk => tN.2.2 k (fun e => hk (by simp [e])) (fun e => hk (by simp [e])) (fun e => hk (by simp [e]))⟩) ?_; clear hK K
        replace HU := Sh.mk uN
        replace HR := Sh.mk (tN.nats HR.out HO.out.1.2 HO.out.2.1.2 HO.out.2.2.2)
        replace HQ := Sh.mk (HQ.out.below (tN.below HO.out.1.1 HO.out.2.1.1 HO.out.2.2.1))
        replace KX := Sh.mk (tN.blk KX.out (by have := HO.out; have := HB.out; omega) (by have := HO.out; have := HB.out; omega) (by have := HO.out; have := HB.out; omega))
        replace KP := Sh.mk (tN.blk KP.out (by have := HO.out; have := HB.out; omega) (by have := HO.out; have := HB.out; omega) (by have := HO.out; have := HB.out; omega))
        replace KR := Sh.mk (tN.blk KR.out (by have := HO.out; have := HB.out; omega) (by have := HO.out; have := HB.out; omega) (by have := HO.out; have := HB.out; omega))
        replace FF := Sh.mk (show ∀ k, k < w.heap.size → k ≠ o → k ≠ g → k ≠ p → w5.heap[k]? = w.heap[k]? from fun k hk a1 a2 a3 => (tN.2.2 k a1 a2 a3).trans (FF.out k hk a1 a2 a3))
        replace BB := Sh.mk (BB.out.trans (tN.below HO.out.1.1 HO.out.2.1.1 HO.out.2.2.1))
        replace HZ := Sh.mk (show w.heap.size + 3 ≤ w5.heap.size by rw [tN.2.1]; exact HZ.out)
        clear tN uN
        (refine OX.o_pure (v := ?_) (by rfl) (fun w' => ?_) ?_; rotate_left; (focus (go_simp; (try with_reducible rfl))); (try simp only [Act.put, List.setIfInBounds_toArray, List.set_cons_zero, List.set_cons_succ]))
        refine OX.o_sole (fun K hK => ?_)
        refine stm_store (cs' := #[.slice A n c, .int .u64 (base : Int), .int .i64 (size : Int), .bool cl, .bool dn]) KR.out rfl _ _ rfl rfl rfl (by simp) (by kernel_rfl) (by simp [Value.oneCell']) (by simp [setL]) fun w6 hk hs => ?_
        refine wpList_nil ?_
        refine hK _ _ (fun _ => OX.ExtB.solo hs (by simp)) ?_; clear hK K
        replace HU := Sh.mk (HU.out.below hs.1 (by have := HO.out; have := HB.out; omega) (by have := HO.out; have := HB.out; omega) (by have := HO.out; have := HB.out; omega))
        replace HR := Sh.mk (HR.out.kept (w' := w6) fun i hi => hs.2.2 i (by have := HG.out i hi; omega))
        replace HQ := Sh.mk (HQ.out.below (hs.1.mono (by have := HO.out; have := HB.out; omega)))
        replace KP := Sh.mk (hs.blk KP.out (by omega))
        replace KX := Sh.mk (hs.blk KX.out (by omega))
        replace KR := Sh.mk hk
        replace FF := Sh.mk (show ∀ k, k < w.heap.size → k ≠ o → k ≠ g → k ≠ p → w6.heap[k]? = w.heap[k]? from fun k hk a1 a2 a3 => (hs.2.2 k (by omega)).trans (FF.out k hk a1 a2 a3))
        replace BB := Sh.mk (BB.out.trans (hs.1.mono (by have := HO.out; have := HB.out; omega)))
        replace HZ := Sh.mk (show w.heap.size + 3 ≤ w6.heap.size by rw [hs.2.1]; exact HZ.out)
        clear hk hs
        (refine OX.o_pure (v := ?_) (by rfl) (fun w' => ?_) ?_; rotate_left; (focus (go_simp; (try with_reducible rfl))); (try simp only [Act.put, List.setIfInBounds_toArray, List.set_cons_zero, List.set_cons_succ]))
        refine OX.o_nil (hQ.out _ _ ?_); clear hQ QQ
        go_wp2_with fail
        have v0 : w6.cell? ⟨(w.heap.size + 2), 0, none⟩ = some (.slice A n c) := by rw [KR.out.cell]; rfl
        have v1 : w6.cell? ⟨(w.heap.size + 2), 1, none⟩ = some (.int .u64 (base : Int)) := by rw [KR.out.cell]; rfl
        have v2 : w6.cell? ⟨(w.heap.size + 2), 2, none⟩ = some (.int .i64 (size : Int)) := by rw [KR.out.cell]; rfl
        have v3 : w6.cell? ⟨(w.heap.size + 2), 3, none⟩ = some (.bool cl) := by rw [KR.out.cell]; rfl
        have v4 : w6.cell? ⟨(w.heap.size + 2), 4, none⟩ = some (.bool dn) := by rw [KR.out.cell]; rfl
        refine bodyPost_ret (v := .tuple #[.agg #[.slice A n c, .int .u64 (base : Int), .int .i64 (size : Int), .bool cl, .bool dn], .bool true]) (by simp [results, Try.results9, go_sem, v0, v1, v2, v3, v4]) rfl ?_
        exact ⟨_, _, _, _, _, _, _, rfl, HU.out, HR.out, BB.out, by have := HZ.out; omega, FF.out⟩
      · subst hdn
        have HYES := Sh.mk hyes
        clear hyes
        go_enter Try.func9, Try.ntmps9
        go_upto_region 1 with fail
        have KX : Hid (Blk (w.alloc (.cells #[.slice A n c, .int .u64 (base : Int), .int .i64 (size : Int), .bool cl, .bool false] 31)) (w.heap.size) 31 #[.slice A n c, .int .u64 (base : Int), .int .i64 (size : Int), .bool cl, .bool false]) := Lib.hid ((Blk.new w 31 #[.slice A n c, .int .u64 (base : Int), .int .i64 (size : Int), .bool cl, .bool false]))
        replace KX : Hid (Blk ((w.alloc (.cells #[.slice A n c, .int .u64 (base : Int), .int .i64 (size : Int), .bool cl, .bool false] 31)).alloc (.cells #[.int .i64 q.k, .int .i64 q.nn, .int .u64 (q.to : Int), .slice q.A q.m q.c] 37)) (w.heap.size) 31 #[.slice A n c, .int .u64 (base : Int), .int .i64 (size : Int), .bool cl, .bool false]) := Lib.hid (KX.out.alloc _)
        replace KX : Hid (Blk (((w.alloc (.cells #[.slice A n c, .int .u64 (base : Int), .int .i64 (size : Int), .bool cl, .bool false] 31)).alloc (.cells #[.int .i64 q.k, .int .i64 q.nn, .int .u64 (q.to : Int), .slice q.A q.m q.c] 37)).alloc (.cells #[.slice none 0 0, .int .u64 0, .int .i64 0, .bool false, .bool false] 31)) (w.heap.size) 31 #[.slice A n c, .int .u64 (base : Int), .int .i64 (size : Int), .bool cl, .bool false]) := Lib.hid (KX.out.alloc _)
        have KP : Hid (Blk ((w.alloc (.cells #[.slice A n c, .int .u64 (base : Int), .int .i64 (size : Int), .bool cl, .bool false] 31)).alloc (.cells #[.int .i64 q.k, .int .i64 q.nn, .int .u64 (q.to : Int), .slice q.A q.m q.c] 37)) (w.heap.size + 1) 37 #[.int .i64 q.k, .int .i64 q.nn, .int .u64 (q.to : Int), .slice q.A q.m q.c]) := Lib.hid ((Blk.new (w.alloc (.cells #[.slice A n c, .int .u64 (base : Int), .int .i64 (size : Int), .bool cl, .bool false] 31)) 37 #[.int .i64 q.k, .int .i64 q.nn, .int .u64 (q.to : Int), .slice q.A q.m q.c]) |> fun h => by simpa using h)
        replace KP : Hid (Blk (((w.alloc (.cells #[.slice A n c, .int .u64 (base : Int), .int .i64 (size : Int), .bool cl, .bool false] 31)).alloc (.cells #[.int .i64 q.k, .int .i64 q.nn, .int .u64 (q.to : Int), .slice q.A q.m q.c] 37)).alloc (.cells #[.slice none 0 0, .int .u64 0, .int .i64 0, .bool false, .bool false] 31)) (w.heap.size + 1) 37 #[.int .i64 q.k, .int .i64 q.nn, .int .u64 (q.to : Int), .slice q.A q.m q.c]) := Lib.hid (KP.out.alloc _)
        have KR : Hid (Blk (((w.alloc (.cells #[.slice A n c, .int .u64 (base : Int), .int .i64 (size : Int), .bool cl, .bool false] 31)).alloc (.cells #[.int .i64 q.k, .int .i64 q.nn, .int .u64 (q.to : Int), .slice q.A q.m q.c] 37)).alloc (.cells #[.slice none 0 0, .int .u64 0, .int .i64 0, .bool false, .bool false] 31)) (w.heap.size + 2) 31 #[.slice none 0 0, .int .u64 0, .int .i64 0, .bool false, .bool false]) := Lib.hid ((Blk.new ((w.alloc (.cells #[.slice A n c, .int .u64 (base : Int), .int .i64 (size : Int), .bool cl, .bool false] 31)).alloc (.cells #[.int .i64 q.k, .int .i64 q.nn, .int .u64 (q.to : Int), .slice q.A q.m q.c] 37)) 31 #[.slice none 0 0, .int .u64 0, .int .i64 0, .bool false, .bool false]) |> fun h => by simpa using h)
        have b1 : Hid (Below w.heap.size w (((w.alloc (.cells #[.slice A n c, .int .u64 (base : Int), .int .i64 (size : Int), .bool cl, .bool false] 31)).alloc (.cells #[.int .i64 q.k, .int .i64 q.nn, .int .u64 (q.to : Int), .slice q.A q.m q.c] 37)).alloc (.cells #[.slice none 0 0, .int .u64 0, .int .i64 0, .bool false, .bool false] 31))) := Lib.hid ((((Below.refl w.heap.size w).alloc (Nat.le_refl _) (.cells #[.slice A n c, .int .u64 (base : Int), .int .i64 (size : Int), .bool cl, .bool false] 31)).alloc (by simp <;> omega) (.cells #[.int .i64 q.k, .int .i64 q.nn, .int .u64 (q.to : Int), .slice q.A q.m q.c] 37)).alloc (by simp <;> omega) (.cells #[.slice none 0 0, .int .u64 0, .int .i64 0, .bool false, .bool false] 31))
        have hz : (((w.alloc (.cells #[.slice A n c, .int .u64 (base : Int), .int .i64 (size : Int), .bool cl, .bool false] 31)).alloc (.cells #[.int .i64 q.k, .int .i64 q.nn, .int .u64 (q.to : Int), .slice q.A q.m q.c] 37)).alloc (.cells #[.slice none 0 0, .int .u64 0, .int .i64 0, .bool false, .bool false] 31)).heap.size = w.heap.size + 3 := by simp
        generalize (((w.alloc (.cells #[.slice A n c, .int .u64 (base : Int), .int .i64 (size : Int), .bool cl, .bool false] 31)).alloc (.cells #[.int .i64 q.k, .int .i64 q.nn, .int .u64 (q.to : Int), .slice q.A q.m q.c] 37)).alloc (.cells #[.slice none 0 0, .int .u64 0, .int .i64 0, .bool false, .bool false] 31)) = w2 at KX KP KR b1 hz ⊢
        have HZ := Lib.hid hz
        clear hz
        replace HU := Sh.mk (HU.out.into b1.out)
        replace HR := Sh.mk (HR.out.below b1.out)
        replace HQ := Sh.mk (HQ.out.below (b1.out.mono (by have := HO.out; have := HB.out; omega)))
        have BB := Sh.mk (b1.out.mono (show W0 ≤ w.heap.size by have := HO.out; have := HB.out; omega))
        have FF := Sh.mk (show ∀ k, k < w.heap.size → k ≠ o → k ≠ g → k ≠ p → w2.heap[k]? = w.heap[k]? from fun k hk _ _ _ => b1.out.block k hk)
        replace HZ := Sh.mk (show w.heap.size + 3 ≤ w2.heap.size by have := HZ.out; omega)
        clear b1
        have x0 : w2.cell? ⟨w.heap.size, 0, none⟩ = some (.slice A n c) := by rw [KX.out.cell]; rfl
        have x1 : w2.cell? ⟨w.heap.size, 1, none⟩ = some (.int .u64 (base : Int)) := by rw [KX.out.cell]; rfl
        have x2 : w2.cell? ⟨w.heap.size, 2, none⟩ = some (.int .i64 (size : Int)) := by rw [KX.out.cell]; rfl
        have x3 : w2.cell? ⟨w.heap.size, 3, none⟩ = some (.bool cl) := by rw [KX.out.cell]; rfl
        have x4 : w2.cell? ⟨w.heap.size, 4, none⟩ = some (.bool false) := by rw [KX.out.cell]; rfl
        have p0 : w2.cell? ⟨(w.heap.size + 1), 0, none⟩ = some (.int .i64 q.k) := by rw [KP.out.cell]; rfl
        have p1 : w2.cell? ⟨(w.heap.size + 1), 1, none⟩ = some (.int .i64 q.nn) := by rw [KP.out.cell]; rfl
        have p2 : w2.cell? ⟨(w.heap.size + 1), 2, none⟩ = some (.int .u64 (q.to : Int)) := by rw [KP.out.cell]; rfl
        have p3 : w2.cell? ⟨(w.heap.size + 1), 3, none⟩ = some (.slice q.A q.m q.c) := by rw [KP.out.cell]; rfl
        obtain ⟨z, hz⟩ : ∃ z, z = min tv (base + bs.length) := ⟨_, rfl⟩
        obtain ⟨f, hf⟩ : ∃ f, f = decide (base + n < tv) := ⟨_, rfl⟩
        have RA := r_acked_yes A n c base size cl bs tv w2 (HR.out.rd.re HN.out.1) HN.out.2 (by have := HSZ.out; have := HN.out; omega) (by rw [← HN.out.1]; exact HLIM.out) HYES.out.1 (by rw [← HN.out.1]; exact HYES.out.2) z (by rw [← HN.out.1]; exact hz)
        rw [← hf] at RA
        have RAS := Sh.mk RA
        have HZE := Sh.mk (And.intro hz hf)
        clear RA hz hf
        go_wp2_with fail
        refine RAS.out.mono ?_
        rintro e w3 ⟨v, rfl, hv, b3⟩
        have HV := Sh.mk (hv.mono (show B1 ≤ w2.heap.size by have := HB.out; have := HZ.out; omega))
        replace HG := Sh.mk (show ∀ i, v.ownBlock = some i → i ≠ w.heap.size ∧ i ≠ w.heap.size + 2 from fun i hi => by have := (hv.lt i hi).1; have := HZ.out; omega)
        obtain ⟨A8, n8, c8, rfl, _, _, _⟩ := hv.out
        clear RAS hv
        replace HU := Sh.mk (HU.out.into b3)
        replace HR := Sh.mk (HR.out.below b3)
        replace HQ := Sh.mk (HQ.out.below (b3.mono (by have := HO.out; have := HB.out; have := HZ.out; omega)))
        replace KX := Sh.mk (KX.out.below b3 KX.out.lt)
        replace KP := Sh.mk (KP.out.below b3 KP.out.lt)
        replace KR := Sh.mk (KR.out.below b3 KR.out.lt)
        replace BB := Sh.mk (BB.out.trans (b3.mono (by have := HO.out; have := HB.out; have := HZ.out; omega)))
        replace FF := Sh.mk (show ∀ k, k < w.heap.size → k ≠ o → k ≠ g → k ≠ p → w3.heap[k]? = w.heap[k]? from fun k hk a1 a2 a3 => (b3.block k (by have := HZ.out; omega)).trans (FF.out k hk a1 a2 a3))
        replace HZ := Sh.mk (show w.heap.size + 3 ≤ w3.heap.size by have := HZ.out; have := b3.size; omega)
        replace HR := HV
        clear HV b3 x0 x1 x2 x3 x4 p0 p1 p2 p3
        go_wp2_with (refine stm_store (cs' := #[.slice A8 n8 c8, .int .u64 (z : Int), .int .i64 (size : Int), .bool cl, .bool f]) KX.out rfl _ _ rfl rfl rfl (by simp) (by kernel_rfl) (by simp [Value.oneCell']) (by simp [setL]) fun w4 hk hs => ?_)
        replace HU := Sh.mk (HU.out.below hs.1 (by have := HO.out; have := HB.out; omega) (by have := HO.out; have := HB.out; omega) (by have := HO.out; have := HB.out; omega))
        replace HR := Sh.mk (HR.out.kept (w' := w4) fun i hi => hs.2.2 i (by have := HG.out i hi; omega))
        replace HQ := Sh.mk (HQ.out.below (hs.1.mono (by have := HO.out; have := HB.out; omega)))
        replace KP := Sh.mk (hs.blk KP.out (by omega))
        replace KX := Sh.mk hk
        replace KR := Sh.mk (hs.blk KR.out (by omega))
        replace FF := Sh.mk (show ∀ k, k < w.heap.size → k ≠ o → k ≠ g → k ≠ p → w4.heap[k]? = w.heap[k]? from fun k hk a1 a2 a3 => (hs.2.2 k (by omega)).trans (FF.out k hk a1 a2 a3))
        replace BB := Sh.mk (BB.out.trans (hs.1.mono (by have := HO.out; have := HB.out; omega)))
        replace HZ := Sh.mk (show w.heap.size + 3 ≤ w4.heap.size by rw [hs.2.1]; exact HZ.out)
        clear hk hs
        go_upto_region 9 with fail
        refine OX.wp_ord [(0, .read), (1, .pure), (2, .pure), (4, .pure), (3, .sole), (5, .pure), (6, .sole), (7, .pure)] ⟨fun k => k = o ∨ k = g ∨ k = p ∨ k = w.heap.size + 2, []⟩ (by kernel_rfl) (by kernel_rfl) (fun QQ hQ wd hwd => ?_); (try simp only [List.map_cons, List.map_nil, List.getD_cons_zero, List.getD_cons_succ])
        have hD : Below w4.heap.size w4 wd := by rw [hwd.out]; exact (Below.refl _ _).drew
        replace HU := Sh.mk (HU.out.into hD)
        replace HR := Sh.mk (HR.out.below hD)
        replace HQ := Sh.mk (HQ.out.below (hD.mono (by have := HO.out; have := HB.out; have := HZ.out; omega)))
        replace KX := Sh.mk (KX.out.below hD KX.out.lt)
        replace KP := Sh.mk (KP.out.below hD KP.out.lt)
        replace KR := Sh.mk (KR.out.below hD KR.out.lt)
        replace BB := Sh.mk (BB.out.trans (hD.mono (by have := HO.out; have := HB.out; have := HZ.out; omega)))
        replace FF := Sh.mk (show ∀ k, k < w.heap.size → k ≠ o → k ≠ g → k ≠ p → wd.heap[k]? = w.heap[k]? from fun k hk a1 a2 a3 => (hD.block k (by have := HZ.out; omega)).trans (FF.out k hk a1 a2 a3))
        replace HZ := Sh.mk (show w.heap.size + 3 ≤ wd.heap.size by have := HZ.out; have := hD.size; omega)
        clear hD hwd
        have hne : ¬ (w.heap.size = o ∨ w.heap.size = g ∨ w.heap.size = p ∨ w.heap.size = w.heap.size + 2) := by have := HO.out; have := HB.out; omega
        (refine OX.o_loads _ [.slice A8 n8 c8, .int .u64 (z : Int), .int .i64 (size : Int), .bool cl, .bool f] (by rfl) rfl rfl (by dsimp only; first | assumption | omega) (fun j x hj => by rw [KX.out.cell, Nat.zero_add]; simpa using hj) (Nat.succ_pos _) (by kernel_rfl) (by kernel_rfl) ?_; simp only [Act.put, List.setIfInBounds_toArray, List.set_cons_zero, List.set_cons_succ])
        (refine OX.o_pure (v := ?_) (by rfl) (fun w' => ?_) ?_; rotate_left; (focus (go_simp; (try with_reducible rfl))); (try simp only [Act.put, List.setIfInBounds_toArray, List.set_cons_zero, List.set_cons_succ]))
        (refine OX.o_pure (v := ?_) (by rfl) (fun w' => ?_) ?_; rotate_left; (focus (go_simp; (try with_reducible rfl))); (try simp only [Act.put, List.setIfInBounds_toArray, List.set_cons_zero, List.set_cons_succ]))
        (refine OX.o_pure (v := ?_) (by rfl) (fun w' => ?_) ?_; rotate_left; (focus (go_simp; (try with_reducible rfl))); (try simp only [Act.put, List.setIfInBounds_toArray, List.set_cons_zero, List.set_cons_succ]))
        refine OX.o_sole (fun K hK => ?_)
        go_wp2_with fail
        have OA := ou_acked_yes o g p size base cl bs tv wd HU.out HYES.out.1 HYES.out.2 z HZE.out.1
        rw [HN.out.1, ← HZE.out.2] at OA
        refine OA.mono ?_
        rintro e w5 ⟨rfl, tN, uN⟩
        clear OA
        go_wp2_with fail
        refine hK _ _ (fun _ => ⟨Nat.le_of_eq tN.2.1.symm, fun k _ hk => tN.2.2 k (fun e => hk (by simp [e])) (fun e => hk (by simp [e])) (fun e => hk (by simp [e]))⟩) ?_; clear hK K
        replace HU := Sh.mk uN
        replace HR := Sh.mk (tN.nats HR.out HO.out.1.2 HO.out.2.1.2 HO.out.2.2.2)
        replace HQ := Sh.mk (HQ.out.below (tN.below HO.out.1.1 HO.out.2.1.1 HO.out.2.2.1))
        replace KX := Sh.mk (tN.blk KX.out (by have := HO.out; have := HB.out; omega) (by have := HO.out; have := HB.out; omega) (by have := HO.out; have := HB.out; omega))
        replace KP := Sh.mk (tN.blk KP.out (by have := HO.out; have := HB.out; omega) (by have := HO.out; have := HB.out; omega) (by have := HO.out; have := HB.out; omega))
        replace KR := Sh.mk (tN.blk KR.out (by have := HO.out; have := HB.out; omega) (by have := HO.out; have := HB.out; omega) (by have := HO.out; have := HB.out; omega))
        replace FF := Sh.mk (show ∀ k, k < w.heap.size → k ≠ o → k ≠ g → k ≠ p → w5.heap[k]? = w.heap[k]? from fun k hk a1 a2 a3 => (tN.2.2 k a1 a2 a3).trans (FF.out k hk a1 a2 a3))
        replace BB := Sh.mk (BB.out.trans (tN.below HO.out.1.1 HO.out.2.1.1 HO.out.2.2.1))
        replace HZ := Sh.mk (show w.heap.size + 3 ≤ w5.heap.size by rw [tN.2.1]; exact HZ.out)
        clear tN uN
        (refine OX.o_pure (v := ?_) (by rfl) (fun w' => ?_) ?_; rotate_left; (focus (go_simp; (try with_reducible rfl))); (try simp only [Act.put, List.setIfInBounds_toArray, List.set_cons_zero, List.set_cons_succ]))
        refine OX.o_sole (fun K hK => ?_)
        refine stm_store (cs' := #[.slice A8 n8 c8, .int .u64 (z : Int), .int .i64 (size : Int), .bool cl, .bool f]) KR.out rfl _ _ rfl rfl rfl (by simp) (by kernel_rfl) (by simp [Value.oneCell']) (by simp [setL]) fun w6 hk hs => ?_
        refine wpList_nil ?_
        refine hK _ _ (fun _ => OX.ExtB.solo hs (by simp)) ?_; clear hK K
        replace HU := Sh.mk (HU.out.below hs.1 (by have := HO.out; have := HB.out; omega) (by have := HO.out; have := HB.out; omega) (by have := HO.out; have := HB.out; omega))
        replace HR := Sh.mk (HR.out.kept (w' := w6) fun i hi => hs.2.2 i (by have := HG.out i hi; omega))
        replace HQ := Sh.mk (HQ.out.below (hs.1.mono (by have := HO.out; have := HB.out; omega)))
        replace KP := Sh.mk (hs.blk KP.out (by omega))
        replace KX := Sh.mk (hs.blk KX.out (by omega))
        replace KR := Sh.mk hk
        replace FF := Sh.mk (show ∀ k, k < w.heap.size → k ≠ o → k ≠ g → k ≠ p → w6.heap[k]? = w.heap[k]? from fun k hk a1 a2 a3 => (hs.2.2 k (by omega)).trans (FF.out k hk a1 a2 a3))
        replace BB := Sh.mk (BB.out.trans (hs.1.mono (by have := HO.out; have := HB.out; omega)))
        replace HZ := Sh.mk (show w.heap.size + 3 ≤ w6.heap.size by rw [hs.2.1]; exact HZ.out)
        clear hk hs
        (refine OX.o_pure (v := ?_) (by rfl) (fun w' => ?_) ?_; rotate_left; (focus (go_simp; (try with_reducible rfl))); (try simp only [Act.put, List.setIfInBounds_toArray, List.set_cons_zero, List.set_cons_succ]))
        refine OX.o_nil (hQ.out _ _ ?_); clear hQ QQ
        go_wp2_with fail
        have v0 : w6.cell? ⟨(w.heap.size + 2), 0, none⟩ = some (.slice A8 n8 c8) := by rw [KR.out.cell]; rfl
        have v1 : w6.cell? ⟨(w.heap.size + 2), 1, none⟩ = some (.int .u64 (z : Int)) := by rw [KR.out.cell]; rfl
        have v2 : w6.cell? ⟨(w.heap.size + 2), 2, none⟩ = some (.int .i64 (size : Int)) := by rw [KR.out.cell]; rfl
        have v3 : w6.cell? ⟨(w.heap.size + 2), 3, none⟩ = some (.bool cl) := by rw [KR.out.cell]; rfl
        have v4 : w6.cell? ⟨(w.heap.size + 2), 4, none⟩ = some (.bool f) := by rw [KR.out.cell]; rfl
        refine bodyPost_ret (v := .tuple #[.agg #[.slice A8 n8 c8, .int .u64 (z : Int), .int .i64 (size : Int), .bool cl, .bool f], .bool true]) (by simp [results, Try.results9, go_sem, v0, v1, v2, v3, v4]) rfl ?_
        exact ⟨_, _, _, _, _, _, _, rfl, HU.out, HR.out, BB.out, by have := HZ.out; omega, FF.out⟩
  · have a1 : (r2 == 0) = false := by simpa using a
    have HT := Sh.mk hto
    clear a hto
    rcases hcl with hcl | hcl
    · subst hcl
      rcases (show (dn = true ∨ q.to ≤ base ∨ base + bs.length + (if cl then 1 else 0) < q.to) ∨ (dn = false ∧ base < q.to ∧ q.to ≤ base + bs.length + (if cl then 1 else 0)) by cases dn <;> simp <;> omega) with hno | ⟨hdn, hyes⟩
      · have HNO := Sh.mk hno
        clear hno
        go_enter Try.func9, Try.ntmps9
        go_upto_region 1 with fail
        have KX : Hid (Blk (w.alloc (.cells #[.slice A n c, .int .u64 (base : Int), .int .i64 (size : Int), .bool cl, .bool dn] 31)) (w.heap.size) 31 #[.slice A n c, .int .u64 (base : Int), .int .i64 (size : Int), .bool cl, .bool dn]) := Lib.hid ((Blk.new w 31 #[.slice A n c, .int .u64 (base : Int), .int .i64 (size : Int), .bool cl, .bool dn]))
        replace KX : Hid (Blk ((w.alloc (.cells #[.slice A n c, .int .u64 (base : Int), .int .i64 (size : Int), .bool cl, .bool dn] 31)).alloc (.cells #[.int .i64 q.k, .int .i64 q.nn, .int .u64 (q.to : Int), .slice q.A q.m q.c] 37)) (w.heap.size) 31 #[.slice A n c, .int .u64 (base : Int), .int .i64 (size : Int), .bool cl, .bool dn]) := Lib.hid (KX.out.alloc _)
        replace KX : Hid (Blk (((w.alloc (.cells #[.slice A n c, .int .u64 (base : Int), .int .i64 (size : Int), .bool cl, .bool dn] 31)).alloc (.cells #[.int .i64 q.k, .int .i64 q.nn, .int .u64 (q.to : Int), .slice q.A q.m q.c] 37)).alloc (.cells #[.slice none 0 0, .int .u64 0, .int .i64 0, .bool false, .bool false] 31)) (w.heap.size) 31 #[.slice A n c, .int .u64 (base : Int), .int .i64 (size : Int), .bool cl, .bool dn]) := Lib.hid (KX.out.alloc _)
        have KP : Hid (Blk ((w.alloc (.cells #[.slice A n c, .int .u64 (base : Int), .int .i64 (size : Int), .bool cl, .bool dn] 31)).alloc (.cells #[.int .i64 q.k, .int .i64 q.nn, .int .u64 (q.to : Int), .slice q.A q.m q.c] 37)) (w.heap.size + 1) 37 #[.int .i64 q.k, .int .i64 q.nn, .int .u64 (q.to : Int), .slice q.A q.m q.c]) := Lib.hid ((Blk.new (w.alloc (.cells #[.slice A n c, .int .u64 (base : Int), .int .i64 (size : Int), .bool cl, .bool dn] 31)) 37 #[.int .i64 q.k, .int .i64 q.nn, .int .u64 (q.to : Int), .slice q.A q.m q.c]) |> fun h => by simpa using h)
        replace KP : Hid (Blk (((w.alloc (.cells #[.slice A n c, .int .u64 (base : Int), .int .i64 (size : Int), .bool cl, .bool dn] 31)).alloc (.cells #[.int .i64 q.k, .int .i64 q.nn, .int .u64 (q.to : Int), .slice q.A q.m q.c] 37)).alloc (.cells #[.slice none 0 0, .int .u64 0, .int .i64 0, .bool false, .bool false] 31)) (w.heap.size + 1) 37 #[.int .i64 q.k, .int .i64 q.nn, .int .u64 (q.to : Int), .slice q.A q.m q.c]) := Lib.hid (KP.out.alloc _)
        have KR : Hid (Blk (((w.alloc (.cells #[.slice A n c, .int .u64 (base : Int), .int .i64 (size : Int), .bool cl, .bool dn] 31)).alloc (.cells #[.int .i64 q.k, .int .i64 q.nn, .int .u64 (q.to : Int), .slice q.A q.m q.c] 37)).alloc (.cells #[.slice none 0 0, .int .u64 0, .int .i64 0, .bool false, .bool false] 31)) (w.heap.size + 2) 31 #[.slice none 0 0, .int .u64 0, .int .i64 0, .bool false, .bool false]) := Lib.hid ((Blk.new ((w.alloc (.cells #[.slice A n c, .int .u64 (base : Int), .int .i64 (size : Int), .bool cl, .bool dn] 31)).alloc (.cells #[.int .i64 q.k, .int .i64 q.nn, .int .u64 (q.to : Int), .slice q.A q.m q.c] 37)) 31 #[.slice none 0 0, .int .u64 0, .int .i64 0, .bool false, .bool false]) |> fun h => by simpa using h)
        have b1 : Hid (Below w.heap.size w (((w.alloc (.cells #[.slice A n c, .int .u64 (base : Int), .int .i64 (size : Int), .bool cl, .bool dn] 31)).alloc (.cells #[.int .i64 q.k, .int .i64 q.nn, .int .u64 (q.to : Int), .slice q.A q.m q.c] 37)).alloc (.cells #[.slice none 0 0, .int .u64 0, .int .i64 0, .bool false, .bool false] 31))) := Lib.hid ((((Below.refl w.heap.size w).alloc (Nat.le_refl _) (.cells #[.slice A n c, .int .u64 (base : Int), .int .i64 (size : Int), .bool cl, .bool dn] 31)).alloc (by simp <;> omega) (.cells #[.int .i64 q.k, .int .i64 q.nn, .int .u64 (q.to : Int), .slice q.A q.m q.c] 37)).alloc (by simp <;> omega) (.cells #[.slice none 0 0, .int .u64 0, .int .i64 0, .bool false, .bool false] 31))
        have hz : (((w.alloc (.cells #[.slice A n c, .int .u64 (base : Int), .int .i64 (size : Int), .bool cl, .bool dn] 31)).alloc (.cells #[.int .i64 q.k, .int .i64 q.nn, .int .u64 (q.to : Int), .slice q.A q.m q.c] 37)).alloc (.cells #[.slice none 0 0, .int .u64 0, .int .i64 0, .bool false, .bool false] 31)).heap.size = w.heap.size + 3 := by simp
        generalize (((w.alloc (.cells #[.slice A n c, .int .u64 (base : Int), .int .i64 (size : Int), .bool cl, .bool dn] 31)).alloc (.cells #[.int .i64 q.k, .int .i64 q.nn, .int .u64 (q.to : Int), .slice q.A q.m q.c] 37)).alloc (.cells #[.slice none 0 0, .int .u64 0, .int .i64 0, .bool false, .bool false] 31)) = w2 at KX KP KR b1 hz ⊢
        have HZ := Lib.hid hz
        clear hz
        replace HU := Sh.mk (HU.out.into b1.out)
        replace HR := Sh.mk (HR.out.below b1.out)
        replace HQ := Sh.mk (HQ.out.below (b1.out.mono (by have := HO.out; have := HB.out; omega)))
        have BB := Sh.mk (b1.out.mono (show W0 ≤ w.heap.size by have := HO.out; have := HB.out; omega))
        have FF := Sh.mk (show ∀ k, k < w.heap.size → k ≠ o → k ≠ g → k ≠ p → w2.heap[k]? = w.heap[k]? from fun k hk _ _ _ => b1.out.block k hk)
        replace HZ := Sh.mk (show w.heap.size + 3 ≤ w2.heap.size by have := HZ.out; omega)
        clear b1
        have x0 : w2.cell? ⟨w.heap.size, 0, none⟩ = some (.slice A n c) := by rw [KX.out.cell]; rfl
        have x1 : w2.cell? ⟨w.heap.size, 1, none⟩ = some (.int .u64 (base : Int)) := by rw [KX.out.cell]; rfl
        have x2 : w2.cell? ⟨w.heap.size, 2, none⟩ = some (.int .i64 (size : Int)) := by rw [KX.out.cell]; rfl
        have x3 : w2.cell? ⟨w.heap.size, 3, none⟩ = some (.bool cl) := by rw [KX.out.cell]; rfl
        have x4 : w2.cell? ⟨w.heap.size, 4, none⟩ = some (.bool dn) := by rw [KX.out.cell]; rfl
        have p0 : w2.cell? ⟨(w.heap.size + 1), 0, none⟩ = some (.int .i64 q.k) := by rw [KP.out.cell]; rfl
        have p1 : w2.cell? ⟨(w.heap.size + 1), 1, none⟩ = some (.int .i64 q.nn) := by rw [KP.out.cell]; rfl
        have p2 : w2.cell? ⟨(w.heap.size + 1), 2, none⟩ = some (.int .u64 (q.to : Int)) := by rw [KP.out.cell]; rfl
        have p3 : w2.cell? ⟨(w.heap.size + 1), 3, none⟩ = some (.slice q.A q.m q.c) := by rw [KP.out.cell]; rfl
        go_wp2_with fail
        refine (r_acked_no A n c base size cl dn q.to w2 (by rw [← HN.out.1]; exact HLIM.out) (by rw [← HN.out.1]; exact HNO.out)).mono ?_
        rintro e w3 ⟨rfl, b3⟩
        replace HU := Sh.mk (HU.out.into b3)
        replace HR := Sh.mk (HR.out.below b3)
        replace HQ := Sh.mk (HQ.out.below (b3.mono (by have := HO.out; have := HB.out; have := HZ.out; omega)))
        replace KX := Sh.mk (KX.out.below b3 KX.out.lt)
        replace KP := Sh.mk (KP.out.below b3 KP.out.lt)
        replace KR := Sh.mk (KR.out.below b3 KR.out.lt)
        replace BB := Sh.mk (BB.out.trans (b3.mono (by have := HO.out; have := HB.out; have := HZ.out; omega)))
        replace FF := Sh.mk (show ∀ k, k < w.heap.size → k ≠ o → k ≠ g → k ≠ p → w3.heap[k]? = w.heap[k]? from fun k hk a1 a2 a3 => (b3.block k (by have := HZ.out; omega)).trans (FF.out k hk a1 a2 a3))
        replace HZ := Sh.mk (show w.heap.size + 3 ≤ w3.heap.size by have := HZ.out; have := b3.size; omega)
        clear b3 x0 x1 x2 x3 x4 p0 p1 p2 p3
        go_wp2_with (refine stm_store (cs' := #[.slice A n c, .int .u64 (base : Int), .int .i64 (size : Int), .bool cl, .bool dn]) KX.out rfl _ _ rfl rfl rfl (by simp) (by kernel_rfl) (by simp [Value.oneCell']) (by simp [setL]) fun w4 hk hs => ?_)
        replace HU := Sh.mk (HU.out.below hs.1 (by have := HO.out; have := HB.out; omega) (by have := HO.out; have := HB.out; omega) (by have := HO.out; have := HB.out; omega))
        replace HR := Sh.mk (HR.out.kept (w' := w4) fun i hi => hs.2.2 i (by have := HG.out i hi; omega))
        replace HQ := Sh.mk (HQ.out.below (hs.1.mono (by have := HO.out; have := HB.out; omega)))
        replace KP := Sh.mk (hs.blk KP.out (by omega))
        replace KX := Sh.mk hk
        replace KR := Sh.mk (hs.blk KR.out (by omega))
        replace FF := Sh.mk (show ∀ k, k < w.heap.size → k ≠ o → k ≠ g → k ≠ p → w4.heap[k]? = w.heap[k]? from fun k hk a1 a2 a3 => (hs.2.2 k (by omega)).trans (FF.out k hk a1 a2 a3))
        replace BB := Sh.mk (BB.out.trans (hs.1.mono (by have := HO.out; have := HB.out; omega)))
        replace HZ := Sh.mk (show w.heap.size + 3 ≤ w4.heap.size by rw [hs.2.1]; exact HZ.out)
        clear hk hs
        go_upto_region 9 with fail
        refine OX.wp_ord [(0, .read), (1, .pure), (2, .pure), (4, .pure), (3, .sole), (5, .pure), (6, .sole), (7, .pure)] ⟨fun k => k = o ∨ k = g ∨ k = p ∨ k = w.heap.size + 2, []⟩ (by kernel_rfl) (by kernel_rfl) (fun QQ hQ wd hwd => ?_); (try simp only [List.map_cons, List.map_nil, List.getD_cons_zero, List.getD_cons_succ])
        have hD : Below w4.heap.size w4 wd := by rw [hwd.out]; exact (Below.refl _ _).drew
        replace HU := Sh.mk (HU.out.into hD)
        replace HR := Sh.mk (HR.out.below hD)
        replace HQ := Sh.mk (HQ.out.below (hD.mono (by have := HO.out; have := HB.out; have := HZ.out; omega)))
        replace KX := Sh.mk (KX.out.below hD KX.out.lt)
        replace KP := Sh.mk (KP.out.below hD KP.out.lt)
        replace KR := Sh.mk (KR.out.below hD KR.out.lt)
        replace BB := Sh.mk (BB.out.trans (hD.mono (by have := HO.out; have := HB.out; have := HZ.out; omega)))
        replace FF := Sh.mk (show ∀ k, k < w.heap.size → k ≠ o → k ≠ g → k ≠ p → wd.heap[k]? = w.heap[k]? from fun k hk a1 a2 a3 => (hD.block k (by have := HZ.out; omega)).trans (FF.out k hk a1 a2 a3))
        replace HZ := Sh.mk (show w.heap.size + 3 ≤ wd.heap.size by have := HZ.out; have := hD.size; omega)
        clear hD hwd
        have hne : ¬ (w.heap.size = o ∨ w.heap.size = g ∨ w.heap.size = p ∨ w.heap.size = w.heap.size + 2) := by have := HO.out; have := HB.out; omega
        (refine OX.o_loads _ [.slice A n c, .int .u64 (base : Int), .int .i64 (size : Int), .bool cl, .bool dn] (by rfl) rfl rfl (by dsimp only; first | assumption | omega) (fun j x hj => by rw [KX.out.cell, Nat.zero_add]; simpa using hj) (Nat.succ_pos _) (by kernel_rfl) (by kernel_rfl) ?_; simp only [Act.put, List.setIfInBounds_toArray, List.set_cons_zero, List.set_cons_succ])
        (refine OX.o_pure (v := ?_) (by rfl) (fun w' => ?_) ?_; rotate_left; (focus (go_simp; (try with_reducible rfl))); (try simp only [Act.put, List.setIfInBounds_toArray, List.set_cons_zero, List.set_cons_succ]))
        (refine OX.o_pure (v := ?_) (by rfl) (fun w' => ?_) ?_; rotate_left; (focus (go_simp; (try with_reducible rfl))); (try simp only [Act.put, List.setIfInBounds_toArray, List.set_cons_zero, List.set_cons_succ]))
        (refine OX.o_pure (v := ?_) (by rfl) (fun w' => ?_) ?_; rotate_left; (focus (go_simp; (try with_reducible rfl))); (try simp only [Act.put, List.setIfInBounds_toArray, List.set_cons_zero, List.set_cons_succ]))
        refine OX.o_sole (fun K hK => ?_)
        go_wp2_with fail
        refine (ou_acked_no o g p size base cl dn bs q.to wd HU.out HNO.out).mono ?_
        rintro e w5 ⟨rfl, qn, hqn⟩
        have tN : Tri o g p wd w5 := hqn ▸ Tri.refl.drewN qn
        have uN : OU w5 o g p size base cl dn bs := hqn ▸ HU.out.drewN qn
        clear hqn
        go_wp2_with fail
        refine hK _ _ (fun _ => ⟨Nat.le_of_eq tN.2.1.symm, fun k _ hk => tN.2.2 k (fun e => hk (by simp [e])) (fun e => hk (by simp [e])) (fun e => hk (by simp [e]))⟩) ?_; clear hK K
        replace HU := Sh.mk uN
        replace HR := Sh.mk (tN.nats HR.out HO.out.1.2 HO.out.2.1.2 HO.out.2.2.2)
        replace HQ := Sh.mk (HQ.out.below (tN.below HO.out.1.1 HO.out.2.1.1 HO.out.2.2.1))
        replace KX := Sh.mk (tN.blk KX.out (by have := HO.out; have := HB.out; omega) (by have := HO.out; have := HB.out; omega) (by have := HO.out; have := HB.out; omega))
        replace KP := Sh.mk (tN.blk KP.out (by have := HO.out; have := HB.out; omega) (by have := HO.out; have := HB.out; omega) (by have := HO.out; have := HB.out; omega))
        replace KR := Sh.mk (tN.blk KR.out (by have := HO.out; have := HB.out; omega) (by have := HO.out; have := HB.out; omega) (by have := HO.out; have := HB.out; omega))
        replace FF := Sh.mk (show ∀ k, k < w.heap.size → k ≠ o → k ≠ g → k ≠ p → w5.heap[k]? = w.heap[k]? from fun k hk a1 a2 a3 => (tN.2.2 k a1 a2 a3).trans (FF.out k hk a1 a2 a3))
        replace BB := Sh.mk (BB.out.trans (tN.below HO.out.1.1 HO.out.2.1.1 HO.out.2.2.1))
        replace HZ := Sh.mk (show w.heap.size + 3 ≤ w5.heap.size by rw [tN.2.1]; exact HZ.out)
        clear tN uN
        (refine OX.o_pure (v := ?_) (by rfl) (fun w' => ?_) ?_; rotate_left; (focus (go_simp; (try with_reducible rfl))); (try simp only [Act.put, List.setIfInBounds_toArray, List.set_cons_zero, List.set_cons_succ]))
        refine OX.o_sole (fun K hK => ?_)
        refine stm_store (cs' := #[.slice A n c, .int .u64 (base : Int), .int .i64 (size : Int), .bool cl, .bool dn]) KR.out rfl _ _ rfl rfl rfl (by simp) (by kernel_rfl) (by simp [Value.oneCell']) (by simp [setL]) fun w6 hk hs => ?_
        refine wpList_nil ?_
        refine hK _ _ (fun _ => OX.ExtB.solo hs (by simp)) ?_; clear hK K
        replace HU := Sh.mk (HU.out.below hs.1 (by have := HO.out; have := HB.out; omega) (by have := HO.out; have := HB.out; omega) (by have := HO.out; have := HB.out; omega))
        replace HR := Sh.mk (HR.out.kept (w' := w6) fun i hi => hs.2.2 i (by have := HG.out i hi; omega))
        replace HQ := Sh.mk (HQ.out.below (hs.1.mono (by have := HO.out; have := HB.out; omega)))
        replace KP := Sh.mk (hs.blk KP.out (by omega))
        replace KX := Sh.mk (hs.blk KX.out (by omega))
        replace KR := Sh.mk hk
        replace FF := Sh.mk (show ∀ k, k < w.heap.size → k ≠ o → k ≠ g → k ≠ p → w6.heap[k]? = w.heap[k]? from fun k hk a1 a2 a3 => (hs.2.2 k (by omega)).trans (FF.out k hk a1 a2 a3))
        replace BB := Sh.mk (BB.out.trans (hs.1.mono (by have := HO.out; have := HB.out; omega)))
        replace HZ := Sh.mk (show w.heap.size + 3 ≤ w6.heap.size by rw [hs.2.1]; exact HZ.out)
        clear hk hs
        (refine OX.o_pure (v := ?_) (by rfl) (fun w' => ?_) ?_; rotate_left; (focus (go_simp; (try with_reducible rfl))); (try simp only [Act.put, List.setIfInBounds_toArray, List.set_cons_zero, List.set_cons_succ]))
        refine OX.o_nil (hQ.out _ _ ?_); clear hQ QQ
        go_wp2_with fail
        have v0 : w6.cell? ⟨(w.heap.size + 2), 0, none⟩ = some (.slice A n c) := by rw [KR.out.cell]; rfl
        have v1 : w6.cell? ⟨(w.heap.size + 2), 1, none⟩ = some (.int .u64 (base : Int)) := by rw [KR.out.cell]; rfl
        have v2 : w6.cell? ⟨(w.heap.size + 2), 2, none⟩ = some (.int .i64 (size : Int)) := by rw [KR.out.cell]; rfl
        have v3 : w6.cell? ⟨(w.heap.size + 2), 3, none⟩ = some (.bool cl) := by rw [KR.out.cell]; rfl
        have v4 : w6.cell? ⟨(w.heap.size + 2), 4, none⟩ = some (.bool dn) := by rw [KR.out.cell]; rfl
        refine bodyPost_ret (v := .tuple #[.agg #[.slice A n c, .int .u64 (base : Int), .int .i64 (size : Int), .bool cl, .bool dn], .bool true]) (by simp [results, Try.results9, go_sem, v0, v1, v2, v3, v4]) rfl ?_
        exact ⟨_, _, _, _, _, _, _, rfl, HU.out, HR.out, BB.out, by have := HZ.out; omega, FF.out⟩
      · subst hdn
        have HYES := Sh.mk hyes
        clear hyes
        go_enter Try.func9, Try.ntmps9
        go_upto_region 1 with fail
        have KX : Hid (Blk (w.alloc (.cells #[.slice A n c, .int .u64 (base : Int), .int .i64 (size : Int), .bool cl, .bool false] 31)) (w.heap.size) 31 #[.slice A n c, .int .u64 (base : Int), .int .i64 (size : Int), .bool cl, .bool false]) := Lib.hid ((Blk.new w 31 #[.slice A n c, .int .u64 (base : Int), .int .i64 (size : Int), .bool cl, .bool false]))
        replace KX : Hid (Blk ((w.alloc (.cells #[.slice A n c, .int .u64 (base : Int), .int .i64 (size : Int), .bool cl, .bool false] 31)).alloc (.cells #[.int .i64 q.k, .int .i64 q.nn, .int .u64 (q.to : Int), .slice q.A q.m q.c] 37)) (w.heap.size) 31 #[.slice A n c, .int .u64 (base : Int), .int .i64 (size : Int), .bool cl, .bool false]) := Lib.hid (KX.out.alloc _)
        replace KX : Hid (Blk (((w.alloc (.cells #[.slice A n c, .int .u64 (base : Int), .int .i64 (size : Int), .bool cl, .bool false] 31)).alloc (.cells #[.int .i64 q.k, .int .i64 q.nn, .int .u64 (q.to : Int), .slice q.A q.m q.c] 37)).alloc (.cells #[.slice none 0 0, .int .u64 0, .int .i64 0, .bool false, .bool false] 31)) (w.heap.size) 31 #[.slice A n c, .int .u64 (base : Int), .int .i64 (size : Int), .bool cl, .bool false]) := Lib.hid (KX.out.alloc _)
        have KP : Hid (Blk ((w.alloc (.cells #[.slice A n c, .int .u64 (base : Int), .int .i64 (size : Int), .bool cl, .bool false] 31)).alloc (.cells #[.int .i64 q.k, .int .i64 q.nn, .int .u64 (q.to : Int), .slice q.A q.m q.c] 37)) (w.heap.size + 1) 37 #[.int .i64 q.k, .int .i64 q.nn, .int .u64 (q.to : Int), .slice q.A q.m q.c]) := Lib.hid ((Blk.new (w.alloc (.cells #[.slice A n c, .int .u64 (base : Int), .int .i64 (size : Int), .bool cl, .bool false] 31)) 37 #[.int .i64 q.k, .int .i64 q.nn, .int .u64 (q.to : Int), .slice q.A q.m q.c]) |> fun h => by simpa using h)
        replace KP : Hid (Blk (((w.alloc (.cells #[.slice A n c, .int .u64 (base : Int), .int .i64 (size : Int), .bool cl, .bool false] 31)).alloc (.cells #[.int .i64 q.k, .int .i64 q.nn, .int .u64 (q.to : Int), .slice q.A q.m q.c] 37)).alloc (.cells #[.slice none 0 0, .int .u64 0, .int .i64 0, .bool false, .bool false] 31)) (w.heap.size + 1) 37 #[.int .i64 q.k, .int .i64 q.nn, .int .u64 (q.to : Int), .slice q.A q.m q.c]) := Lib.hid (KP.out.alloc _)
        have KR : Hid (Blk (((w.alloc (.cells #[.slice A n c, .int .u64 (base : Int), .int .i64 (size : Int), .bool cl, .bool false] 31)).alloc (.cells #[.int .i64 q.k, .int .i64 q.nn, .int .u64 (q.to : Int), .slice q.A q.m q.c] 37)).alloc (.cells #[.slice none 0 0, .int .u64 0, .int .i64 0, .bool false, .bool false] 31)) (w.heap.size + 2) 31 #[.slice none 0 0, .int .u64 0, .int .i64 0, .bool false, .bool false]) := Lib.hid ((Blk.new ((w.alloc (.cells #[.slice A n c, .int .u64 (base : Int), .int .i64 (size : Int), .bool cl, .bool false] 31)).alloc (.cells #[.int .i64 q.k, .int .i64 q.nn, .int .u64 (q.to : Int), .slice q.A q.m q.c] 37)) 31 #[.slice none 0 0, .int .u64 0, .int .i64 0, .bool false, .bool false]) |> fun h => by simpa using h)
        have b1 : Hid (Below w.heap.size w (((w.alloc (.cells #[.slice A n c, .int .u64 (base : Int), .int .i64 (size : Int), .bool cl, .bool false] 31)).alloc (.cells #[.int .i64 q.k, .int .i64 q.nn, .int .u64 (q.to : Int), .slice q.A q.m q.c] 37)).alloc (.cells #[.slice none 0 0, .int .u64 0, .int .i64 0, .bool false, .bool false] 31))) := Lib.hid ((((Below.refl w.heap.size w).alloc (Nat.le_refl _) (.cells #[.slice A n c, .int .u64 (base : Int), .int .i64 (size : Int), .bool cl, .bool false] 31)).alloc (by simp <;> omega) (.cells #[.int .i64 q.k, .int .i64 q.nn, .int .u64 (q.to : Int), .slice q.A q.m q.c] 37)).alloc (by simp <;> omega) (.cells #[.slice none 0 0, .int .u64 0, .int .i64 0, .bool false, .bool false] 31))
        have hz : (((w.alloc (.cells #[.slice A n c, .int .u64 (base : Int), .int .i64 (size : Int), .bool cl, .bool false] 31)).alloc (.cells #[.int .i64 q.k, .int .i64 q.nn, .int .u64 (q.to : Int), .slice q.A q.m q.c] 37)).alloc (.cells #[.slice none 0 0, .int .u64 0, .int .i64 0, .bool false, .bool false] 31)).heap.size = w.heap.size + 3 := by simp
        generalize (((w.alloc (.cells #[.slice A n c, .int .u64 (base : Int), .int .i64 (size : Int), .bool cl, .bool false] 31)).alloc (.cells #[.int .i64 q.k, .int .i64 q.nn, .int .u64 (q.to : Int), .slice q.A q.m q.c] 37)).alloc (.cells #[.slice none 0 0, .int .u64 0, .int .i64 0, .bool false, .bool false] 31)) = w2 at KX KP KR b1 hz ⊢
        have HZ := Lib.hid hz
        clear hz
        replace HU := Sh.mk (HU.out.into b1.out)
        replace HR := Sh.mk (HR.out.below b1.out)
        replace HQ := Sh.mk (HQ.out.below (b1.out.mono (by have := HO.out; have := HB.out; omega)))
        have BB := Sh.mk (b1.out.mono (show W0 ≤ w.heap.size by have := HO.out; have := HB.out; omega))
        have FF := Sh.mk (show ∀ k, k < w.heap.size → k ≠ o → k ≠ g → k ≠ p → w2.heap[k]? = w.heap[k]? from fun k hk _ _ _ => b1.out.block k hk)
        replace HZ := Sh.mk (show w.heap.size + 3 ≤ w2.heap.size by have := HZ.out; omega)
        clear b1
        have x0 : w2.cell? ⟨w.heap.size, 0, none⟩ = some (.slice A n c) := by rw [KX.out.cell]; rfl
        have x1 : w2.cell? ⟨w.heap.size, 1, none⟩ = some (.int .u64 (base : Int)) := by rw [KX.out.cell]; rfl
        have x2 : w2.cell? ⟨w.heap.size, 2, none⟩ = some (.int .i64 (size : Int)) := by rw [KX.out.cell]; rfl
        have x3 : w2.cell? ⟨w.heap.size, 3, none⟩ = some (.bool cl) := by rw [KX.out.cell]; rfl
        have x4 : w2.cell? ⟨w.heap.size, 4, none⟩ = some (.bool false) := by rw [KX.out.cell]; rfl
        have p0 : w2.cell? ⟨(w.heap.size + 1), 0, none⟩ = some (.int .i64 q.k) := by rw [KP.out.cell]; rfl
        have p1 : w2.cell? ⟨(w.heap.size + 1), 1, none⟩ = some (.int .i64 q.nn) := by rw [KP.out.cell]; rfl
        have p2 : w2.cell? ⟨(w.heap.size + 1), 2, none⟩ = some (.int .u64 (q.to : Int)) := by rw [KP.out.cell]; rfl
        have p3 : w2.cell? ⟨(w.heap.size + 1), 3, none⟩ = some (.slice q.A q.m q.c) := by rw [KP.out.cell]; rfl
        obtain ⟨z, hz⟩ : ∃ z, z = min q.to (base + bs.length) := ⟨_, rfl⟩
        obtain ⟨f, hf⟩ : ∃ f, f = decide (base + n < q.to) := ⟨_, rfl⟩
        have RA := r_acked_yes A n c base size cl bs q.to w2 (HR.out.rd.re HN.out.1) HN.out.2 (by have := HSZ.out; have := HN.out; omega) (by rw [← HN.out.1]; exact HLIM.out) HYES.out.1 (by rw [← HN.out.1]; exact HYES.out.2) z (by rw [← HN.out.1]; exact hz)
        rw [← hf] at RA
        have RAS := Sh.mk RA
        have HZE := Sh.mk (And.intro hz hf)
        clear RA hz hf
        go_wp2_with fail
        refine RAS.out.mono ?_
        rintro e w3 ⟨v, rfl, hv, b3⟩
        have HV := Sh.mk (hv.mono (show B1 ≤ w2.heap.size by have := HB.out; have := HZ.out; omega))
        replace HG := Sh.mk (show ∀ i, v.ownBlock = some i → i ≠ w.heap.size ∧ i ≠ w.heap.size + 2 from fun i hi => by have := (hv.lt i hi).1; have := HZ.out; omega)
        obtain ⟨A8, n8, c8, rfl, _, _, _⟩ := hv.out
        clear RAS hv
        replace HU := Sh.mk (HU.out.into b3)
        replace HR := Sh.mk (HR.out.below b3)
        replace HQ := Sh.mk (HQ.out.below (b3.mono (by have := HO.out; have := HB.out; have := HZ.out; omega)))
        replace KX := Sh.mk (KX.out.below b3 KX.out.lt)
        replace KP := Sh.mk (KP.out.below b3 KP.out.lt)
        replace KR := Sh.mk (KR.out.below b3 KR.out.lt)
        replace BB := Sh.mk (BB.out.trans (b3.mono (by have := HO.out; have := HB.out; have := HZ.out; omega)))
        replace FF := Sh.mk (show ∀ k, k < w.heap.size → k ≠ o → k ≠ g → k ≠ p → w3.heap[k]? = w.heap[k]? from fun k hk a1 a2 a3 => (b3.block k (by have := HZ.out; omega)).trans (FF.out k hk a1 a2 a3))
        replace HZ := Sh.mk (show w.heap.size + 3 ≤ w3.heap.size by have := HZ.out; have := b3.size; omega)
        replace HR := HV
        clear HV b3 x0 x1 x2 x3 x4 p0 p1 p2 p3
        go_wp2_with (refine stm_store (cs' := #[.slice A8 n8 c8, .int .u64 (z : Int), .int .i64 (size : Int), .bool cl, .bool f]) KX.out rfl _ _ rfl rfl rfl (by simp) (by kernel_rfl) (by simp [Value.oneCell']) (by simp [setL]) fun w4 hk hs => ?_)
        replace HU := Sh.mk (HU.out.below hs.1 (by have := HO.out; have := HB.out; omega) (by have := HO.out; have := HB.out; omega) (by have := HO.out; have := HB.out; omega))
        replace HR := Sh.mk (HR.out.kept (w' := w4) fun i hi => hs.2.2 i (by have := HG.out i hi; omega))
        replace HQ := Sh.mk (HQ.out.below (hs.1.mono (by have := HO.out; have := HB.out; omega)))
        replace KP := Sh.mk (hs.blk KP.out (by omega))
        replace KX := Sh.mk hk
        replace KR := Sh.mk (hs.blk KR.out (by omega))
        replace FF := Sh.mk (show ∀ k, k < w.heap.size → k ≠ o → k ≠ g → k ≠ p → w4.heap[k]? = w.heap[k]? from fun k hk a1 a2 a3 => (hs.2.2 k (by omega)).trans (FF.out k hk a1 a2 a3))
        replace BB := Sh.mk (BB.out.trans (hs.1.mono (by have := HO.out; have := HB.out; omega)))
        replace HZ := Sh.mk (show w.heap.size + 3 ≤ w4.heap.size by rw [hs.2.1]; exact HZ.out)
        clear hk hs
        go_upto_region 9 with fail
        refine OX.wp_ord [(0, .read), (1, .pure), (2, .pure), (4, .pure), (3, .sole), (5, .pure), (6, .sole), (7, .pure)] ⟨fun k => k = o ∨ k = g ∨ k = p ∨ k = w.heap.size + 2, []⟩ (by kernel_rfl) (by kernel_rfl) (fun QQ hQ wd hwd => ?_); (try simp only [List.map_cons, List.map_nil, List.getD_cons_zero, List.getD_cons_succ])
        have hD : Below w4.heap.size w4 wd := by rw [hwd.out]; exact (Below.refl _ _).drew
        replace HU := Sh.mk (HU.out.into hD)
        replace HR := Sh.mk (HR.out.below hD)
        replace HQ := Sh.mk (HQ.out.below (hD.mono (by have := HO.out; have := HB.out; have := HZ.out; omega)))
        replace KX := Sh.mk (KX.out.below hD KX.out.lt)
        replace KP := Sh.mk (KP.out.below hD KP.out.lt)
        replace KR := Sh.mk (KR.out.below hD KR.out.lt)
        replace BB := Sh.mk (BB.out.trans (hD.mono (by have := HO.out; have := HB.out; have := HZ.out; omega)))
        replace FF := Sh.mk (show ∀ k, k < w.heap.size → k ≠ o → k ≠ g → k ≠ p → wd.heap[k]? = w.heap[k]? from fun k hk a1 a2 a3 => (hD.block k (by have := HZ.out; omega)).trans (FF.out k hk a1 a2 a3))
        replace HZ := Sh.mk (show w.heap.size + 3 ≤ wd.heap.size by have := HZ.out; have := hD.size; omega)
        clear hD hwd
        have hne : ¬ (w.heap.size = o ∨ w.heap.size = g ∨ w.heap.size = p ∨ w.heap.size = w.heap.size + 2) := by have := HO.out; have := HB.out; omega
        (refine OX.o_loads _ [.slice A8 n8 c8, .int .u64 (z : Int), .int .i64 (size : Int), .bool cl, .bool f] (by rfl) rfl rfl (by dsimp only; first | assumption | omega) (fun j x hj => by rw [KX.out.cell, Nat.zero_add]; simpa using hj) (Nat.succ_pos _) (by kernel_rfl) (by kernel_rfl) ?_; simp only [Act.put, List.setIfInBounds_toArray, List.set_cons_zero, List.set_cons_succ])
        (refine OX.o_pure (v := ?_) (by rfl) (fun w' => ?_) ?_; rotate_left; (focus (go_simp; (try with_reducible rfl))); (try simp only [Act.put, List.setIfInBounds_toArray, List.set_cons_zero, List.set_cons_succ]))
        (refine OX.o_pure (v := ?_) (by rfl) (fun w' => ?_) ?_; rotate_left; (focus (go_simp; (try with_reducible rfl))); (try simp only [Act.put, List.setIfInBounds_toArray, List.set_cons_zero, List.set_cons_succ]))
        (refine OX.o_pure (v := ?_) (by rfl) (fun w' => ?_) ?_; rotate_left; (focus (go_simp; (try with_reducible rfl))); (try simp only [Act.put, List.setIfInBounds_toArray, List.set_cons_zero, List.set_cons_succ]))
        refine OX.o_sole (fun K hK => ?_)
        go_wp2_with fail
        have OA := ou_acked_yes o g p size base cl bs q.to wd HU.out HYES.out.1 HYES.out.2 z HZE.out.1
        rw [HN.out.1, ← HZE.out.2] at OA
        refine OA.mono ?_
        rintro e w5 ⟨rfl, tN, uN⟩
        clear OA
        go_wp2_with fail
        refine hK _ _ (fun _ => ⟨Nat.le_of_eq tN.2.1.symm, fun k _ hk => tN.2.2 k (fun e => hk (by simp [e])) (fun e => hk (by simp [e])) (fun e => hk (by simp [e]))⟩) ?_; clear hK K
        replace HU := Sh.mk uN
        replace HR := Sh.mk (tN.nats HR.out HO.out.1.2 HO.out.2.1.2 HO.out.2.2.2)
        replace HQ := Sh.mk (HQ.out.below (tN.below HO.out.1.1 HO.out.2.1.1 HO.out.2.2.1))
        replace KX := Sh.mk (tN.blk KX.out (by have := HO.out; have := HB.out; omega) (by have := HO.out; have := HB.out; omega) (by have := HO.out; have := HB.out; omega))
        replace KP := Sh.mk (tN.blk KP.out (by have := HO.out; have := HB.out; omega) (by have := HO.out; have := HB.out; omega) (by have := HO.out; have := HB.out; omega))
        replace KR := Sh.mk (tN.blk KR.out (by have := HO.out; have := HB.out; omega) (by have := HO.out; have := HB.out; omega) (by have := HO.out; have := HB.out; omega))
        replace FF := Sh.mk (show ∀ k, k < w.heap.size → k ≠ o → k ≠ g → k ≠ p → w5.heap[k]? = w.heap[k]? from fun k hk a1 a2 a3 => (tN.2.2 k a1 a2 a3).trans (FF.out k hk a1 a2 a3))
        replace BB := Sh.mk (BB.out.trans (tN.below HO.out.1.1 HO.out.2.1.1 HO.out.2.2.1))
        replace HZ := Sh.mk (show w.heap.size + 3 ≤ w5.heap.size by rw [tN.2.1]; exact HZ.out)
        clear tN uN
        (refine OX.o_pure (v := ?_) (by rfl) (fun w' => ?_) ?_; rotate_left; (focus (go_simp; (try with_reducible rfl))); (try simp only [Act.put, List.setIfInBounds_toArray, List.set_cons_zero, List.set_cons_succ]))
        refine OX.o_sole (fun K hK => ?_)
        refine stm_store (cs' := #[.slice A8 n8 c8, .int .u64 (z : Int), .int .i64 (size : Int), .bool cl, .bool f]) KR.out rfl _ _ rfl rfl rfl (by simp) (by kernel_rfl) (by simp [Value.oneCell']) (by simp [setL]) fun w6 hk hs => ?_
        refine wpList_nil ?_
        refine hK _ _ (fun _ => OX.ExtB.solo hs (by simp)) ?_; clear hK K
        replace HU := Sh.mk (HU.out.below hs.1 (by have := HO.out; have := HB.out; omega) (by have := HO.out; have := HB.out; omega) (by have := HO.out; have := HB.out; omega))
        replace HR := Sh.mk (HR.out.kept (w' := w6) fun i hi => hs.2.2 i (by have := HG.out i hi; omega))
        replace HQ := Sh.mk (HQ.out.below (hs.1.mono (by have := HO.out; have := HB.out; omega)))
        replace KP := Sh.mk (hs.blk KP.out (by omega))
        replace KX := Sh.mk (hs.blk KX.out (by omega))
        replace KR := Sh.mk hk
        replace FF := Sh.mk (show ∀ k, k < w.heap.size → k ≠ o → k ≠ g → k ≠ p → w6.heap[k]? = w.heap[k]? from fun k hk a1 a2 a3 => (hs.2.2 k (by omega)).trans (FF.out k hk a1 a2 a3))
        replace BB := Sh.mk (BB.out.trans (hs.1.mono (by have := HO.out; have := HB.out; omega)))
        replace HZ := Sh.mk (show w.heap.size + 3 ≤ w6.heap.size by rw [hs.2.1]; exact HZ.out)
        clear hk hs
        (refine OX.o_pure (v := ?_) (by rfl) (fun w' => ?_) ?_; rotate_left; (focus (go_simp; (try with_reducible rfl))); (try simp only [Act.put, List.setIfInBounds_toArray, List.set_cons_zero, List.set_cons_succ]))
        refine OX.o_nil (hQ.out _ _ ?_); clear hQ QQ
        go_wp2_with fail
        have v0 : w6.cell? ⟨(w.heap.size + 2), 0, none⟩ = some (.slice A8 n8 c8) := by rw [KR.out.cell]; rfl
        have v1 : w6.cell? ⟨(w.heap.size + 2), 1, none⟩ = some (.int .u64 (z : Int)) := by rw [KR.out.cell]; rfl
        have v2 : w6.cell? ⟨(w.heap.size + 2), 2, none⟩ = some (.int .i64 (size : Int)) := by rw [KR.out.cell]; rfl
        have v3 : w6.cell? ⟨(w.heap.size + 2), 3, none⟩ = some (.bool cl) := by rw [KR.out.cell]; rfl
        have v4 : w6.cell? ⟨(w.heap.size + 2), 4, none⟩ = some (.bool f) := by rw [KR.out.cell]; rfl
        refine bodyPost_ret (v := .tuple #[.agg #[.slice A8 n8 c8, .int .u64 (z : Int), .int .i64 (size : Int), .bool cl, .bool f], .bool true]) (by simp [results, Try.results9, go_sem, v0, v1, v2, v3, v4]) rfl ?_
        exact ⟨_, _, _, _, _, _, _, rfl, HU.out, HR.out, BB.out, by have := HZ.out; omega, FF.out⟩
    · subst hcl
      rcases (show (dn = true ∨ q.to ≤ base ∨ base + bs.length + (if cl then 1 else 0) < q.to) ∨ (dn = false ∧ base < q.to ∧ q.to ≤ base + bs.length + (if cl then 1 else 0)) by cases dn <;> simp <;> omega) with hno | ⟨hdn, hyes⟩
      · have HNO := Sh.mk hno
        clear hno
        go_enter Try.func9, Try.ntmps9
        go_upto_region 1 with fail
        have KX : Hid (Blk (w.alloc (.cells #[.slice A n c, .int .u64 (base : Int), .int .i64 (size : Int), .bool cl, .bool dn] 31)) (w.heap.size) 31 #[.slice A n c, .int .u64 (base : Int), .int .i64 (size : Int), .bool cl, .bool dn]) := Lib.hid ((Blk.new w 31 #[.slice A n c, .int .u64 (base : Int), .int .i64 (size : Int), .bool cl, .bool dn]))
        replace KX : Hid (Blk ((w.alloc (.cells #[.slice A n c, .int .u64 (base : Int), .int .i64 (size : Int), .bool cl, .bool dn] 31)).alloc (.cells #[.int .i64 q.k, .int .i64 q.nn, .int .u64 (q.to : Int), .slice q.A q.m q.c] 37)) (w.heap.size) 31 #[.slice A n c, .int .u64 (base : Int), .int .i64 (size : Int), .bool cl, .bool dn]) := Lib.hid (KX.out.alloc _)
        replace KX : Hid (Blk (((w.alloc (.cells #[.slice A n c, .int .u64 (base : Int), .int .i64 (size : Int), .bool cl, .bool dn] 31)).alloc (.cells #[.int .i64 q.k, .int .i64 q.nn, .int .u64 (q.to : Int), .slice q.A q.m q.c] 37)).alloc (.cells #[.slice none 0 0, .int .u64 0, .int .i64 0, .bool false, .bool false] 31)) (w.heap.size) 31 #[.slice A n c, .int .u64 (base : Int), .int .i64 (size : Int), .bool cl, .bool dn]) := Lib.hid (KX.out.alloc _)
        have KP : Hid (Blk ((w.alloc (.cells #[.slice A n c, .int .u64 (base : Int), .int .i64 (size : Int), .bool cl, .bool dn] 31)).alloc (.cells #[.int .i64 q.k, .int .i64 q.nn, .int .u64 (q.to : Int), .slice q.A q.m q.c] 37)) (w.heap.size + 1) 37 #[.int .i64 q.k, .int .i64 q.nn, .int .u64 (q.to : Int), .slice q.A q.m q.c]) := Lib.hid ((Blk.new (w.alloc (.cells #[.slice A n c, .int .u64 (base : Int), .int .i64 (size : Int), .bool cl, .bool dn] 31)) 37 #[.int .i64 q.k, .int .i64 q.nn, .int .u64 (q.to : Int), .slice q.A q.m q.c]) |> fun h => by simpa using h)
        replace KP : Hid (Blk (((w.alloc (.cells #[.slice A n c, .int .u64 (base : Int), .int .i64 (size : Int), .bool cl, .bool dn] 31)).alloc (.cells #[.int .i64 q.k, .int .i64 q.nn, .int .u64 (q.to : Int), .slice q.A q.m q.c] 37)).alloc (.cells #[.slice none 0 0, .int .u64 0, .int .i64 0, .bool false, .bool false] 31)) (w.heap.size + 1) 37 #[.int .i64 q.k, .int .i64 q.nn, .int .u64 (q.to : Int), .slice q.A q.m q.c]) := Lib.hid (KP.out.alloc _)
        have KR : Hid (Blk (((w.alloc (.cells #[.slice A n c, .int .u64 (base : Int), .int .i64 (size : Int), .bool cl, .bool dn] 31)).alloc (.cells #[.int .i64 q.k, .int .i64 q.nn, .int .u64 (q.to : Int), .slice q.A q.m q.c] 37)).alloc (.cells #[.slice none 0 0, .int .u64 0, .int .i64 0, .bool false, .bool false] 31)) (w.heap.size + 2) 31 #[.slice none 0 0, .int .u64 0, .int .i64 0, .bool false, .bool false]) := Lib.hid ((Blk.new ((w.alloc (.cells #[.slice A n c, .int .u64 (base : Int), .int .i64 (size : Int), .bool cl, .bool dn] 31)).alloc (.cells #[.int .i64 q.k, .int .i64 q.nn, .int .u64 (q.to : Int), .slice q.A q.m q.c] 37)) 31 #[.slice none 0 0, .int .u64 0, .int .i64 0, .bool false, .bool false]) |> fun h => by simpa using h)
        have b1 : Hid (Below w.heap.size w (((w.alloc (.cells #[.slice A n c, .int .u64 (base : Int), .int .i64 (size : Int), .bool cl, .bool dn] 31)).alloc (.cells #[.int .i64 q.k, .int .i64 q.nn, .int .u64 (q.to : Int), .slice q.A q.m q.c] 37)).alloc (.cells #[.slice none 0 0, .int .u64 0, .int .i64 0, .bool false, .bool false] 31))) := Lib.hid ((((Below.refl w.heap.size w).alloc (Nat.le_refl _) (.cells #[.slice A n c, .int .u64 (base : Int), .int .i64 (size : Int), .bool cl, .bool dn] 31)).alloc (by simp <;> omega) (.cells #[.int .i64 q.k, .int .i64 q.nn, .int .u64 (q.to : Int), .slice q.A q.m q.c] 37)).alloc (by simp <;> omega) (.cells #[.slice none 0 0, .int .u64 0, .int .i64 0, .bool false, .bool false] 31))
        have hz : (((w.alloc (.cells #[.slice A n c, .int .u64 (base : Int), .int .i64 (size : Int), .bool cl, .bool dn] 31)).alloc (.cells #[.int .i64 q.k, .int .i64 q.nn, .int .u64 (q.to : Int), .slice q.A q.m q.c] 37)).alloc (.cells #[.slice none 0 0, .int .u64 0, .int .i64 0, .bool false, .bool false] 31)).heap.size = w.heap.size + 3 := by simp
        generalize (((w.alloc (.cells #[.slice A n c, .int .u64 (base : Int), .int .i64 (size : Int), .bool cl, .bool dn] 31)).alloc (.cells #[.int .i64 q.k, .int .i64 q.nn, .int .u64 (q.to : Int), .slice q.A q.m q.c] 37)).alloc (.cells #[.slice none 0 0, .int .u64 0, .int .i64 0, .bool false, .bool false] 31)) = w2 at KX KP KR b1 hz ⊢
        have HZ := Lib.hid hz
        clear hz
        replace HU := Sh.mk (HU.out.into b1.out)
        replace HR := Sh.mk (HR.out.below b1.out)
        replace HQ := Sh.mk (HQ.out.below (b1.out.mono (by have := HO.out; have := HB.out; omega)))
        have BB := Sh.mk (b1.out.mono (show W0 ≤ w.heap.size by have := HO.out; have := HB.out; omega))
        have FF := Sh.mk (show ∀ k, k < w.heap.size → k ≠ o → k ≠ g → k ≠ p → w2.heap[k]? = w.heap[k]? from fun k hk _ _ _ => b1.out.block k hk)
        replace HZ := Sh.mk (show w.heap.size + 3 ≤ w2.heap.size by have := HZ.out; omega)
        clear b1
        have x0 : w2.cell? ⟨w.heap.size, 0, none⟩ = some (.slice A n c) := by rw [KX.out.cell]; rfl
        have x1 : w2.cell? ⟨w.heap.size, 1, none⟩ = some (.int .u64 (base : Int)) := by rw [KX.out.cell]; rfl
        have x2 : w2.cell? ⟨w.heap.size, 2, none⟩ = some (.int .i64 (size : Int)) := by rw [KX.out.cell]; rfl
        have x3 : w2.cell? ⟨w.heap.size, 3, none⟩ = some (.bool cl) := by rw [KX.out.cell]; rfl
        have x4 : w2.cell? ⟨w.heap.size, 4, none⟩ = some (.bool dn) := by rw [KX.out.cell]; rfl
        have p0 : w2.cell? ⟨(w.heap.size + 1), 0, none⟩ = some (.int .i64 q.k) := by rw [KP.out.cell]; rfl
        have p1 : w2.cell? ⟨(w.heap.size + 1), 1, none⟩ = some (.int .i64 q.nn) := by rw [KP.out.cell]; rfl
        have p2 : w2.cell? ⟨(w.heap.size + 1), 2, none⟩ = some (.int .u64 (q.to : Int)) := by rw [KP.out.cell]; rfl
        have p3 : w2.cell? ⟨(w.heap.size + 1), 3, none⟩ = some (.slice q.A q.m q.c) := by rw [KP.out.cell]; rfl
        go_wp2_with fail
        refine (r_acked_no A n c base size cl dn q.to w2 (by rw [← HN.out.1]; exact HLIM.out) (by rw [← HN.out.1]; exact HNO.out)).mono ?_
        rintro e w3 ⟨rfl, b3⟩
        replace HU := Sh.mk (HU.out.into b3)
        replace HR := Sh.mk (HR.out.below b3)
        replace HQ := Sh.mk (HQ.out.below (b3.mono (by have := HO.out; have := HB.out; have := HZ.out; omega)))
        replace KX := Sh.mk (KX.out.below b3 KX.out.lt)
        replace KP := Sh.mk (KP.out.below b3 KP.out.lt)
        replace KR := Sh.mk (KR.out.below b3 KR.out.lt)
        replace BB := Sh.mk (BB.out.trans (b3.mono (by have := HO.out; have := HB.out; have := HZ.out; omega)))
        replace FF := Sh.mk (show ∀ k, k < w.heap.size → k ≠ o → k ≠ g → k ≠ p → w3.heap[k]? = w.heap[k]? from fun k hk a1 a2 a3 => (b3.block k (by have := HZ.out; omega)).trans (FF.out k hk a1 a2 a3))
        replace HZ := Sh.mk (show w.heap.size + 3 ≤ w3.heap.size by have := HZ.out; have := b3.size; omega)
        clear b3 x0 x1 x2 x3 x4 p0 p1 p2 p3
        go_wp2_with (refine stm_store (cs' := #[.slice A n c, .int .u64 (base : Int), .int .i64 (size : Int), .bool cl, .bool dn]) KX.out rfl _ _ rfl rfl rfl (by simp) (by kernel_rfl) (by simp [Value.oneCell']) (by simp [setL]) fun w4 hk hs => ?_)
        replace HU := Sh.mk (HU.out.below hs.1 (by have := HO.out; have := HB.out; omega) (by have := HO.out; have := HB.out; omega) (by have := HO.out; have := HB.out; omega))
        replace HR := Sh.mk (HR.out.kept (w' := w4) fun i hi => hs.2.2 i (by have := HG.out i hi; omega))
        replace HQ := Sh.mk (HQ.out.below (hs.1.mono (by have := HO.out; have := HB.out; omega)))
        replace KP := Sh.mk (hs.blk KP.out (by omega))
        replace KX := Sh.mk hk
        replace KR := Sh.mk (hs.blk KR.out (by omega))
        replace FF := Sh.mk (show ∀ k, k < w.heap.size → k ≠ o → k ≠ g → k ≠ p → w4.heap[k]? = w.heap[k]? from fun k hk a1 a2 a3 => (hs.2.2 k (by omega)).trans (FF.out k hk a1 a2 a3))
        replace BB := Sh.mk (BB.out.trans (hs.1.mono (by have := HO.out; have := HB.out; omega)))
        replace HZ := Sh.mk (show w.heap.size + 3 ≤ w4.heap.size by rw [hs.2.1]; exact HZ.out)
        clear hk hs
        go_upto_region 9 with fail
        refine OX.wp_ord [(0, .read), (1, .pure), (2, .pure), (4, .pure), (3, .sole), (5, .pure), (6, .sole), (7, .pure)] ⟨fun k => k = o ∨ k = g ∨ k = p ∨ k = w.heap.size + 2, []⟩ (by kernel_rfl) (by kernel_rfl) (fun QQ hQ wd hwd => ?_); (try simp only [List.map_cons, List.map_nil, List.getD_cons_zero, List.getD_cons_succ])
        have hD : Below w4.heap.size w4 wd := by rw [hwd.out]; exact (Below.refl _ _).drew
        replace HU := Sh.mk (HU.out.into hD)
        replace HR := Sh.mk (HR.out.below hD)
        replace HQ := Sh.mk (HQ.out.below (hD.mono (by have := HO.out; have := HB.out; have := HZ.out; omega)))
        replace KX := Sh.mk (KX.out.below hD KX.out.lt)
        replace KP := Sh.mk (KP.out.below hD KP.out.lt)
        replace KR := Sh.mk (KR.out.below hD KR.out.lt)
        replace BB := Sh.mk (BB.out.trans (hD.mono (by have := HO.out; have := HB.out; have := HZ.out; omega)))
        replace FF := Sh.mk (show ∀ k, k < w.heap.size → k ≠ o → k ≠ g → k ≠ p → wd.heap[k]? = w.heap[k]? from fun k hk a1 a2 a3 => (hD.block k (by have := HZ.out; omega)).trans (FF.out k hk a1 a2 a3))
        replace HZ := Sh.mk (show w.heap.size + 3 ≤ wd.heap.size by have := HZ.out; have := hD.size; omega)
        clear hD hwd
        have hne : ¬ (w.heap.size = o ∨ w.heap.size = g ∨ w.heap.size = p ∨ w.heap.size = w.heap.size + 2) := by have := HO.out; have := HB.out; omega
        (refine OX.o_loads _ [.slice A n c, .int .u64 (base : Int), .int .i64 (size : Int), .bool cl, .bool dn] (by rfl) rfl rfl (by dsimp only; first | assumption | omega) (fun j x hj => by rw [KX.out.cell, Nat.zero_add]; simpa using hj) (Nat.succ_pos _) (by kernel_rfl) (by kernel_rfl) ?_; simp only [Act.put, List.setIfInBounds_toArray, List.set_cons_zero, List.set_cons_succ])
        (refine OX.o_pure (v := ?_) (by rfl) (fun w' => ?_) ?_; rotate_left; (focus (go_simp; (try with_reducible rfl))); (try simp only [Act.put, List.setIfInBounds_toArray, List.set_cons_zero, List.set_cons_succ]))
        (refine OX.o_pure (v := ?_) (by rfl) (fun w' => ?_) ?_; rotate_left; (focus (go_simp; (try with_reducible rfl))); (try simp only [Act.put, List.setIfInBounds_toArray, List.set_cons_zero, List.set_cons_succ]))
        (refine OX.o_pure (v := ?_) (by rfl) (fun w' => ?_) ?_; rotate_left; (focus (go_simp; (try with_reducible rfl))); (try simp only [Act.put, List.setIfInBounds_toArray, List.set_cons_zero, List.set_cons_succ]))
        refine OX.o_sole (fun K hK => ?_)
        go_wp2_with fail
        refine (ou_acked_no o g p size base cl dn bs q.to wd HU.out HNO.out).mono ?_
        rintro e w5 ⟨rfl, qn, hqn⟩
        have tN : Tri o g p wd w5 := hqn ▸ Tri.refl.drewN qn
        have uN : OU w5 o g p size base cl dn bs := hqn ▸ HU.out.drewN qn
        clear hqn
        go_wp2_with fail
        refine hK _ _ (fun _ => ⟨Nat.le_of_eq tN.2.1.symm, fun k _ hk => tN.2.2 k (fun e => hk (by simp [e])) (fun e => hk (by simp [e])) (fun e => hk (by simp [e]))⟩) ?_; clear hK K
        replace HU := Sh.mk uN
        replace HR := Sh.mk (tN.nats HR.out HO.out.1.2 HO.out.2.1.2 HO.out.2.2.2)
        replace HQ := Sh.mk (HQ.out.below (tN.below HO.out.1.1 HO.out.2.1.1 HO.out.2.2.1))
        replace KX := Sh.mk (tN.blk KX.out (by have := HO.out; have := HB.out; omega) (by have := HO.out; have := HB.out; omega) (by have := HO.out; have := HB.out; omega))
        replace KP := Sh.mk (tN.blk KP.out (by have := HO.out; have := HB.out; omega) (by have := HO.out; have := HB.out; omega) (by have := HO.out; have := HB.out; omega))
        replace KR := Sh.mk (tN.blk KR.out (by have := HO.out; have := HB.out; omega) (by have := HO.out; have := HB.out; omega) (by have := HO.out; have := HB.out; omega))
        replace FF := Sh.mk (show ∀ k, k < w.heap.size → k ≠ o → k ≠ g → k ≠ p → w5.heap[k]? = w.heap[k]? from fun k hk a1 a2 a3 => (tN.2.2 k a1 a2 a3).trans (FF.out k hk a1 a2 a3))
        replace BB := Sh.mk (BB.out.trans (tN.below HO.out.1.1 HO.out.2.1.1 HO.out.2.2.1))
        replace HZ := Sh.mk (show w.heap.size + 3 ≤ w5.heap.size by rw [tN.2.1]; exact HZ.out)
        clear tN uN
        (refine OX.o_pure (v := ?_) (by rfl) (fun w' => ?_) ?_; rotate_left; (focus (go_simp; (try with_reducible rfl))); (try simp only [Act.put, List.setIfInBounds_toArray, List.set_cons_zero, List.set_cons_succ]))
        refine OX.o_sole (fun K hK => ?_)
        refine stm_store (cs' := #[.slice A n c, .int .u64 (base : Int), .int .i64 (size : Int), .bool cl, .bool dn]) KR.out rfl _ _ rfl rfl rfl (by simp) (by kernel_rfl) (by simp [Value.oneCell']) (by simp [setL]) fun w6 hk hs => ?_
        refine wpList_nil ?_
        refine hK _ _ (fun _ => OX.ExtB.solo hs (by simp)) ?_; clear hK K
        replace HU := Sh.mk (HU.out.below hs.1 (by have := HO.out; have := HB.out; omega) (by have := HO.out; have := HB.out; omega) (by have := HO.out; have := HB.out; omega))
        replace HR := Sh.mk (HR.out.kept (w' := w6) fun i hi => hs.2.2 i (by have := HG.out i hi; omega))
        replace HQ := Sh.mk (HQ.out.below (hs.1.mono (by have := HO.out; have := HB.out; omega)))
        replace KP := Sh.mk (hs.blk KP.out (by omega))
        replace KX := Sh.mk (hs.blk KX.out (by omega))
        replace KR := Sh.mk hk
        replace FF := Sh.mk (show ∀ k, k < w.heap.size → k ≠ o → k ≠ g → k ≠ p → w6.heap[k]? = w.heap[k]? from fun k hk a1 a2 a3 => (hs.2.2 k (by omega)).trans (FF.out k hk a1 a2 a3))
        replace BB := Sh.mk (BB.out.trans (hs.1.mono (by have := HO.out; have := HB.out; omega)))
        replace HZ := Sh.mk (show w.heap.size + 3 ≤ w6.heap.size by rw [hs.2.1]; exact HZ.out)
        clear hk hs
        (refine OX.o_pure (v := ?_) (by rfl) (fun w' => ?_) ?_; rotate_left; (focus (go_simp; (try with_reducible rfl))); (try simp only [Act.put, List.setIfInBounds_toArray, List.set_cons_zero, List.set_cons_succ]))
        refine OX.o_nil (hQ.out _ _ ?_); clear hQ QQ
        go_wp2_with fail
        have v0 : w6.cell? ⟨(w.heap.size + 2), 0, none⟩ = some (.slice A n c) := by rw [KR.out.cell]; rfl
        have v1 : w6.cell? ⟨(w.heap.size + 2), 1, none⟩ = some (.int .u64 (base : Int)) := by rw [KR.out.cell]; rfl
        have v2 : w6.cell? ⟨(w.heap.size + 2), 2, none⟩ = some (.int .i64 (size : Int)) := by rw [KR.out.cell]; rfl
        have v3 : w6.cell? ⟨(w.heap.size + 2), 3, none⟩ = some (.bool cl) := by rw [KR.out.cell]; rfl
        have v4 : w6.cell? ⟨(w.heap.size + 2), 4, none⟩ = some (.bool dn) := by rw [KR.out.cell]; rfl
        refine bodyPost_ret (v := .tuple #[.agg #[.slice A n c, .int .u64 (base : Int), .int .i64 (size : Int), .bool cl, .bool dn], .bool true]) (by simp [results, Try.results9, go_sem, v0, v1, v2, v3, v4]) rfl ?_
        exact ⟨_, _, _, _, _, _, _, rfl, HU.out, HR.out, BB.out, by have := HZ.out; omega, FF.out⟩
      · subst hdn
        have HYES := Sh.mk hyes
        clear hyes
        go_enter Try.func9, Try.ntmps9
        go_upto_region 1 with fail
        have KX : Hid (Blk (w.alloc (.cells #[.slice A n c, .int .u64 (base : Int), .int .i64 (size : Int), .bool cl, .bool false] 31)) (w.heap.size) 31 #[.slice A n c, .int .u64 (base : Int), .int .i64 (size : Int), .bool cl, .bool false]) := Lib.hid ((Blk.new w 31 #[.slice A n c, .int .u64 (base : Int), .int .i64 (size : Int), .bool cl, .bool false]))
        replace KX : Hid (Blk ((w.alloc (.cells #[.slice A n c, .int .u64 (base : Int), .int .i64 (size : Int), .bool cl, .bool false] 31)).alloc (.cells #[.int .i64 q.k, .int .i64 q.nn, .int .u64 (q.to : Int), .slice q.A q.m q.c] 37)) (w.heap.size) 31 #[.slice A n c, .int .u64 (base : Int), .int .i64 (size : Int), .bool cl, .bool false]) := Lib.hid (KX.out.alloc _)
        replace KX : Hid (Blk (((w.alloc (.cells #[.slice A n c, .int .u64 (base : Int), .int .i64 (size : Int), .bool cl, .bool false] 31)).alloc (.cells #[.int .i64 q.k, .int .i64 q.nn, .int .u64 (q.to : Int), .slice q.A q.m q.c] 37)).alloc (.cells #[.slice none 0 0, .int .u64 0, .int .i64 0, .bool false, .bool false] 31)) (w.heap.size) 31 #[.slice A n c, .int .u64 (base : Int), .int .i64 (size : Int), .bool cl, .bool false]) := Lib.hid (KX.out.alloc _)
        have KP : Hid (Blk ((w.alloc (.cells #[.slice A n c, .int .u64 (base : Int), .int .i64 (size : Int), .bool cl, .bool false] 31)).alloc (.cells #[.int .i64 q.k, .int .i64 q.nn, .int .u64 (q.to : Int), .slice q.A q.m q.c] 37)) (w.heap.size + 1) 37 #[.int .i64 q.k, .int .i64 q.nn, .int .u64 (q.to : Int), .slice q.A q.m q.c]) := Lib.hid ((Blk.new (w.alloc (.cells #[.slice A n c, .int .u64 (base : Int), .int .i64 (size : Int), .bool cl, .bool false] 31)) 37 #[.int .i64 q.k, .int .i64 q.nn, .int .u64 (q.to : Int), .slice q.A q.m q.c]) |> fun h => by simpa using h)
        replace KP : Hid (Blk (((w.alloc (.cells #[.slice A n c, .int .u64 (base : Int), .int .i64 (size : Int), .bool cl, .bool false] 31)).alloc (.cells #[.int .i64 q.k, .int .i64 q.nn, .int .u64 (q.to : Int), .slice q.A q.m q.c] 37)).alloc (.cells #[.slice none 0 0, .int .u64 0, .int .i64 0, .bool false, .bool false] 31)) (w.heap.size + 1) 37 #[.int .i64 q.k, .int .i64 q.nn, .int .u64 (q.to : Int), .slice q.A q.m q.c]) := Lib.hid (KP.out.alloc _)
        have KR : Hid (Blk (((w.alloc (.cells #[.slice A n c, .int .u64 (base : Int), .int .i64 (size : Int), .bool cl, .bool false] 31)).alloc (.cells #[.int .i64 q.k, .int .i64 q.nn, .int .u64 (q.to : Int), .slice q.A q.m q.c] 37)).alloc (.cells #[.slice none 0 0, .int .u64 0, .int .i64 0, .bool false, .bool false] 31)) (w.heap.size + 2) 31 #[.slice none 0 0, .int .u64 0, .int .i64 0, .bool false, .bool false]) := Lib.hid ((Blk.new ((w.alloc (.cells #[.slice A n c, .int .u64 (base : Int), .int .i64 (size : Int), .bool cl, .bool false] 31)).alloc (.cells #[.int .i64 q.k, .int .i64 q.nn, .int .u64 (q.to : Int), .slice q.A q.m q.c] 37)) 31 #[.slice none 0 0, .int .u64 0, .int .i64 0, .bool false, .bool false]) |> fun h => by simpa using h)
        have b1 : Hid (Below w.heap.size w (((w.alloc (.cells #[.slice A n c, .int .u64 (base : Int), .int .i64 (size : Int), .bool cl, .bool false] 31)).alloc (.cells #[.int .i64 q.k, .int .i64 q.nn, .int .u64 (q.to : Int), .slice q.A q.m q.c] 37)).alloc (.cells #[.slice none 0 0, .int .u64 0, .int .i64 0, .bool false, .bool false] 31))) := Lib.hid ((((Below.refl w.heap.size w).alloc (Nat.le_refl _) (.cells #[.slice A n c, .int .u64 (base : Int), .int .i64 (size : Int), .bool cl, .bool false] 31)).alloc (by simp <;> omega) (.cells #[.int .i64 q.k, .int .i64 q.nn, .int .u64 (q.to : Int), .slice q.A q.m q.c] 37)).alloc (by simp <;> omega) (.cells #[.slice none 0 0, .int .u64 0, .int .i64 0, .bool false, .bool false] 31))
        have hz : (((w.alloc (.cells #[.slice A n c, .int .u64 (base : Int), .int .i64 (size : Int), .bool cl, .bool false] 31)).alloc (.cells #[.int .i64 q.k, .int .i64 q.nn, .int .u64 (q.to : Int), .slice q.A q.m q.c] 37)).alloc (.cells #[.slice none 0 0, .int .u64 0, .int .i64 0, .bool false, .bool false] 31)).heap.size = w.heap.size + 3 := by simp
        generalize (((w.alloc (.cells #[.slice A n c, .int .u64 (base : Int), .int .i64 (size : Int), .bool cl, .bool false] 31)).alloc (.cells #[.int .i64 q.k, .int .i64 q.nn, .int .u64 (q.to : Int), .slice q.A q.m q.c] 37)).alloc (.cells #[.slice none 0 0, .int .u64 0, .int .i64 0, .bool false, .bool false] 31)) = w2 at KX KP KR b1 hz ⊢
        have HZ := Lib.hid hz
        clear hz
        replace HU := Sh.mk (HU.out.into b1.out)
        replace HR := Sh.mk (HR.out.below b1.out)
        replace HQ := Sh.mk (HQ.out.below (b1.out.mono (by have := HO.out; have := HB.out; omega)))
        have BB := Sh.mk (b1.out.mono (show W0 ≤ w.heap.size by have := HO.out; have := HB.out; omega))
        have FF := Sh.mk (show ∀ k, k < w.heap.size → k ≠ o → k ≠ g → k ≠ p → w2.heap[k]? = w.heap[k]? from fun k hk _ _ _ => b1.out.block k hk)
        replace HZ := Sh.mk (show w.heap.size + 3 ≤ w2.heap.size by have := HZ.out; omega)
        clear b1
        have x0 : w2.cell? ⟨w.heap.size, 0, none⟩ = some (.slice A n c) := by rw [KX.out.cell]; rfl
        have x1 : w2.cell? ⟨w.heap.size, 1, none⟩ = some (.int .u64 (base : Int)) := by rw [KX.out.cell]; rfl
        have x2 : w2.cell? ⟨w.heap.size, 2, none⟩ = some (.int .i64 (size : Int)) := by rw [KX.out.cell]; rfl
        have x3 : w2.cell? ⟨w.heap.size, 3, none⟩ = some (.bool cl) := by rw [KX.out.cell]; rfl
        have x4 : w2.cell? ⟨w.heap.size, 4, none⟩ = some (.bool false) := by rw [KX.out.cell]; rfl
        have p0 : w2.cell? ⟨(w.heap.size + 1), 0, none⟩ = some (.int .i64 q.k) := by rw [KP.out.cell]; rfl
        have p1 : w2.cell? ⟨(w.heap.size + 1), 1, none⟩ = some (.int .i64 q.nn) := by rw [KP.out.cell]; rfl
        have p2 : w2.cell? ⟨(w.heap.size + 1), 2, none⟩ = some (.int .u64 (q.to : Int)) := by rw [KP.out.cell]; rfl
        have p3 : w2.cell? ⟨(w.heap.size + 1), 3, none⟩ = some (.slice q.A q.m q.c) := by rw [KP.out.cell]; rfl
        obtain ⟨z, hz⟩ : ∃ z, z = min q.to (base + bs.length) := ⟨_, rfl⟩
        obtain ⟨f, hf⟩ : ∃ f, f = decide (base + n < q.to) := ⟨_, rfl⟩
        have RA := r_acked_yes A n c base size cl bs q.to w2 (HR.out.rd.re HN.out.1) HN.out.2 (by have := HSZ.out; have := HN.out; omega) (by rw [← HN.out.1]; exact HLIM.out) HYES.out.1 (by rw [← HN.out.1]; exact HYES.out.2) z (by rw [← HN.out.1]; exact hz)
        rw [← hf] at RA
        have RAS := Sh.mk RA
        have HZE := Sh.mk (And.intro hz hf)
        clear RA hz hf
        go_wp2_with fail
        refine RAS.out.mono ?_
        rintro e w3 ⟨v, rfl, hv, b3⟩
        have HV := Sh.mk (hv.mono (show B1 ≤ w2.heap.size by have := HB.out; have := HZ.out; omega))
        replace HG := Sh.mk (show ∀ i, v.ownBlock = some i → i ≠ w.heap.size ∧ i ≠ w.heap.size + 2 from fun i hi => by have := (hv.lt i hi).1; have := HZ.out; omega)
        obtain ⟨A8, n8, c8, rfl, _, _, _⟩ := hv.out
        clear RAS hv
        replace HU := Sh.mk (HU.out.into b3)
        replace HR := Sh.mk (HR.out.below b3)
        replace HQ := Sh.mk (HQ.out.below (b3.mono (by have := HO.out; have := HB.out; have := HZ.out; omega)))
        replace KX := Sh.mk (KX.out.below b3 KX.out.lt)
        replace KP := Sh.mk (KP.out.below b3 KP.out.lt)
        replace KR := Sh.mk (KR.out.below b3 KR.out.lt)
        replace BB := Sh.mk (BB.out.trans (b3.mono (by have := HO.out; have := HB.out; have := HZ.out; omega)))
        replace FF := Sh.mk (show ∀ k, k < w.heap.size → k ≠ o → k ≠ g → k ≠ p → w3.heap[k]? = w.heap[k]? from fun k hk a1 a2 a3 => (b3.block k (by have := HZ.out; omega)).trans (FF.out k hk a1 a2 a3))
        replace HZ := Sh.mk (show w.heap.size + 3 ≤ w3.heap.size by have := HZ.out; have := b3.size; omega)
        replace HR := HV
        clear HV b3 x0 x1 x2 x3 x4 p0 p1 p2 p3
        go_wp2_with (refine stm_store (cs' := #[.slice A8 n8 c8, .int .u64 (z : Int), .int .i64 (size : Int), .bool cl, .bool f]) KX.out rfl _ _ rfl rfl rfl (by simp) (by kernel_rfl) (by simp [Value.oneCell']) (by simp [setL]) fun w4 hk hs => ?_)
        replace HU := Sh.mk (HU.out.below hs.1 (by have := HO.out; have := HB.out; omega) (by have := HO.out; have := HB.out; omega) (by have := HO.out; have := HB.out; omega))
        replace HR := Sh.mk (HR.out.kept (w' := w4) fun i hi => hs.2.2 i (by have := HG.out i hi; omega))
        replace HQ := Sh.mk (HQ.out.below (hs.1.mono (by have := HO.out; have := HB.out; omega)))
        replace KP := Sh.mk (hs.blk KP.out (by omega))
        replace KX := Sh.mk hk
        replace KR := Sh.mk (hs.blk KR.out (by omega))
        replace FF := Sh.mk (show ∀ k, k < w.heap.size → k ≠ o → k ≠ g → k ≠ p → w4.heap[k]? = w.heap[k]? from fun k hk a1 a2 a3 => (hs.2.2 k (by omega)).trans (FF.out k hk a1 a2 a3))
        replace BB := Sh.mk (BB.out.trans (hs.1.mono (by have := HO.out; have := HB.out; omega)))
        replace HZ := Sh.mk (show w.heap.size + 3 ≤ w4.heap.size by rw [hs.2.1]; exact HZ.out)
        clear hk hs
        go_upto_region 9 with fail
        refine OX.wp_ord [(0, .read), (1, .pure), (2, .pure), (4, .pure), (3, .sole), (5, .pure), (6, .sole), (7, .pure)] ⟨fun k => k = o ∨ k = g ∨ k = p ∨ k = w.heap.size + 2, []⟩ (by kernel_rfl) (by kernel_rfl) (fun QQ hQ wd hwd => ?_); (try simp only [List.map_cons, List.map_nil, List.getD_cons_zero, List.getD_cons_succ])
        have hD : Below w4.heap.size w4 wd := by rw [hwd.out]; exact (Below.refl _ _).drew
        replace HU := Sh.mk (HU.out.into hD)
        replace HR := Sh.mk (HR.out.below hD)
        replace HQ := Sh.mk (HQ.out.below (hD.mono (by have := HO.out; have := HB.out; have := HZ.out; omega)))
        replace KX := Sh.mk (KX.out.below hD KX.out.lt)
        replace KP := Sh.mk (KP.out.below hD KP.out.lt)
        replace KR := Sh.mk (KR.out.below hD KR.out.lt)
        replace BB := Sh.mk (BB.out.trans (hD.mono (by have := HO.out; have := HB.out; have := HZ.out; omega)))
        replace FF := Sh.mk (show ∀ k, k < w.heap.size → k ≠ o → k ≠ g → k ≠ p → wd.heap[k]? = w.heap[k]? from fun k hk a1 a2 a3 => (hD.block k (by have := HZ.out; omega)).trans (FF.out k hk a1 a2 a3))
        replace HZ := Sh.mk (show w.heap.size + 3 ≤ wd.heap.size by have := HZ.out; have := hD.size; omega)
        clear hD hwd
        have hne : ¬ (w.heap.size = o ∨ w.heap.size = g ∨ w.heap.size = p ∨ w.heap.size = w.heap.size + 2) := by have := HO.out; have := HB.out; omega
        (refine OX.o_loads _ [.slice A8 n8 c8, .int .u64 (z : Int), .int .i64 (size : Int), .bool cl, .bool f] (by rfl) rfl rfl (by dsimp only; first | assumption | omega) (fun j x hj => by rw [KX.out.cell, Nat.zero_add]; simpa using hj) (Nat.succ_pos _) (by kernel_rfl) (by kernel_rfl) ?_; simp only [Act.put, List.setIfInBounds_toArray, List.set_cons_zero, List.set_cons_succ])
        (refine OX.o_pure (v := ?_) (by rfl) (fun w' => ?_) ?_; rotate_left; (focus (go_simp; (try with_reducible rfl))); (try simp only [Act.put, List.setIfInBounds_toArray, List.set_cons_zero, List.set_cons_succ]))
        (refine OX.o_pure (v := ?_) (by rfl) (fun w' => ?_) ?_; rotate_left; (focus (go_simp; (try with_reducible rfl))); (try simp only [Act.put, List.setIfInBounds_toArray, List.set_cons_zero, List.set_cons_succ]))
        (refine OX.o_pure (v := ?_) (by rfl) (fun w' => ?_) ?_; rotate_left; (focus (go_simp; (try with_reducible rfl))); (try simp only [Act.put, List.setIfInBounds_toArray, List.set_cons_zero, List.set_cons_succ]))
        refine OX.o_sole (fun K hK => ?_)
        go_wp2_with fail
        have OA := ou_acked_yes o g p size base cl bs q.to wd HU.out HYES.out.1 HYES.out.2 z HZE.out.1
        rw [HN.out.1, ← HZE.out.2] at OA
        refine OA.mono ?_
        rintro e w5 ⟨rfl, tN, uN⟩
        clear OA
        go_wp2_with fail
        refine hK _ _ (fun _ => ⟨Nat.le_of_eq tN.2.1.symm, fun k _ hk => tN.2.2 k (fun e => hk (by simp [e])) (fun e => hk (by simp [e])) (fun e => hk (by simp [e]))⟩) ?_; clear hK K
        replace HU := Sh.mk uN
        replace HR := Sh.mk (tN.nats HR.out HO.out.1.2 HO.out.2.1.2 HO.out.2.2.2)
        replace HQ := Sh.mk (HQ.out.below (tN.below HO.out.1.1 HO.out.2.1.1 HO.out.2.2.1))
        replace KX := Sh.mk (tN.blk KX.out (by have := HO.out; have := HB.out; omega) (by have := HO.out; have := HB.out; omega) (by have := HO.out; have := HB.out; omega))
        replace KP := Sh.mk (tN.blk KP.out (by have := HO.out; have := HB.out; omega) (by have := HO.out; have := HB.out; omega) (by have := HO.out; have := HB.out; omega))
        replace KR := Sh.mk (tN.blk KR.out (by have := HO.out; have := HB.out; omega) (by have := HO.out; have := HB.out; omega) (by have := HO.out; have := HB.out; omega))
        replace FF := Sh.mk (show ∀ k, k < w.heap.size → k ≠ o → k ≠ g → k ≠ p → w5.heap[k]? = w.heap[k]? from fun k hk a1 a2 a3 => (tN.2.2 k a1 a2 a3).trans (FF.out k hk a1 a2 a3))
        replace BB := Sh.mk (BB.out.trans (tN.below HO.out.1.1 HO.out.2.1.1 HO.out.2.2.1))
        replace HZ := Sh.mk (show w.heap.size + 3 ≤ w5.heap.size by rw [tN.2.1]; exact HZ.out)
        clear tN uN
        (refine OX.o_pure (v := ?_) (by rfl) (fun w' => ?_) ?_; rotate_left; (focus (go_simp; (try with_reducible rfl))); (try simp only [Act.put, List.setIfInBounds_toArray, List.set_cons_zero, List.set_cons_succ]))
        refine OX.o_sole (fun K hK => ?_)
        refine stm_store (cs' := #[.slice A8 n8 c8, .int .u64 (z : Int), .int .i64 (size : Int), .bool cl, .bool f]) KR.out rfl _ _ rfl rfl rfl (by simp) (by kernel_rfl) (by simp [Value.oneCell']) (by simp [setL]) fun w6 hk hs => ?_
        refine wpList_nil ?_
        refine hK _ _ (fun _ => OX.ExtB.solo hs (by simp)) ?_; clear hK K
        replace HU := Sh.mk (HU.out.below hs.1 (by have := HO.out; have := HB.out; omega) (by have := HO.out; have := HB.out; omega) (by have := HO.out; have := HB.out; omega))
        replace HR := Sh.mk (HR.out.kept (w' := w6) fun i hi => hs.2.2 i (by have := HG.out i hi; omega))
        replace HQ := Sh.mk (HQ.out.below (hs.1.mono (by have := HO.out; have := HB.out; omega)))
        replace KP := Sh.mk (hs.blk KP.out (by omega))
        replace KX := Sh.mk (hs.blk KX.out (by omega))
        replace KR := Sh.mk hk
        replace FF := Sh.mk (show ∀ k, k < w.heap.size → k ≠ o → k ≠ g → k ≠ p → w6.heap[k]? = w.heap[k]? from fun k hk a1 a2 a3 => (hs.2.2 k (by omega)).trans (FF.out k hk a1 a2 a3))
        replace BB := Sh.mk (BB.out.trans (hs.1.mono (by have := HO.out; have := HB.out; omega)))
        replace HZ := Sh.mk (show w.heap.size + 3 ≤ w6.heap.size by rw [hs.2.1]; exact HZ.out)
        clear hk hs
        (refine OX.o_pure (v := ?_) (by rfl) (fun w' => ?_) ?_; rotate_left; (focus (go_simp; (try with_reducible rfl))); (try simp only [Act.put, List.setIfInBounds_toArray, List.set_cons_zero, List.set_cons_succ]))
        refine OX.o_nil (hQ.out _ _ ?_); clear hQ QQ
        go_wp2_with fail
        have v0 : w6.cell? ⟨(w.heap.size + 2), 0, none⟩ = some (.slice A8 n8 c8) := by rw [KR.out.cell]; rfl
        have v1 : w6.cell? ⟨(w.heap.size + 2), 1, none⟩ = some (.int .u64 (z : Int)) := by rw [KR.out.cell]; rfl
        have v2 : w6.cell? ⟨(w.heap.size + 2), 2, none⟩ = some (.int .i64 (size : Int)) := by rw [KR.out.cell]; rfl
        have v3 : w6.cell? ⟨(w.heap.size + 2), 3, none⟩ = some (.bool cl) := by rw [KR.out.cell]; rfl
        have v4 : w6.cell? ⟨(w.heap.size + 2), 4, none⟩ = some (.bool f) := by rw [KR.out.cell]; rfl
        refine bodyPost_ret (v := .tuple #[.agg #[.slice A8 n8 c8, .int .u64 (z : Int), .int .i64 (size : Int), .bool cl, .bool f], .bool true]) (by simp [results, Try.results9, go_sem, v0, v1, v2, v3, v4]) rfl ?_
        exact ⟨_, _, _, _, _, _, _, rfl, HU.out, HR.out, BB.out, by have := HZ.out; omega, FF.out⟩
end Go.Proofs.Ytmkjclgdiikjdaa
