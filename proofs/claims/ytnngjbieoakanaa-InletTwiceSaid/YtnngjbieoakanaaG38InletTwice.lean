/- Layer 18: the document's inlet: Next, Edge, Ended. -/
import Derived.Test.YtnngjbieoakanaaG33InletTwice
import Derived.Test.YtnngjbieoakanaaG37InletTwice

namespace Go.Proofs.Ytnngjbieoakanaa
open Go.RowKit
set_option linter.unusedVariables false
set_option linter.unusedSimpArgs false
/-- A row of truths. -/
def bls (l : List Bool) : List Value := l.map Value.bool
theorem Rd.bl {w : World} {B n : Nat} {A : Option Addr} {l : List Bool} (h : Rd w B 1 A n (bls l)) {i : Nat} (hi : i < n) :
    ∃ (b off : Nat) (v : Bool), A = some ⟨b, off, none⟩ ∧ b < B ∧ w.cell? ⟨b, off + i, none⟩ = some (.bool v) := by
  obtain ⟨b, off, e, hb, hc⟩ := h.2 (by omega)
  have hl : i < l.length := by have := h.1; simp [bls] at this; omega
  refine ⟨b, off, l[i], e, hb, ?_⟩
  rw [hc i (by omega)]
  simp [bls, hl]
/-- The rows of the document's inlet. -/
def XR (w : World) (B1 n : Nat) (A1 : Option Addr) (c1 : Nat) (A2 : Option Addr) (c2 : Nat) : Prop :=
  ∃ (hl : List Bool) (bl : List Nat), w.ownsRow B1 4 1 (.slice A1 n c1) n (bls hl) ∧ Nats w 5 .u8 B1 (.slice A2 n c2) bl ∧ bl.length = n
theorem XR.into {w w' : World} {B1 n c1 c2 : Nat} {A1 A2 : Option Addr} (h : XR w B1 n A1 c1 A2 c2) (hb : Below w.heap.size w w') : XR w' B1 n A1 c1 A2 c2 := by
  obtain ⟨hl, bl, h1, h2, h3⟩ := h
  exact ⟨hl, bl, own_below h1 hb fun g hg => (h1.lt g hg).2, h2.kept fun g hg => hb.block g (h2.lt g hg).2, h3⟩
theorem XR.mono {w : World} {B1 B2 n c1 c2 : Nat} {A1 A2 : Option Addr} (h : XR w B1 n A1 c1 A2 c2) (hB : B2 ≤ B1) : XR w B2 n A1 c1 A2 c2 := by
  obtain ⟨hl, bl, h1, h2, h3⟩ := h
  exact ⟨hl, bl, own_mono h1 hB, h2.mono hB, h3⟩
theorem XR.rdH {w : World} {B1 n c1 c2 : Nat} {A1 A2 : Option Addr} (h : XR w B1 n A1 c1 A2 c2) : ∃ hl, Rd w w.heap.size 1 A1 n (bls hl) ∧ n ≤ c1 ∧ c1 ≤ maxLen := by
  obtain ⟨hl, bl, h1, h2, h3⟩ := h
  obtain ⟨A, c, e, x1, x2, x3⟩ := own_form h1
  injection e with e1 e2 e3
  subst e1; subst e3
  exact ⟨hl, x3, x1, x2⟩
theorem XR.rdB {w : World} {B1 n c1 c2 : Nat} {A1 A2 : Option Addr} (h : XR w B1 n A1 c1 A2 c2) : ∃ bl, Rd w w.heap.size 1 A2 n (ns .u8 bl) ∧ n ≤ c2 ∧ bl.length = n := by
  obtain ⟨hl, bl, h1, h2, h3⟩ := h
  obtain ⟨A, m, c, e, x1, x2, x3⟩ := h2.out
  injection e with e1 e2 e3
  subst e1; subst e2; subst e3
  exact ⟨bl, x3.out, x1, h3⟩
set_option maxRecDepth 20000 in
set_option maxHeartbeats 4000000 in
theorem r18_edge (base most en n : Nat) (kn : Bool) (A1 A2 : Option Addr) (c1 c2 B1 : Nat) (w : World) (hn : n ≤ 200) (hb : base ≤ 100000) :
    Calls Try.prog 32 #[.agg #[.int .u64 (base : Int), .slice A1 n c1, .slice A2 n c2, .int .i64 (most : Int), .int .u64 (en : Int), .bool kn]] w fun e w' => e = .returned (.int .u64 ((base + n : Nat) : Int)) ∧ Below w.heap.size w w' := by
  have w1' : IntKind.u64.wrap (n : Int) = (n : Nat) := by rw [IntKind.wrap_u64]; omega
  obtain ⟨e0, he0⟩ : ∃ e0, e0 = base + n := ⟨_, rfl⟩
  have w2' : IntKind.u64.wrap ((base : Int) + (n : Int)) = (e0 : Nat) := by rw [IntKind.wrap_u64]; omega
  rw [← he0]
  clear hn hb he0
  go_enter Try.func32, Try.ntmps32
  go_upto_region 1 with fail
  have KX : Hid (Blk (w.alloc (.cells #[.int .u64 (base : Int), .slice A1 n c1, .slice A2 n c2, .int .i64 (most : Int), .int .u64 (en : Int), .bool kn] 38)) (w.heap.size) 38 #[.int .u64 (base : Int), .slice A1 n c1, .slice A2 n c2, .int .i64 (most : Int), .int .u64 (en : Int), .bool kn]) := Lib.hid ((Blk.new w 38 #[.int .u64 (base : Int), .slice A1 n c1, .slice A2 n c2, .int .i64 (most : Int), .int .u64 (en : Int), .bool kn]))
  have b1 : Hid (Below w.heap.size w (w.alloc (.cells #[.int .u64 (base : Int), .slice A1 n c1, .slice A2 n c2, .int .i64 (most : Int), .int .u64 (en : Int), .bool kn] 38))) := Lib.hid ((Below.refl w.heap.size w).alloc (Nat.le_refl _) (.cells #[.int .u64 (base : Int), .slice A1 n c1, .slice A2 n c2, .int .i64 (most : Int), .int .u64 (en : Int), .bool kn] 38))
  have hz : (w.alloc (.cells #[.int .u64 (base : Int), .slice A1 n c1, .slice A2 n c2, .int .i64 (most : Int), .int .u64 (en : Int), .bool kn] 38)).heap.size = w.heap.size + 1 := by simp
  generalize (w.alloc (.cells #[.int .u64 (base : Int), .slice A1 n c1, .slice A2 n c2, .int .i64 (most : Int), .int .u64 (en : Int), .bool kn] 38)) = w2 at KX b1 hz ⊢
  have HZ := Lib.hid hz
  clear hz
  have f0 : w2.cell? ⟨w.heap.size, 0, none⟩ = some (.int .u64 (base : Int)) := by rw [KX.out.cell]; rfl
  have f1 : w2.cell? ⟨w.heap.size, 1, none⟩ = some (.slice A1 n c1) := by rw [KX.out.cell]; rfl
  have f2 : w2.cell? ⟨w.heap.size, 2, none⟩ = some (.slice A2 n c2) := by rw [KX.out.cell]; rfl
  have f3 : w2.cell? ⟨w.heap.size, 3, none⟩ = some (.int .i64 (most : Int)) := by rw [KX.out.cell]; rfl
  have f4 : w2.cell? ⟨w.heap.size, 4, none⟩ = some (.int .u64 (en : Int)) := by rw [KX.out.cell]; rfl
  have f5 : w2.cell? ⟨w.heap.size, 5, none⟩ = some (.bool kn) := by rw [KX.out.cell]; rfl
  go_wp2_with fail
  go_ret
  exact ⟨rfl, b1.out⟩
set_option maxRecDepth 20000 in
set_option maxHeartbeats 4000000 in
theorem r18_next (base most en n : Nat) (kn : Bool) (A1 A2 : Option Addr) (c1 c2 B1 : Nat) (w : World) (hX : XR w B1 n A1 c1 A2 c2) (hn : n ≤ 200) (hb : base ≤ 100000) :
    Calls Try.prog 28 #[.agg #[.int .u64 (base : Int), .slice A1 n c1, .slice A2 n c2, .int .i64 (most : Int), .int .u64 (en : Int), .bool kn]] w fun e w' => ∃ k, k ≤ n ∧ e = .returned (.int .u64 ((base + k : Nat) : Int)) ∧ Below w.heap.size w w' := by
  obtain ⟨hl, hr, hc, hm⟩ := hX.rdH
  have HR := Sh.mk hr
  clear hX hr
  go_enter Try.func28, Try.ntmps28
  go_upto_region 1 with fail
  have KX : Hid (Blk (w.alloc (.cells #[.int .u64 (base : Int), .slice A1 n c1, .slice A2 n c2, .int .i64 (most : Int), .int .u64 (en : Int), .bool kn] 38)) (w.heap.size) 38 #[.int .u64 (base : Int), .slice A1 n c1, .slice A2 n c2, .int .i64 (most : Int), .int .u64 (en : Int), .bool kn]) := Lib.hid ((Blk.new w 38 #[.int .u64 (base : Int), .slice A1 n c1, .slice A2 n c2, .int .i64 (most : Int), .int .u64 (en : Int), .bool kn]))
  have b1 : Hid (Below w.heap.size w (w.alloc (.cells #[.int .u64 (base : Int), .slice A1 n c1, .slice A2 n c2, .int .i64 (most : Int), .int .u64 (en : Int), .bool kn] 38))) := Lib.hid ((Below.refl w.heap.size w).alloc (Nat.le_refl _) (.cells #[.int .u64 (base : Int), .slice A1 n c1, .slice A2 n c2, .int .i64 (most : Int), .int .u64 (en : Int), .bool kn] 38))
  have hz : (w.alloc (.cells #[.int .u64 (base : Int), .slice A1 n c1, .slice A2 n c2, .int .i64 (most : Int), .int .u64 (en : Int), .bool kn] 38)).heap.size = w.heap.size + 1 := by simp
  generalize (w.alloc (.cells #[.int .u64 (base : Int), .slice A1 n c1, .slice A2 n c2, .int .i64 (most : Int), .int .u64 (en : Int), .bool kn] 38)) = w2 at KX b1 hz ⊢
  have HZ := Lib.hid hz
  clear hz
  replace HR := Sh.mk (HR.out.below b1.out)
  have f0 : w2.cell? ⟨w.heap.size, 0, none⟩ = some (.int .u64 (base : Int)) := by rw [KX.out.cell]; rfl
  have f1 : w2.cell? ⟨w.heap.size, 1, none⟩ = some (.slice A1 n c1) := by rw [KX.out.cell]; rfl
  have f2 : w2.cell? ⟨w.heap.size, 2, none⟩ = some (.slice A2 n c2) := by rw [KX.out.cell]; rfl
  have f3 : w2.cell? ⟨w.heap.size, 3, none⟩ = some (.int .i64 (most : Int)) := by rw [KX.out.cell]; rfl
  have f4 : w2.cell? ⟨w.heap.size, 4, none⟩ = some (.int .u64 (en : Int)) := by rw [KX.out.cell]; rfl
  have f5 : w2.cell? ⟨w.heap.size, 5, none⟩ = some (.bool kn) := by rw [KX.out.cell]; rfl
  go_wp2_with fail
  go_loopw [3] (fun iv wr => ∃ i : Nat, i ≤ n ∧ iv = .int .i64 (i : Int) ∧ wr = w2) (fun iv _ => n - (intOf iv).toNat)
  case atStart => exact ⟨0, Nat.zero_le _, rfl, rfl⟩
  case round =>
    obtain ⟨i, hi, rfl, rfl⟩ := hrel
    have hw1 : IntKind.u64.wrap (i : Int) = (i : Nat) := by rw [IntKind.wrap_u64]; omega
    have hw2 : IntKind.u64.wrap ((base : Int) + (i : Int)) = ((base + i : Nat) : Int) := by rw [IntKind.wrap_u64]; omega
    obtain ⟨e0, he0⟩ : ∃ e0, e0 = base + i := ⟨_, rfl⟩
    rw [← he0] at hw2
    have HE0 := Sh.mk he0
    clear he0
    by_cases hlt : i < n
    · have hlt' : (i : Int) < (n : Int) := by omega
      obtain ⟨b, off, v, rfl, hbb, hv⟩ := HR.out.bl hlt
      cases v
      · go_wp2_with fail
        go_ret
        exact ⟨i, hi, by rw [HE0.out]; rfl, b1.out⟩
      · clear hw1 hw2
        go_wp2_with fail
        go_roundw
        case rel => exact ⟨i + 1, by omega, by go_num, by first | rfl | trivial⟩
        case measure => simp [intOf]; omega
    · have hge : ¬ (i : Int) < (n : Int) := by omega
      go_wp2_with fail
      go_ret
      exact ⟨i, hi, by rw [HE0.out]; rfl, b1.out⟩
set_option maxRecDepth 20000 in
set_option maxHeartbeats 4000000 in
theorem r18_ended (base most en n : Nat) (kn : Bool) (A1 A2 : Option Addr) (c1 c2 B1 : Nat) (w : World) (hX : XR w B1 n A1 c1 A2 c2) (hn : n ≤ 200) (hb : base ≤ 100000) :
    Calls Try.prog 30 #[.agg #[.int .u64 (base : Int), .slice A1 n c1, .slice A2 n c2, .int .i64 (most : Int), .int .u64 (en : Int), .bool kn]] w fun e w' => ∃ b, e = .returned (.bool b) ∧ Below w.heap.size w w' := by
  have RN := Sh.mk fun w' (hb' : Below w.heap.size w w') => r18_next base most en n kn A1 A2 c1 c2 B1 w' (hX.into hb') hn hb
  clear hX hn hb
  cases kn
  · go_enter Try.func30, Try.ntmps30
    go_upto_region 1 with fail
    have KX : Hid (Blk (w.alloc (.cells #[.int .u64 (base : Int), .slice A1 n c1, .slice A2 n c2, .int .i64 (most : Int), .int .u64 (en : Int), .bool false] 38)) (w.heap.size) 38 #[.int .u64 (base : Int), .slice A1 n c1, .slice A2 n c2, .int .i64 (most : Int), .int .u64 (en : Int), .bool false]) := Lib.hid ((Blk.new w 38 #[.int .u64 (base : Int), .slice A1 n c1, .slice A2 n c2, .int .i64 (most : Int), .int .u64 (en : Int), .bool false]))
    have b1 : Hid (Below w.heap.size w (w.alloc (.cells #[.int .u64 (base : Int), .slice A1 n c1, .slice A2 n c2, .int .i64 (most : Int), .int .u64 (en : Int), .bool false] 38))) := Lib.hid ((Below.refl w.heap.size w).alloc (Nat.le_refl _) (.cells #[.int .u64 (base : Int), .slice A1 n c1, .slice A2 n c2, .int .i64 (most : Int), .int .u64 (en : Int), .bool false] 38))
    have hz : (w.alloc (.cells #[.int .u64 (base : Int), .slice A1 n c1, .slice A2 n c2, .int .i64 (most : Int), .int .u64 (en : Int), .bool false] 38)).heap.size = w.heap.size + 1 := by simp
    generalize (w.alloc (.cells #[.int .u64 (base : Int), .slice A1 n c1, .slice A2 n c2, .int .i64 (most : Int), .int .u64 (en : Int), .bool false] 38)) = w2 at KX b1 hz ⊢
    have HZ := Lib.hid hz
    clear hz
    have f0 : w2.cell? ⟨w.heap.size, 0, none⟩ = some (.int .u64 (base : Int)) := by rw [KX.out.cell]; rfl
    have f1 : w2.cell? ⟨w.heap.size, 1, none⟩ = some (.slice A1 n c1) := by rw [KX.out.cell]; rfl
    have f2 : w2.cell? ⟨w.heap.size, 2, none⟩ = some (.slice A2 n c2) := by rw [KX.out.cell]; rfl
    have f3 : w2.cell? ⟨w.heap.size, 3, none⟩ = some (.int .i64 (most : Int)) := by rw [KX.out.cell]; rfl
    have f4 : w2.cell? ⟨w.heap.size, 4, none⟩ = some (.int .u64 (en : Int)) := by rw [KX.out.cell]; rfl
    have f5 : w2.cell? ⟨w.heap.size, 5, none⟩ = some (.bool false) := by rw [KX.out.cell]; rfl
    go_wp2_with fail
    go_quiet (fail)
    go_wp2
    go_ret
    exact ⟨_, rfl, below_drewN b1.out _⟩
  · go_enter Try.func30, Try.ntmps30
    go_upto_region 1 with fail
    have KX : Hid (Blk (w.alloc (.cells #[.int .u64 (base : Int), .slice A1 n c1, .slice A2 n c2, .int .i64 (most : Int), .int .u64 (en : Int), .bool true] 38)) (w.heap.size) 38 #[.int .u64 (base : Int), .slice A1 n c1, .slice A2 n c2, .int .i64 (most : Int), .int .u64 (en : Int), .bool true]) := Lib.hid ((Blk.new w 38 #[.int .u64 (base : Int), .slice A1 n c1, .slice A2 n c2, .int .i64 (most : Int), .int .u64 (en : Int), .bool true]))
    have b1 : Hid (Below w.heap.size w (w.alloc (.cells #[.int .u64 (base : Int), .slice A1 n c1, .slice A2 n c2, .int .i64 (most : Int), .int .u64 (en : Int), .bool true] 38))) := Lib.hid ((Below.refl w.heap.size w).alloc (Nat.le_refl _) (.cells #[.int .u64 (base : Int), .slice A1 n c1, .slice A2 n c2, .int .i64 (most : Int), .int .u64 (en : Int), .bool true] 38))
    have hz : (w.alloc (.cells #[.int .u64 (base : Int), .slice A1 n c1, .slice A2 n c2, .int .i64 (most : Int), .int .u64 (en : Int), .bool true] 38)).heap.size = w.heap.size + 1 := by simp
    generalize (w.alloc (.cells #[.int .u64 (base : Int), .slice A1 n c1, .slice A2 n c2, .int .i64 (most : Int), .int .u64 (en : Int), .bool true] 38)) = w2 at KX b1 hz ⊢
    have HZ := Lib.hid hz
    clear hz
    have f0 : w2.cell? ⟨w.heap.size, 0, none⟩ = some (.int .u64 (base : Int)) := by rw [KX.out.cell]; rfl
    have f1 : w2.cell? ⟨w.heap.size, 1, none⟩ = some (.slice A1 n c1) := by rw [KX.out.cell]; rfl
    have f2 : w2.cell? ⟨w.heap.size, 2, none⟩ = some (.slice A2 n c2) := by rw [KX.out.cell]; rfl
    have f3 : w2.cell? ⟨w.heap.size, 3, none⟩ = some (.int .i64 (most : Int)) := by rw [KX.out.cell]; rfl
    have f4 : w2.cell? ⟨w.heap.size, 4, none⟩ = some (.int .u64 (en : Int)) := by rw [KX.out.cell]; rfl
    have f5 : w2.cell? ⟨w.heap.size, 5, none⟩ = some (.bool true) := by rw [KX.out.cell]; rfl
    go_wp2_with fail
    refine wp_ord [(0, .pure), (1, .read), (2, .pure), (3, .pure), (4, .read), (5, .read), (6, .sole), (7, .pure), (8, .pure), (9, .pure)] [] (by kernel_rfl) (by kernel_rfl) (fun QQ hQ wd hwd => ?_); simp only [List.map_cons, List.map_nil, List.getD_cons_zero, List.getD_cons_succ]
    have hD : Below w2.heap.size w2 wd := by rw [hwd.out]; exact (Below.refl _ _).drew
    replace KX := Sh.mk (KX.out.below hD KX.out.lt)
    have BB := Sh.mk (b1.out.trans (hD.mono (by have := HZ.out; omega)))
    clear hD hwd f0 f1 f2 f3 f4 f5
    have f0 : wd.cell? ⟨w.heap.size, 0, none⟩ = some (.int .u64 (base : Int)) := by rw [KX.out.cell]; rfl
    have f1 : wd.cell? ⟨w.heap.size, 1, none⟩ = some (.slice A1 n c1) := by rw [KX.out.cell]; rfl
    have f2 : wd.cell? ⟨w.heap.size, 2, none⟩ = some (.slice A2 n c2) := by rw [KX.out.cell]; rfl
    have f3 : wd.cell? ⟨w.heap.size, 3, none⟩ = some (.int .i64 (most : Int)) := by rw [KX.out.cell]; rfl
    have f4 : wd.cell? ⟨w.heap.size, 4, none⟩ = some (.int .u64 (en : Int)) := by rw [KX.out.cell]; rfl
    have f5 : wd.cell? ⟨w.heap.size, 5, none⟩ = some (.bool true) := by rw [KX.out.cell]; rfl
    have HLD := Sh.mk (KX.out.loads 0 [.int .u64 (base : Int), .slice A1 n c1, .slice A2 n c2, .int .i64 (most : Int), .int .u64 (en : Int), .bool true] rfl)
    (refine o_pure (v := ?_) (by rfl) (fun w' => ?_) ?_; rotate_left; (focus (go_simp; (try with_reducible rfl); (try (rw [if_pos (by omega)]; (try with_reducible rfl))))); (try simp only [Act.put, List.setIfInBounds_toArray, List.set_cons_zero, List.set_cons_succ]))
    (refine o_load _ (by rfl) rfl rfl (by assumption) (by kernel_rfl) ?_; simp only [Act.put, List.setIfInBounds_toArray, List.set_cons_zero, List.set_cons_succ])
    (refine o_pure (v := ?_) (by rfl) (fun w' => ?_) ?_; rotate_left; (focus (go_simp; (try with_reducible rfl); (try (rw [if_pos (by omega)]; (try with_reducible rfl))))); (try simp only [Act.put, List.setIfInBounds_toArray, List.set_cons_zero, List.set_cons_succ]))
    (refine o_pure (v := ?_) (by rfl) (fun w' => ?_) ?_; rotate_left; (focus (go_simp; (try with_reducible rfl); (try (rw [if_pos (by omega)]; (try with_reducible rfl))))); (try simp only [Act.put, List.setIfInBounds_toArray, List.set_cons_zero, List.set_cons_succ]))
    (refine o_load _ (by rfl) rfl rfl (by assumption) (by kernel_rfl) ?_; simp only [Act.put, List.setIfInBounds_toArray, List.set_cons_zero, List.set_cons_succ])
    (refine o_loads _ [.int .u64 (base : Int), .slice A1 n c1, .slice A2 n c2, .int .i64 (most : Int), .int .u64 (en : Int), .bool true] (by rfl) rfl rfl (HLD.out) (Nat.succ_pos _) (by kernel_rfl) (by kernel_rfl) ?_; simp only [Act.put, List.setIfInBounds_toArray, List.set_cons_zero, List.set_cons_succ])
    refine o_sole (fun K hK => ?_)
    go_wp2_with fail
    refine (RN.out wd BB.out).mono ?_
    rintro e' w3 ⟨k, hk, rfl, hb3⟩
    go_wp2_with fail
    refine hK _ _ (fun _ => Ext.of hb3) ?_; clear hK K
    (refine o_pure (v := ?_) (by rfl) (fun w' => ?_) ?_; rotate_left; (focus (go_simp; (try with_reducible rfl); (try (rw [if_pos (by omega)]; (try with_reducible rfl))))); (try simp only [Act.put, List.setIfInBounds_toArray, List.set_cons_zero, List.set_cons_succ]))
    (refine o_pure (v := ?_) (by rfl) (fun w' => ?_) ?_; rotate_left; (focus (go_simp; (try with_reducible rfl); (try (rw [if_pos (by omega)]; (try with_reducible rfl))))); (try simp only [Act.put, List.setIfInBounds_toArray, List.set_cons_zero, List.set_cons_succ]))
    (refine o_pure (v := ?_) (by rfl) (fun w' => ?_) ?_; rotate_left; (focus (go_simp; (try with_reducible rfl); (try (rw [if_pos (by omega)]; (try with_reducible rfl))))); (try simp only [Act.put, List.setIfInBounds_toArray, List.set_cons_zero, List.set_cons_succ]))
    refine o_nil (hQ.out _ _ ?_); clear hQ QQ
    go_wp2_with fail
    go_ret
    exact ⟨_, rfl, BB.out.trans (hb3.mono (by have := HZ.out; have := BB.out.size; omega))⟩
end Go.Proofs.Ytnngjbieoakanaa
