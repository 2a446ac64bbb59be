/- Layer 18: the document's inlet: Take. -/
import Derived.Test.YtnngjbieoakanaaG45InletTwice

namespace Go.Proofs.Ytnngjbieoakanaa
open Go.RowKit
set_option linter.unusedVariables false
set_option linter.unusedSimpArgs false
/-- What Take gives of the document: an inlet, bytes, a number. -/
def XT_ (w : World) (B n most bmax : Nat) (e : Ending) (w' : World) : Prop := ∃ (v : Value) (A : Option Addr) (m c : Nat) (l : List Nat) (k : Nat), e = .returned (.tuple #[v, .slice A m c, .int .i64 (k : Int)]) ∧ XO w' B n most bmax v ∧ Nats w' 5 .u8 w.heap.size (.slice A m c) l ∧ m ≤ n ∧ Below w.heap.size w w'
theorem XT_.mk' {w w' : World} {B n most bmax m c k : Nat} {v : Value} {A : Option Addr} {l : List Nat} (h : XO w' B n most bmax v) (hr : Nats w' 5 .u8 w.heap.size (.slice A m c) l) (hm : m ≤ n) (hb : Below w.heap.size w w') : XT_ w B n most bmax (.returned (.tuple #[v, .slice A m c, .int .i64 (k : Int)])) w' := ⟨_, _, _, _, _, _, rfl, h, hr, hm, hb⟩
theorem bls_one (l : List Bool) : ∀ u ∈ bls l, u.oneCell' = true := by
  intro u hu
  simp only [bls, List.mem_map] at hu
  obtain ⟨_, _, rfl⟩ := hu
  rfl
theorem own_lit0 (w : World) (e : TypeId) {B : Nat} (hB : B ≤ w.heap.size) : (w.alloc (.cells #[] e)).ownsRow B e 1 (.slice (some ⟨w.heap.size, 0, none⟩) 0 0) 0 [] :=
  ⟨rfl, .inr ⟨w.heap.size, 0, _, rfl, hB, heap_alloc_new w _, Nat.le_refl _, Nat.zero_le _, rfl, rfl⟩⟩
set_option maxRecDepth 20000 in
set_option maxHeartbeats 4000000 in
theorem r18_take (base most en n : Nat) (kn : Bool) (A1 A2 : Option Addr) (c1 c2 B1 : Nat) (w : World) (hX : XR w B1 n A1 c1 A2 c2) (hn : n ≤ 200) (hb : base ≤ 100000) (hB1 : B1 ≤ w.heap.size) (many : Int) :
    Calls Try.prog 19 #[.agg #[.int .u64 (base : Int), .slice A1 n c1, .slice A2 n c2, .int .i64 (most : Int), .int .u64 (en : Int), .bool kn], .int .i64 many] w (XT_ w B1 n most (base + n)) := by
  have RN := Sh.mk fun w' (hb' : Below w.heap.size w w') => r18_next base most en n kn A1 A2 c1 c2 B1 w' (hX.into hb') hn hb
  have RE := Sh.mk fun w' (hb' : Below w.heap.size w w') => r18_ended base most en n kn A1 A2 c1 c2 B1 w' (hX.into hb') hn hb
  have HX := Sh.mk hX
  have HB1 := Sh.mk hB1
  clear hX hB1
  go_enter Try.func19, Try.ntmps19
  go_upto_region 1 with fail
  have KX : Hid (Blk (w.alloc (.cells #[.int .u64 (base : Int), .slice A1 n c1, .slice A2 n c2, .int .i64 (most : Int), .int .u64 (en : Int), .bool kn] 38)) (w.heap.size) 38 #[.int .u64 (base : Int), .slice A1 n c1, .slice A2 n c2, .int .i64 (most : Int), .int .u64 (en : Int), .bool kn]) := Lib.hid ((Blk.new w 38 #[.int .u64 (base : Int), .slice A1 n c1, .slice A2 n c2, .int .i64 (most : Int), .int .u64 (en : Int), .bool kn]))
  replace KX : Hid (Blk ((w.alloc (.cells #[.int .u64 (base : Int), .slice A1 n c1, .slice A2 n c2, .int .i64 (most : Int), .int .u64 (en : Int), .bool kn] 38)).alloc (.cells #[.int .u64 0, .slice none 0 0, .slice none 0 0, .int .i64 0, .int .u64 0, .bool false] 38)) (w.heap.size) 38 #[.int .u64 (base : Int), .slice A1 n c1, .slice A2 n c2, .int .i64 (most : Int), .int .u64 (en : Int), .bool kn]) := Lib.hid (KX.out.alloc _)
  have KR : Hid (Blk ((w.alloc (.cells #[.int .u64 (base : Int), .slice A1 n c1, .slice A2 n c2, .int .i64 (most : Int), .int .u64 (en : Int), .bool kn] 38)).alloc (.cells #[.int .u64 0, .slice none 0 0, .slice none 0 0, .int .i64 0, .int .u64 0, .bool false] 38)) (w.heap.size + 1) 38 #[.int .u64 0, .slice none 0 0, .slice none 0 0, .int .i64 0, .int .u64 0, .bool false]) := Lib.hid ((Blk.new (w.alloc (.cells #[.int .u64 (base : Int), .slice A1 n c1, .slice A2 n c2, .int .i64 (most : Int), .int .u64 (en : Int), .bool kn] 38)) 38 #[.int .u64 0, .slice none 0 0, .slice none 0 0, .int .i64 0, .int .u64 0, .bool false]) |> fun h => by simpa using h)
  have b1 : Hid (Below w.heap.size w ((w.alloc (.cells #[.int .u64 (base : Int), .slice A1 n c1, .slice A2 n c2, .int .i64 (most : Int), .int .u64 (en : Int), .bool kn] 38)).alloc (.cells #[.int .u64 0, .slice none 0 0, .slice none 0 0, .int .i64 0, .int .u64 0, .bool false] 38))) := Lib.hid (((Below.refl w.heap.size w).alloc (Nat.le_refl _) (.cells #[.int .u64 (base : Int), .slice A1 n c1, .slice A2 n c2, .int .i64 (most : Int), .int .u64 (en : Int), .bool kn] 38)).alloc (by simp <;> omega) (.cells #[.int .u64 0, .slice none 0 0, .slice none 0 0, .int .i64 0, .int .u64 0, .bool false] 38))
  have hz : ((w.alloc (.cells #[.int .u64 (base : Int), .slice A1 n c1, .slice A2 n c2, .int .i64 (most : Int), .int .u64 (en : Int), .bool kn] 38)).alloc (.cells #[.int .u64 0, .slice none 0 0, .slice none 0 0, .int .i64 0, .int .u64 0, .bool false] 38)).heap.size = w.heap.size + 2 := by simp
  generalize ((w.alloc (.cells #[.int .u64 (base : Int), .slice A1 n c1, .slice A2 n c2, .int .i64 (most : Int), .int .u64 (en : Int), .bool kn] 38)).alloc (.cells #[.int .u64 0, .slice none 0 0, .slice none 0 0, .int .i64 0, .int .u64 0, .bool false] 38)) = w2 at KX KR b1 hz ⊢
  have HZ := Lib.hid hz
  clear hz
  have f0 : w2.cell? ⟨w.heap.size, 0, none⟩ = some (.int .u64 (base : Int)) := by rw [KX.out.cell]; rfl
  have f1 : w2.cell? ⟨w.heap.size, 1, none⟩ = some (.slice A1 n c1) := by rw [KX.out.cell]; rfl
  have f2 : w2.cell? ⟨w.heap.size, 2, none⟩ = some (.slice A2 n c2) := by rw [KX.out.cell]; rfl
  have f3 : w2.cell? ⟨w.heap.size, 3, none⟩ = some (.int .i64 (most : Int)) := by rw [KX.out.cell]; rfl
  have f4 : w2.cell? ⟨w.heap.size, 4, none⟩ = some (.int .u64 (en : Int)) := by rw [KX.out.cell]; rfl
  have f5 : w2.cell? ⟨w.heap.size, 5, none⟩ = some (.bool kn) := by rw [KX.out.cell]; rfl
  by_cases hm1 : many < 1
  · go_wp2_with (refine stm_store (cs' := #[.int .u64 (base : Int), .slice A1 n c1, .slice A2 n c2, .int .i64 (most : Int), .int .u64 (en : Int), .bool kn]) KR.out rfl _ _ rfl rfl rfl (by simp) (by kernel_rfl) (by simp [Value.oneCell']) (by simp [setL]) ?_)
    intro w4 hk hs
    have BE := Sh.mk (b1.out.trans (hs.1.mono (Nat.le_succ _)))
    have r0 : w4.cell? ⟨w.heap.size + 1, 0, none⟩ = some (.int .u64 (base : Int)) := by rw [hk.cell]; rfl
    have r1 : w4.cell? ⟨w.heap.size + 1, 1, none⟩ = some (.slice A1 n c1) := by rw [hk.cell]; rfl
    have r2 : w4.cell? ⟨w.heap.size + 1, 2, none⟩ = some (.slice A2 n c2) := by rw [hk.cell]; rfl
    have r3 : w4.cell? ⟨w.heap.size + 1, 3, none⟩ = some (.int .i64 (most : Int)) := by rw [hk.cell]; rfl
    have r4 : w4.cell? ⟨w.heap.size + 1, 4, none⟩ = some (.int .u64 (en : Int)) := by rw [hk.cell]; rfl
    have r5 : w4.cell? ⟨w.heap.size + 1, 5, none⟩ = some (.bool kn) := by rw [hk.cell]; rfl
    clear hs
    go_wp2_with fail
    refine bodyPost_ret (v := .tuple #[.agg #[.int .u64 (base : Int), .slice A1 n c1, .slice A2 n c2, .int .i64 (most : Int), .int .u64 (en : Int), .bool kn], .slice none 0 0, .int .i64 ((0 : Nat) : Int)]) (by simp [results, Try.results19, go_sem, r0, r1, r2, r3, r4, r5]) rfl ?_
    exact XT_.mk' ⟨base, en, kn, A1, A2, c1, c2, rfl, Nat.le_add_right _ _, HX.out.into BE.out⟩ (l := []) (Nats.nil _ _ _ _) (Nat.zero_le _) BE.out
  · clear f0 f1 f2 f3 f4 f5
    go_wp2_with fail
    go_loopw [7] (fun ov wr => ∃ (bl : List Nat), bl.length ≤ n ∧ Sh (Nats wr 5 .u8 w.heap.size ov bl) ∧ Sh (Blk wr (w.heap.size) 38 #[.int .u64 (base : Int), .slice A1 n c1, .slice A2 n c2, .int .i64 (most : Int), .int .u64 (en : Int), .bool kn]) ∧ Sh (Blk wr (w.heap.size + 1) 38 #[.int .u64 0, .slice none 0 0, .slice none 0 0, .int .i64 0, .int .u64 0, .bool false]) ∧ Sh (Below w.heap.size w wr ∧ w.heap.size + 2 ≤ wr.heap.size)) (fun ov _ => n - lenOf ov)
    case atStart => exact ⟨[], Nat.zero_le _, ⟨Nats.nil _ _ _ _⟩, ⟨KX.out⟩, ⟨KR.out⟩, ⟨b1.out, Nat.le_of_eq HZ.out.symm⟩⟩
    case round =>
      clear KX KR b1 HZ
      obtain ⟨bl, hbl, HO, KX, KR, BB⟩ := hrel
      obtain ⟨Ao, m, co, rfl, hnco, hln, hrd⟩ := HO.out.out
      have HLN := Sh.mk hln.out
      have HRD := Sh.mk hrd.out
      have hm200 : m ≤ n := by have := HLN.out; omega
      clear hln hrd hnco
      have hwm : IntKind.u64.wrap (m : Int) = (m : Nat) := by rw [IntKind.wrap_u64]; omega
      go_upto_region 4 with fail
      refine wp_ord [(0, .pure), (1, .pure), (2, .pure), (3, .read), (5, .pure), (6, .read), (4, .sole), (7, .pure), (8, .pure), (9, .pure), (10, .pure), (11, .pure), (12, .pure), (13, .pure), (14, .pure)] [] (by kernel_rfl) (by kernel_rfl) (fun QQ hQ wd hwd => ?_); simp only [List.map_cons, List.map_nil, List.getD_cons_zero, List.getD_cons_succ]
      have hD : Below wr.heap.size wr wd := by rw [hwd.out]; exact (Below.refl _ _).drew
      replace KX := Sh.mk (KX.out.below hD KX.out.lt)
      replace KR := Sh.mk (KR.out.below hD KR.out.lt)
      replace HO := Sh.mk (HO.out.below hD)
      replace HRD := Sh.mk (HRD.out.into hD)
      replace BB := Sh.mk (show Below w.heap.size w wd ∧ w.heap.size + 2 ≤ wd.heap.size from ⟨BB.out.1.trans (hD.mono BB.out.1.size), Nat.le_trans BB.out.2 hD.size⟩)
      clear hD hwd
      have f0 : wd.cell? ⟨w.heap.size, 0, none⟩ = some (.int .u64 (base : Int)) := by rw [KX.out.cell]; rfl
      have f1 : wd.cell? ⟨w.heap.size, 1, none⟩ = some (.slice A1 n c1) := by rw [KX.out.cell]; rfl
      have f2 : wd.cell? ⟨w.heap.size, 2, none⟩ = some (.slice A2 n c2) := by rw [KX.out.cell]; rfl
      have f3 : wd.cell? ⟨w.heap.size, 3, none⟩ = some (.int .i64 (most : Int)) := by rw [KX.out.cell]; rfl
      have f4 : wd.cell? ⟨w.heap.size, 4, none⟩ = some (.int .u64 (en : Int)) := by rw [KX.out.cell]; rfl
      have f5 : wd.cell? ⟨w.heap.size, 5, none⟩ = some (.bool kn) := by rw [KX.out.cell]; rfl
      have HLD := Sh.mk (KX.out.loads 0 [.int .u64 (base : Int), .slice A1 n c1, .slice A2 n c2, .int .i64 (most : Int), .int .u64 (en : Int), .bool kn] rfl)
      (refine o_pure (v := ?_) (by rfl) (fun w' => ?_) ?_; rotate_left; (focus (go_simp; (try with_reducible rfl); (try (rw [if_pos (by omega)]; (try with_reducible rfl))))); (try simp only [Act.put, List.setIfInBounds_toArray, List.set_cons_zero, List.set_cons_succ]))
      (refine o_pure (v := ?_) (by rfl) (fun w' => ?_) ?_; rotate_left; (focus (go_simp; (try with_reducible rfl); (try (rw [if_pos (by omega)]; (try with_reducible rfl))))); (try simp only [Act.put, List.setIfInBounds_toArray, List.set_cons_zero, List.set_cons_succ]))
      (refine o_pure (v := ?_) (by rfl) (fun w' => ?_) ?_; rotate_left; (focus (go_simp; (try with_reducible rfl); (try (rw [if_pos (by omega)]; (try with_reducible rfl))))); (try simp only [Act.put, List.setIfInBounds_toArray, List.set_cons_zero, List.set_cons_succ]))
      (refine o_loads _ [.int .u64 (base : Int), .slice A1 n c1, .slice A2 n c2, .int .i64 (most : Int), .int .u64 (en : Int), .bool kn] (by rfl) rfl rfl (HLD.out) (Nat.succ_pos _) (by kernel_rfl) (by kernel_rfl) ?_; simp only [Act.put, List.setIfInBounds_toArray, List.set_cons_zero, List.set_cons_succ])
      (refine o_pure (v := ?_) (by rfl) (fun w' => ?_) ?_; rotate_left; (focus (go_simp; (try with_reducible rfl); (try (rw [if_pos (by omega)]; (try with_reducible rfl))))); (try simp only [Act.put, List.setIfInBounds_toArray, List.set_cons_zero, List.set_cons_succ]))
      (refine o_load _ (by rfl) rfl rfl (by assumption) (by kernel_rfl) ?_; simp only [Act.put, List.setIfInBounds_toArray, List.set_cons_zero, List.set_cons_succ])
      clear f0 f1 f2 f3 f4 f5 HLD
      refine o_sole (fun K hK => ?_)
      go_wp2_with fail
      refine (RN.out wd BB.out.1).mono ?_
      rintro e' w3 ⟨k, hk, rfl, hb3⟩
      have hw1 : ((base + k : Nat) : Int) - (base : Int) = (k : Nat) := by omega
      have hw2 : IntKind.u64.wrap (k : Int) = (k : Nat) := by rw [IntKind.wrap_u64]; omega
      obtain ⟨e0, he0⟩ : ∃ e0, e0 = base + k := ⟨_, rfl⟩
      rw [← he0] at hw1 ⊢
      clear he0
      go_wp2_with fail
      refine hK _ _ (fun _ => Ext.of hb3) ?_; clear hK K
      replace KX := Sh.mk (KX.out.below hb3 KX.out.lt)
      replace KR := Sh.mk (KR.out.below hb3 KR.out.lt)
      replace HO := Sh.mk (HO.out.below hb3)
      replace HRD := Sh.mk (HRD.out.into hb3)
      replace BB := Sh.mk (show Below w.heap.size w w3 ∧ w.heap.size + 2 ≤ w3.heap.size from ⟨BB.out.1.trans (hb3.mono BB.out.1.size), Nat.le_trans BB.out.2 hb3.size⟩)
      clear hb3
      by_cases hmk : m < k
      · have hmk' : (m : Int) < (k : Int) := by omega
        by_cases hmm : (m : Int) < many
        · iterate 8 (first | (refine o_pure (v := ?_) (by rfl) (fun w' => ?_) ?_; rotate_left; (focus (go_simp; (try with_reducible rfl); (try (rw [if_pos (by omega)]; (try with_reducible rfl))))); (try simp only [Act.put, List.setIfInBounds_toArray, List.set_cons_zero, List.set_cons_succ])) | (refine o_pass (by rfl) ?_; simp only [Act.put, List.setIfInBounds_toArray, List.set_cons_zero, List.set_cons_succ]) | (refine o_skip (by intro h; cases h) (by rfl) ?_; simp only [Act.put, List.setIfInBounds_toArray, List.set_cons_zero, List.set_cons_succ]))
          refine o_nil (hQ.out _ _ ?_); clear hQ QQ
          clear hw1 hw2
          obtain ⟨yl, hyr, hyc, hyl⟩ := (HX.out.into BB.out.1).rdB
          have hmn : m < n := by omega
          obtain ⟨yb, yo, yx, hA2, hyb, hyx, _⟩ := hyr.nth hmn
          have YC := Sh.mk (show A2 = some ⟨yb, yo, none⟩ ∧ w3.cell? ⟨yb, yo + m, none⟩ = some (.int .u8 (yx : Int)) from ⟨hA2, hyx⟩)
          have f2 : w3.cell? ⟨w.heap.size, 2, none⟩ = some (.slice (some ⟨yb, yo, none⟩) n c2) := by rw [KX.out.cell, ← YC.out.1]; rfl
          have yc := YC.out.2
          have hmn' : (m : Int) < (n : Int) := by omega
          have hm0 : (0 : Int) ≤ (m : Int) := by omega
          have hroom : (bl.length + 1) * 1 ≤ room := room_ge (by omega)
          have hbw : w.heap.size ≤ w3.heap.size := BB.out.1.size
          clear hyr hyc hyl hA2 hyx
          go_wp2_with (at_builtin; go_must (refine app1n byEl yx rfl _ _ rfl rfl HO.out rfl rfl hroom hbw ?_))
          intro v5 w5 ho5 hg5 hb5
          have KX5 := Sh.mk ((hg5.block _ KX.out.lt fun e => own_nt HO.out KX.out (by decide) e.symm).trans KX.out)
          have KR5 := Sh.mk ((hg5.block _ KR.out.lt fun e => own_nt HO.out KR.out (by decide) e.symm).trans KR.out)
          have BB5 := Sh.mk (show Below w.heap.size w w5 ∧ w.heap.size + 2 ≤ w5.heap.size from ⟨BB.out.1.trans hb5, Nat.le_trans BB.out.2 hb5.size⟩)
          have HL5 := Sh.mk (show (bl ++ [yx]).length ≤ n by rw [List.length_append, HLN.out]; exact hmn)
          have HO5 := Sh.mk ho5
          obtain ⟨A5, m5, c5, rfl, _, hl5, _⟩ := HO5.out.out
          have hm5 : m5 = m + 1 := by have := hl5.out; rw [List.length_append, HLN.out] at this; exact this.symm
          subst hm5
          clear ho5 hg5 hb5 KX KR BB HO HRD f2 yc hroom hbw hl5
          go_wp2_with fail
          go_roundw
          case rel => exact ⟨bl ++ [yx], HL5.out, HO5, KX5, KR5, BB5⟩
          case measure => simp [lenOf]; omega
        · iterate 8 (first | (refine o_pure (v := ?_) (by rfl) (fun w' => ?_) ?_; rotate_left; (focus (go_simp; (try with_reducible rfl); (try (rw [if_pos (by omega)]; (try with_reducible rfl))))); (try simp only [Act.put, List.setIfInBounds_toArray, List.set_cons_zero, List.set_cons_succ])) | (refine o_pass (by rfl) ?_; simp only [Act.put, List.setIfInBounds_toArray, List.set_cons_zero, List.set_cons_succ]) | (refine o_skip (by intro h; cases h) (by rfl) ?_; simp only [Act.put, List.setIfInBounds_toArray, List.set_cons_zero, List.set_cons_succ]))
          refine o_nil (hQ.out _ _ ?_); clear hQ QQ
          clear hw1 hw2 hmk
          have f0 : w3.cell? ⟨w.heap.size, 0, none⟩ = some (.int .u64 (base : Int)) := by rw [KX.out.cell]; rfl
          have f1 : w3.cell? ⟨w.heap.size, 1, none⟩ = some (.slice A1 n c1) := by rw [KX.out.cell]; rfl
          have f2 : w3.cell? ⟨w.heap.size, 2, none⟩ = some (.slice A2 n c2) := by rw [KX.out.cell]; rfl
          have f3 : w3.cell? ⟨w.heap.size, 3, none⟩ = some (.int .i64 (most : Int)) := by rw [KX.out.cell]; rfl
          have f4 : w3.cell? ⟨w.heap.size, 4, none⟩ = some (.int .u64 (en : Int)) := by rw [KX.out.cell]; rfl
          have f5 : w3.cell? ⟨w.heap.size, 5, none⟩ = some (.bool kn) := by rw [KX.out.cell]; rfl
          by_cases hm0 : m = 0
          · subst hm0
            go_wp2_with fail
            refine (RE.out w3 BB.out.1).mono ?_
            rintro e' w4 ⟨b, rfl, hb4⟩
            replace KX := Sh.mk (KX.out.below hb4 KX.out.lt)
            replace KR := Sh.mk (KR.out.below hb4 KR.out.lt)
            replace BB := Sh.mk (show Below w.heap.size w w4 ∧ w.heap.size + 2 ≤ w4.heap.size from ⟨BB.out.1.trans (hb4.mono BB.out.1.size), Nat.le_trans BB.out.2 hb4.size⟩)
            clear hb4 f0 f1 f2 f3 f4 f5 HO HRD
            have f0 : w4.cell? ⟨w.heap.size, 0, none⟩ = some (.int .u64 (base : Int)) := by rw [KX.out.cell]; rfl
            have f1 : w4.cell? ⟨w.heap.size, 1, none⟩ = some (.slice A1 n c1) := by rw [KX.out.cell]; rfl
            have f2 : w4.cell? ⟨w.heap.size, 2, none⟩ = some (.slice A2 n c2) := by rw [KX.out.cell]; rfl
            have f3 : w4.cell? ⟨w.heap.size, 3, none⟩ = some (.int .i64 (most : Int)) := by rw [KX.out.cell]; rfl
            have f4 : w4.cell? ⟨w.heap.size, 4, none⟩ = some (.int .u64 (en : Int)) := by rw [KX.out.cell]; rfl
            have f5 : w4.cell? ⟨w.heap.size, 5, none⟩ = some (.bool kn) := by rw [KX.out.cell]; rfl
            cases b
            · go_wp2_with (refine stm_store (cs' := #[.int .u64 (base : Int), .slice A1 n c1, .slice A2 n c2, .int .i64 (most : Int), .int .u64 (en : Int), .bool kn]) KR.out rfl _ _ rfl rfl rfl (by simp) (by kernel_rfl) (by simp [Value.oneCell']) (by simp [setL]) ?_)
              intro w5 hk hs
              have BE := Sh.mk (BB.out.1.trans (hs.1.mono (Nat.le_succ _)))
              have r0 : w5.cell? ⟨w.heap.size + 1, 0, none⟩ = some (.int .u64 (base : Int)) := by rw [hk.cell]; rfl
              have r1 : w5.cell? ⟨w.heap.size + 1, 1, none⟩ = some (.slice A1 n c1) := by rw [hk.cell]; rfl
              have r2 : w5.cell? ⟨w.heap.size + 1, 2, none⟩ = some (.slice A2 n c2) := by rw [hk.cell]; rfl
              have r3 : w5.cell? ⟨w.heap.size + 1, 3, none⟩ = some (.int .i64 (most : Int)) := by rw [hk.cell]; rfl
              have r4 : w5.cell? ⟨w.heap.size + 1, 4, none⟩ = some (.int .u64 (en : Int)) := by rw [hk.cell]; rfl
              have r5 : w5.cell? ⟨w.heap.size + 1, 5, none⟩ = some (.bool kn) := by rw [hk.cell]; rfl
              clear hs
              go_wp2_with fail
              refine bodyPost_ret (v := .tuple #[.agg #[.int .u64 (base : Int), .slice A1 n c1, .slice A2 n c2, .int .i64 (most : Int), .int .u64 (en : Int), .bool kn], .slice none 0 0, .int .i64 ((210 : Nat) : Int)]) (by simp [results, Try.results19, go_sem, r0, r1, r2, r3, r4, r5]) rfl ?_
              exact XT_.mk' ⟨base, en, kn, A1, A2, c1, c2, rfl, Nat.le_add_right _ _, HX.out.into BE.out⟩ (l := []) (Nats.nil _ _ _ _) (Nat.zero_le _) BE.out
            · go_wp2_with (refine stm_store (cs' := #[.int .u64 (base : Int), .slice A1 n c1, .slice A2 n c2, .int .i64 (most : Int), .int .u64 (en : Int), .bool kn]) KR.out rfl _ _ rfl rfl rfl (by simp) (by kernel_rfl) (by simp [Value.oneCell']) (by simp [setL]) ?_)
              intro w5 hk hs
              have BE := Sh.mk (BB.out.1.trans (hs.1.mono (Nat.le_succ _)))
              have r0 : w5.cell? ⟨w.heap.size + 1, 0, none⟩ = some (.int .u64 (base : Int)) := by rw [hk.cell]; rfl
              have r1 : w5.cell? ⟨w.heap.size + 1, 1, none⟩ = some (.slice A1 n c1) := by rw [hk.cell]; rfl
              have r2 : w5.cell? ⟨w.heap.size + 1, 2, none⟩ = some (.slice A2 n c2) := by rw [hk.cell]; rfl
              have r3 : w5.cell? ⟨w.heap.size + 1, 3, none⟩ = some (.int .i64 (most : Int)) := by rw [hk.cell]; rfl
              have r4 : w5.cell? ⟨w.heap.size + 1, 4, none⟩ = some (.int .u64 (en : Int)) := by rw [hk.cell]; rfl
              have r5 : w5.cell? ⟨w.heap.size + 1, 5, none⟩ = some (.bool kn) := by rw [hk.cell]; rfl
              clear hs
              go_wp2_with fail
              refine bodyPost_ret (v := .tuple #[.agg #[.int .u64 (base : Int), .slice A1 n c1, .slice A2 n c2, .int .i64 (most : Int), .int .u64 (en : Int), .bool kn], .slice none 0 0, .int .i64 ((211 : Nat) : Int)]) (by simp [results, Try.results19, go_sem, r0, r1, r2, r3, r4, r5]) rfl ?_
              exact XT_.mk' ⟨base, en, kn, A1, A2, c1, c2, rfl, Nat.le_add_right _ _, HX.out.into BE.out⟩ (l := []) (Nats.nil _ _ _ _) (Nat.zero_le _) BE.out
          · have hm0' : ((m : Int) == 0) = false := by simp; omega
            obtain ⟨hl, hhr, hhc, hhm⟩ := HX.out.rdH
            obtain ⟨yl, hyr, hyc, hyl⟩ := HX.out.rdB
            have hs1 : ∀ w, (Instr.slice 36 (.slice A1 n c1) (some (.int .i64 (m : Int))) none none).run Try.prog w = .ok (.slice (cutA A1 c1 m 1) (n - m) (c1 - m)) w := fun w => run_cut_l blEl A1 n c1 m hm200 w
            have hs2 : ∀ w, (Instr.slice 24 (.slice A2 n c2) (some (.int .i64 (m : Int))) none none).run Try.prog w = .ok (.slice (cutA A2 c2 m 1) (n - m) (c2 - m)) w := fun w => run_cut_l byEl A2 n c2 m hm200 w
            have HR1 := Sh.mk (show Rd w w.heap.size 1 (cutA A1 c1 m 1) (n - m) (bls (hl.drop m)) by
              have := hhr.drop (k := m) hm200 hhc
              rw [Nat.mul_one] at this
              unfold cutA bls
              rw [List.map_drop, Nat.mul_one]
              exact this)
            have HR2 := Sh.mk (show Rd w w.heap.size 1 (cutA A2 c2 m 1) (n - m) (ns .u8 (yl.drop m)) by
              have := hyr.drop (k := m) hm200 hyc
              rw [Nat.mul_one] at this
              unfold cutA ns
              rw [List.map_drop, Nat.mul_one]
              exact this)
            have z1 := KX.out.frozen 1
            clear hhr hhc hhm hyr hyc
            generalize cutA A1 c1 m 1 = P1 at *
            generalize cutA A2 c2 m 1 = P2 at *
            obtain ⟨j, hj⟩ : ∃ j, j = n - m := ⟨_, rfl⟩
            rw [← hj] at HR1 HR2 hs1 hs2
            have HJ := Sh.mk (show j + m = n by omega)
            have HLQ := Sh.mk (show (yl.drop m).length = j by rw [List.length_drop, hyl, hj])
            obtain ⟨d1, hd1⟩ : ∃ d, d = c1 - m := ⟨_, rfl⟩
            obtain ⟨d2, hd2⟩ : ∃ d, d = c2 - m := ⟨_, rfl⟩
            rw [← hd1] at hs1
            rw [← hd2] at hs2
            have hj200 : j + m ≤ 200 := by omega
            have hrm : (0 + j) * 1 ≤ room := room_ge (by omega)
            have hrm2 : j * 1 ≤ room := room_ge (by omega)
            have hrm3 : j ≤ room := room_ge (by omega)
            clear hj hd1 hd2 hyl
            go_upto_region 11 with fail
            obtain ⟨bA, hb0⟩ : ∃ b, b = w3.heap.size := ⟨_, rfl⟩
            have HBA := Sh.mk (show w.heap.size ≤ bA by rw [hb0]; exact BB.out.1.size)
            have hlit := Sh.mk (own_lit0 w3 4 (B := bA) (Nat.le_of_eq hb0))
            have hba := (Below.refl w3.heap.size w3).alloc (Nat.le_refl _) (.cells #[] 4)
            have hrd2 := Sh.mk (HR1.out.below (BB.out.1.trans (hba.mono BB.out.1.size)))
            have hb0s : bA ≤ (w3.alloc (.cells #[] 4)).heap.size := by rw [hb0]; exact hba.size
            have BA := Sh.mk (show Below bA w3 (w3.alloc (.cells #[] 4)) by rw [hb0]; exact hba)
            have HEQ0 := Sh.mk hb0
            clear hba hb0
            have fa : (w3.alloc (.cells #[] 4)).cell? ⟨w.heap.size, 1, none⟩ = some (.slice A1 n c1) := by rw [(KX.out.alloc _).cell]; rfl
            go_wp2_with (at_builtin; go_must (refine app blEl rfl _ _ rfl rfl hlit.out rfl hrd2.out (bls_one _) (by first | exact hrm | exact hrm2 | exact hrm3) hb0s ?_))
            intro v5 w5 ho5 hg5 hb5
            have O5 := Sh.mk (show w5.ownsRow bA 4 1 v5 j (bls (hl.drop m)) by simpa using ho5)
            have B5 := Sh.mk (BA.out.trans hb5)
            have hb5s : bA ≤ w5.heap.size := Nat.le_trans (Nat.le_of_eq HEQ0.out) B5.out.size
            clear ho5 hg5 hb5 hlit hrd2 BA hb0s
            go_wp2_with (at_builtin; go_must (refine zapO blEl rfl rfl rfl _ _ Try.underlying3 rfl rfl rfl O5.out hb5s (by omega) (by omega) ?_))
            intro v6 w6 ho6 hg6 hb6
            rw [HJ.out] at ho6
            obtain ⟨A6, c6, rfl, _, _, _⟩ := own_form ho6
            have O6 := Sh.mk ho6
            have B6 := Sh.mk (B5.out.trans hb6)
            rw [HEQ0.out] at B6
            replace KX := Sh.mk (KX.out.below B6.out KX.out.lt)
            replace KR := Sh.mk (KR.out.below B6.out KR.out.lt)
            replace HO := Sh.mk (HO.out.below B6.out)
            skip
            replace BB := Sh.mk (show Below w.heap.size w w6 ∧ w.heap.size + 2 ≤ w6.heap.size from ⟨BB.out.1.trans (B6.out.mono BB.out.1.size), Nat.le_trans BB.out.2 B6.out.size⟩)
            clear ho6 hg6 hb6 O5 B5 hb5s B6 HEQ0 f0 f1 f2 f3 f4 f5 z1 fa
            have g0 : w6.cell? ⟨w.heap.size, 0, none⟩ = some (.int .u64 (base : Int)) := by rw [KX.out.cell]; rfl
            have g1 : w6.cell? ⟨w.heap.size, 1, none⟩ = some (.slice A1 n c1) := by rw [KX.out.cell]; rfl
            have g2 : w6.cell? ⟨w.heap.size, 2, none⟩ = some (.slice A2 n c2) := by rw [KX.out.cell]; rfl
            have g3 : w6.cell? ⟨w.heap.size, 3, none⟩ = some (.int .i64 (most : Int)) := by rw [KX.out.cell]; rfl
            have g4 : w6.cell? ⟨w.heap.size, 4, none⟩ = some (.int .u64 (en : Int)) := by rw [KX.out.cell]; rfl
            have g5 : w6.cell? ⟨w.heap.size, 5, none⟩ = some (.bool kn) := by rw [KX.out.cell]; rfl
            have zf := KX.out.frozen 1
            go_upto_region 12 with fail
            have hsS : Solo (w.heap.size) w6 (w6.setCell ⟨w.heap.size, 1, none⟩ (.slice A6 n c6)) := Solo.refl.setCell _ _
            have hkS := KX.out.set 1 (.slice A6 n c6)
            have KXS : Sh (Blk (w6.setCell ⟨w.heap.size, 1, none⟩ (.slice A6 n c6)) (w.heap.size) 38 #[.int .u64 (base : Int), .slice A6 n c6, .slice A2 n c2, .int .i64 (most : Int), .int .u64 (en : Int), .bool kn]) := ⟨by simpa using hkS⟩
            have KRS := Sh.mk (hsS.blk KR.out (by omega))
            have OS := Sh.mk (own_kept O6.out fun k ho => hsS.2.2 k (by rintro rfl; exact own_nt O6.out KX.out (by decide) ho))
            have QS := Sh.mk (show Nats (w6.setCell ⟨w.heap.size, 1, none⟩ (.slice A6 n c6)) 5 .u8 w.heap.size (.slice Ao m co) bl from own_kept HO.out fun k ho => hsS.2.2 k (by rintro rfl; exact own_nt HO.out KX.out (by decide) ho))
            skip
            have BBS := Sh.mk (show Below w.heap.size w (w6.setCell ⟨w.heap.size, 1, none⟩ (.slice A6 n c6)) ∧ w.heap.size + 2 ≤ (w6.setCell ⟨w.heap.size, 1, none⟩ (.slice A6 n c6)).heap.size from ⟨BB.out.1.trans hsS.1, by rw [hsS.2.1]; exact BB.out.2⟩)
            clear hsS hkS KX KR BB O6 HO g0 g1 g2 g3 g4 g5 zf
            generalize w6.setCell ⟨w.heap.size, 1, none⟩ (.slice A6 n c6) = w7 at *
            have KX := KXS
            have KR := KRS
            have BB := BBS
            have HO := QS
            have O6 := OS
            clear KXS KRS BBS QS OS
            have f0 : w7.cell? ⟨w.heap.size, 0, none⟩ = some (.int .u64 (base : Int)) := by rw [KX.out.cell]; rfl
            have f1 : w7.cell? ⟨w.heap.size, 1, none⟩ = some (.slice A6 n c6) := by rw [KX.out.cell]; rfl
            have f2 : w7.cell? ⟨w.heap.size, 2, none⟩ = some (.slice A2 n c2) := by rw [KX.out.cell]; rfl
            have f3 : w7.cell? ⟨w.heap.size, 3, none⟩ = some (.int .i64 (most : Int)) := by rw [KX.out.cell]; rfl
            have f4 : w7.cell? ⟨w.heap.size, 4, none⟩ = some (.int .u64 (en : Int)) := by rw [KX.out.cell]; rfl
            have f5 : w7.cell? ⟨w.heap.size, 5, none⟩ = some (.bool kn) := by rw [KX.out.cell]; rfl
            have z1 := KX.out.frozen 2
            obtain ⟨bB, hb0⟩ : ∃ b, b = w7.heap.size := ⟨_, rfl⟩
            have HBB := Sh.mk (show w.heap.size ≤ bB by rw [hb0]; exact BB.out.1.size)
            have hlit := Sh.mk (own_lit0 w7 5 (B := bB) (Nat.le_of_eq hb0))
            have hba := (Below.refl w7.heap.size w7).alloc (Nat.le_refl _) (.cells #[] 5)
            have hrd2 := Sh.mk (HR2.out.below (BB.out.1.trans (hba.mono BB.out.1.size)))
            have hb0s : bB ≤ (w7.alloc (.cells #[] 5)).heap.size := by rw [hb0]; exact hba.size
            have BA := Sh.mk (show Below bB w7 (w7.alloc (.cells #[] 5)) by rw [hb0]; exact hba)
            have HEQ0 := Sh.mk hb0
            clear hba hb0
            have fa : (w7.alloc (.cells #[] 5)).cell? ⟨w.heap.size, 2, none⟩ = some (.slice A2 n c2) := by rw [(KX.out.alloc _).cell]; rfl
            go_wp2_with (at_builtin; go_must (refine app byEl rfl _ _ rfl rfl hlit.out rfl hrd2.out (ns_one _ _) (by first | exact hrm | exact hrm2 | exact hrm3) hb0s ?_))
            intro v5 w5 ho5 hg5 hb5
            have O5 := Sh.mk (show w5.ownsRow bB 5 1 v5 j (ns .u8 (yl.drop m)) by simpa using ho5)
            have B5 := Sh.mk (BA.out.trans hb5)
            have hb5s : bB ≤ w5.heap.size := Nat.le_trans (Nat.le_of_eq HEQ0.out) B5.out.size
            clear ho5 hg5 hb5 hlit hrd2 BA hb0s
            go_wp2_with (at_builtin; go_must (refine zapO byEl rfl rfl rfl _ _ Try.underlying3 rfl rfl rfl O5.out hb5s (by omega) (by omega) ?_))
            intro v6 w6 ho6 hg6 hb6
            rw [HJ.out] at ho6
            obtain ⟨A8, c8, rfl, _, _, _⟩ := own_form ho6
            have O8 := Sh.mk ho6
            have B6 := Sh.mk (B5.out.trans hb6)
            rw [HEQ0.out] at B6
            replace KX := Sh.mk (KX.out.below B6.out KX.out.lt)
            replace KR := Sh.mk (KR.out.below B6.out KR.out.lt)
            replace HO := Sh.mk (HO.out.below B6.out)
            replace O6 := Sh.mk (own_below O6.out B6.out fun g hg => (O6.out.lt g hg).2)
            replace BB := Sh.mk (show Below w.heap.size w w6 ∧ w.heap.size + 2 ≤ w6.heap.size from ⟨BB.out.1.trans (B6.out.mono BB.out.1.size), Nat.le_trans BB.out.2 B6.out.size⟩)
            clear ho6 hg6 hb6 O5 B5 hb5s B6 HEQ0 f0 f1 f2 f3 f4 f5 z1 fa
            have g0 : w6.cell? ⟨w.heap.size, 0, none⟩ = some (.int .u64 (base : Int)) := by rw [KX.out.cell]; rfl
            have g1 : w6.cell? ⟨w.heap.size, 1, none⟩ = some (.slice A6 n c6) := by rw [KX.out.cell]; rfl
            have g2 : w6.cell? ⟨w.heap.size, 2, none⟩ = some (.slice A2 n c2) := by rw [KX.out.cell]; rfl
            have g3 : w6.cell? ⟨w.heap.size, 3, none⟩ = some (.int .i64 (most : Int)) := by rw [KX.out.cell]; rfl
            have g4 : w6.cell? ⟨w.heap.size, 4, none⟩ = some (.int .u64 (en : Int)) := by rw [KX.out.cell]; rfl
            have g5 : w6.cell? ⟨w.heap.size, 5, none⟩ = some (.bool kn) := by rw [KX.out.cell]; rfl
            have zf := KX.out.frozen 2
            go_upto_region 13 with fail
            have hsS : Solo (w.heap.size) w6 (w6.setCell ⟨w.heap.size, 2, none⟩ (.slice A8 n c8)) := Solo.refl.setCell _ _
            have hkS := KX.out.set 2 (.slice A8 n c8)
            have KXS : Sh (Blk (w6.setCell ⟨w.heap.size, 2, none⟩ (.slice A8 n c8)) (w.heap.size) 38 #[.int .u64 (base : Int), .slice A6 n c6, .slice A8 n c8, .int .i64 (most : Int), .int .u64 (en : Int), .bool kn]) := ⟨by simpa using hkS⟩
            have KRS := Sh.mk (hsS.blk KR.out (by omega))
            have OS := Sh.mk (own_kept O8.out fun k ho => hsS.2.2 k (by rintro rfl; exact own_nt O8.out KX.out (by decide) ho))
            have QS := Sh.mk (show Nats (w6.setCell ⟨w.heap.size, 2, none⟩ (.slice A8 n c8)) 5 .u8 w.heap.size (.slice Ao m co) bl from own_kept HO.out fun k ho => hsS.2.2 k (by rintro rfl; exact own_nt HO.out KX.out (by decide) ho))
            have OS6 := Sh.mk (own_kept O6.out fun k ho => hsS.2.2 k (by rintro rfl; exact own_nt O6.out KX.out (by decide) ho))
            have BBS := Sh.mk (show Below w.heap.size w (w6.setCell ⟨w.heap.size, 2, none⟩ (.slice A8 n c8)) ∧ w.heap.size + 2 ≤ (w6.setCell ⟨w.heap.size, 2, none⟩ (.slice A8 n c8)).heap.size from ⟨BB.out.1.trans hsS.1, by rw [hsS.2.1]; exact BB.out.2⟩)
            clear hsS hkS KX KR BB O8 HO g0 g1 g2 g3 g4 g5 zf O6
            generalize w6.setCell ⟨w.heap.size, 2, none⟩ (.slice A8 n c8) = w9 at *
            have KX := KXS
            have KR := KRS
            have BB := BBS
            have HO := QS
            have O8 := OS
            clear KXS KRS BBS QS OS
            have O6 := OS6
            clear OS6
            obtain ⟨e1, he1⟩ : ∃ e1, e1 = base + m := ⟨_, rfl⟩
            have hw3 : IntKind.u64.wrap ((base : Int) + (m : Int)) = (e1 : Nat) := by rw [IntKind.wrap_u64]; omega
            have HE1 := Sh.mk (show e1 ≤ base + n by omega)
            clear he1
            have z0 := KX.out.frozen 0
            have f0 : w9.cell? ⟨w.heap.size, 0, none⟩ = some (.int .u64 (base : Int)) := by rw [KX.out.cell]; rfl
            have f1 : w9.cell? ⟨w.heap.size, 1, none⟩ = some (.slice A6 n c6) := by rw [KX.out.cell]; rfl
            have f2 : w9.cell? ⟨w.heap.size, 2, none⟩ = some (.slice A8 n c8) := by rw [KX.out.cell]; rfl
            have f3 : w9.cell? ⟨w.heap.size, 3, none⟩ = some (.int .i64 (most : Int)) := by rw [KX.out.cell]; rfl
            have f4 : w9.cell? ⟨w.heap.size, 4, none⟩ = some (.int .u64 (en : Int)) := by rw [KX.out.cell]; rfl
            have f5 : w9.cell? ⟨w.heap.size, 5, none⟩ = some (.bool kn) := by rw [KX.out.cell]; rfl
            go_upto_region 14 with fail
            have hs9 : Solo (w.heap.size) w9 (w9.setCell ⟨w.heap.size, 0, none⟩ (.int .u64 (e1 : Int))) := Solo.refl.setCell _ _
            have hk9 := KX.out.set 0 (.int .u64 (e1 : Int))
            have KX9 : Sh (Blk (w9.setCell ⟨w.heap.size, 0, none⟩ (.int .u64 (e1 : Int))) (w.heap.size) 38 #[.int .u64 (e1 : Int), .slice A6 n c6, .slice A8 n c8, .int .i64 (most : Int), .int .u64 (en : Int), .bool kn]) := ⟨by simpa using hk9⟩
            have KR9 := Sh.mk (hs9.blk KR.out (by omega))
            have O9 := Sh.mk (own_kept O6.out fun k ho => hs9.2.2 k (by rintro rfl; exact own_nt O6.out KX.out (by decide) ho))
            have Y9 := Sh.mk (own_kept O8.out fun k ho => hs9.2.2 k (by rintro rfl; exact own_nt O8.out KX.out (by decide) ho))
            have Q9 := Sh.mk (own_kept HO.out fun k ho => hs9.2.2 k (by rintro rfl; exact own_nt HO.out KX.out (by decide) ho))
            have BB9 := Sh.mk (BB.out.1.trans hs9.1)
            clear hs9 hk9 KX KR BB O6 O8 HO HRD f0 f1 f2 f3 f4 f5 z0 hw3
            generalize w9.setCell ⟨w.heap.size, 0, none⟩ (.int .u64 (e1 : Int)) = w10 at *
            have f0 : w10.cell? ⟨w.heap.size, 0, none⟩ = some (.int .u64 (e1 : Int)) := by rw [KX9.out.cell]; rfl
            have f1 : w10.cell? ⟨w.heap.size, 1, none⟩ = some (.slice A6 n c6) := by rw [KX9.out.cell]; rfl
            have f2 : w10.cell? ⟨w.heap.size, 2, none⟩ = some (.slice A8 n c8) := by rw [KX9.out.cell]; rfl
            have f3 : w10.cell? ⟨w.heap.size, 3, none⟩ = some (.int .i64 (most : Int)) := by rw [KX9.out.cell]; rfl
            have f4 : w10.cell? ⟨w.heap.size, 4, none⟩ = some (.int .u64 (en : Int)) := by rw [KX9.out.cell]; rfl
            have f5 : w10.cell? ⟨w.heap.size, 5, none⟩ = some (.bool kn) := by rw [KX9.out.cell]; rfl
            go_wp2_with (refine stm_store (cs' := #[.int .u64 (e1 : Int), .slice A6 n c6, .slice A8 n c8, .int .i64 (most : Int), .int .u64 (en : Int), .bool kn]) KR9.out rfl _ _ rfl rfl rfl (by simp) (by kernel_rfl) (by simp [Value.oneCell']) (by simp [setL]) ?_)
            intro w11 hk hs
            have O11 := Sh.mk (own_kept O9.out fun k ho => hs.2.2 k (by rintro rfl; exact own_nt O9.out KR9.out (by decide) ho))
            have Y11 := Sh.mk (own_kept Y9.out fun k ho => hs.2.2 k (by rintro rfl; exact own_nt Y9.out KR9.out (by decide) ho))
            have Q11 := Sh.mk (own_kept Q9.out fun k ho => hs.2.2 k (by rintro rfl; exact own_nt Q9.out KR9.out (by decide) ho))
            have r0 : w11.cell? ⟨w.heap.size + 1, 0, none⟩ = some (.int .u64 (e1 : Int)) := by rw [hk.cell]; rfl
            have r1 : w11.cell? ⟨w.heap.size + 1, 1, none⟩ = some (.slice A6 n c6) := by rw [hk.cell]; rfl
            have r2 : w11.cell? ⟨w.heap.size + 1, 2, none⟩ = some (.slice A8 n c8) := by rw [hk.cell]; rfl
            have r3 : w11.cell? ⟨w.heap.size + 1, 3, none⟩ = some (.int .i64 (most : Int)) := by rw [hk.cell]; rfl
            have r4 : w11.cell? ⟨w.heap.size + 1, 4, none⟩ = some (.int .u64 (en : Int)) := by rw [hk.cell]; rfl
            have r5 : w11.cell? ⟨w.heap.size + 1, 5, none⟩ = some (.bool kn) := by rw [hk.cell]; rfl
            have BE := Sh.mk (BB9.out.trans (hs.1.mono (Nat.le_succ _)))
            clear hs
            go_wp2_with fail
            refine bodyPost_ret (v := .tuple #[.agg #[.int .u64 (e1 : Int), .slice A6 n c6, .slice A8 n c8, .int .i64 (most : Int), .int .u64 (en : Int), .bool kn], .slice Ao m co, .int .i64 ((0 : Nat) : Int)]) (by simp [results, Try.results19, go_sem, r0, r1, r2, r3, r4, r5]) rfl ?_
            obtain ⟨Aq, mq, cq, eq, _, _, hrq⟩ := Nats.out (show Nats w11 5 .u8 w.heap.size (.slice Ao m co) bl from Q11.out)
            injection eq with eq1 eq2 eq3
            subst eq1; subst eq2; subst eq3
            refine XT_.mk' ⟨e1, en, kn, A6, A8, c6, c8, rfl, HE1.out, hl.drop m ++ List.replicate m false, yl.drop m ++ List.replicate m 0, ?_, ?_, by rw [List.length_append, List.length_replicate, HLQ.out]; exact HJ.out⟩ Q11.out hm200 BE.out
            · have := own_mono O11.out (Nat.le_trans HB1.out HBA.out)
              rw [bls_rep] at this
              have e : bls (hl.drop m) ++ bls (List.replicate m false) = bls (hl.drop m ++ List.replicate m false) := by simp [bls]
              rwa [e] at this
            · have := own_mono Y11.out (Nat.le_trans HB1.out HBB.out)
              rw [ns_rep, ← ns_append] at this
              unfold Nats
              rw [List.length_append, List.length_replicate, HLQ.out, HJ.out]
              exact this
      · have hmk' : ¬ (m : Int) < (k : Int) := by omega
        have hmkd : decide ((m : Int) < (k : Int)) = false := decide_eq_false hmk'
        have hmkn : decide (m < k) = false := decide_eq_false hmk
        iterate 8 (first | (refine o_pure (v := ?_) (by rfl) (fun w' => ?_) ?_; rotate_left; (focus (go_simp; (try with_reducible rfl); (try (rw [if_pos (by omega)]; (try with_reducible rfl))))); (try simp only [Act.put, List.setIfInBounds_toArray, List.set_cons_zero, List.set_cons_succ])) | (refine o_pass (by rfl) ?_; simp only [Act.put, List.setIfInBounds_toArray, List.set_cons_zero, List.set_cons_succ]) | (refine o_skip (by intro h; cases h) (by rfl) ?_; simp only [Act.put, List.setIfInBounds_toArray, List.set_cons_zero, List.set_cons_succ]))
        refine o_nil (hQ.out _ _ ?_); clear hQ QQ
        clear hw1 hw2 hmk
        have f0 : w3.cell? ⟨w.heap.size, 0, none⟩ = some (.int .u64 (base : Int)) := by rw [KX.out.cell]; rfl
        have f1 : w3.cell? ⟨w.heap.size, 1, none⟩ = some (.slice A1 n c1) := by rw [KX.out.cell]; rfl
        have f2 : w3.cell? ⟨w.heap.size, 2, none⟩ = some (.slice A2 n c2) := by rw [KX.out.cell]; rfl
        have f3 : w3.cell? ⟨w.heap.size, 3, none⟩ = some (.int .i64 (most : Int)) := by rw [KX.out.cell]; rfl
        have f4 : w3.cell? ⟨w.heap.size, 4, none⟩ = some (.int .u64 (en : Int)) := by rw [KX.out.cell]; rfl
        have f5 : w3.cell? ⟨w.heap.size, 5, none⟩ = some (.bool kn) := by rw [KX.out.cell]; rfl
        by_cases hm0 : m = 0
        · subst hm0
          go_wp2_with fail
          refine (RE.out w3 BB.out.1).mono ?_
          rintro e' w4 ⟨b, rfl, hb4⟩
          replace KX := Sh.mk (KX.out.below hb4 KX.out.lt)
          replace KR := Sh.mk (KR.out.below hb4 KR.out.lt)
          replace BB := Sh.mk (show Below w.heap.size w w4 ∧ w.heap.size + 2 ≤ w4.heap.size from ⟨BB.out.1.trans (hb4.mono BB.out.1.size), Nat.le_trans BB.out.2 hb4.size⟩)
          clear hb4 f0 f1 f2 f3 f4 f5 HO HRD
          have f0 : w4.cell? ⟨w.heap.size, 0, none⟩ = some (.int .u64 (base : Int)) := by rw [KX.out.cell]; rfl
          have f1 : w4.cell? ⟨w.heap.size, 1, none⟩ = some (.slice A1 n c1) := by rw [KX.out.cell]; rfl
          have f2 : w4.cell? ⟨w.heap.size, 2, none⟩ = some (.slice A2 n c2) := by rw [KX.out.cell]; rfl
          have f3 : w4.cell? ⟨w.heap.size, 3, none⟩ = some (.int .i64 (most : Int)) := by rw [KX.out.cell]; rfl
          have f4 : w4.cell? ⟨w.heap.size, 4, none⟩ = some (.int .u64 (en : Int)) := by rw [KX.out.cell]; rfl
          have f5 : w4.cell? ⟨w.heap.size, 5, none⟩ = some (.bool kn) := by rw [KX.out.cell]; rfl
          cases b
          · go_wp2_with (refine stm_store (cs' := #[.int .u64 (base : Int), .slice A1 n c1, .slice A2 n c2, .int .i64 (most : Int), .int .u64 (en : Int), .bool kn]) KR.out rfl _ _ rfl rfl rfl (by simp) (by kernel_rfl) (by simp [Value.oneCell']) (by simp [setL]) ?_)
            intro w5 hk hs
            have BE := Sh.mk (BB.out.1.trans (hs.1.mono (Nat.le_succ _)))
            have r0 : w5.cell? ⟨w.heap.size + 1, 0, none⟩ = some (.int .u64 (base : Int)) := by rw [hk.cell]; rfl
            have r1 : w5.cell? ⟨w.heap.size + 1, 1, none⟩ = some (.slice A1 n c1) := by rw [hk.cell]; rfl
            have r2 : w5.cell? ⟨w.heap.size + 1, 2, none⟩ = some (.slice A2 n c2) := by rw [hk.cell]; rfl
            have r3 : w5.cell? ⟨w.heap.size + 1, 3, none⟩ = some (.int .i64 (most : Int)) := by rw [hk.cell]; rfl
            have r4 : w5.cell? ⟨w.heap.size + 1, 4, none⟩ = some (.int .u64 (en : Int)) := by rw [hk.cell]; rfl
            have r5 : w5.cell? ⟨w.heap.size + 1, 5, none⟩ = some (.bool kn) := by rw [hk.cell]; rfl
            clear hs
            go_wp2_with fail
            refine bodyPost_ret (v := .tuple #[.agg #[.int .u64 (base : Int), .slice A1 n c1, .slice A2 n c2, .int .i64 (most : Int), .int .u64 (en : Int), .bool kn], .slice none 0 0, .int .i64 ((210 : Nat) : Int)]) (by simp [results, Try.results19, go_sem, r0, r1, r2, r3, r4, r5]) rfl ?_
            exact XT_.mk' ⟨base, en, kn, A1, A2, c1, c2, rfl, Nat.le_add_right _ _, HX.out.into BE.out⟩ (l := []) (Nats.nil _ _ _ _) (Nat.zero_le _) BE.out
          · go_wp2_with (refine stm_store (cs' := #[.int .u64 (base : Int), .slice A1 n c1, .slice A2 n c2, .int .i64 (most : Int), .int .u64 (en : Int), .bool kn]) KR.out rfl _ _ rfl rfl rfl (by simp) (by kernel_rfl) (by simp [Value.oneCell']) (by simp [setL]) ?_)
            intro w5 hk hs
            have BE := Sh.mk (BB.out.1.trans (hs.1.mono (Nat.le_succ _)))
            have r0 : w5.cell? ⟨w.heap.size + 1, 0, none⟩ = some (.int .u64 (base : Int)) := by rw [hk.cell]; rfl
            have r1 : w5.cell? ⟨w.heap.size + 1, 1, none⟩ = some (.slice A1 n c1) := by rw [hk.cell]; rfl
            have r2 : w5.cell? ⟨w.heap.size + 1, 2, none⟩ = some (.slice A2 n c2) := by rw [hk.cell]; rfl
            have r3 : w5.cell? ⟨w.heap.size + 1, 3, none⟩ = some (.int .i64 (most : Int)) := by rw [hk.cell]; rfl
            have r4 : w5.cell? ⟨w.heap.size + 1, 4, none⟩ = some (.int .u64 (en : Int)) := by rw [hk.cell]; rfl
            have r5 : w5.cell? ⟨w.heap.size + 1, 5, none⟩ = some (.bool kn) := by rw [hk.cell]; rfl
            clear hs
            go_wp2_with fail
            refine bodyPost_ret (v := .tuple #[.agg #[.int .u64 (base : Int), .slice A1 n c1, .slice A2 n c2, .int .i64 (most : Int), .int .u64 (en : Int), .bool kn], .slice none 0 0, .int .i64 ((211 : Nat) : Int)]) (by simp [results, Try.results19, go_sem, r0, r1, r2, r3, r4, r5]) rfl ?_
            exact XT_.mk' ⟨base, en, kn, A1, A2, c1, c2, rfl, Nat.le_add_right _ _, HX.out.into BE.out⟩ (l := []) (Nats.nil _ _ _ _) (Nat.zero_le _) BE.out
        · have hm0' : ((m : Int) == 0) = false := by simp; omega
          obtain ⟨hl, hhr, hhc, hhm⟩ := HX.out.rdH
          obtain ⟨yl, hyr, hyc, hyl⟩ := HX.out.rdB
          have hs1 : ∀ w, (Instr.slice 36 (.slice A1 n c1) (some (.int .i64 (m : Int))) none none).run Try.prog w = .ok (.slice (cutA A1 c1 m 1) (n - m) (c1 - m)) w := fun w => run_cut_l blEl A1 n c1 m hm200 w
          have hs2 : ∀ w, (Instr.slice 24 (.slice A2 n c2) (some (.int .i64 (m : Int))) none none).run Try.prog w = .ok (.slice (cutA A2 c2 m 1) (n - m) (c2 - m)) w := fun w => run_cut_l byEl A2 n c2 m hm200 w
          have HR1 := Sh.mk (show Rd w w.heap.size 1 (cutA A1 c1 m 1) (n - m) (bls (hl.drop m)) by
            have := hhr.drop (k := m) hm200 hhc
            rw [Nat.mul_one] at this
            unfold cutA bls
            rw [List.map_drop, Nat.mul_one]
            exact this)
          have HR2 := Sh.mk (show Rd w w.heap.size 1 (cutA A2 c2 m 1) (n - m) (ns .u8 (yl.drop m)) by
            have := hyr.drop (k := m) hm200 hyc
            rw [Nat.mul_one] at this
            unfold cutA ns
            rw [List.map_drop, Nat.mul_one]
            exact this)
          have z1 := KX.out.frozen 1
          clear hhr hhc hhm hyr hyc
          generalize cutA A1 c1 m 1 = P1 at *
          generalize cutA A2 c2 m 1 = P2 at *
          obtain ⟨j, hj⟩ : ∃ j, j = n - m := ⟨_, rfl⟩
          rw [← hj] at HR1 HR2 hs1 hs2
          have HJ := Sh.mk (show j + m = n by omega)
          have HLQ := Sh.mk (show (yl.drop m).length = j by rw [List.length_drop, hyl, hj])
          obtain ⟨d1, hd1⟩ : ∃ d, d = c1 - m := ⟨_, rfl⟩
          obtain ⟨d2, hd2⟩ : ∃ d, d = c2 - m := ⟨_, rfl⟩
          rw [← hd1] at hs1
          rw [← hd2] at hs2
          have hj200 : j + m ≤ 200 := by omega
          have hrm : (0 + j) * 1 ≤ room := room_ge (by omega)
          have hrm2 : j * 1 ≤ room := room_ge (by omega)
          have hrm3 : j ≤ room := room_ge (by omega)
          clear hj hd1 hd2 hyl
          go_upto_region 11 with fail
          obtain ⟨bA, hb0⟩ : ∃ b, b = w3.heap.size := ⟨_, rfl⟩
          have HBA := Sh.mk (show w.heap.size ≤ bA by rw [hb0]; exact BB.out.1.size)
          have hlit := Sh.mk (own_lit0 w3 4 (B := bA) (Nat.le_of_eq hb0))
          have hba := (Below.refl w3.heap.size w3).alloc (Nat.le_refl _) (.cells #[] 4)
          have hrd2 := Sh.mk (HR1.out.below (BB.out.1.trans (hba.mono BB.out.1.size)))
          have hb0s : bA ≤ (w3.alloc (.cells #[] 4)).heap.size := by rw [hb0]; exact hba.size
          have BA := Sh.mk (show Below bA w3 (w3.alloc (.cells #[] 4)) by rw [hb0]; exact hba)
          have HEQ0 := Sh.mk hb0
          clear hba hb0
          have fa : (w3.alloc (.cells #[] 4)).cell? ⟨w.heap.size, 1, none⟩ = some (.slice A1 n c1) := by rw [(KX.out.alloc _).cell]; rfl
          go_wp2_with (at_builtin; go_must (refine app blEl rfl _ _ rfl rfl hlit.out rfl hrd2.out (bls_one _) (by first | exact hrm | exact hrm2 | exact hrm3) hb0s ?_))
          intro v5 w5 ho5 hg5 hb5
          have O5 := Sh.mk (show w5.ownsRow bA 4 1 v5 j (bls (hl.drop m)) by simpa using ho5)
          have B5 := Sh.mk (BA.out.trans hb5)
          have hb5s : bA ≤ w5.heap.size := Nat.le_trans (Nat.le_of_eq HEQ0.out) B5.out.size
          clear ho5 hg5 hb5 hlit hrd2 BA hb0s
          go_wp2_with (at_builtin; go_must (refine zapO blEl rfl rfl rfl _ _ Try.underlying3 rfl rfl rfl O5.out hb5s (by omega) (by omega) ?_))
          intro v6 w6 ho6 hg6 hb6
          rw [HJ.out] at ho6
          obtain ⟨A6, c6, rfl, _, _, _⟩ := own_form ho6
          have O6 := Sh.mk ho6
          have B6 := Sh.mk (B5.out.trans hb6)
          rw [HEQ0.out] at B6
          replace KX := Sh.mk (KX.out.below B6.out KX.out.lt)
          replace KR := Sh.mk (KR.out.below B6.out KR.out.lt)
          replace HO := Sh.mk (HO.out.below B6.out)
          skip
          replace BB := Sh.mk (show Below w.heap.size w w6 ∧ w.heap.size + 2 ≤ w6.heap.size from ⟨BB.out.1.trans (B6.out.mono BB.out.1.size), Nat.le_trans BB.out.2 B6.out.size⟩)
          clear ho6 hg6 hb6 O5 B5 hb5s B6 HEQ0 f0 f1 f2 f3 f4 f5 z1 fa
          have g0 : w6.cell? ⟨w.heap.size, 0, none⟩ = some (.int .u64 (base : Int)) := by rw [KX.out.cell]; rfl
          have g1 : w6.cell? ⟨w.heap.size, 1, none⟩ = some (.slice A1 n c1) := by rw [KX.out.cell]; rfl
          have g2 : w6.cell? ⟨w.heap.size, 2, none⟩ = some (.slice A2 n c2) := by rw [KX.out.cell]; rfl
          have g3 : w6.cell? ⟨w.heap.size, 3, none⟩ = some (.int .i64 (most : Int)) := by rw [KX.out.cell]; rfl
          have g4 : w6.cell? ⟨w.heap.size, 4, none⟩ = some (.int .u64 (en : Int)) := by rw [KX.out.cell]; rfl
          have g5 : w6.cell? ⟨w.heap.size, 5, none⟩ = some (.bool kn) := by rw [KX.out.cell]; rfl
          have zf := KX.out.frozen 1
          go_upto_region 12 with fail
          have hsS : Solo (w.heap.size) w6 (w6.setCell ⟨w.heap.size, 1, none⟩ (.slice A6 n c6)) := Solo.refl.setCell _ _
          have hkS := KX.out.set 1 (.slice A6 n c6)
          have KXS : Sh (Blk (w6.setCell ⟨w.heap.size, 1, none⟩ (.slice A6 n c6)) (w.heap.size) 38 #[.int .u64 (base : Int), .slice A6 n c6, .slice A2 n c2, .int .i64 (most : Int), .int .u64 (en : Int), .bool kn]) := ⟨by simpa using hkS⟩
          have KRS := Sh.mk (hsS.blk KR.out (by omega))
          have OS := Sh.mk (own_kept O6.out fun k ho => hsS.2.2 k (by rintro rfl; exact own_nt O6.out KX.out (by decide) ho))
          have QS := Sh.mk (show Nats (w6.setCell ⟨w.heap.size, 1, none⟩ (.slice A6 n c6)) 5 .u8 w.heap.size (.slice Ao m co) bl from own_kept HO.out fun k ho => hsS.2.2 k (by rintro rfl; exact own_nt HO.out KX.out (by decide) ho))
          skip
          have BBS := Sh.mk (show Below w.heap.size w (w6.setCell ⟨w.heap.size, 1, none⟩ (.slice A6 n c6)) ∧ w.heap.size + 2 ≤ (w6.setCell ⟨w.heap.size, 1, none⟩ (.slice A6 n c6)).heap.size from ⟨BB.out.1.trans hsS.1, by rw [hsS.2.1]; exact BB.out.2⟩)
          clear hsS hkS KX KR BB O6 HO g0 g1 g2 g3 g4 g5 zf
          generalize w6.setCell ⟨w.heap.size, 1, none⟩ (.slice A6 n c6) = w7 at *
          have KX := KXS
          have KR := KRS
          have BB := BBS
          have HO := QS
          have O6 := OS
          clear KXS KRS BBS QS OS
          have f0 : w7.cell? ⟨w.heap.size, 0, none⟩ = some (.int .u64 (base : Int)) := by rw [KX.out.cell]; rfl
          have f1 : w7.cell? ⟨w.heap.size, 1, none⟩ = some (.slice A6 n c6) := by rw [KX.out.cell]; rfl
          have f2 : w7.cell? ⟨w.heap.size, 2, none⟩ = some (.slice A2 n c2) := by rw [KX.out.cell]; rfl
          have f3 : w7.cell? ⟨w.heap.size, 3, none⟩ = some (.int .i64 (most : Int)) := by rw [KX.out.cell]; rfl
          have f4 : w7.cell? ⟨w.heap.size, 4, none⟩ = some (.int .u64 (en : Int)) := by rw [KX.out.cell]; rfl
          have f5 : w7.cell? ⟨w.heap.size, 5, none⟩ = some (.bool kn) := by rw [KX.out.cell]; rfl
          have z1 := KX.out.frozen 2
          obtain ⟨bB, hb0⟩ : ∃ b, b = w7.heap.size := ⟨_, rfl⟩
          have HBB := Sh.mk (show w.heap.size ≤ bB by rw [hb0]; exact BB.out.1.size)
          have hlit := Sh.mk (own_lit0 w7 5 (B := bB) (Nat.le_of_eq hb0))
          have hba := (Below.refl w7.heap.size w7).alloc (Nat.le_refl _) (.cells #[] 5)
          have hrd2 := Sh.mk (HR2.out.below (BB.out.1.trans (hba.mono BB.out.1.size)))
          have hb0s : bB ≤ (w7.alloc (.cells #[] 5)).heap.size := by rw [hb0]; exact hba.size
          have BA := Sh.mk (show Below bB w7 (w7.alloc (.cells #[] 5)) by rw [hb0]; exact hba)
          have HEQ0 := Sh.mk hb0
          clear hba hb0
          have fa : (w7.alloc (.cells #[] 5)).cell? ⟨w.heap.size, 2, none⟩ = some (.slice A2 n c2) := by rw [(KX.out.alloc _).cell]; rfl
          go_wp2_with (at_builtin; go_must (refine app byEl rfl _ _ rfl rfl hlit.out rfl hrd2.out (ns_one _ _) (by first | exact hrm | exact hrm2 | exact hrm3) hb0s ?_))
          intro v5 w5 ho5 hg5 hb5
          have O5 := Sh.mk (show w5.ownsRow bB 5 1 v5 j (ns .u8 (yl.drop m)) by simpa using ho5)
          have B5 := Sh.mk (BA.out.trans hb5)
          have hb5s : bB ≤ w5.heap.size := Nat.le_trans (Nat.le_of_eq HEQ0.out) B5.out.size
          clear ho5 hg5 hb5 hlit hrd2 BA hb0s
          go_wp2_with (at_builtin; go_must (refine zapO byEl rfl rfl rfl _ _ Try.underlying3 rfl rfl rfl O5.out hb5s (by omega) (by omega) ?_))
          intro v6 w6 ho6 hg6 hb6
          rw [HJ.out] at ho6
          obtain ⟨A8, c8, rfl, _, _, _⟩ := own_form ho6
          have O8 := Sh.mk ho6
          have B6 := Sh.mk (B5.out.trans hb6)
          rw [HEQ0.out] at B6
          replace KX := Sh.mk (KX.out.below B6.out KX.out.lt)
          replace KR := Sh.mk (KR.out.below B6.out KR.out.lt)
          replace HO := Sh.mk (HO.out.below B6.out)
          replace O6 := Sh.mk (own_below O6.out B6.out fun g hg => (O6.out.lt g hg).2)
          replace BB := Sh.mk (show Below w.heap.size w w6 ∧ w.heap.size + 2 ≤ w6.heap.size from ⟨BB.out.1.trans (B6.out.mono BB.out.1.size), Nat.le_trans BB.out.2 B6.out.size⟩)
          clear ho6 hg6 hb6 O5 B5 hb5s B6 HEQ0 f0 f1 f2 f3 f4 f5 z1 fa
          have g0 : w6.cell? ⟨w.heap.size, 0, none⟩ = some (.int .u64 (base : Int)) := by rw [KX.out.cell]; rfl
          have g1 : w6.cell? ⟨w.heap.size, 1, none⟩ = some (.slice A6 n c6) := by rw [KX.out.cell]; rfl
          have g2 : w6.cell? ⟨w.heap.size, 2, none⟩ = some (.slice A2 n c2) := by rw [KX.out.cell]; rfl
          have g3 : w6.cell? ⟨w.heap.size, 3, none⟩ = some (.int .i64 (most : Int)) := by rw [KX.out.cell]; rfl
          have g4 : w6.cell? ⟨w.heap.size, 4, none⟩ = some (.int .u64 (en : Int)) := by rw [KX.out.cell]; rfl
          have g5 : w6.cell? ⟨w.heap.size, 5, none⟩ = some (.bool kn) := by rw [KX.out.cell]; rfl
          have zf := KX.out.frozen 2
          go_upto_region 13 with fail
          have hsS : Solo (w.heap.size) w6 (w6.setCell ⟨w.heap.size, 2, none⟩ (.slice A8 n c8)) := Solo.refl.setCell _ _
          have hkS := KX.out.set 2 (.slice A8 n c8)
          have KXS : Sh (Blk (w6.setCell ⟨w.heap.size, 2, none⟩ (.slice A8 n c8)) (w.heap.size) 38 #[.int .u64 (base : Int), .slice A6 n c6, .slice A8 n c8, .int .i64 (most : Int), .int .u64 (en : Int), .bool kn]) := ⟨by simpa using hkS⟩
          have KRS := Sh.mk (hsS.blk KR.out (by omega))
          have OS := Sh.mk (own_kept O8.out fun k ho => hsS.2.2 k (by rintro rfl; exact own_nt O8.out KX.out (by decide) ho))
          have QS := Sh.mk (show Nats (w6.setCell ⟨w.heap.size, 2, none⟩ (.slice A8 n c8)) 5 .u8 w.heap.size (.slice Ao m co) bl from own_kept HO.out fun k ho => hsS.2.2 k (by rintro rfl; exact own_nt HO.out KX.out (by decide) ho))
          have OS6 := Sh.mk (own_kept O6.out fun k ho => hsS.2.2 k (by rintro rfl; exact own_nt O6.out KX.out (by decide) ho))
          have BBS := Sh.mk (show Below w.heap.size w (w6.setCell ⟨w.heap.size, 2, none⟩ (.slice A8 n c8)) ∧ w.heap.size + 2 ≤ (w6.setCell ⟨w.heap.size, 2, none⟩ (.slice A8 n c8)).heap.size from ⟨BB.out.1.trans hsS.1, by rw [hsS.2.1]; exact BB.out.2⟩)
          clear hsS hkS KX KR BB O8 HO g0 g1 g2 g3 g4 g5 zf O6
          generalize w6.setCell ⟨w.heap.size, 2, none⟩ (.slice A8 n c8) = w9 at *
          have KX := KXS
          have KR := KRS
          have BB := BBS
          have HO := QS
          have O8 := OS
          clear KXS KRS BBS QS OS
          have O6 := OS6
          clear OS6
          obtain ⟨e1, he1⟩ : ∃ e1, e1 = base + m := ⟨_, rfl⟩
          have hw3 : IntKind.u64.wrap ((base : Int) + (m : Int)) = (e1 : Nat) := by rw [IntKind.wrap_u64]; omega
          have HE1 := Sh.mk (show e1 ≤ base + n by omega)
          clear he1
          have z0 := KX.out.frozen 0
          have f0 : w9.cell? ⟨w.heap.size, 0, none⟩ = some (.int .u64 (base : Int)) := by rw [KX.out.cell]; rfl
          have f1 : w9.cell? ⟨w.heap.size, 1, none⟩ = some (.slice A6 n c6) := by rw [KX.out.cell]; rfl
          have f2 : w9.cell? ⟨w.heap.size, 2, none⟩ = some (.slice A8 n c8) := by rw [KX.out.cell]; rfl
          have f3 : w9.cell? ⟨w.heap.size, 3, none⟩ = some (.int .i64 (most : Int)) := by rw [KX.out.cell]; rfl
          have f4 : w9.cell? ⟨w.heap.size, 4, none⟩ = some (.int .u64 (en : Int)) := by rw [KX.out.cell]; rfl
          have f5 : w9.cell? ⟨w.heap.size, 5, none⟩ = some (.bool kn) := by rw [KX.out.cell]; rfl
          go_upto_region 14 with fail
          have hs9 : Solo (w.heap.size) w9 (w9.setCell ⟨w.heap.size, 0, none⟩ (.int .u64 (e1 : Int))) := Solo.refl.setCell _ _
          have hk9 := KX.out.set 0 (.int .u64 (e1 : Int))
          have KX9 : Sh (Blk (w9.setCell ⟨w.heap.size, 0, none⟩ (.int .u64 (e1 : Int))) (w.heap.size) 38 #[.int .u64 (e1 : Int), .slice A6 n c6, .slice A8 n c8, .int .i64 (most : Int), .int .u64 (en : Int), .bool kn]) := ⟨by simpa using hk9⟩
          have KR9 := Sh.mk (hs9.blk KR.out (by omega))
          have O9 := Sh.mk (own_kept O6.out fun k ho => hs9.2.2 k (by rintro rfl; exact own_nt O6.out KX.out (by decide) ho))
          have Y9 := Sh.mk (own_kept O8.out fun k ho => hs9.2.2 k (by rintro rfl; exact own_nt O8.out KX.out (by decide) ho))
          have Q9 := Sh.mk (own_kept HO.out fun k ho => hs9.2.2 k (by rintro rfl; exact own_nt HO.out KX.out (by decide) ho))
          have BB9 := Sh.mk (BB.out.1.trans hs9.1)
          clear hs9 hk9 KX KR BB O6 O8 HO HRD f0 f1 f2 f3 f4 f5 z0 hw3
          generalize w9.setCell ⟨w.heap.size, 0, none⟩ (.int .u64 (e1 : Int)) = w10 at *
          have f0 : w10.cell? ⟨w.heap.size, 0, none⟩ = some (.int .u64 (e1 : Int)) := by rw [KX9.out.cell]; rfl
          have f1 : w10.cell? ⟨w.heap.size, 1, none⟩ = some (.slice A6 n c6) := by rw [KX9.out.cell]; rfl
          have f2 : w10.cell? ⟨w.heap.size, 2, none⟩ = some (.slice A8 n c8) := by rw [KX9.out.cell]; rfl
          have f3 : w10.cell? ⟨w.heap.size, 3, none⟩ = some (.int .i64 (most : Int)) := by rw [KX9.out.cell]; rfl
          have f4 : w10.cell? ⟨w.heap.size, 4, none⟩ = some (.int .u64 (en : Int)) := by rw [KX9.out.cell]; rfl
          have f5 : w10.cell? ⟨w.heap.size, 5, none⟩ = some (.bool kn) := by rw [KX9.out.cell]; rfl
          go_wp2_with (refine stm_store (cs' := #[.int .u64 (e1 : Int), .slice A6 n c6, .slice A8 n c8, .int .i64 (most : Int), .int .u64 (en : Int), .bool kn]) KR9.out rfl _ _ rfl rfl rfl (by simp) (by kernel_rfl) (by simp [Value.oneCell']) (by simp [setL]) ?_)
          intro w11 hk hs
          have O11 := Sh.mk (own_kept O9.out fun k ho => hs.2.2 k (by rintro rfl; exact own_nt O9.out KR9.out (by decide) ho))
          have Y11 := Sh.mk (own_kept Y9.out fun k ho => hs.2.2 k (by rintro rfl; exact own_nt Y9.out KR9.out (by decide) ho))
          have Q11 := Sh.mk (own_kept Q9.out fun k ho => hs.2.2 k (by rintro rfl; exact own_nt Q9.out KR9.out (by decide) ho))
          have r0 : w11.cell? ⟨w.heap.size + 1, 0, none⟩ = some (.int .u64 (e1 : Int)) := by rw [hk.cell]; rfl
          have r1 : w11.cell? ⟨w.heap.size + 1, 1, none⟩ = some (.slice A6 n c6) := by rw [hk.cell]; rfl
          have r2 : w11.cell? ⟨w.heap.size + 1, 2, none⟩ = some (.slice A8 n c8) := by rw [hk.cell]; rfl
          have r3 : w11.cell? ⟨w.heap.size + 1, 3, none⟩ = some (.int .i64 (most : Int)) := by rw [hk.cell]; rfl
          have r4 : w11.cell? ⟨w.heap.size + 1, 4, none⟩ = some (.int .u64 (en : Int)) := by rw [hk.cell]; rfl
          have r5 : w11.cell? ⟨w.heap.size + 1, 5, none⟩ = some (.bool kn) := by rw [hk.cell]; rfl
          have BE := Sh.mk (BB9.out.trans (hs.1.mono (Nat.le_succ _)))
          clear hs
          go_wp2_with fail
          refine bodyPost_ret (v := .tuple #[.agg #[.int .u64 (e1 : Int), .slice A6 n c6, .slice A8 n c8, .int .i64 (most : Int), .int .u64 (en : Int), .bool kn], .slice Ao m co, .int .i64 ((0 : Nat) : Int)]) (by simp [results, Try.results19, go_sem, r0, r1, r2, r3, r4, r5]) rfl ?_
          obtain ⟨Aq, mq, cq, eq, _, _, hrq⟩ := Nats.out (show Nats w11 5 .u8 w.heap.size (.slice Ao m co) bl from Q11.out)
          injection eq with eq1 eq2 eq3
          subst eq1; subst eq2; subst eq3
          refine XT_.mk' ⟨e1, en, kn, A6, A8, c6, c8, rfl, HE1.out, hl.drop m ++ List.replicate m false, yl.drop m ++ List.replicate m 0, ?_, ?_, by rw [List.length_append, List.length_replicate, HLQ.out]; exact HJ.out⟩ Q11.out hm200 BE.out
          · have := own_mono O11.out (Nat.le_trans HB1.out HBA.out)
            rw [bls_rep] at this
            have e : bls (hl.drop m) ++ bls (List.replicate m false) = bls (hl.drop m ++ List.replicate m false) := by simp [bls]
            rwa [e] at this
          · have := own_mono Y11.out (Nat.le_trans HB1.out HBB.out)
            rw [ns_rep, ← ns_append] at this
            unfold Nats
            rw [List.length_append, List.length_replicate, HLQ.out, HJ.out]
            exact this
end Go.Proofs.Ytnngjbieoakanaa
