/- Layer 10: options with their sums. -/
import Derived.Test.YtbiimgfocgbdaaaG24MacBack
import Derived.Test.YtbiimgfocgbdaaaG25MacBack
import Derived.Test.YtbiimgfocgbdaaaG4MacBack
import Derived.Test.YtbiimgfocgbdaaaG27MacBack
import Derived.Test.YtbiimgfocgbdaaaOrdB
import Derived.Test.YtbiimgfocgbdaaaG29MacBack

namespace Go.Proofs.Ytbiimgfocgbdaaa
open Go.RowKit
set_option linter.unusedVariables false
set_option linter.unusedSimpArgs false
theorem tagN_lt (k0 k1 : Nat) (g : Sg) (kd : Nat) (l : List Nat) (h0 : k0 < 18446744073709551616) (h1 : k1 < 18446744073709551616) : q64 (tagN k0 k1 g kd l) := sumB_lt k0 k1 _ h0 h1
set_option maxRecDepth 20000 in
set_option maxHeartbeats 4000000 in
theorem sealKey_any (k0 k1 T : Nat) (sv : Value) (g : Sg) (k : Nat) (a : Bool) (t : Nat) (w : World) (h0 : k0 < 18446744073709551616) (h1 : k1 < 18446744073709551616) (hsv : SegV w sv g) (hg : g.bd) (hd : g.data.length ≤ 10000) (hT : Blk w T 34 #[.int .u64 (k : Nat), .bool a, .int .u64 (t : Nat)]) (hk : q64 k) (ht : q64 t) :
    Calls Try.prog 61 #[.agg #[.int .u64 (k0 : Nat), .int .u64 (k1 : Nat)], sv, .iface 126 (.pointer (some ⟨T, 0, none⟩))] w fun e w' => OptPost 1 (keyB k (tagN k0 k1 g 1 (keyB k t a)) a) w.heap.size w' e ∧ Tou T w w' := by
  obtain ⟨tg, htg⟩ : ∃ tg, tg = tagN k0 k1 g 1 (keyB k t a) := ⟨_, rfl⟩
  have HTG := Lib.hid htg
  have ht64 : q64 tg := by rw [htg]; exact tagN_lt k0 k1 g _ _ h0 h1
  have HQ := Lib.hid ht64
  have HQT := Lib.hid ht
  have HS := Lib.hid hsv
  have HG := Lib.hid hg
  rw [← htg]
  clear htg ht64 ht hg
  obtain ⟨A1, n1, c1, D, m, d, lo, rfl, hO, ho, hD, hmd, hdm⟩ := hsv
  clear hO ho hD hdm
  unfold segCs at *
  have KT := Lib.hid hT
  clear hT
  go_enter Try.func61, Try.ntmps61
  go_upto_region 1 with fail
  have hk0 : Hid (Blk (w.alloc (.cells #[.int .u64 (k0 : Nat), .int .u64 (k1 : Nat)] 24)) (w.heap.size) 24 #[.int .u64 (k0 : Nat), .int .u64 (k1 : Nat)]) := Lib.hid ((Blk.new w 24 #[.int .u64 (k0 : Nat), .int .u64 (k1 : Nat)]))
  replace hk0 : Hid (Blk ((w.alloc (.cells #[.int .u64 (k0 : Nat), .int .u64 (k1 : Nat)] 24)).alloc (.cells #[.int .u16 (g.src : Int), .int .u16 (g.dst : Int), .int .u32 (g.seq : Int), .int .u32 (g.ack : Int), .int .u8 (g.flags : Int), .slice A1 n1 c1, .slice D m d] 30)) (w.heap.size) 24 #[.int .u64 (k0 : Nat), .int .u64 (k1 : Nat)]) := Lib.hid (hk0.out.alloc _)
  replace hk0 : Hid (Blk (((w.alloc (.cells #[.int .u64 (k0 : Nat), .int .u64 (k1 : Nat)] 24)).alloc (.cells #[.int .u16 (g.src : Int), .int .u16 (g.dst : Int), .int .u32 (g.seq : Int), .int .u32 (g.ack : Int), .int .u8 (g.flags : Int), .slice A1 n1 c1, .slice D m d] 30)).alloc (.cells #[.int .u8 0, .slice none 0 0] 45)) (w.heap.size) 24 #[.int .u64 (k0 : Nat), .int .u64 (k1 : Nat)]) := Lib.hid (hk0.out.alloc _)
  have hk1 : Hid (Blk ((w.alloc (.cells #[.int .u64 (k0 : Nat), .int .u64 (k1 : Nat)] 24)).alloc (.cells #[.int .u16 (g.src : Int), .int .u16 (g.dst : Int), .int .u32 (g.seq : Int), .int .u32 (g.ack : Int), .int .u8 (g.flags : Int), .slice A1 n1 c1, .slice D m d] 30)) (w.heap.size + 1) 30 #[.int .u16 (g.src : Int), .int .u16 (g.dst : Int), .int .u32 (g.seq : Int), .int .u32 (g.ack : Int), .int .u8 (g.flags : Int), .slice A1 n1 c1, .slice D m d]) := Lib.hid ((Blk.new (w.alloc (.cells #[.int .u64 (k0 : Nat), .int .u64 (k1 : Nat)] 24)) 30 #[.int .u16 (g.src : Int), .int .u16 (g.dst : Int), .int .u32 (g.seq : Int), .int .u32 (g.ack : Int), .int .u8 (g.flags : Int), .slice A1 n1 c1, .slice D m d]) |> fun h => by simpa using h)
  replace hk1 : Hid (Blk (((w.alloc (.cells #[.int .u64 (k0 : Nat), .int .u64 (k1 : Nat)] 24)).alloc (.cells #[.int .u16 (g.src : Int), .int .u16 (g.dst : Int), .int .u32 (g.seq : Int), .int .u32 (g.ack : Int), .int .u8 (g.flags : Int), .slice A1 n1 c1, .slice D m d] 30)).alloc (.cells #[.int .u8 0, .slice none 0 0] 45)) (w.heap.size + 1) 30 #[.int .u16 (g.src : Int), .int .u16 (g.dst : Int), .int .u32 (g.seq : Int), .int .u32 (g.ack : Int), .int .u8 (g.flags : Int), .slice A1 n1 c1, .slice D m d]) := Lib.hid (hk1.out.alloc _)
  have hk2 : Hid (Blk (((w.alloc (.cells #[.int .u64 (k0 : Nat), .int .u64 (k1 : Nat)] 24)).alloc (.cells #[.int .u16 (g.src : Int), .int .u16 (g.dst : Int), .int .u32 (g.seq : Int), .int .u32 (g.ack : Int), .int .u8 (g.flags : Int), .slice A1 n1 c1, .slice D m d] 30)).alloc (.cells #[.int .u8 0, .slice none 0 0] 45)) (w.heap.size + 2) 45 #[.int .u8 0, .slice none 0 0]) := Lib.hid ((Blk.new ((w.alloc (.cells #[.int .u64 (k0 : Nat), .int .u64 (k1 : Nat)] 24)).alloc (.cells #[.int .u16 (g.src : Int), .int .u16 (g.dst : Int), .int .u32 (g.seq : Int), .int .u32 (g.ack : Int), .int .u8 (g.flags : Int), .slice A1 n1 c1, .slice D m d] 30)) 45 #[.int .u8 0, .slice none 0 0]) |> fun h => by simpa using h)
  have b1 : Hid (Below w.heap.size w (((w.alloc (.cells #[.int .u64 (k0 : Nat), .int .u64 (k1 : Nat)] 24)).alloc (.cells #[.int .u16 (g.src : Int), .int .u16 (g.dst : Int), .int .u32 (g.seq : Int), .int .u32 (g.ack : Int), .int .u8 (g.flags : Int), .slice A1 n1 c1, .slice D m d] 30)).alloc (.cells #[.int .u8 0, .slice none 0 0] 45))) := Lib.hid ((((Below.refl w.heap.size w).alloc (Nat.le_refl _) (.cells #[.int .u64 (k0 : Nat), .int .u64 (k1 : Nat)] 24)).alloc (by simp <;> omega) (.cells #[.int .u16 (g.src : Int), .int .u16 (g.dst : Int), .int .u32 (g.seq : Int), .int .u32 (g.ack : Int), .int .u8 (g.flags : Int), .slice A1 n1 c1, .slice D m d] 30)).alloc (by simp <;> omega) (.cells #[.int .u8 0, .slice none 0 0] 45))
  have hz : (((w.alloc (.cells #[.int .u64 (k0 : Nat), .int .u64 (k1 : Nat)] 24)).alloc (.cells #[.int .u16 (g.src : Int), .int .u16 (g.dst : Int), .int .u32 (g.seq : Int), .int .u32 (g.ack : Int), .int .u8 (g.flags : Int), .slice A1 n1 c1, .slice D m d] 30)).alloc (.cells #[.int .u8 0, .slice none 0 0] 45)).heap.size = w.heap.size + 3 := by simp
  generalize (((w.alloc (.cells #[.int .u64 (k0 : Nat), .int .u64 (k1 : Nat)] 24)).alloc (.cells #[.int .u16 (g.src : Int), .int .u16 (g.dst : Int), .int .u32 (g.seq : Int), .int .u32 (g.ack : Int), .int .u8 (g.flags : Int), .slice A1 n1 c1, .slice D m d] 30)).alloc (.cells #[.int .u8 0, .slice none 0 0] 45)) = w2 at hk0 hk1 hk2 b1 hz ⊢
  have HZ := Lib.hid hz
  clear hz
  replace HS := Lib.hid (HS.out.into b1.out)
  have hTw := KT.out.lt
  replace KT := Lib.hid (KT.out.below b1.out hTw)
  refine wp_ord [(0, .pure), (1, .read), (2, .read), (3, .pure), (6, .pure), (7, .pure), (8, .pure), (4, .sole), (5, .sole), (9, .sole)] [9] (by kernel_rfl) (by kernel_rfl) (fun QQ hQ wd hwd => ?_); simp only [List.map_cons, List.map_nil, List.getD_cons_zero, List.getD_cons_succ]
  have K0 := Lib.hid (show Blk wd w.heap.size _ _ from by rw [hwd.out]; exact hk0.out.drew)
  have K1 := Lib.hid (show Blk wd (w.heap.size + 1) _ _ from by rw [hwd.out]; exact hk1.out.drew)
  have K2 := Lib.hid (show Blk wd (w.heap.size + 2) _ _ from by rw [hwd.out]; exact hk2.out.drew)
  have KD := Lib.hid (show Blk wd T _ _ from by rw [hwd.out]; exact KT.out.drew)
  have B1 := Lib.hid (show Below w.heap.size w wd from by rw [hwd.out]; exact b1.out.drew)
  have HZ2 := Lib.hid (show wd.heap.size = w.heap.size + 3 from by rw [hwd.out]; exact HZ.out)
  have HSD : Hid (SegV wd _ g) := Lib.hid (by rw [hwd.out]; exact HS.out.into ((Below.refl _ _).drew))
  clear hwd hk0 hk1 hk2 KT b1 HZ HS
  (refine o_pure (v := ?_) (by rfl) (fun w' => ?_) ?_; rotate_left; (focus (go_simp; (try with_reducible rfl))); (try simp only [Act.put, List.setIfInBounds_toArray, List.set_cons_zero, List.set_cons_succ]))
  (refine o_loads _ [.int .u64 (k0 : Nat), .int .u64 (k1 : Nat)] (by rfl) rfl rfl (K0.out.loads 0 _ (by rfl)) (Nat.succ_pos _) (by kernel_rfl) (by kernel_rfl) ?_; simp only [Act.put, List.setIfInBounds_toArray, List.set_cons_zero, List.set_cons_succ])
  (refine o_loads _ [.int .u16 (g.src : Int), .int .u16 (g.dst : Int), .int .u32 (g.seq : Int), .int .u32 (g.ack : Int), .int .u8 (g.flags : Int), .slice A1 n1 c1, .slice D m d] (by rfl) rfl rfl (K1.out.loads 0 _ (by rfl)) (Nat.succ_pos _) (by kernel_rfl) (by kernel_rfl) ?_; simp only [Act.put, List.setIfInBounds_toArray, List.set_cons_zero, List.set_cons_succ])
  (refine o_pure (v := ?_) (by rfl) (fun w' => ?_) ?_; rotate_left; (focus (go_simp; (try with_reducible rfl))); (try simp only [Act.put, List.setIfInBounds_toArray, List.set_cons_zero, List.set_cons_succ]))
  (refine o_pure (v := ?_) (by rfl) (fun w' => ?_) ?_; rotate_left; (focus (go_simp; (try with_reducible rfl))); (try simp only [Act.put, List.setIfInBounds_toArray, List.set_cons_zero, List.set_cons_succ]))
  (refine o_pure (v := .func (.method "Seal") #[.iface 126 (.pointer (some ⟨T, 0, none⟩))] #[]) (by rfl) (fun w' => by kernel_rfl) ?_; simp only [Act.put, List.setIfInBounds_toArray, List.set_cons_zero, List.set_cons_succ])
  (refine o_pure (v := ?_) (by rfl) (fun w' => ?_) ?_; rotate_left; (focus (go_simp; (try with_reducible rfl))); (try simp only [Act.put, List.setIfInBounds_toArray, List.set_cons_zero, List.set_cons_succ]))
  refine o_sole (fun K hK => ?_)
  refine wpList_invoke (v := .iface 126 (.pointer (some ⟨T, 0, none⟩))) (vs := #[]) rfl _ _ _ _ rfl rfl (by simp only [List.map_toArray, List.map_cons, List.map_nil]; (try rfl)) (invKey_option (cs := [.int .u64 (k : Nat), .bool a, .int .u64 (t : Nat)]) KD.out rfl) ((keyOpt_any k t a wd hk HQT.out).mono ?_)
  rintro e w3 ⟨⟨v3, rfl, hN3⟩, hb3⟩
  refine ⟨_, rfl, ?_⟩
  refine wpList_nil ?_
  refine hK _ _ (fun _ => Ext.of hb3) ?_; clear hK K
  obtain ⟨A3, n3, c3, rfl, hc3, hl3, hR3⟩ := hN3.out
  have HS3 := Lib.hid (HSD.out.into hb3)
  have KD3 := Lib.hid (KD.out.below hb3 KD.out.lt)
  have K23 := Lib.hid (K2.out.below hb3 K2.out.lt)
  have B3 := Lib.hid (B1.out.trans (hb3.mono B1.out.size))
  have hz3 := hb3.size
  clear hb3 hN3 K0 K1 K2 KD B1 HSD
  have HCV := Lib.hid (CovV.mk (kd := 1) HS3.out HG.out hR3.out hc3 (by rw [← hl3.out]; exact keyB_len ..) (by decide) hd (fun x hx => keyB_byte _ _ _ x hx))
  refine o_sole (fun K hK => ?_)
  go_wp2_with fail
  refine (mtag_any k0 k1 _ g A3 n3 c3 1 (keyB k t a) w3 h0 h1 HCV.out).mono ?_
  rw [← HTG.out]
  rintro e w4 ⟨rfl, hb4⟩
  go_wp2_with fail
  refine hK _ _ (fun _ => Ext.of hb4) ?_; clear hK K
  have KD4 := Lib.hid (KD3.out.below hb4 KD3.out.lt)
  have K24 := Lib.hid (K23.out.below hb4 K23.out.lt)
  have B4 := Lib.hid (B3.out.trans (hb4.mono B3.out.size))
  have hz4 := hb4.size
  clear hb4 K23 KD3 B3 HCV hR3 HS3 HTG
  refine o_sole (fun K hK => ?_)
  refine wpList_invoke (v := .iface 126 (.pointer (some ⟨T, 0, none⟩))) (vs := #[.int .u64 (tg : Nat)]) rfl _ _ _ _ rfl rfl (by simp only [List.map_toArray, List.map_cons, List.map_nil]; (try rfl)) (invKey_seal T (.int .u64 (tg : Nat)) w4) ((seal_any T 2 tg _ w4 (KD4.out.cell 2) (KD4.out.frozen 2)).mono ?_)
  rintro e w5 ⟨rfl, h5⟩
  refine ⟨_, rfl, ?_⟩
  refine wpList_nil ?_
  have KD5 : Hid (Blk w5 T 34 #[.int .u64 (k : Nat), .bool a, .int .u64 (tg : Nat)]) := Lib.hid (by rw [h5]; exact KD4.out.set 2 (.int .u64 (tg : Nat)))
  have S5 : Hid (Solo T w4 w5) := Lib.hid (by rw [h5]; exact Solo.refl.setCell 2 _)
  have K25 := Lib.hid (show Blk w5 (w.heap.size + 2) _ _ from (S5.out.2.2 _ (by omega)).trans K24.out)
  have T5 := Lib.hid ((Tou.of (g := T) B4.out (Nat.le_of_lt hTw)).solo S5.out)
  have hz5 : w5.heap.size = w4.heap.size := S5.out.2.1
  clear h5 KD4 K24 B4 S5
  refine hK _ _ (fun h => by cases h) ?_; clear hK K
  refine o_nil (hQ.out _ _ ?_); clear hQ QQ
  have hz2 := HZ2.out
  have h55 : w.heap.size ≤ w5.heap.size := by omega
  clear hz2 hz3 hz4 hz5 HZ2
  go_wp2_with (refine wpList_invoke (v := .iface 126 (.pointer (some ⟨T, 0, none⟩))) (vs := #[]) rfl _ _ _ _ rfl rfl (by simp only [List.map_toArray, List.map_cons, List.map_nil]; (try rfl)) (invKey_option (cs := [.int .u64 (k : Nat), .bool a, .int .u64 (tg : Nat)]) KD5.out rfl) ?_)
  refine (keyOpt_any k tg a w5 hk HQ.out).mono ?_
  rintro e w6 ⟨⟨v6, rfl, hN6⟩, hb6⟩
  refine ⟨_, rfl, ?_⟩
  have K26 := Lib.hid (K25.out.below hb6 K25.out.lt)
  have T6 := Lib.hid (T5.out.grow hb6 (by omega))
  have HN6 := Lib.hid hN6
  have hlt5 : w.heap.size + 2 < w5.heap.size := K25.out.lt
  obtain ⟨A6, c6, rfl, hc6⟩ := hN6.form
  clear hN6 hb6 K25 T5 KD5
  refine stm_store (cs' := #[.int .u8 (1 : Nat), .slice A6 (keyB k tg a).length c6]) K26.out rfl _ _ rfl rfl rfl (by simp) (by kernel_rfl) (by simp [Value.oneCell']) (by simp [setL]) fun w9 hk9 hs => ?_
  have HF := Lib.hid (T6.out.soloAt hs (by omega) (by omega))
  have HNF := Lib.hid ((nats_past HN6.out hlt5 hs).mono h55)
  refine wpList_nil ?_
  go_wp2_with fail
  exact bodyPost_ret (results_agg Try.results61 hk9 (by rfl) (by kernel_rfl) (by kernel_rfl)) rfl ⟨⟨_, rfl, HNF.out⟩, HF.out⟩
set_option maxRecDepth 20000 in
set_option maxHeartbeats 4000000 in
theorem mKey_any (k0 k1 : Nat) (sv : Value) (g : Sg) (k : Nat) (a : Bool) (t : Nat) (w : World) (h0 : k0 < 18446744073709551616) (h1 : k1 < 18446744073709551616) (hsv : SegV w sv g) (hg : g.bd) (hd : g.data.length ≤ 10000) (hk : q64 k) (ht : q64 t) :
    Calls Try.prog 22 #[.agg #[.int .u64 (k0 : Nat), .int .u64 (k1 : Nat)], sv, .agg #[.int .u64 (k : Nat), .bool a, .int .u64 (t : Nat)]] w fun e w' => OptPost 1 (keyB k (tagN k0 k1 g 1 (keyB k t true)) true) w.heap.size w' e ∧ Below w.heap.size w w' := by
  have HS := Lib.hid hsv
  obtain ⟨tg, htg⟩ : ∃ tg, tg = tagN k0 k1 g 1 (keyB k t true) := ⟨_, rfl⟩
  have HTG := Lib.hid htg
  rw [← htg]
  clear htg
  obtain ⟨A1, n1, c1, D, m, d, lo, rfl, hO, ho, hD, hmd, hdm⟩ := hsv
  clear hO ho hD hdm
  unfold segCs at *
  go_enter Try.func22, Try.ntmps22
  go_wp2_with fail
  have hk0 : Hid (Blk (w.alloc (.cells #[.int .u64 (k0 : Nat), .int .u64 (k1 : Nat)] 24)) (w.heap.size) 24 #[.int .u64 (k0 : Nat), .int .u64 (k1 : Nat)]) := Lib.hid ((Blk.new w 24 #[.int .u64 (k0 : Nat), .int .u64 (k1 : Nat)]))
  replace hk0 : Hid (Blk ((w.alloc (.cells #[.int .u64 (k0 : Nat), .int .u64 (k1 : Nat)] 24)).alloc (.cells #[.int .u16 (g.src : Int), .int .u16 (g.dst : Int), .int .u32 (g.seq : Int), .int .u32 (g.ack : Int), .int .u8 (g.flags : Int), .slice A1 n1 c1, .slice D m d] 30)) (w.heap.size) 24 #[.int .u64 (k0 : Nat), .int .u64 (k1 : Nat)]) := Lib.hid (hk0.out.alloc _)
  replace hk0 : Hid (Blk (((w.alloc (.cells #[.int .u64 (k0 : Nat), .int .u64 (k1 : Nat)] 24)).alloc (.cells #[.int .u16 (g.src : Int), .int .u16 (g.dst : Int), .int .u32 (g.seq : Int), .int .u32 (g.ack : Int), .int .u8 (g.flags : Int), .slice A1 n1 c1, .slice D m d] 30)).alloc (.cells #[.int .u64 (k : Nat), .bool true, .int .u64 (t : Nat)] 34)) (w.heap.size) 24 #[.int .u64 (k0 : Nat), .int .u64 (k1 : Nat)]) := Lib.hid (hk0.out.alloc _)
  replace hk0 : Hid (Blk ((((w.alloc (.cells #[.int .u64 (k0 : Nat), .int .u64 (k1 : Nat)] 24)).alloc (.cells #[.int .u16 (g.src : Int), .int .u16 (g.dst : Int), .int .u32 (g.seq : Int), .int .u32 (g.ack : Int), .int .u8 (g.flags : Int), .slice A1 n1 c1, .slice D m d] 30)).alloc (.cells #[.int .u64 (k : Nat), .bool true, .int .u64 (t : Nat)] 34)).alloc (.cells #[.int .u8 0, .slice none 0 0] 45)) (w.heap.size) 24 #[.int .u64 (k0 : Nat), .int .u64 (k1 : Nat)]) := Lib.hid (hk0.out.alloc _)
  have hk1 : Hid (Blk ((w.alloc (.cells #[.int .u64 (k0 : Nat), .int .u64 (k1 : Nat)] 24)).alloc (.cells #[.int .u16 (g.src : Int), .int .u16 (g.dst : Int), .int .u32 (g.seq : Int), .int .u32 (g.ack : Int), .int .u8 (g.flags : Int), .slice A1 n1 c1, .slice D m d] 30)) (w.heap.size + 1) 30 #[.int .u16 (g.src : Int), .int .u16 (g.dst : Int), .int .u32 (g.seq : Int), .int .u32 (g.ack : Int), .int .u8 (g.flags : Int), .slice A1 n1 c1, .slice D m d]) := Lib.hid ((Blk.new (w.alloc (.cells #[.int .u64 (k0 : Nat), .int .u64 (k1 : Nat)] 24)) 30 #[.int .u16 (g.src : Int), .int .u16 (g.dst : Int), .int .u32 (g.seq : Int), .int .u32 (g.ack : Int), .int .u8 (g.flags : Int), .slice A1 n1 c1, .slice D m d]) |> fun h => by simpa using h)
  replace hk1 : Hid (Blk (((w.alloc (.cells #[.int .u64 (k0 : Nat), .int .u64 (k1 : Nat)] 24)).alloc (.cells #[.int .u16 (g.src : Int), .int .u16 (g.dst : Int), .int .u32 (g.seq : Int), .int .u32 (g.ack : Int), .int .u8 (g.flags : Int), .slice A1 n1 c1, .slice D m d] 30)).alloc (.cells #[.int .u64 (k : Nat), .bool true, .int .u64 (t : Nat)] 34)) (w.heap.size + 1) 30 #[.int .u16 (g.src : Int), .int .u16 (g.dst : Int), .int .u32 (g.seq : Int), .int .u32 (g.ack : Int), .int .u8 (g.flags : Int), .slice A1 n1 c1, .slice D m d]) := Lib.hid (hk1.out.alloc _)
  replace hk1 : Hid (Blk ((((w.alloc (.cells #[.int .u64 (k0 : Nat), .int .u64 (k1 : Nat)] 24)).alloc (.cells #[.int .u16 (g.src : Int), .int .u16 (g.dst : Int), .int .u32 (g.seq : Int), .int .u32 (g.ack : Int), .int .u8 (g.flags : Int), .slice A1 n1 c1, .slice D m d] 30)).alloc (.cells #[.int .u64 (k : Nat), .bool true, .int .u64 (t : Nat)] 34)).alloc (.cells #[.int .u8 0, .slice none 0 0] 45)) (w.heap.size + 1) 30 #[.int .u16 (g.src : Int), .int .u16 (g.dst : Int), .int .u32 (g.seq : Int), .int .u32 (g.ack : Int), .int .u8 (g.flags : Int), .slice A1 n1 c1, .slice D m d]) := Lib.hid (hk1.out.alloc _)
  have hk2 : Hid (Blk (((w.alloc (.cells #[.int .u64 (k0 : Nat), .int .u64 (k1 : Nat)] 24)).alloc (.cells #[.int .u16 (g.src : Int), .int .u16 (g.dst : Int), .int .u32 (g.seq : Int), .int .u32 (g.ack : Int), .int .u8 (g.flags : Int), .slice A1 n1 c1, .slice D m d] 30)).alloc (.cells #[.int .u64 (k : Nat), .bool true, .int .u64 (t : Nat)] 34)) (w.heap.size + 2) 34 #[.int .u64 (k : Nat), .bool true, .int .u64 (t : Nat)]) := Lib.hid ((Blk.new ((w.alloc (.cells #[.int .u64 (k0 : Nat), .int .u64 (k1 : Nat)] 24)).alloc (.cells #[.int .u16 (g.src : Int), .int .u16 (g.dst : Int), .int .u32 (g.seq : Int), .int .u32 (g.ack : Int), .int .u8 (g.flags : Int), .slice A1 n1 c1, .slice D m d] 30)) 34 #[.int .u64 (k : Nat), .bool true, .int .u64 (t : Nat)]) |> fun h => by simpa using h)
  replace hk2 : Hid (Blk ((((w.alloc (.cells #[.int .u64 (k0 : Nat), .int .u64 (k1 : Nat)] 24)).alloc (.cells #[.int .u16 (g.src : Int), .int .u16 (g.dst : Int), .int .u32 (g.seq : Int), .int .u32 (g.ack : Int), .int .u8 (g.flags : Int), .slice A1 n1 c1, .slice D m d] 30)).alloc (.cells #[.int .u64 (k : Nat), .bool true, .int .u64 (t : Nat)] 34)).alloc (.cells #[.int .u8 0, .slice none 0 0] 45)) (w.heap.size + 2) 34 #[.int .u64 (k : Nat), .bool true, .int .u64 (t : Nat)]) := Lib.hid (hk2.out.alloc _)
  have hk3 : Hid (Blk ((((w.alloc (.cells #[.int .u64 (k0 : Nat), .int .u64 (k1 : Nat)] 24)).alloc (.cells #[.int .u16 (g.src : Int), .int .u16 (g.dst : Int), .int .u32 (g.seq : Int), .int .u32 (g.ack : Int), .int .u8 (g.flags : Int), .slice A1 n1 c1, .slice D m d] 30)).alloc (.cells #[.int .u64 (k : Nat), .bool true, .int .u64 (t : Nat)] 34)).alloc (.cells #[.int .u8 0, .slice none 0 0] 45)) (w.heap.size + 3) 45 #[.int .u8 0, .slice none 0 0]) := Lib.hid ((Blk.new (((w.alloc (.cells #[.int .u64 (k0 : Nat), .int .u64 (k1 : Nat)] 24)).alloc (.cells #[.int .u16 (g.src : Int), .int .u16 (g.dst : Int), .int .u32 (g.seq : Int), .int .u32 (g.ack : Int), .int .u8 (g.flags : Int), .slice A1 n1 c1, .slice D m d] 30)).alloc (.cells #[.int .u64 (k : Nat), .bool true, .int .u64 (t : Nat)] 34)) 45 #[.int .u8 0, .slice none 0 0]) |> fun h => by simpa using h)
  have b1 : Hid (Below w.heap.size w ((((w.alloc (.cells #[.int .u64 (k0 : Nat), .int .u64 (k1 : Nat)] 24)).alloc (.cells #[.int .u16 (g.src : Int), .int .u16 (g.dst : Int), .int .u32 (g.seq : Int), .int .u32 (g.ack : Int), .int .u8 (g.flags : Int), .slice A1 n1 c1, .slice D m d] 30)).alloc (.cells #[.int .u64 (k : Nat), .bool true, .int .u64 (t : Nat)] 34)).alloc (.cells #[.int .u8 0, .slice none 0 0] 45))) := Lib.hid (((((Below.refl w.heap.size w).alloc (Nat.le_refl _) (.cells #[.int .u64 (k0 : Nat), .int .u64 (k1 : Nat)] 24)).alloc (by simp <;> omega) (.cells #[.int .u16 (g.src : Int), .int .u16 (g.dst : Int), .int .u32 (g.seq : Int), .int .u32 (g.ack : Int), .int .u8 (g.flags : Int), .slice A1 n1 c1, .slice D m d] 30)).alloc (by simp <;> omega) (.cells #[.int .u64 (k : Nat), .bool true, .int .u64 (t : Nat)] 34)).alloc (by simp <;> omega) (.cells #[.int .u8 0, .slice none 0 0] 45))
  have hz : ((((w.alloc (.cells #[.int .u64 (k0 : Nat), .int .u64 (k1 : Nat)] 24)).alloc (.cells #[.int .u16 (g.src : Int), .int .u16 (g.dst : Int), .int .u32 (g.seq : Int), .int .u32 (g.ack : Int), .int .u8 (g.flags : Int), .slice A1 n1 c1, .slice D m d] 30)).alloc (.cells #[.int .u64 (k : Nat), .bool true, .int .u64 (t : Nat)] 34)).alloc (.cells #[.int .u8 0, .slice none 0 0] 45)).heap.size = w.heap.size + 4 := by simp
  generalize ((((w.alloc (.cells #[.int .u64 (k0 : Nat), .int .u64 (k1 : Nat)] 24)).alloc (.cells #[.int .u16 (g.src : Int), .int .u16 (g.dst : Int), .int .u32 (g.seq : Int), .int .u32 (g.ack : Int), .int .u8 (g.flags : Int), .slice A1 n1 c1, .slice D m d] 30)).alloc (.cells #[.int .u64 (k : Nat), .bool true, .int .u64 (t : Nat)] 34)).alloc (.cells #[.int .u8 0, .slice none 0 0] 45)) = w2 at hk0 hk1 hk2 hk3 b1 hz ⊢
  have HZ := Lib.hid hz
  clear hz
  replace HS := Lib.hid (HS.out.into b1.out)
  refine (sealKey_any k0 k1 (w.heap.size + 2) _ g k true t w2 h0 h1 HS.out hg hd hk2.out hk ht).mono ?_
  rw [← HTG.out]
  rintro e w3 ⟨⟨v3, rfl, hN3⟩, hT3⟩
  have K3 := Lib.hid (hT3.blk hk3.out (by omega))
  have B3 := Lib.hid (b1.out.trans (hT3.1.mono (show w.heap.size ≤ w.heap.size + 2 by omega)))
  have HN3 := Lib.hid hN3
  obtain ⟨A3, c3, rfl, hc3⟩ := hN3.form
  have hlt : w.heap.size + 3 < w2.heap.size := by have := HZ.out; omega
  clear hN3 hT3 hk0 hk1 hk2 hk3 b1 HS
  go_wp2_with (refine stm_store (cs' := #[.int .u8 (1 : Nat), .slice A3 (keyB k tg true).length c3]) K3.out rfl _ _ rfl rfl rfl (by simp) (by kernel_rfl) (by simp [Value.oneCell']) (by simp [setL]) ?_)
  intro w9 hk9 hs
  go_wp2_with fail
  exact bodyPost_ret (results_agg Try.results22 hk9 (by rfl) (by kernel_rfl) (by kernel_rfl)) rfl ⟨⟨_, rfl, (nats_past HN3.out hlt hs).mono (show w.heap.size ≤ w2.heap.size by omega)⟩, B3.out.trans (hs.1.mono (by omega))⟩
set_option maxRecDepth 20000 in
set_option maxHeartbeats 4000000 in
theorem sealJoin_any (k0 k1 T : Nat) (sv : Value) (g : Sg) (tk nc id : Nat) (bk a : Bool) (t : Nat) (w : World) (h0 : k0 < 18446744073709551616) (h1 : k1 < 18446744073709551616) (hsv : SegV w sv g) (hg : g.bd) (hd : g.data.length ≤ 10000) (hT : Blk w T 36 #[.int .u32 (tk : Nat), .int .u32 (nc : Nat), .int .u8 (id : Nat), .bool bk, .bool a, .int .u64 (t : Nat)]) (htk : q32 tk) (hnc : q32 nc) (hid : id < 256) (ht : q64 t) :
    Calls Try.prog 61 #[.agg #[.int .u64 (k0 : Nat), .int .u64 (k1 : Nat)], sv, .iface 127 (.pointer (some ⟨T, 0, none⟩))] w fun e w' => OptPost 2 (joinB tk nc id bk a (tagN k0 k1 g 2 (joinB tk nc id bk a t))) w.heap.size w' e ∧ Tou T w w' := by
  obtain ⟨tg, htg⟩ : ∃ tg, tg = tagN k0 k1 g 2 (joinB tk nc id bk a t) := ⟨_, rfl⟩
  have HTG := Lib.hid htg
  have ht64 : q64 tg := by rw [htg]; exact tagN_lt k0 k1 g _ _ h0 h1
  have HQ := Lib.hid ht64
  have HQT := Lib.hid ht
  have HS := Lib.hid hsv
  have HG := Lib.hid hg
  rw [← htg]
  clear htg ht64 ht hg
  obtain ⟨A1, n1, c1, D, m, d, lo, rfl, hO, ho, hD, hmd, hdm⟩ := hsv
  clear hO ho hD hdm
  unfold segCs at *
  have KT := Lib.hid hT
  clear hT
  go_enter Try.func61, Try.ntmps61
  go_upto_region 1 with fail
  have hk0 : Hid (Blk (w.alloc (.cells #[.int .u64 (k0 : Nat), .int .u64 (k1 : Nat)] 24)) (w.heap.size) 24 #[.int .u64 (k0 : Nat), .int .u64 (k1 : Nat)]) := Lib.hid ((Blk.new w 24 #[.int .u64 (k0 : Nat), .int .u64 (k1 : Nat)]))
  replace hk0 : Hid (Blk ((w.alloc (.cells #[.int .u64 (k0 : Nat), .int .u64 (k1 : Nat)] 24)).alloc (.cells #[.int .u16 (g.src : Int), .int .u16 (g.dst : Int), .int .u32 (g.seq : Int), .int .u32 (g.ack : Int), .int .u8 (g.flags : Int), .slice A1 n1 c1, .slice D m d] 30)) (w.heap.size) 24 #[.int .u64 (k0 : Nat), .int .u64 (k1 : Nat)]) := Lib.hid (hk0.out.alloc _)
  replace hk0 : Hid (Blk (((w.alloc (.cells #[.int .u64 (k0 : Nat), .int .u64 (k1 : Nat)] 24)).alloc (.cells #[.int .u16 (g.src : Int), .int .u16 (g.dst : Int), .int .u32 (g.seq : Int), .int .u32 (g.ack : Int), .int .u8 (g.flags : Int), .slice A1 n1 c1, .slice D m d] 30)).alloc (.cells #[.int .u8 0, .slice none 0 0] 45)) (w.heap.size) 24 #[.int .u64 (k0 : Nat), .int .u64 (k1 : Nat)]) := Lib.hid (hk0.out.alloc _)
  have hk1 : Hid (Blk ((w.alloc (.cells #[.int .u64 (k0 : Nat), .int .u64 (k1 : Nat)] 24)).alloc (.cells #[.int .u16 (g.src : Int), .int .u16 (g.dst : Int), .int .u32 (g.seq : Int), .int .u32 (g.ack : Int), .int .u8 (g.flags : Int), .slice A1 n1 c1, .slice D m d] 30)) (w.heap.size + 1) 30 #[.int .u16 (g.src : Int), .int .u16 (g.dst : Int), .int .u32 (g.seq : Int), .int .u32 (g.ack : Int), .int .u8 (g.flags : Int), .slice A1 n1 c1, .slice D m d]) := Lib.hid ((Blk.new (w.alloc (.cells #[.int .u64 (k0 : Nat), .int .u64 (k1 : Nat)] 24)) 30 #[.int .u16 (g.src : Int), .int .u16 (g.dst : Int), .int .u32 (g.seq : Int), .int .u32 (g.ack : Int), .int .u8 (g.flags : Int), .slice A1 n1 c1, .slice D m d]) |> fun h => by simpa using h)
  replace hk1 : Hid (Blk (((w.alloc (.cells #[.int .u64 (k0 : Nat), .int .u64 (k1 : Nat)] 24)).alloc (.cells #[.int .u16 (g.src : Int), .int .u16 (g.dst : Int), .int .u32 (g.seq : Int), .int .u32 (g.ack : Int), .int .u8 (g.flags : Int), .slice A1 n1 c1, .slice D m d] 30)).alloc (.cells #[.int .u8 0, .slice none 0 0] 45)) (w.heap.size + 1) 30 #[.int .u16 (g.src : Int), .int .u16 (g.dst : Int), .int .u32 (g.seq : Int), .int .u32 (g.ack : Int), .int .u8 (g.flags : Int), .slice A1 n1 c1, .slice D m d]) := Lib.hid (hk1.out.alloc _)
  have hk2 : Hid (Blk (((w.alloc (.cells #[.int .u64 (k0 : Nat), .int .u64 (k1 : Nat)] 24)).alloc (.cells #[.int .u16 (g.src : Int), .int .u16 (g.dst : Int), .int .u32 (g.seq : Int), .int .u32 (g.ack : Int), .int .u8 (g.flags : Int), .slice A1 n1 c1, .slice D m d] 30)).alloc (.cells #[.int .u8 0, .slice none 0 0] 45)) (w.heap.size + 2) 45 #[.int .u8 0, .slice none 0 0]) := Lib.hid ((Blk.new ((w.alloc (.cells #[.int .u64 (k0 : Nat), .int .u64 (k1 : Nat)] 24)).alloc (.cells #[.int .u16 (g.src : Int), .int .u16 (g.dst : Int), .int .u32 (g.seq : Int), .int .u32 (g.ack : Int), .int .u8 (g.flags : Int), .slice A1 n1 c1, .slice D m d] 30)) 45 #[.int .u8 0, .slice none 0 0]) |> fun h => by simpa using h)
  have b1 : Hid (Below w.heap.size w (((w.alloc (.cells #[.int .u64 (k0 : Nat), .int .u64 (k1 : Nat)] 24)).alloc (.cells #[.int .u16 (g.src : Int), .int .u16 (g.dst : Int), .int .u32 (g.seq : Int), .int .u32 (g.ack : Int), .int .u8 (g.flags : Int), .slice A1 n1 c1, .slice D m d] 30)).alloc (.cells #[.int .u8 0, .slice none 0 0] 45))) := Lib.hid ((((Below.refl w.heap.size w).alloc (Nat.le_refl _) (.cells #[.int .u64 (k0 : Nat), .int .u64 (k1 : Nat)] 24)).alloc (by simp <;> omega) (.cells #[.int .u16 (g.src : Int), .int .u16 (g.dst : Int), .int .u32 (g.seq : Int), .int .u32 (g.ack : Int), .int .u8 (g.flags : Int), .slice A1 n1 c1, .slice D m d] 30)).alloc (by simp <;> omega) (.cells #[.int .u8 0, .slice none 0 0] 45))
  have hz : (((w.alloc (.cells #[.int .u64 (k0 : Nat), .int .u64 (k1 : Nat)] 24)).alloc (.cells #[.int .u16 (g.src : Int), .int .u16 (g.dst : Int), .int .u32 (g.seq : Int), .int .u32 (g.ack : Int), .int .u8 (g.flags : Int), .slice A1 n1 c1, .slice D m d] 30)).alloc (.cells #[.int .u8 0, .slice none 0 0] 45)).heap.size = w.heap.size + 3 := by simp
  generalize (((w.alloc (.cells #[.int .u64 (k0 : Nat), .int .u64 (k1 : Nat)] 24)).alloc (.cells #[.int .u16 (g.src : Int), .int .u16 (g.dst : Int), .int .u32 (g.seq : Int), .int .u32 (g.ack : Int), .int .u8 (g.flags : Int), .slice A1 n1 c1, .slice D m d] 30)).alloc (.cells #[.int .u8 0, .slice none 0 0] 45)) = w2 at hk0 hk1 hk2 b1 hz ⊢
  have HZ := Lib.hid hz
  clear hz
  replace HS := Lib.hid (HS.out.into b1.out)
  have hTw := KT.out.lt
  replace KT := Lib.hid (KT.out.below b1.out hTw)
  refine wp_ord [(0, .pure), (1, .read), (2, .read), (3, .pure), (6, .pure), (7, .pure), (8, .pure), (4, .sole), (5, .sole), (9, .sole)] [9] (by kernel_rfl) (by kernel_rfl) (fun QQ hQ wd hwd => ?_); simp only [List.map_cons, List.map_nil, List.getD_cons_zero, List.getD_cons_succ]
  have K0 := Lib.hid (show Blk wd w.heap.size _ _ from by rw [hwd.out]; exact hk0.out.drew)
  have K1 := Lib.hid (show Blk wd (w.heap.size + 1) _ _ from by rw [hwd.out]; exact hk1.out.drew)
  have K2 := Lib.hid (show Blk wd (w.heap.size + 2) _ _ from by rw [hwd.out]; exact hk2.out.drew)
  have KD := Lib.hid (show Blk wd T _ _ from by rw [hwd.out]; exact KT.out.drew)
  have B1 := Lib.hid (show Below w.heap.size w wd from by rw [hwd.out]; exact b1.out.drew)
  have HZ2 := Lib.hid (show wd.heap.size = w.heap.size + 3 from by rw [hwd.out]; exact HZ.out)
  have HSD : Hid (SegV wd _ g) := Lib.hid (by rw [hwd.out]; exact HS.out.into ((Below.refl _ _).drew))
  clear hwd hk0 hk1 hk2 KT b1 HZ HS
  (refine o_pure (v := ?_) (by rfl) (fun w' => ?_) ?_; rotate_left; (focus (go_simp; (try with_reducible rfl))); (try simp only [Act.put, List.setIfInBounds_toArray, List.set_cons_zero, List.set_cons_succ]))
  (refine o_loads _ [.int .u64 (k0 : Nat), .int .u64 (k1 : Nat)] (by rfl) rfl rfl (K0.out.loads 0 _ (by rfl)) (Nat.succ_pos _) (by kernel_rfl) (by kernel_rfl) ?_; simp only [Act.put, List.setIfInBounds_toArray, List.set_cons_zero, List.set_cons_succ])
  (refine o_loads _ [.int .u16 (g.src : Int), .int .u16 (g.dst : Int), .int .u32 (g.seq : Int), .int .u32 (g.ack : Int), .int .u8 (g.flags : Int), .slice A1 n1 c1, .slice D m d] (by rfl) rfl rfl (K1.out.loads 0 _ (by rfl)) (Nat.succ_pos _) (by kernel_rfl) (by kernel_rfl) ?_; simp only [Act.put, List.setIfInBounds_toArray, List.set_cons_zero, List.set_cons_succ])
  (refine o_pure (v := ?_) (by rfl) (fun w' => ?_) ?_; rotate_left; (focus (go_simp; (try with_reducible rfl))); (try simp only [Act.put, List.setIfInBounds_toArray, List.set_cons_zero, List.set_cons_succ]))
  (refine o_pure (v := ?_) (by rfl) (fun w' => ?_) ?_; rotate_left; (focus (go_simp; (try with_reducible rfl))); (try simp only [Act.put, List.setIfInBounds_toArray, List.set_cons_zero, List.set_cons_succ]))
  (refine o_pure (v := .func (.method "Seal") #[.iface 127 (.pointer (some ⟨T, 0, none⟩))] #[]) (by rfl) (fun w' => by kernel_rfl) ?_; simp only [Act.put, List.setIfInBounds_toArray, List.set_cons_zero, List.set_cons_succ])
  (refine o_pure (v := ?_) (by rfl) (fun w' => ?_) ?_; rotate_left; (focus (go_simp; (try with_reducible rfl))); (try simp only [Act.put, List.setIfInBounds_toArray, List.set_cons_zero, List.set_cons_succ]))
  refine o_sole (fun K hK => ?_)
  refine wpList_invoke (v := .iface 127 (.pointer (some ⟨T, 0, none⟩))) (vs := #[]) rfl _ _ _ _ rfl rfl (by simp only [List.map_toArray, List.map_cons, List.map_nil]; (try rfl)) (invJoin_option (cs := [.int .u32 (tk : Nat), .int .u32 (nc : Nat), .int .u8 (id : Nat), .bool bk, .bool a, .int .u64 (t : Nat)]) KD.out rfl) ((joinOpt_any tk nc id t bk a wd htk hnc hid HQT.out).mono ?_)
  rintro e w3 ⟨⟨v3, rfl, hN3⟩, hb3⟩
  refine ⟨_, rfl, ?_⟩
  refine wpList_nil ?_
  refine hK _ _ (fun _ => Ext.of hb3) ?_; clear hK K
  obtain ⟨A3, n3, c3, rfl, hc3, hl3, hR3⟩ := hN3.out
  have HS3 := Lib.hid (HSD.out.into hb3)
  have KD3 := Lib.hid (KD.out.below hb3 KD.out.lt)
  have K23 := Lib.hid (K2.out.below hb3 K2.out.lt)
  have B3 := Lib.hid (B1.out.trans (hb3.mono B1.out.size))
  have hz3 := hb3.size
  clear hb3 hN3 K0 K1 K2 KD B1 HSD
  have HCV := Lib.hid (CovV.mk (kd := 2) HS3.out HG.out hR3.out hc3 (by rw [← hl3.out]; exact joinB_len ..) (by decide) hd (fun x hx => joinB_byte hid x hx))
  refine o_sole (fun K hK => ?_)
  go_wp2_with fail
  refine (mtag_any k0 k1 _ g A3 n3 c3 2 (joinB tk nc id bk a t) w3 h0 h1 HCV.out).mono ?_
  rw [← HTG.out]
  rintro e w4 ⟨rfl, hb4⟩
  go_wp2_with fail
  refine hK _ _ (fun _ => Ext.of hb4) ?_; clear hK K
  have KD4 := Lib.hid (KD3.out.below hb4 KD3.out.lt)
  have K24 := Lib.hid (K23.out.below hb4 K23.out.lt)
  have B4 := Lib.hid (B3.out.trans (hb4.mono B3.out.size))
  have hz4 := hb4.size
  clear hb4 K23 KD3 B3 HCV hR3 HS3 HTG
  refine o_sole (fun K hK => ?_)
  refine wpList_invoke (v := .iface 127 (.pointer (some ⟨T, 0, none⟩))) (vs := #[.int .u64 (tg : Nat)]) rfl _ _ _ _ rfl rfl (by simp only [List.map_toArray, List.map_cons, List.map_nil]; (try rfl)) (invJoin_seal T (.int .u64 (tg : Nat)) w4) ((seal_any T 5 tg _ w4 (KD4.out.cell 5) (KD4.out.frozen 5)).mono ?_)
  rintro e w5 ⟨rfl, h5⟩
  refine ⟨_, rfl, ?_⟩
  refine wpList_nil ?_
  have KD5 : Hid (Blk w5 T 36 #[.int .u32 (tk : Nat), .int .u32 (nc : Nat), .int .u8 (id : Nat), .bool bk, .bool a, .int .u64 (tg : Nat)]) := Lib.hid (by rw [h5]; exact KD4.out.set 5 (.int .u64 (tg : Nat)))
  have S5 : Hid (Solo T w4 w5) := Lib.hid (by rw [h5]; exact Solo.refl.setCell 5 _)
  have K25 := Lib.hid (show Blk w5 (w.heap.size + 2) _ _ from (S5.out.2.2 _ (by omega)).trans K24.out)
  have T5 := Lib.hid ((Tou.of (g := T) B4.out (Nat.le_of_lt hTw)).solo S5.out)
  have hz5 : w5.heap.size = w4.heap.size := S5.out.2.1
  clear h5 KD4 K24 B4 S5
  refine hK _ _ (fun h => by cases h) ?_; clear hK K
  refine o_nil (hQ.out _ _ ?_); clear hQ QQ
  have hz2 := HZ2.out
  have h55 : w.heap.size ≤ w5.heap.size := by omega
  clear hz2 hz3 hz4 hz5 HZ2
  go_wp2_with (refine wpList_invoke (v := .iface 127 (.pointer (some ⟨T, 0, none⟩))) (vs := #[]) rfl _ _ _ _ rfl rfl (by simp only [List.map_toArray, List.map_cons, List.map_nil]; (try rfl)) (invJoin_option (cs := [.int .u32 (tk : Nat), .int .u32 (nc : Nat), .int .u8 (id : Nat), .bool bk, .bool a, .int .u64 (tg : Nat)]) KD5.out rfl) ?_)
  refine (joinOpt_any tk nc id tg bk a w5 htk hnc hid HQ.out).mono ?_
  rintro e w6 ⟨⟨v6, rfl, hN6⟩, hb6⟩
  refine ⟨_, rfl, ?_⟩
  have K26 := Lib.hid (K25.out.below hb6 K25.out.lt)
  have T6 := Lib.hid (T5.out.grow hb6 (by omega))
  have HN6 := Lib.hid hN6
  have hlt5 : w.heap.size + 2 < w5.heap.size := K25.out.lt
  obtain ⟨A6, c6, rfl, hc6⟩ := hN6.form
  clear hN6 hb6 K25 T5 KD5
  refine stm_store (cs' := #[.int .u8 (2 : Nat), .slice A6 (joinB tk nc id bk a tg).length c6]) K26.out rfl _ _ rfl rfl rfl (by simp) (by kernel_rfl) (by simp [Value.oneCell']) (by simp [setL]) fun w9 hk9 hs => ?_
  have HF := Lib.hid (T6.out.soloAt hs (by omega) (by omega))
  have HNF := Lib.hid ((nats_past HN6.out hlt5 hs).mono h55)
  refine wpList_nil ?_
  go_wp2_with fail
  exact bodyPost_ret (results_agg Try.results61 hk9 (by rfl) (by kernel_rfl) (by kernel_rfl)) rfl ⟨⟨_, rfl, HNF.out⟩, HF.out⟩
set_option maxRecDepth 20000 in
set_option maxHeartbeats 4000000 in
theorem mJoin_any (k0 k1 : Nat) (sv : Value) (g : Sg) (tk nc id : Nat) (bk a : Bool) (t : Nat) (w : World) (h0 : k0 < 18446744073709551616) (h1 : k1 < 18446744073709551616) (hsv : SegV w sv g) (hg : g.bd) (hd : g.data.length ≤ 10000) (htk : q32 tk) (hnc : q32 nc) (hid : id < 256) (ht : q64 t) :
    Calls Try.prog 23 #[.agg #[.int .u64 (k0 : Nat), .int .u64 (k1 : Nat)], sv, .agg #[.int .u32 (tk : Nat), .int .u32 (nc : Nat), .int .u8 (id : Nat), .bool bk, .bool a, .int .u64 (t : Nat)]] w fun e w' => OptPost 2 (joinB tk nc id bk true (tagN k0 k1 g 2 (joinB tk nc id bk true t))) w.heap.size w' e ∧ Below w.heap.size w w' := by
  have HS := Lib.hid hsv
  obtain ⟨tg, htg⟩ : ∃ tg, tg = tagN k0 k1 g 2 (joinB tk nc id bk true t) := ⟨_, rfl⟩
  have HTG := Lib.hid htg
  rw [← htg]
  clear htg
  obtain ⟨A1, n1, c1, D, m, d, lo, rfl, hO, ho, hD, hmd, hdm⟩ := hsv
  clear hO ho hD hdm
  unfold segCs at *
  go_enter Try.func23, Try.ntmps23
  go_wp2_with fail
  have hk0 : Hid (Blk (w.alloc (.cells #[.int .u64 (k0 : Nat), .int .u64 (k1 : Nat)] 24)) (w.heap.size) 24 #[.int .u64 (k0 : Nat), .int .u64 (k1 : Nat)]) := Lib.hid ((Blk.new w 24 #[.int .u64 (k0 : Nat), .int .u64 (k1 : Nat)]))
  replace hk0 : Hid (Blk ((w.alloc (.cells #[.int .u64 (k0 : Nat), .int .u64 (k1 : Nat)] 24)).alloc (.cells #[.int .u16 (g.src : Int), .int .u16 (g.dst : Int), .int .u32 (g.seq : Int), .int .u32 (g.ack : Int), .int .u8 (g.flags : Int), .slice A1 n1 c1, .slice D m d] 30)) (w.heap.size) 24 #[.int .u64 (k0 : Nat), .int .u64 (k1 : Nat)]) := Lib.hid (hk0.out.alloc _)
  replace hk0 : Hid (Blk (((w.alloc (.cells #[.int .u64 (k0 : Nat), .int .u64 (k1 : Nat)] 24)).alloc (.cells #[.int .u16 (g.src : Int), .int .u16 (g.dst : Int), .int .u32 (g.seq : Int), .int .u32 (g.ack : Int), .int .u8 (g.flags : Int), .slice A1 n1 c1, .slice D m d] 30)).alloc (.cells #[.int .u32 (tk : Nat), .int .u32 (nc : Nat), .int .u8 (id : Nat), .bool bk, .bool true, .int .u64 (t : Nat)] 36)) (w.heap.size) 24 #[.int .u64 (k0 : Nat), .int .u64 (k1 : Nat)]) := Lib.hid (hk0.out.alloc _)
  replace hk0 : Hid (Blk ((((w.alloc (.cells #[.int .u64 (k0 : Nat), .int .u64 (k1 : Nat)] 24)).alloc (.cells #[.int .u16 (g.src : Int), .int .u16 (g.dst : Int), .int .u32 (g.seq : Int), .int .u32 (g.ack : Int), .int .u8 (g.flags : Int), .slice A1 n1 c1, .slice D m d] 30)).alloc (.cells #[.int .u32 (tk : Nat), .int .u32 (nc : Nat), .int .u8 (id : Nat), .bool bk, .bool true, .int .u64 (t : Nat)] 36)).alloc (.cells #[.int .u8 0, .slice none 0 0] 45)) (w.heap.size) 24 #[.int .u64 (k0 : Nat), .int .u64 (k1 : Nat)]) := Lib.hid (hk0.out.alloc _)
  have hk1 : Hid (Blk ((w.alloc (.cells #[.int .u64 (k0 : Nat), .int .u64 (k1 : Nat)] 24)).alloc (.cells #[.int .u16 (g.src : Int), .int .u16 (g.dst : Int), .int .u32 (g.seq : Int), .int .u32 (g.ack : Int), .int .u8 (g.flags : Int), .slice A1 n1 c1, .slice D m d] 30)) (w.heap.size + 1) 30 #[.int .u16 (g.src : Int), .int .u16 (g.dst : Int), .int .u32 (g.seq : Int), .int .u32 (g.ack : Int), .int .u8 (g.flags : Int), .slice A1 n1 c1, .slice D m d]) := Lib.hid ((Blk.new (w.alloc (.cells #[.int .u64 (k0 : Nat), .int .u64 (k1 : Nat)] 24)) 30 #[.int .u16 (g.src : Int), .int .u16 (g.dst : Int), .int .u32 (g.seq : Int), .int .u32 (g.ack : Int), .int .u8 (g.flags : Int), .slice A1 n1 c1, .slice D m d]) |> fun h => by simpa using h)
  replace hk1 : Hid (Blk (((w.alloc (.cells #[.int .u64 (k0 : Nat), .int .u64 (k1 : Nat)] 24)).alloc (.cells #[.int .u16 (g.src : Int), .int .u16 (g.dst : Int), .int .u32 (g.seq : Int), .int .u32 (g.ack : Int), .int .u8 (g.flags : Int), .slice A1 n1 c1, .slice D m d] 30)).alloc (.cells #[.int .u32 (tk : Nat), .int .u32 (nc : Nat), .int .u8 (id : Nat), .bool bk, .bool true, .int .u64 (t : Nat)] 36)) (w.heap.size + 1) 30 #[.int .u16 (g.src : Int), .int .u16 (g.dst : Int), .int .u32 (g.seq : Int), .int .u32 (g.ack : Int), .int .u8 (g.flags : Int), .slice A1 n1 c1, .slice D m d]) := Lib.hid (hk1.out.alloc _)
  replace hk1 : Hid (Blk ((((w.alloc (.cells #[.int .u64 (k0 : Nat), .int .u64 (k1 : Nat)] 24)).alloc (.cells #[.int .u16 (g.src : Int), .int .u16 (g.dst : Int), .int .u32 (g.seq : Int), .int .u32 (g.ack : Int), .int .u8 (g.flags : Int), .slice A1 n1 c1, .slice D m d] 30)).alloc (.cells #[.int .u32 (tk : Nat), .int .u32 (nc : Nat), .int .u8 (id : Nat), .bool bk, .bool true, .int .u64 (t : Nat)] 36)).alloc (.cells #[.int .u8 0, .slice none 0 0] 45)) (w.heap.size + 1) 30 #[.int .u16 (g.src : Int), .int .u16 (g.dst : Int), .int .u32 (g.seq : Int), .int .u32 (g.ack : Int), .int .u8 (g.flags : Int), .slice A1 n1 c1, .slice D m d]) := Lib.hid (hk1.out.alloc _)
  have hk2 : Hid (Blk (((w.alloc (.cells #[.int .u64 (k0 : Nat), .int .u64 (k1 : Nat)] 24)).alloc (.cells #[.int .u16 (g.src : Int), .int .u16 (g.dst : Int), .int .u32 (g.seq : Int), .int .u32 (g.ack : Int), .int .u8 (g.flags : Int), .slice A1 n1 c1, .slice D m d] 30)).alloc (.cells #[.int .u32 (tk : Nat), .int .u32 (nc : Nat), .int .u8 (id : Nat), .bool bk, .bool true, .int .u64 (t : Nat)] 36)) (w.heap.size + 2) 36 #[.int .u32 (tk : Nat), .int .u32 (nc : Nat), .int .u8 (id : Nat), .bool bk, .bool true, .int .u64 (t : Nat)]) := Lib.hid ((Blk.new ((w.alloc (.cells #[.int .u64 (k0 : Nat), .int .u64 (k1 : Nat)] 24)).alloc (.cells #[.int .u16 (g.src : Int), .int .u16 (g.dst : Int), .int .u32 (g.seq : Int), .int .u32 (g.ack : Int), .int .u8 (g.flags : Int), .slice A1 n1 c1, .slice D m d] 30)) 36 #[.int .u32 (tk : Nat), .int .u32 (nc : Nat), .int .u8 (id : Nat), .bool bk, .bool true, .int .u64 (t : Nat)]) |> fun h => by simpa using h)
  replace hk2 : Hid (Blk ((((w.alloc (.cells #[.int .u64 (k0 : Nat), .int .u64 (k1 : Nat)] 24)).alloc (.cells #[.int .u16 (g.src : Int), .int .u16 (g.dst : Int), .int .u32 (g.seq : Int), .int .u32 (g.ack : Int), .int .u8 (g.flags : Int), .slice A1 n1 c1, .slice D m d] 30)).alloc (.cells #[.int .u32 (tk : Nat), .int .u32 (nc : Nat), .int .u8 (id : Nat), .bool bk, .bool true, .int .u64 (t : Nat)] 36)).alloc (.cells #[.int .u8 0, .slice none 0 0] 45)) (w.heap.size + 2) 36 #[.int .u32 (tk : Nat), .int .u32 (nc : Nat), .int .u8 (id : Nat), .bool bk, .bool true, .int .u64 (t : Nat)]) := Lib.hid (hk2.out.alloc _)
  have hk3 : Hid (Blk ((((w.alloc (.cells #[.int .u64 (k0 : Nat), .int .u64 (k1 : Nat)] 24)).alloc (.cells #[.int .u16 (g.src : Int), .int .u16 (g.dst : Int), .int .u32 (g.seq : Int), .int .u32 (g.ack : Int), .int .u8 (g.flags : Int), .slice A1 n1 c1, .slice D m d] 30)).alloc (.cells #[.int .u32 (tk : Nat), .int .u32 (nc : Nat), .int .u8 (id : Nat), .bool bk, .bool true, .int .u64 (t : Nat)] 36)).alloc (.cells #[.int .u8 0, .slice none 0 0] 45)) (w.heap.size + 3) 45 #[.int .u8 0, .slice none 0 0]) := Lib.hid ((Blk.new (((w.alloc (.cells #[.int .u64 (k0 : Nat), .int .u64 (k1 : Nat)] 24)).alloc (.cells #[.int .u16 (g.src : Int), .int .u16 (g.dst : Int), .int .u32 (g.seq : Int), .int .u32 (g.ack : Int), .int .u8 (g.flags : Int), .slice A1 n1 c1, .slice D m d] 30)).alloc (.cells #[.int .u32 (tk : Nat), .int .u32 (nc : Nat), .int .u8 (id : Nat), .bool bk, .bool true, .int .u64 (t : Nat)] 36)) 45 #[.int .u8 0, .slice none 0 0]) |> fun h => by simpa using h)
  have b1 : Hid (Below w.heap.size w ((((w.alloc (.cells #[.int .u64 (k0 : Nat), .int .u64 (k1 : Nat)] 24)).alloc (.cells #[.int .u16 (g.src : Int), .int .u16 (g.dst : Int), .int .u32 (g.seq : Int), .int .u32 (g.ack : Int), .int .u8 (g.flags : Int), .slice A1 n1 c1, .slice D m d] 30)).alloc (.cells #[.int .u32 (tk : Nat), .int .u32 (nc : Nat), .int .u8 (id : Nat), .bool bk, .bool true, .int .u64 (t : Nat)] 36)).alloc (.cells #[.int .u8 0, .slice none 0 0] 45))) := Lib.hid (((((Below.refl w.heap.size w).alloc (Nat.le_refl _) (.cells #[.int .u64 (k0 : Nat), .int .u64 (k1 : Nat)] 24)).alloc (by simp <;> omega) (.cells #[.int .u16 (g.src : Int), .int .u16 (g.dst : Int), .int .u32 (g.seq : Int), .int .u32 (g.ack : Int), .int .u8 (g.flags : Int), .slice A1 n1 c1, .slice D m d] 30)).alloc (by simp <;> omega) (.cells #[.int .u32 (tk : Nat), .int .u32 (nc : Nat), .int .u8 (id : Nat), .bool bk, .bool true, .int .u64 (t : Nat)] 36)).alloc (by simp <;> omega) (.cells #[.int .u8 0, .slice none 0 0] 45))
  have hz : ((((w.alloc (.cells #[.int .u64 (k0 : Nat), .int .u64 (k1 : Nat)] 24)).alloc (.cells #[.int .u16 (g.src : Int), .int .u16 (g.dst : Int), .int .u32 (g.seq : Int), .int .u32 (g.ack : Int), .int .u8 (g.flags : Int), .slice A1 n1 c1, .slice D m d] 30)).alloc (.cells #[.int .u32 (tk : Nat), .int .u32 (nc : Nat), .int .u8 (id : Nat), .bool bk, .bool true, .int .u64 (t : Nat)] 36)).alloc (.cells #[.int .u8 0, .slice none 0 0] 45)).heap.size = w.heap.size + 4 := by simp
  generalize ((((w.alloc (.cells #[.int .u64 (k0 : Nat), .int .u64 (k1 : Nat)] 24)).alloc (.cells #[.int .u16 (g.src : Int), .int .u16 (g.dst : Int), .int .u32 (g.seq : Int), .int .u32 (g.ack : Int), .int .u8 (g.flags : Int), .slice A1 n1 c1, .slice D m d] 30)).alloc (.cells #[.int .u32 (tk : Nat), .int .u32 (nc : Nat), .int .u8 (id : Nat), .bool bk, .bool true, .int .u64 (t : Nat)] 36)).alloc (.cells #[.int .u8 0, .slice none 0 0] 45)) = w2 at hk0 hk1 hk2 hk3 b1 hz ⊢
  have HZ := Lib.hid hz
  clear hz
  replace HS := Lib.hid (HS.out.into b1.out)
  refine (sealJoin_any k0 k1 (w.heap.size + 2) _ g tk nc id bk true t w2 h0 h1 HS.out hg hd hk2.out htk hnc hid ht).mono ?_
  rw [← HTG.out]
  rintro e w3 ⟨⟨v3, rfl, hN3⟩, hT3⟩
  have K3 := Lib.hid (hT3.blk hk3.out (by omega))
  have B3 := Lib.hid (b1.out.trans (hT3.1.mono (show w.heap.size ≤ w.heap.size + 2 by omega)))
  have HN3 := Lib.hid hN3
  obtain ⟨A3, c3, rfl, hc3⟩ := hN3.form
  have hlt : w.heap.size + 3 < w2.heap.size := by have := HZ.out; omega
  clear hN3 hT3 hk0 hk1 hk2 hk3 b1 HS
  go_wp2_with (refine stm_store (cs' := #[.int .u8 (2 : Nat), .slice A3 (joinB tk nc id bk true tg).length c3]) K3.out rfl _ _ rfl rfl rfl (by simp) (by kernel_rfl) (by simp [Value.oneCell']) (by simp [setL]) ?_)
  intro w9 hk9 hs
  go_wp2_with fail
  exact bodyPost_ret (results_agg Try.results23 hk9 (by rfl) (by kernel_rfl) (by kernel_rfl)) rfl ⟨⟨_, rfl, (nats_past HN3.out hlt hs).mono (show w.heap.size ≤ w2.heap.size by omega)⟩, B3.out.trans (hs.1.mono (by omega))⟩
set_option maxRecDepth 20000 in
set_option maxHeartbeats 4000000 in
theorem sealData_any (k0 k1 T : Nat) (sv : Value) (g : Sg) (f p : Bool) (sq ak wn : Nat) (t : Nat) (w : World) (h0 : k0 < 18446744073709551616) (h1 : k1 < 18446744073709551616) (hsv : SegV w sv g) (hg : g.bd) (hd : g.data.length ≤ 10000) (hT : Blk w T 38 #[.bool f, .bool p, .int .u64 (sq : Nat), .int .u64 (ak : Nat), .int .u32 (wn : Nat), .int .u64 (t : Nat)]) (hsq : q64 sq) (hak : q64 ak) (hwn : q32 wn) (ht : q64 t) :
    Calls Try.prog 61 #[.agg #[.int .u64 (k0 : Nat), .int .u64 (k1 : Nat)], sv, .iface 128 (.pointer (some ⟨T, 0, none⟩))] w fun e w' => OptPost 3 (dataB f p sq ak wn (tagN k0 k1 g 3 (dataB f p sq ak wn t))) w.heap.size w' e ∧ Tou T w w' := by
  obtain ⟨tg, htg⟩ : ∃ tg, tg = tagN k0 k1 g 3 (dataB f p sq ak wn t) := ⟨_, rfl⟩
  have HTG := Lib.hid htg
  have ht64 : q64 tg := by rw [htg]; exact tagN_lt k0 k1 g _ _ h0 h1
  have HQ := Lib.hid ht64
  have HQT := Lib.hid ht
  have HS := Lib.hid hsv
  have HG := Lib.hid hg
  rw [← htg]
  clear htg ht64 ht hg
  obtain ⟨A1, n1, c1, D, m, d, lo, rfl, hO, ho, hD, hmd, hdm⟩ := hsv
  clear hO ho hD hdm
  unfold segCs at *
  have KT := Lib.hid hT
  clear hT
  go_enter Try.func61, Try.ntmps61
  go_upto_region 1 with fail
  have hk0 : Hid (Blk (w.alloc (.cells #[.int .u64 (k0 : Nat), .int .u64 (k1 : Nat)] 24)) (w.heap.size) 24 #[.int .u64 (k0 : Nat), .int .u64 (k1 : Nat)]) := Lib.hid ((Blk.new w 24 #[.int .u64 (k0 : Nat), .int .u64 (k1 : Nat)]))
  replace hk0 : Hid (Blk ((w.alloc (.cells #[.int .u64 (k0 : Nat), .int .u64 (k1 : Nat)] 24)).alloc (.cells #[.int .u16 (g.src : Int), .int .u16 (g.dst : Int), .int .u32 (g.seq : Int), .int .u32 (g.ack : Int), .int .u8 (g.flags : Int), .slice A1 n1 c1, .slice D m d] 30)) (w.heap.size) 24 #[.int .u64 (k0 : Nat), .int .u64 (k1 : Nat)]) := Lib.hid (hk0.out.alloc _)
  replace hk0 : Hid (Blk (((w.alloc (.cells #[.int .u64 (k0 : Nat), .int .u64 (k1 : Nat)] 24)).alloc (.cells #[.int .u16 (g.src : Int), .int .u16 (g.dst : Int), .int .u32 (g.seq : Int), .int .u32 (g.ack : Int), .int .u8 (g.flags : Int), .slice A1 n1 c1, .slice D m d] 30)).alloc (.cells #[.int .u8 0, .slice none 0 0] 45)) (w.heap.size) 24 #[.int .u64 (k0 : Nat), .int .u64 (k1 : Nat)]) := Lib.hid (hk0.out.alloc _)
  have hk1 : Hid (Blk ((w.alloc (.cells #[.int .u64 (k0 : Nat), .int .u64 (k1 : Nat)] 24)).alloc (.cells #[.int .u16 (g.src : Int), .int .u16 (g.dst : Int), .int .u32 (g.seq : Int), .int .u32 (g.ack : Int), .int .u8 (g.flags : Int), .slice A1 n1 c1, .slice D m d] 30)) (w.heap.size + 1) 30 #[.int .u16 (g.src : Int), .int .u16 (g.dst : Int), .int .u32 (g.seq : Int), .int .u32 (g.ack : Int), .int .u8 (g.flags : Int), .slice A1 n1 c1, .slice D m d]) := Lib.hid ((Blk.new (w.alloc (.cells #[.int .u64 (k0 : Nat), .int .u64 (k1 : Nat)] 24)) 30 #[.int .u16 (g.src : Int), .int .u16 (g.dst : Int), .int .u32 (g.seq : Int), .int .u32 (g.ack : Int), .int .u8 (g.flags : Int), .slice A1 n1 c1, .slice D m d]) |> fun h => by simpa using h)
  replace hk1 : Hid (Blk (((w.alloc (.cells #[.int .u64 (k0 : Nat), .int .u64 (k1 : Nat)] 24)).alloc (.cells #[.int .u16 (g.src : Int), .int .u16 (g.dst : Int), .int .u32 (g.seq : Int), .int .u32 (g.ack : Int), .int .u8 (g.flags : Int), .slice A1 n1 c1, .slice D m d] 30)).alloc (.cells #[.int .u8 0, .slice none 0 0] 45)) (w.heap.size + 1) 30 #[.int .u16 (g.src : Int), .int .u16 (g.dst : Int), .int .u32 (g.seq : Int), .int .u32 (g.ack : Int), .int .u8 (g.flags : Int), .slice A1 n1 c1, .slice D m d]) := Lib.hid (hk1.out.alloc _)
  have hk2 : Hid (Blk (((w.alloc (.cells #[.int .u64 (k0 : Nat), .int .u64 (k1 : Nat)] 24)).alloc (.cells #[.int .u16 (g.src : Int), .int .u16 (g.dst : Int), .int .u32 (g.seq : Int), .int .u32 (g.ack : Int), .int .u8 (g.flags : Int), .slice A1 n1 c1, .slice D m d] 30)).alloc (.cells #[.int .u8 0, .slice none 0 0] 45)) (w.heap.size + 2) 45 #[.int .u8 0, .slice none 0 0]) := Lib.hid ((Blk.new ((w.alloc (.cells #[.int .u64 (k0 : Nat), .int .u64 (k1 : Nat)] 24)).alloc (.cells #[.int .u16 (g.src : Int), .int .u16 (g.dst : Int), .int .u32 (g.seq : Int), .int .u32 (g.ack : Int), .int .u8 (g.flags : Int), .slice A1 n1 c1, .slice D m d] 30)) 45 #[.int .u8 0, .slice none 0 0]) |> fun h => by simpa using h)
  have b1 : Hid (Below w.heap.size w (((w.alloc (.cells #[.int .u64 (k0 : Nat), .int .u64 (k1 : Nat)] 24)).alloc (.cells #[.int .u16 (g.src : Int), .int .u16 (g.dst : Int), .int .u32 (g.seq : Int), .int .u32 (g.ack : Int), .int .u8 (g.flags : Int), .slice A1 n1 c1, .slice D m d] 30)).alloc (.cells #[.int .u8 0, .slice none 0 0] 45))) := Lib.hid ((((Below.refl w.heap.size w).alloc (Nat.le_refl _) (.cells #[.int .u64 (k0 : Nat), .int .u64 (k1 : Nat)] 24)).alloc (by simp <;> omega) (.cells #[.int .u16 (g.src : Int), .int .u16 (g.dst : Int), .int .u32 (g.seq : Int), .int .u32 (g.ack : Int), .int .u8 (g.flags : Int), .slice A1 n1 c1, .slice D m d] 30)).alloc (by simp <;> omega) (.cells #[.int .u8 0, .slice none 0 0] 45))
  have hz : (((w.alloc (.cells #[.int .u64 (k0 : Nat), .int .u64 (k1 : Nat)] 24)).alloc (.cells #[.int .u16 (g.src : Int), .int .u16 (g.dst : Int), .int .u32 (g.seq : Int), .int .u32 (g.ack : Int), .int .u8 (g.flags : Int), .slice A1 n1 c1, .slice D m d] 30)).alloc (.cells #[.int .u8 0, .slice none 0 0] 45)).heap.size = w.heap.size + 3 := by simp
  generalize (((w.alloc (.cells #[.int .u64 (k0 : Nat), .int .u64 (k1 : Nat)] 24)).alloc (.cells #[.int .u16 (g.src : Int), .int .u16 (g.dst : Int), .int .u32 (g.seq : Int), .int .u32 (g.ack : Int), .int .u8 (g.flags : Int), .slice A1 n1 c1, .slice D m d] 30)).alloc (.cells #[.int .u8 0, .slice none 0 0] 45)) = w2 at hk0 hk1 hk2 b1 hz ⊢
  have HZ := Lib.hid hz
  clear hz
  replace HS := Lib.hid (HS.out.into b1.out)
  have hTw := KT.out.lt
  replace KT := Lib.hid (KT.out.below b1.out hTw)
  refine wp_ord [(0, .pure), (1, .read), (2, .read), (3, .pure), (6, .pure), (7, .pure), (8, .pure), (4, .sole), (5, .sole), (9, .sole)] [9] (by kernel_rfl) (by kernel_rfl) (fun QQ hQ wd hwd => ?_); simp only [List.map_cons, List.map_nil, List.getD_cons_zero, List.getD_cons_succ]
  have K0 := Lib.hid (show Blk wd w.heap.size _ _ from by rw [hwd.out]; exact hk0.out.drew)
  have K1 := Lib.hid (show Blk wd (w.heap.size + 1) _ _ from by rw [hwd.out]; exact hk1.out.drew)
  have K2 := Lib.hid (show Blk wd (w.heap.size + 2) _ _ from by rw [hwd.out]; exact hk2.out.drew)
  have KD := Lib.hid (show Blk wd T _ _ from by rw [hwd.out]; exact KT.out.drew)
  have B1 := Lib.hid (show Below w.heap.size w wd from by rw [hwd.out]; exact b1.out.drew)
  have HZ2 := Lib.hid (show wd.heap.size = w.heap.size + 3 from by rw [hwd.out]; exact HZ.out)
  have HSD : Hid (SegV wd _ g) := Lib.hid (by rw [hwd.out]; exact HS.out.into ((Below.refl _ _).drew))
  clear hwd hk0 hk1 hk2 KT b1 HZ HS
  (refine o_pure (v := ?_) (by rfl) (fun w' => ?_) ?_; rotate_left; (focus (go_simp; (try with_reducible rfl))); (try simp only [Act.put, List.setIfInBounds_toArray, List.set_cons_zero, List.set_cons_succ]))
  (refine o_loads _ [.int .u64 (k0 : Nat), .int .u64 (k1 : Nat)] (by rfl) rfl rfl (K0.out.loads 0 _ (by rfl)) (Nat.succ_pos _) (by kernel_rfl) (by kernel_rfl) ?_; simp only [Act.put, List.setIfInBounds_toArray, List.set_cons_zero, List.set_cons_succ])
  (refine o_loads _ [.int .u16 (g.src : Int), .int .u16 (g.dst : Int), .int .u32 (g.seq : Int), .int .u32 (g.ack : Int), .int .u8 (g.flags : Int), .slice A1 n1 c1, .slice D m d] (by rfl) rfl rfl (K1.out.loads 0 _ (by rfl)) (Nat.succ_pos _) (by kernel_rfl) (by kernel_rfl) ?_; simp only [Act.put, List.setIfInBounds_toArray, List.set_cons_zero, List.set_cons_succ])
  (refine o_pure (v := ?_) (by rfl) (fun w' => ?_) ?_; rotate_left; (focus (go_simp; (try with_reducible rfl))); (try simp only [Act.put, List.setIfInBounds_toArray, List.set_cons_zero, List.set_cons_succ]))
  (refine o_pure (v := ?_) (by rfl) (fun w' => ?_) ?_; rotate_left; (focus (go_simp; (try with_reducible rfl))); (try simp only [Act.put, List.setIfInBounds_toArray, List.set_cons_zero, List.set_cons_succ]))
  (refine o_pure (v := .func (.method "Seal") #[.iface 128 (.pointer (some ⟨T, 0, none⟩))] #[]) (by rfl) (fun w' => by kernel_rfl) ?_; simp only [Act.put, List.setIfInBounds_toArray, List.set_cons_zero, List.set_cons_succ])
  (refine o_pure (v := ?_) (by rfl) (fun w' => ?_) ?_; rotate_left; (focus (go_simp; (try with_reducible rfl))); (try simp only [Act.put, List.setIfInBounds_toArray, List.set_cons_zero, List.set_cons_succ]))
  refine o_sole (fun K hK => ?_)
  refine wpList_invoke (v := .iface 128 (.pointer (some ⟨T, 0, none⟩))) (vs := #[]) rfl _ _ _ _ rfl rfl (by simp only [List.map_toArray, List.map_cons, List.map_nil]; (try rfl)) (invData_option (cs := [.bool f, .bool p, .int .u64 (sq : Nat), .int .u64 (ak : Nat), .int .u32 (wn : Nat), .int .u64 (t : Nat)]) KD.out rfl) ((dataOpt_any f p sq ak wn t wd hsq hak hwn HQT.out).mono ?_)
  rintro e w3 ⟨⟨v3, rfl, hN3⟩, hb3⟩
  refine ⟨_, rfl, ?_⟩
  refine wpList_nil ?_
  refine hK _ _ (fun _ => Ext.of hb3) ?_; clear hK K
  obtain ⟨A3, n3, c3, rfl, hc3, hl3, hR3⟩ := hN3.out
  have HS3 := Lib.hid (HSD.out.into hb3)
  have KD3 := Lib.hid (KD.out.below hb3 KD.out.lt)
  have K23 := Lib.hid (K2.out.below hb3 K2.out.lt)
  have B3 := Lib.hid (B1.out.trans (hb3.mono B1.out.size))
  have hz3 := hb3.size
  clear hb3 hN3 K0 K1 K2 KD B1 HSD
  have HCV := Lib.hid (CovV.mk (kd := 3) HS3.out HG.out hR3.out hc3 (by rw [← hl3.out]; exact dataB_len2 ..) (by decide) hd (dataB_byte _ _ _ _ _ _))
  refine o_sole (fun K hK => ?_)
  go_wp2_with fail
  refine (mtag_any k0 k1 _ g A3 n3 c3 3 (dataB f p sq ak wn t) w3 h0 h1 HCV.out).mono ?_
  rw [← HTG.out]
  rintro e w4 ⟨rfl, hb4⟩
  go_wp2_with fail
  refine hK _ _ (fun _ => Ext.of hb4) ?_; clear hK K
  have KD4 := Lib.hid (KD3.out.below hb4 KD3.out.lt)
  have K24 := Lib.hid (K23.out.below hb4 K23.out.lt)
  have B4 := Lib.hid (B3.out.trans (hb4.mono B3.out.size))
  have hz4 := hb4.size
  clear hb4 K23 KD3 B3 HCV hR3 HS3 HTG
  refine o_sole (fun K hK => ?_)
  refine wpList_invoke (v := .iface 128 (.pointer (some ⟨T, 0, none⟩))) (vs := #[.int .u64 (tg : Nat)]) rfl _ _ _ _ rfl rfl (by simp only [List.map_toArray, List.map_cons, List.map_nil]; (try rfl)) (invData_seal T (.int .u64 (tg : Nat)) w4) ((seal_any T 5 tg _ w4 (KD4.out.cell 5) (KD4.out.frozen 5)).mono ?_)
  rintro e w5 ⟨rfl, h5⟩
  refine ⟨_, rfl, ?_⟩
  refine wpList_nil ?_
  have KD5 : Hid (Blk w5 T 38 #[.bool f, .bool p, .int .u64 (sq : Nat), .int .u64 (ak : Nat), .int .u32 (wn : Nat), .int .u64 (tg : Nat)]) := Lib.hid (by rw [h5]; exact KD4.out.set 5 (.int .u64 (tg : Nat)))
  have S5 : Hid (Solo T w4 w5) := Lib.hid (by rw [h5]; exact Solo.refl.setCell 5 _)
  have K25 := Lib.hid (show Blk w5 (w.heap.size + 2) _ _ from (S5.out.2.2 _ (by omega)).trans K24.out)
  have T5 := Lib.hid ((Tou.of (g := T) B4.out (Nat.le_of_lt hTw)).solo S5.out)
  have hz5 : w5.heap.size = w4.heap.size := S5.out.2.1
  clear h5 KD4 K24 B4 S5
  refine hK _ _ (fun h => by cases h) ?_; clear hK K
  refine o_nil (hQ.out _ _ ?_); clear hQ QQ
  have hz2 := HZ2.out
  have h55 : w.heap.size ≤ w5.heap.size := by omega
  clear hz2 hz3 hz4 hz5 HZ2
  go_wp2_with (refine wpList_invoke (v := .iface 128 (.pointer (some ⟨T, 0, none⟩))) (vs := #[]) rfl _ _ _ _ rfl rfl (by simp only [List.map_toArray, List.map_cons, List.map_nil]; (try rfl)) (invData_option (cs := [.bool f, .bool p, .int .u64 (sq : Nat), .int .u64 (ak : Nat), .int .u32 (wn : Nat), .int .u64 (tg : Nat)]) KD5.out rfl) ?_)
  refine (dataOpt_any f p sq ak wn tg w5 hsq hak hwn HQ.out).mono ?_
  rintro e w6 ⟨⟨v6, rfl, hN6⟩, hb6⟩
  refine ⟨_, rfl, ?_⟩
  have K26 := Lib.hid (K25.out.below hb6 K25.out.lt)
  have T6 := Lib.hid (T5.out.grow hb6 (by omega))
  have HN6 := Lib.hid hN6
  have hlt5 : w.heap.size + 2 < w5.heap.size := K25.out.lt
  obtain ⟨A6, c6, rfl, hc6⟩ := hN6.form
  clear hN6 hb6 K25 T5 KD5
  refine stm_store (cs' := #[.int .u8 (3 : Nat), .slice A6 (dataB f p sq ak wn tg).length c6]) K26.out rfl _ _ rfl rfl rfl (by simp) (by kernel_rfl) (by simp [Value.oneCell']) (by simp [setL]) fun w9 hk9 hs => ?_
  have HF := Lib.hid (T6.out.soloAt hs (by omega) (by omega))
  have HNF := Lib.hid ((nats_past HN6.out hlt5 hs).mono h55)
  refine wpList_nil ?_
  go_wp2_with fail
  exact bodyPost_ret (results_agg Try.results61 hk9 (by rfl) (by kernel_rfl) (by kernel_rfl)) rfl ⟨⟨_, rfl, HNF.out⟩, HF.out⟩
set_option maxRecDepth 20000 in
set_option maxHeartbeats 4000000 in
theorem mData_any (k0 k1 : Nat) (sv : Value) (g : Sg) (f p : Bool) (sq ak wn : Nat) (t : Nat) (w : World) (h0 : k0 < 18446744073709551616) (h1 : k1 < 18446744073709551616) (hsv : SegV w sv g) (hg : g.bd) (hd : g.data.length ≤ 10000) (hsq : q64 sq) (hak : q64 ak) (hwn : q32 wn) (ht : q64 t) :
    Calls Try.prog 24 #[.agg #[.int .u64 (k0 : Nat), .int .u64 (k1 : Nat)], sv, .agg #[.bool f, .bool p, .int .u64 (sq : Nat), .int .u64 (ak : Nat), .int .u32 (wn : Nat), .int .u64 (t : Nat)]] w fun e w' => OptPost 3 (dataB f p sq ak wn (tagN k0 k1 g 3 (dataB f p sq ak wn t))) w.heap.size w' e ∧ Below w.heap.size w w' := by
  have HS := Lib.hid hsv
  obtain ⟨tg, htg⟩ : ∃ tg, tg = tagN k0 k1 g 3 (dataB f p sq ak wn t) := ⟨_, rfl⟩
  have HTG := Lib.hid htg
  rw [← htg]
  clear htg
  obtain ⟨A1, n1, c1, D, m, d, lo, rfl, hO, ho, hD, hmd, hdm⟩ := hsv
  clear hO ho hD hdm
  unfold segCs at *
  go_enter Try.func24, Try.ntmps24
  go_wp2_with fail
  have hk0 : Hid (Blk (w.alloc (.cells #[.int .u64 (k0 : Nat), .int .u64 (k1 : Nat)] 24)) (w.heap.size) 24 #[.int .u64 (k0 : Nat), .int .u64 (k1 : Nat)]) := Lib.hid ((Blk.new w 24 #[.int .u64 (k0 : Nat), .int .u64 (k1 : Nat)]))
  replace hk0 : Hid (Blk ((w.alloc (.cells #[.int .u64 (k0 : Nat), .int .u64 (k1 : Nat)] 24)).alloc (.cells #[.int .u16 (g.src : Int), .int .u16 (g.dst : Int), .int .u32 (g.seq : Int), .int .u32 (g.ack : Int), .int .u8 (g.flags : Int), .slice A1 n1 c1, .slice D m d] 30)) (w.heap.size) 24 #[.int .u64 (k0 : Nat), .int .u64 (k1 : Nat)]) := Lib.hid (hk0.out.alloc _)
  replace hk0 : Hid (Blk (((w.alloc (.cells #[.int .u64 (k0 : Nat), .int .u64 (k1 : Nat)] 24)).alloc (.cells #[.int .u16 (g.src : Int), .int .u16 (g.dst : Int), .int .u32 (g.seq : Int), .int .u32 (g.ack : Int), .int .u8 (g.flags : Int), .slice A1 n1 c1, .slice D m d] 30)).alloc (.cells #[.bool f, .bool p, .int .u64 (sq : Nat), .int .u64 (ak : Nat), .int .u32 (wn : Nat), .int .u64 (t : Nat)] 38)) (w.heap.size) 24 #[.int .u64 (k0 : Nat), .int .u64 (k1 : Nat)]) := Lib.hid (hk0.out.alloc _)
  replace hk0 : Hid (Blk ((((w.alloc (.cells #[.int .u64 (k0 : Nat), .int .u64 (k1 : Nat)] 24)).alloc (.cells #[.int .u16 (g.src : Int), .int .u16 (g.dst : Int), .int .u32 (g.seq : Int), .int .u32 (g.ack : Int), .int .u8 (g.flags : Int), .slice A1 n1 c1, .slice D m d] 30)).alloc (.cells #[.bool f, .bool p, .int .u64 (sq : Nat), .int .u64 (ak : Nat), .int .u32 (wn : Nat), .int .u64 (t : Nat)] 38)).alloc (.cells #[.int .u8 0, .slice none 0 0] 45)) (w.heap.size) 24 #[.int .u64 (k0 : Nat), .int .u64 (k1 : Nat)]) := Lib.hid (hk0.out.alloc _)
  have hk1 : Hid (Blk ((w.alloc (.cells #[.int .u64 (k0 : Nat), .int .u64 (k1 : Nat)] 24)).alloc (.cells #[.int .u16 (g.src : Int), .int .u16 (g.dst : Int), .int .u32 (g.seq : Int), .int .u32 (g.ack : Int), .int .u8 (g.flags : Int), .slice A1 n1 c1, .slice D m d] 30)) (w.heap.size + 1) 30 #[.int .u16 (g.src : Int), .int .u16 (g.dst : Int), .int .u32 (g.seq : Int), .int .u32 (g.ack : Int), .int .u8 (g.flags : Int), .slice A1 n1 c1, .slice D m d]) := Lib.hid ((Blk.new (w.alloc (.cells #[.int .u64 (k0 : Nat), .int .u64 (k1 : Nat)] 24)) 30 #[.int .u16 (g.src : Int), .int .u16 (g.dst : Int), .int .u32 (g.seq : Int), .int .u32 (g.ack : Int), .int .u8 (g.flags : Int), .slice A1 n1 c1, .slice D m d]) |> fun h => by simpa using h)
  replace hk1 : Hid (Blk (((w.alloc (.cells #[.int .u64 (k0 : Nat), .int .u64 (k1 : Nat)] 24)).alloc (.cells #[.int .u16 (g.src : Int), .int .u16 (g.dst : Int), .int .u32 (g.seq : Int), .int .u32 (g.ack : Int), .int .u8 (g.flags : Int), .slice A1 n1 c1, .slice D m d] 30)).alloc (.cells #[.bool f, .bool p, .int .u64 (sq : Nat), .int .u64 (ak : Nat), .int .u32 (wn : Nat), .int .u64 (t : Nat)] 38)) (w.heap.size + 1) 30 #[.int .u16 (g.src : Int), .int .u16 (g.dst : Int), .int .u32 (g.seq : Int), .int .u32 (g.ack : Int), .int .u8 (g.flags : Int), .slice A1 n1 c1, .slice D m d]) := Lib.hid (hk1.out.alloc _)
  replace hk1 : Hid (Blk ((((w.alloc (.cells #[.int .u64 (k0 : Nat), .int .u64 (k1 : Nat)] 24)).alloc (.cells #[.int .u16 (g.src : Int), .int .u16 (g.dst : Int), .int .u32 (g.seq : Int), .int .u32 (g.ack : Int), .int .u8 (g.flags : Int), .slice A1 n1 c1, .slice D m d] 30)).alloc (.cells #[.bool f, .bool p, .int .u64 (sq : Nat), .int .u64 (ak : Nat), .int .u32 (wn : Nat), .int .u64 (t : Nat)] 38)).alloc (.cells #[.int .u8 0, .slice none 0 0] 45)) (w.heap.size + 1) 30 #[.int .u16 (g.src : Int), .int .u16 (g.dst : Int), .int .u32 (g.seq : Int), .int .u32 (g.ack : Int), .int .u8 (g.flags : Int), .slice A1 n1 c1, .slice D m d]) := Lib.hid (hk1.out.alloc _)
  have hk2 : Hid (Blk (((w.alloc (.cells #[.int .u64 (k0 : Nat), .int .u64 (k1 : Nat)] 24)).alloc (.cells #[.int .u16 (g.src : Int), .int .u16 (g.dst : Int), .int .u32 (g.seq : Int), .int .u32 (g.ack : Int), .int .u8 (g.flags : Int), .slice A1 n1 c1, .slice D m d] 30)).alloc (.cells #[.bool f, .bool p, .int .u64 (sq : Nat), .int .u64 (ak : Nat), .int .u32 (wn : Nat), .int .u64 (t : Nat)] 38)) (w.heap.size + 2) 38 #[.bool f, .bool p, .int .u64 (sq : Nat), .int .u64 (ak : Nat), .int .u32 (wn : Nat), .int .u64 (t : Nat)]) := Lib.hid ((Blk.new ((w.alloc (.cells #[.int .u64 (k0 : Nat), .int .u64 (k1 : Nat)] 24)).alloc (.cells #[.int .u16 (g.src : Int), .int .u16 (g.dst : Int), .int .u32 (g.seq : Int), .int .u32 (g.ack : Int), .int .u8 (g.flags : Int), .slice A1 n1 c1, .slice D m d] 30)) 38 #[.bool f, .bool p, .int .u64 (sq : Nat), .int .u64 (ak : Nat), .int .u32 (wn : Nat), .int .u64 (t : Nat)]) |> fun h => by simpa using h)
  replace hk2 : Hid (Blk ((((w.alloc (.cells #[.int .u64 (k0 : Nat), .int .u64 (k1 : Nat)] 24)).alloc (.cells #[.int .u16 (g.src : Int), .int .u16 (g.dst : Int), .int .u32 (g.seq : Int), .int .u32 (g.ack : Int), .int .u8 (g.flags : Int), .slice A1 n1 c1, .slice D m d] 30)).alloc (.cells #[.bool f, .bool p, .int .u64 (sq : Nat), .int .u64 (ak : Nat), .int .u32 (wn : Nat), .int .u64 (t : Nat)] 38)).alloc (.cells #[.int .u8 0, .slice none 0 0] 45)) (w.heap.size + 2) 38 #[.bool f, .bool p, .int .u64 (sq : Nat), .int .u64 (ak : Nat), .int .u32 (wn : Nat), .int .u64 (t : Nat)]) := Lib.hid (hk2.out.alloc _)
  have hk3 : Hid (Blk ((((w.alloc (.cells #[.int .u64 (k0 : Nat), .int .u64 (k1 : Nat)] 24)).alloc (.cells #[.int .u16 (g.src : Int), .int .u16 (g.dst : Int), .int .u32 (g.seq : Int), .int .u32 (g.ack : Int), .int .u8 (g.flags : Int), .slice A1 n1 c1, .slice D m d] 30)).alloc (.cells #[.bool f, .bool p, .int .u64 (sq : Nat), .int .u64 (ak : Nat), .int .u32 (wn : Nat), .int .u64 (t : Nat)] 38)).alloc (.cells #[.int .u8 0, .slice none 0 0] 45)) (w.heap.size + 3) 45 #[.int .u8 0, .slice none 0 0]) := Lib.hid ((Blk.new (((w.alloc (.cells #[.int .u64 (k0 : Nat), .int .u64 (k1 : Nat)] 24)).alloc (.cells #[.int .u16 (g.src : Int), .int .u16 (g.dst : Int), .int .u32 (g.seq : Int), .int .u32 (g.ack : Int), .int .u8 (g.flags : Int), .slice A1 n1 c1, .slice D m d] 30)).alloc (.cells #[.bool f, .bool p, .int .u64 (sq : Nat), .int .u64 (ak : Nat), .int .u32 (wn : Nat), .int .u64 (t : Nat)] 38)) 45 #[.int .u8 0, .slice none 0 0]) |> fun h => by simpa using h)
  have b1 : Hid (Below w.heap.size w ((((w.alloc (.cells #[.int .u64 (k0 : Nat), .int .u64 (k1 : Nat)] 24)).alloc (.cells #[.int .u16 (g.src : Int), .int .u16 (g.dst : Int), .int .u32 (g.seq : Int), .int .u32 (g.ack : Int), .int .u8 (g.flags : Int), .slice A1 n1 c1, .slice D m d] 30)).alloc (.cells #[.bool f, .bool p, .int .u64 (sq : Nat), .int .u64 (ak : Nat), .int .u32 (wn : Nat), .int .u64 (t : Nat)] 38)).alloc (.cells #[.int .u8 0, .slice none 0 0] 45))) := Lib.hid (((((Below.refl w.heap.size w).alloc (Nat.le_refl _) (.cells #[.int .u64 (k0 : Nat), .int .u64 (k1 : Nat)] 24)).alloc (by simp <;> omega) (.cells #[.int .u16 (g.src : Int), .int .u16 (g.dst : Int), .int .u32 (g.seq : Int), .int .u32 (g.ack : Int), .int .u8 (g.flags : Int), .slice A1 n1 c1, .slice D m d] 30)).alloc (by simp <;> omega) (.cells #[.bool f, .bool p, .int .u64 (sq : Nat), .int .u64 (ak : Nat), .int .u32 (wn : Nat), .int .u64 (t : Nat)] 38)).alloc (by simp <;> omega) (.cells #[.int .u8 0, .slice none 0 0] 45))
  have hz : ((((w.alloc (.cells #[.int .u64 (k0 : Nat), .int .u64 (k1 : Nat)] 24)).alloc (.cells #[.int .u16 (g.src : Int), .int .u16 (g.dst : Int), .int .u32 (g.seq : Int), .int .u32 (g.ack : Int), .int .u8 (g.flags : Int), .slice A1 n1 c1, .slice D m d] 30)).alloc (.cells #[.bool f, .bool p, .int .u64 (sq : Nat), .int .u64 (ak : Nat), .int .u32 (wn : Nat), .int .u64 (t : Nat)] 38)).alloc (.cells #[.int .u8 0, .slice none 0 0] 45)).heap.size = w.heap.size + 4 := by simp
  generalize ((((w.alloc (.cells #[.int .u64 (k0 : Nat), .int .u64 (k1 : Nat)] 24)).alloc (.cells #[.int .u16 (g.src : Int), .int .u16 (g.dst : Int), .int .u32 (g.seq : Int), .int .u32 (g.ack : Int), .int .u8 (g.flags : Int), .slice A1 n1 c1, .slice D m d] 30)).alloc (.cells #[.bool f, .bool p, .int .u64 (sq : Nat), .int .u64 (ak : Nat), .int .u32 (wn : Nat), .int .u64 (t : Nat)] 38)).alloc (.cells #[.int .u8 0, .slice none 0 0] 45)) = w2 at hk0 hk1 hk2 hk3 b1 hz ⊢
  have HZ := Lib.hid hz
  clear hz
  replace HS := Lib.hid (HS.out.into b1.out)
  refine (sealData_any k0 k1 (w.heap.size + 2) _ g f p sq ak wn t w2 h0 h1 HS.out hg hd hk2.out hsq hak hwn ht).mono ?_
  rw [← HTG.out]
  rintro e w3 ⟨⟨v3, rfl, hN3⟩, hT3⟩
  have K3 := Lib.hid (hT3.blk hk3.out (by omega))
  have B3 := Lib.hid (b1.out.trans (hT3.1.mono (show w.heap.size ≤ w.heap.size + 2 by omega)))
  have HN3 := Lib.hid hN3
  obtain ⟨A3, c3, rfl, hc3⟩ := hN3.form
  have hlt : w.heap.size + 3 < w2.heap.size := by have := HZ.out; omega
  clear hN3 hT3 hk0 hk1 hk2 hk3 b1 HS
  go_wp2_with (refine stm_store (cs' := #[.int .u8 (3 : Nat), .slice A3 (dataB f p sq ak wn tg).length c3]) K3.out rfl _ _ rfl rfl rfl (by simp) (by kernel_rfl) (by simp [Value.oneCell']) (by simp [setL]) ?_)
  intro w9 hk9 hs
  go_wp2_with fail
  exact bodyPost_ret (results_agg Try.results24 hk9 (by rfl) (by kernel_rfl) (by kernel_rfl)) rfl ⟨⟨_, rfl, (nats_past HN3.out hlt hs).mono (show w.heap.size ≤ w2.heap.size by omega)⟩, B3.out.trans (hs.1.mono (by omega))⟩
set_option maxRecDepth 20000 in
set_option maxHeartbeats 4000000 in
theorem sealWord_any (k0 k1 T : Nat) (sv : Value) (g : Sg) (kd nm id pa : Nat) (bk : Bool) (t : Nat) (w : World) (h0 : k0 < 18446744073709551616) (h1 : k1 < 18446744073709551616) (hsv : SegV w sv g) (hg : g.bd) (hd : g.data.length ≤ 10000) (hT : Blk w T 40 #[.int .u8 (kd : Nat), .int .u32 (nm : Nat), .int .u8 (id : Nat), .int .u8 (pa : Nat), .bool bk, .int .u64 (t : Nat)]) (hkd : kd < 256) (hnm : q32 nm) (hid : id < 256) (hpa : pa < 256) (ht : q64 t) :
    Calls Try.prog 61 #[.agg #[.int .u64 (k0 : Nat), .int .u64 (k1 : Nat)], sv, .iface 129 (.pointer (some ⟨T, 0, none⟩))] w fun e w' => OptPost kd (wordB nm id pa bk (tagN k0 k1 g kd (wordB nm id pa bk t))) w.heap.size w' e ∧ Tou T w w' := by
  obtain ⟨tg, htg⟩ : ∃ tg, tg = tagN k0 k1 g kd (wordB nm id pa bk t) := ⟨_, rfl⟩
  have HTG := Lib.hid htg
  have ht64 : q64 tg := by rw [htg]; exact tagN_lt k0 k1 g _ _ h0 h1
  have HQ := Lib.hid ht64
  have HQT := Lib.hid ht
  have HS := Lib.hid hsv
  have HG := Lib.hid hg
  rw [← htg]
  clear htg ht64 ht hg
  obtain ⟨A1, n1, c1, D, m, d, lo, rfl, hO, ho, hD, hmd, hdm⟩ := hsv
  clear hO ho hD hdm
  unfold segCs at *
  have KT := Lib.hid hT
  clear hT
  go_enter Try.func61, Try.ntmps61
  go_upto_region 1 with fail
  have hk0 : Hid (Blk (w.alloc (.cells #[.int .u64 (k0 : Nat), .int .u64 (k1 : Nat)] 24)) (w.heap.size) 24 #[.int .u64 (k0 : Nat), .int .u64 (k1 : Nat)]) := Lib.hid ((Blk.new w 24 #[.int .u64 (k0 : Nat), .int .u64 (k1 : Nat)]))
  replace hk0 : Hid (Blk ((w.alloc (.cells #[.int .u64 (k0 : Nat), .int .u64 (k1 : Nat)] 24)).alloc (.cells #[.int .u16 (g.src : Int), .int .u16 (g.dst : Int), .int .u32 (g.seq : Int), .int .u32 (g.ack : Int), .int .u8 (g.flags : Int), .slice A1 n1 c1, .slice D m d] 30)) (w.heap.size) 24 #[.int .u64 (k0 : Nat), .int .u64 (k1 : Nat)]) := Lib.hid (hk0.out.alloc _)
  replace hk0 : Hid (Blk (((w.alloc (.cells #[.int .u64 (k0 : Nat), .int .u64 (k1 : Nat)] 24)).alloc (.cells #[.int .u16 (g.src : Int), .int .u16 (g.dst : Int), .int .u32 (g.seq : Int), .int .u32 (g.ack : Int), .int .u8 (g.flags : Int), .slice A1 n1 c1, .slice D m d] 30)).alloc (.cells #[.int .u8 0, .slice none 0 0] 45)) (w.heap.size) 24 #[.int .u64 (k0 : Nat), .int .u64 (k1 : Nat)]) := Lib.hid (hk0.out.alloc _)
  have hk1 : Hid (Blk ((w.alloc (.cells #[.int .u64 (k0 : Nat), .int .u64 (k1 : Nat)] 24)).alloc (.cells #[.int .u16 (g.src : Int), .int .u16 (g.dst : Int), .int .u32 (g.seq : Int), .int .u32 (g.ack : Int), .int .u8 (g.flags : Int), .slice A1 n1 c1, .slice D m d] 30)) (w.heap.size + 1) 30 #[.int .u16 (g.src : Int), .int .u16 (g.dst : Int), .int .u32 (g.seq : Int), .int .u32 (g.ack : Int), .int .u8 (g.flags : Int), .slice A1 n1 c1, .slice D m d]) := Lib.hid ((Blk.new (w.alloc (.cells #[.int .u64 (k0 : Nat), .int .u64 (k1 : Nat)] 24)) 30 #[.int .u16 (g.src : Int), .int .u16 (g.dst : Int), .int .u32 (g.seq : Int), .int .u32 (g.ack : Int), .int .u8 (g.flags : Int), .slice A1 n1 c1, .slice D m d]) |> fun h => by simpa using h)
  replace hk1 : Hid (Blk (((w.alloc (.cells #[.int .u64 (k0 : Nat), .int .u64 (k1 : Nat)] 24)).alloc (.cells #[.int .u16 (g.src : Int), .int .u16 (g.dst : Int), .int .u32 (g.seq : Int), .int .u32 (g.ack : Int), .int .u8 (g.flags : Int), .slice A1 n1 c1, .slice D m d] 30)).alloc (.cells #[.int .u8 0, .slice none 0 0] 45)) (w.heap.size + 1) 30 #[.int .u16 (g.src : Int), .int .u16 (g.dst : Int), .int .u32 (g.seq : Int), .int .u32 (g.ack : Int), .int .u8 (g.flags : Int), .slice A1 n1 c1, .slice D m d]) := Lib.hid (hk1.out.alloc _)
  have hk2 : Hid (Blk (((w.alloc (.cells #[.int .u64 (k0 : Nat), .int .u64 (k1 : Nat)] 24)).alloc (.cells #[.int .u16 (g.src : Int), .int .u16 (g.dst : Int), .int .u32 (g.seq : Int), .int .u32 (g.ack : Int), .int .u8 (g.flags : Int), .slice A1 n1 c1, .slice D m d] 30)).alloc (.cells #[.int .u8 0, .slice none 0 0] 45)) (w.heap.size + 2) 45 #[.int .u8 0, .slice none 0 0]) := Lib.hid ((Blk.new ((w.alloc (.cells #[.int .u64 (k0 : Nat), .int .u64 (k1 : Nat)] 24)).alloc (.cells #[.int .u16 (g.src : Int), .int .u16 (g.dst : Int), .int .u32 (g.seq : Int), .int .u32 (g.ack : Int), .int .u8 (g.flags : Int), .slice A1 n1 c1, .slice D m d] 30)) 45 #[.int .u8 0, .slice none 0 0]) |> fun h => by simpa using h)
  have b1 : Hid (Below w.heap.size w (((w.alloc (.cells #[.int .u64 (k0 : Nat), .int .u64 (k1 : Nat)] 24)).alloc (.cells #[.int .u16 (g.src : Int), .int .u16 (g.dst : Int), .int .u32 (g.seq : Int), .int .u32 (g.ack : Int), .int .u8 (g.flags : Int), .slice A1 n1 c1, .slice D m d] 30)).alloc (.cells #[.int .u8 0, .slice none 0 0] 45))) := Lib.hid ((((Below.refl w.heap.size w).alloc (Nat.le_refl _) (.cells #[.int .u64 (k0 : Nat), .int .u64 (k1 : Nat)] 24)).alloc (by simp <;> omega) (.cells #[.int .u16 (g.src : Int), .int .u16 (g.dst : Int), .int .u32 (g.seq : Int), .int .u32 (g.ack : Int), .int .u8 (g.flags : Int), .slice A1 n1 c1, .slice D m d] 30)).alloc (by simp <;> omega) (.cells #[.int .u8 0, .slice none 0 0] 45))
  have hz : (((w.alloc (.cells #[.int .u64 (k0 : Nat), .int .u64 (k1 : Nat)] 24)).alloc (.cells #[.int .u16 (g.src : Int), .int .u16 (g.dst : Int), .int .u32 (g.seq : Int), .int .u32 (g.ack : Int), .int .u8 (g.flags : Int), .slice A1 n1 c1, .slice D m d] 30)).alloc (.cells #[.int .u8 0, .slice none 0 0] 45)).heap.size = w.heap.size + 3 := by simp
  generalize (((w.alloc (.cells #[.int .u64 (k0 : Nat), .int .u64 (k1 : Nat)] 24)).alloc (.cells #[.int .u16 (g.src : Int), .int .u16 (g.dst : Int), .int .u32 (g.seq : Int), .int .u32 (g.ack : Int), .int .u8 (g.flags : Int), .slice A1 n1 c1, .slice D m d] 30)).alloc (.cells #[.int .u8 0, .slice none 0 0] 45)) = w2 at hk0 hk1 hk2 b1 hz ⊢
  have HZ := Lib.hid hz
  clear hz
  replace HS := Lib.hid (HS.out.into b1.out)
  have hTw := KT.out.lt
  replace KT := Lib.hid (KT.out.below b1.out hTw)
  refine wp_ord [(0, .pure), (1, .read), (2, .read), (3, .pure), (6, .pure), (7, .pure), (8, .pure), (4, .sole), (5, .sole), (9, .sole)] [9] (by kernel_rfl) (by kernel_rfl) (fun QQ hQ wd hwd => ?_); simp only [List.map_cons, List.map_nil, List.getD_cons_zero, List.getD_cons_succ]
  have K0 := Lib.hid (show Blk wd w.heap.size _ _ from by rw [hwd.out]; exact hk0.out.drew)
  have K1 := Lib.hid (show Blk wd (w.heap.size + 1) _ _ from by rw [hwd.out]; exact hk1.out.drew)
  have K2 := Lib.hid (show Blk wd (w.heap.size + 2) _ _ from by rw [hwd.out]; exact hk2.out.drew)
  have KD := Lib.hid (show Blk wd T _ _ from by rw [hwd.out]; exact KT.out.drew)
  have B1 := Lib.hid (show Below w.heap.size w wd from by rw [hwd.out]; exact b1.out.drew)
  have HZ2 := Lib.hid (show wd.heap.size = w.heap.size + 3 from by rw [hwd.out]; exact HZ.out)
  have HSD : Hid (SegV wd _ g) := Lib.hid (by rw [hwd.out]; exact HS.out.into ((Below.refl _ _).drew))
  clear hwd hk0 hk1 hk2 KT b1 HZ HS
  (refine o_pure (v := ?_) (by rfl) (fun w' => ?_) ?_; rotate_left; (focus (go_simp; (try with_reducible rfl))); (try simp only [Act.put, List.setIfInBounds_toArray, List.set_cons_zero, List.set_cons_succ]))
  (refine o_loads _ [.int .u64 (k0 : Nat), .int .u64 (k1 : Nat)] (by rfl) rfl rfl (K0.out.loads 0 _ (by rfl)) (Nat.succ_pos _) (by kernel_rfl) (by kernel_rfl) ?_; simp only [Act.put, List.setIfInBounds_toArray, List.set_cons_zero, List.set_cons_succ])
  (refine o_loads _ [.int .u16 (g.src : Int), .int .u16 (g.dst : Int), .int .u32 (g.seq : Int), .int .u32 (g.ack : Int), .int .u8 (g.flags : Int), .slice A1 n1 c1, .slice D m d] (by rfl) rfl rfl (K1.out.loads 0 _ (by rfl)) (Nat.succ_pos _) (by kernel_rfl) (by kernel_rfl) ?_; simp only [Act.put, List.setIfInBounds_toArray, List.set_cons_zero, List.set_cons_succ])
  (refine o_pure (v := ?_) (by rfl) (fun w' => ?_) ?_; rotate_left; (focus (go_simp; (try with_reducible rfl))); (try simp only [Act.put, List.setIfInBounds_toArray, List.set_cons_zero, List.set_cons_succ]))
  (refine o_pure (v := ?_) (by rfl) (fun w' => ?_) ?_; rotate_left; (focus (go_simp; (try with_reducible rfl))); (try simp only [Act.put, List.setIfInBounds_toArray, List.set_cons_zero, List.set_cons_succ]))
  (refine o_pure (v := .func (.method "Seal") #[.iface 129 (.pointer (some ⟨T, 0, none⟩))] #[]) (by rfl) (fun w' => by kernel_rfl) ?_; simp only [Act.put, List.setIfInBounds_toArray, List.set_cons_zero, List.set_cons_succ])
  (refine o_pure (v := ?_) (by rfl) (fun w' => ?_) ?_; rotate_left; (focus (go_simp; (try with_reducible rfl))); (try simp only [Act.put, List.setIfInBounds_toArray, List.set_cons_zero, List.set_cons_succ]))
  refine o_sole (fun K hK => ?_)
  refine wpList_invoke (v := .iface 129 (.pointer (some ⟨T, 0, none⟩))) (vs := #[]) rfl _ _ _ _ rfl rfl (by simp only [List.map_toArray, List.map_cons, List.map_nil]; (try rfl)) (invWord_option (cs := [.int .u8 (kd : Nat), .int .u32 (nm : Nat), .int .u8 (id : Nat), .int .u8 (pa : Nat), .bool bk, .int .u64 (t : Nat)]) KD.out rfl) ((wordOpt_any kd nm id pa t bk wd hnm hid hpa HQT.out).mono ?_)
  rintro e w3 ⟨⟨v3, rfl, hN3⟩, hb3⟩
  refine ⟨_, rfl, ?_⟩
  refine wpList_nil ?_
  refine hK _ _ (fun _ => Ext.of hb3) ?_; clear hK K
  obtain ⟨A3, n3, c3, rfl, hc3, hl3, hR3⟩ := hN3.out
  have HS3 := Lib.hid (HSD.out.into hb3)
  have KD3 := Lib.hid (KD.out.below hb3 KD.out.lt)
  have K23 := Lib.hid (K2.out.below hb3 K2.out.lt)
  have B3 := Lib.hid (B1.out.trans (hb3.mono B1.out.size))
  have hz3 := hb3.size
  clear hb3 hN3 K0 K1 K2 KD B1 HSD
  have HCV := Lib.hid (CovV.mk (kd := kd) HS3.out HG.out hR3.out hc3 (by rw [← hl3.out]; exact wordB_len ..) hkd hd (fun x hx => wordB_byte hid hpa x hx))
  refine o_sole (fun K hK => ?_)
  go_wp2_with fail
  refine (mtag_any k0 k1 _ g A3 n3 c3 kd (wordB nm id pa bk t) w3 h0 h1 HCV.out).mono ?_
  rw [← HTG.out]
  rintro e w4 ⟨rfl, hb4⟩
  go_wp2_with fail
  refine hK _ _ (fun _ => Ext.of hb4) ?_; clear hK K
  have KD4 := Lib.hid (KD3.out.below hb4 KD3.out.lt)
  have K24 := Lib.hid (K23.out.below hb4 K23.out.lt)
  have B4 := Lib.hid (B3.out.trans (hb4.mono B3.out.size))
  have hz4 := hb4.size
  clear hb4 K23 KD3 B3 HCV hR3 HS3 HTG
  refine o_sole (fun K hK => ?_)
  refine wpList_invoke (v := .iface 129 (.pointer (some ⟨T, 0, none⟩))) (vs := #[.int .u64 (tg : Nat)]) rfl _ _ _ _ rfl rfl (by simp only [List.map_toArray, List.map_cons, List.map_nil]; (try rfl)) (invWord_seal T (.int .u64 (tg : Nat)) w4) ((seal_any T 5 tg _ w4 (KD4.out.cell 5) (KD4.out.frozen 5)).mono ?_)
  rintro e w5 ⟨rfl, h5⟩
  refine ⟨_, rfl, ?_⟩
  refine wpList_nil ?_
  have KD5 : Hid (Blk w5 T 40 #[.int .u8 (kd : Nat), .int .u32 (nm : Nat), .int .u8 (id : Nat), .int .u8 (pa : Nat), .bool bk, .int .u64 (tg : Nat)]) := Lib.hid (by rw [h5]; exact KD4.out.set 5 (.int .u64 (tg : Nat)))
  have S5 : Hid (Solo T w4 w5) := Lib.hid (by rw [h5]; exact Solo.refl.setCell 5 _)
  have K25 := Lib.hid (show Blk w5 (w.heap.size + 2) _ _ from (S5.out.2.2 _ (by omega)).trans K24.out)
  have T5 := Lib.hid ((Tou.of (g := T) B4.out (Nat.le_of_lt hTw)).solo S5.out)
  have hz5 : w5.heap.size = w4.heap.size := S5.out.2.1
  clear h5 KD4 K24 B4 S5
  refine hK _ _ (fun h => by cases h) ?_; clear hK K
  refine o_nil (hQ.out _ _ ?_); clear hQ QQ
  have hz2 := HZ2.out
  have h55 : w.heap.size ≤ w5.heap.size := by omega
  clear hz2 hz3 hz4 hz5 HZ2
  go_wp2_with (refine wpList_invoke (v := .iface 129 (.pointer (some ⟨T, 0, none⟩))) (vs := #[]) rfl _ _ _ _ rfl rfl (by simp only [List.map_toArray, List.map_cons, List.map_nil]; (try rfl)) (invWord_option (cs := [.int .u8 (kd : Nat), .int .u32 (nm : Nat), .int .u8 (id : Nat), .int .u8 (pa : Nat), .bool bk, .int .u64 (tg : Nat)]) KD5.out rfl) ?_)
  refine (wordOpt_any kd nm id pa tg bk w5 hnm hid hpa HQ.out).mono ?_
  rintro e w6 ⟨⟨v6, rfl, hN6⟩, hb6⟩
  refine ⟨_, rfl, ?_⟩
  have K26 := Lib.hid (K25.out.below hb6 K25.out.lt)
  have T6 := Lib.hid (T5.out.grow hb6 (by omega))
  have HN6 := Lib.hid hN6
  have hlt5 : w.heap.size + 2 < w5.heap.size := K25.out.lt
  obtain ⟨A6, c6, rfl, hc6⟩ := hN6.form
  clear hN6 hb6 K25 T5 KD5
  refine stm_store (cs' := #[.int .u8 (kd : Nat), .slice A6 (wordB nm id pa bk tg).length c6]) K26.out rfl _ _ rfl rfl rfl (by simp) (by kernel_rfl) (by simp [Value.oneCell']) (by simp [setL]) fun w9 hk9 hs => ?_
  have HF := Lib.hid (T6.out.soloAt hs (by omega) (by omega))
  have HNF := Lib.hid ((nats_past HN6.out hlt5 hs).mono h55)
  refine wpList_nil ?_
  go_wp2_with fail
  exact bodyPost_ret (results_agg Try.results61 hk9 (by rfl) (by kernel_rfl) (by kernel_rfl)) rfl ⟨⟨_, rfl, HNF.out⟩, HF.out⟩
set_option maxRecDepth 20000 in
set_option maxHeartbeats 4000000 in
theorem mWord_any (k0 k1 : Nat) (sv : Value) (g : Sg) (kd nm id pa : Nat) (bk : Bool) (t : Nat) (w : World) (h0 : k0 < 18446744073709551616) (h1 : k1 < 18446744073709551616) (hsv : SegV w sv g) (hg : g.bd) (hd : g.data.length ≤ 10000) (hkd : kd < 256) (hnm : q32 nm) (hid : id < 256) (hpa : pa < 256) (ht : q64 t) :
    Calls Try.prog 25 #[.agg #[.int .u64 (k0 : Nat), .int .u64 (k1 : Nat)], sv, .agg #[.int .u8 (kd : Nat), .int .u32 (nm : Nat), .int .u8 (id : Nat), .int .u8 (pa : Nat), .bool bk, .int .u64 (t : Nat)]] w fun e w' => OptPost kd (wordB nm id pa bk (tagN k0 k1 g kd (wordB nm id pa bk t))) w.heap.size w' e ∧ Below w.heap.size w w' := by
  have HS := Lib.hid hsv
  obtain ⟨tg, htg⟩ : ∃ tg, tg = tagN k0 k1 g kd (wordB nm id pa bk t) := ⟨_, rfl⟩
  have HTG := Lib.hid htg
  rw [← htg]
  clear htg
  obtain ⟨A1, n1, c1, D, m, d, lo, rfl, hO, ho, hD, hmd, hdm⟩ := hsv
  clear hO ho hD hdm
  unfold segCs at *
  go_enter Try.func25, Try.ntmps25
  go_wp2_with fail
  have hk0 : Hid (Blk (w.alloc (.cells #[.int .u64 (k0 : Nat), .int .u64 (k1 : Nat)] 24)) (w.heap.size) 24 #[.int .u64 (k0 : Nat), .int .u64 (k1 : Nat)]) := Lib.hid ((Blk.new w 24 #[.int .u64 (k0 : Nat), .int .u64 (k1 : Nat)]))
  replace hk0 : Hid (Blk ((w.alloc (.cells #[.int .u64 (k0 : Nat), .int .u64 (k1 : Nat)] 24)).alloc (.cells #[.int .u16 (g.src : Int), .int .u16 (g.dst : Int), .int .u32 (g.seq : Int), .int .u32 (g.ack : Int), .int .u8 (g.flags : Int), .slice A1 n1 c1, .slice D m d] 30)) (w.heap.size) 24 #[.int .u64 (k0 : Nat), .int .u64 (k1 : Nat)]) := Lib.hid (hk0.out.alloc _)
  replace hk0 : Hid (Blk (((w.alloc (.cells #[.int .u64 (k0 : Nat), .int .u64 (k1 : Nat)] 24)).alloc (.cells #[.int .u16 (g.src : Int), .int .u16 (g.dst : Int), .int .u32 (g.seq : Int), .int .u32 (g.ack : Int), .int .u8 (g.flags : Int), .slice A1 n1 c1, .slice D m d] 30)).alloc (.cells #[.int .u8 (kd : Nat), .int .u32 (nm : Nat), .int .u8 (id : Nat), .int .u8 (pa : Nat), .bool bk, .int .u64 (t : Nat)] 40)) (w.heap.size) 24 #[.int .u64 (k0 : Nat), .int .u64 (k1 : Nat)]) := Lib.hid (hk0.out.alloc _)
  replace hk0 : Hid (Blk ((((w.alloc (.cells #[.int .u64 (k0 : Nat), .int .u64 (k1 : Nat)] 24)).alloc (.cells #[.int .u16 (g.src : Int), .int .u16 (g.dst : Int), .int .u32 (g.seq : Int), .int .u32 (g.ack : Int), .int .u8 (g.flags : Int), .slice A1 n1 c1, .slice D m d] 30)).alloc (.cells #[.int .u8 (kd : Nat), .int .u32 (nm : Nat), .int .u8 (id : Nat), .int .u8 (pa : Nat), .bool bk, .int .u64 (t : Nat)] 40)).alloc (.cells #[.int .u8 0, .slice none 0 0] 45)) (w.heap.size) 24 #[.int .u64 (k0 : Nat), .int .u64 (k1 : Nat)]) := Lib.hid (hk0.out.alloc _)
  have hk1 : Hid (Blk ((w.alloc (.cells #[.int .u64 (k0 : Nat), .int .u64 (k1 : Nat)] 24)).alloc (.cells #[.int .u16 (g.src : Int), .int .u16 (g.dst : Int), .int .u32 (g.seq : Int), .int .u32 (g.ack : Int), .int .u8 (g.flags : Int), .slice A1 n1 c1, .slice D m d] 30)) (w.heap.size + 1) 30 #[.int .u16 (g.src : Int), .int .u16 (g.dst : Int), .int .u32 (g.seq : Int), .int .u32 (g.ack : Int), .int .u8 (g.flags : Int), .slice A1 n1 c1, .slice D m d]) := Lib.hid ((Blk.new (w.alloc (.cells #[.int .u64 (k0 : Nat), .int .u64 (k1 : Nat)] 24)) 30 #[.int .u16 (g.src : Int), .int .u16 (g.dst : Int), .int .u32 (g.seq : Int), .int .u32 (g.ack : Int), .int .u8 (g.flags : Int), .slice A1 n1 c1, .slice D m d]) |> fun h => by simpa using h)
  replace hk1 : Hid (Blk (((w.alloc (.cells #[.int .u64 (k0 : Nat), .int .u64 (k1 : Nat)] 24)).alloc (.cells #[.int .u16 (g.src : Int), .int .u16 (g.dst : Int), .int .u32 (g.seq : Int), .int .u32 (g.ack : Int), .int .u8 (g.flags : Int), .slice A1 n1 c1, .slice D m d] 30)).alloc (.cells #[.int .u8 (kd : Nat), .int .u32 (nm : Nat), .int .u8 (id : Nat), .int .u8 (pa : Nat), .bool bk, .int .u64 (t : Nat)] 40)) (w.heap.size + 1) 30 #[.int .u16 (g.src : Int), .int .u16 (g.dst : Int), .int .u32 (g.seq : Int), .int .u32 (g.ack : Int), .int .u8 (g.flags : Int), .slice A1 n1 c1, .slice D m d]) := Lib.hid (hk1.out.alloc _)
  replace hk1 : Hid (Blk ((((w.alloc (.cells #[.int .u64 (k0 : Nat), .int .u64 (k1 : Nat)] 24)).alloc (.cells #[.int .u16 (g.src : Int), .int .u16 (g.dst : Int), .int .u32 (g.seq : Int), .int .u32 (g.ack : Int), .int .u8 (g.flags : Int), .slice A1 n1 c1, .slice D m d] 30)).alloc (.cells #[.int .u8 (kd : Nat), .int .u32 (nm : Nat), .int .u8 (id : Nat), .int .u8 (pa : Nat), .bool bk, .int .u64 (t : Nat)] 40)).alloc (.cells #[.int .u8 0, .slice none 0 0] 45)) (w.heap.size + 1) 30 #[.int .u16 (g.src : Int), .int .u16 (g.dst : Int), .int .u32 (g.seq : Int), .int .u32 (g.ack : Int), .int .u8 (g.flags : Int), .slice A1 n1 c1, .slice D m d]) := Lib.hid (hk1.out.alloc _)
  have hk2 : Hid (Blk (((w.alloc (.cells #[.int .u64 (k0 : Nat), .int .u64 (k1 : Nat)] 24)).alloc (.cells #[.int .u16 (g.src : Int), .int .u16 (g.dst : Int), .int .u32 (g.seq : Int), .int .u32 (g.ack : Int), .int .u8 (g.flags : Int), .slice A1 n1 c1, .slice D m d] 30)).alloc (.cells #[.int .u8 (kd : Nat), .int .u32 (nm : Nat), .int .u8 (id : Nat), .int .u8 (pa : Nat), .bool bk, .int .u64 (t : Nat)] 40)) (w.heap.size + 2) 40 #[.int .u8 (kd : Nat), .int .u32 (nm : Nat), .int .u8 (id : Nat), .int .u8 (pa : Nat), .bool bk, .int .u64 (t : Nat)]) := Lib.hid ((Blk.new ((w.alloc (.cells #[.int .u64 (k0 : Nat), .int .u64 (k1 : Nat)] 24)).alloc (.cells #[.int .u16 (g.src : Int), .int .u16 (g.dst : Int), .int .u32 (g.seq : Int), .int .u32 (g.ack : Int), .int .u8 (g.flags : Int), .slice A1 n1 c1, .slice D m d] 30)) 40 #[.int .u8 (kd : Nat), .int .u32 (nm : Nat), .int .u8 (id : Nat), .int .u8 (pa : Nat), .bool bk, .int .u64 (t : Nat)]) |> fun h => by simpa using h)
  replace hk2 : Hid (Blk ((((w.alloc (.cells #[.int .u64 (k0 : Nat), .int .u64 (k1 : Nat)] 24)).alloc (.cells #[.int .u16 (g.src : Int), .int .u16 (g.dst : Int), .int .u32 (g.seq : Int), .int .u32 (g.ack : Int), .int .u8 (g.flags : Int), .slice A1 n1 c1, .slice D m d] 30)).alloc (.cells #[.int .u8 (kd : Nat), .int .u32 (nm : Nat), .int .u8 (id : Nat), .int .u8 (pa : Nat), .bool bk, .int .u64 (t : Nat)] 40)).alloc (.cells #[.int .u8 0, .slice none 0 0] 45)) (w.heap.size + 2) 40 #[.int .u8 (kd : Nat), .int .u32 (nm : Nat), .int .u8 (id : Nat), .int .u8 (pa : Nat), .bool bk, .int .u64 (t : Nat)]) := Lib.hid (hk2.out.alloc _)
  have hk3 : Hid (Blk ((((w.alloc (.cells #[.int .u64 (k0 : Nat), .int .u64 (k1 : Nat)] 24)).alloc (.cells #[.int .u16 (g.src : Int), .int .u16 (g.dst : Int), .int .u32 (g.seq : Int), .int .u32 (g.ack : Int), .int .u8 (g.flags : Int), .slice A1 n1 c1, .slice D m d] 30)).alloc (.cells #[.int .u8 (kd : Nat), .int .u32 (nm : Nat), .int .u8 (id : Nat), .int .u8 (pa : Nat), .bool bk, .int .u64 (t : Nat)] 40)).alloc (.cells #[.int .u8 0, .slice none 0 0] 45)) (w.heap.size + 3) 45 #[.int .u8 0, .slice none 0 0]) := Lib.hid ((Blk.new (((w.alloc (.cells #[.int .u64 (k0 : Nat), .int .u64 (k1 : Nat)] 24)).alloc (.cells #[.int .u16 (g.src : Int), .int .u16 (g.dst : Int), .int .u32 (g.seq : Int), .int .u32 (g.ack : Int), .int .u8 (g.flags : Int), .slice A1 n1 c1, .slice D m d] 30)).alloc (.cells #[.int .u8 (kd : Nat), .int .u32 (nm : Nat), .int .u8 (id : Nat), .int .u8 (pa : Nat), .bool bk, .int .u64 (t : Nat)] 40)) 45 #[.int .u8 0, .slice none 0 0]) |> fun h => by simpa using h)
  have b1 : Hid (Below w.heap.size w ((((w.alloc (.cells #[.int .u64 (k0 : Nat), .int .u64 (k1 : Nat)] 24)).alloc (.cells #[.int .u16 (g.src : Int), .int .u16 (g.dst : Int), .int .u32 (g.seq : Int), .int .u32 (g.ack : Int), .int .u8 (g.flags : Int), .slice A1 n1 c1, .slice D m d] 30)).alloc (.cells #[.int .u8 (kd : Nat), .int .u32 (nm : Nat), .int .u8 (id : Nat), .int .u8 (pa : Nat), .bool bk, .int .u64 (t : Nat)] 40)).alloc (.cells #[.int .u8 0, .slice none 0 0] 45))) := Lib.hid (((((Below.refl w.heap.size w).alloc (Nat.le_refl _) (.cells #[.int .u64 (k0 : Nat), .int .u64 (k1 : Nat)] 24)).alloc (by simp <;> omega) (.cells #[.int .u16 (g.src : Int), .int .u16 (g.dst : Int), .int .u32 (g.seq : Int), .int .u32 (g.ack : Int), .int .u8 (g.flags : Int), .slice A1 n1 c1, .slice D m d] 30)).alloc (by simp <;> omega) (.cells #[.int .u8 (kd : Nat), .int .u32 (nm : Nat), .int .u8 (id : Nat), .int .u8 (pa : Nat), .bool bk, .int .u64 (t : Nat)] 40)).alloc (by simp <;> omega) (.cells #[.int .u8 0, .slice none 0 0] 45))
  have hz : ((((w.alloc (.cells #[.int .u64 (k0 : Nat), .int .u64 (k1 : Nat)] 24)).alloc (.cells #[.int .u16 (g.src : Int), .int .u16 (g.dst : Int), .int .u32 (g.seq : Int), .int .u32 (g.ack : Int), .int .u8 (g.flags : Int), .slice A1 n1 c1, .slice D m d] 30)).alloc (.cells #[.int .u8 (kd : Nat), .int .u32 (nm : Nat), .int .u8 (id : Nat), .int .u8 (pa : Nat), .bool bk, .int .u64 (t : Nat)] 40)).alloc (.cells #[.int .u8 0, .slice none 0 0] 45)).heap.size = w.heap.size + 4 := by simp
  generalize ((((w.alloc (.cells #[.int .u64 (k0 : Nat), .int .u64 (k1 : Nat)] 24)).alloc (.cells #[.int .u16 (g.src : Int), .int .u16 (g.dst : Int), .int .u32 (g.seq : Int), .int .u32 (g.ack : Int), .int .u8 (g.flags : Int), .slice A1 n1 c1, .slice D m d] 30)).alloc (.cells #[.int .u8 (kd : Nat), .int .u32 (nm : Nat), .int .u8 (id : Nat), .int .u8 (pa : Nat), .bool bk, .int .u64 (t : Nat)] 40)).alloc (.cells #[.int .u8 0, .slice none 0 0] 45)) = w2 at hk0 hk1 hk2 hk3 b1 hz ⊢
  have HZ := Lib.hid hz
  clear hz
  replace HS := Lib.hid (HS.out.into b1.out)
  refine (sealWord_any k0 k1 (w.heap.size + 2) _ g kd nm id pa bk t w2 h0 h1 HS.out hg hd hk2.out hkd hnm hid hpa ht).mono ?_
  rw [← HTG.out]
  rintro e w3 ⟨⟨v3, rfl, hN3⟩, hT3⟩
  have K3 := Lib.hid (hT3.blk hk3.out (by omega))
  have B3 := Lib.hid (b1.out.trans (hT3.1.mono (show w.heap.size ≤ w.heap.size + 2 by omega)))
  have HN3 := Lib.hid hN3
  obtain ⟨A3, c3, rfl, hc3⟩ := hN3.form
  have hlt : w.heap.size + 3 < w2.heap.size := by have := HZ.out; omega
  clear hN3 hT3 hk0 hk1 hk2 hk3 b1 HS
  go_wp2_with (refine stm_store (cs' := #[.int .u8 (kd : Nat), .slice A3 (wordB nm id pa bk tg).length c3]) K3.out rfl _ _ rfl rfl rfl (by simp) (by kernel_rfl) (by simp [Value.oneCell']) (by simp [setL]) ?_)
  intro w9 hk9 hs
  go_wp2_with fail
  exact bodyPost_ret (results_agg Try.results25 hk9 (by rfl) (by kernel_rfl) (by kernel_rfl)) rfl ⟨⟨_, rfl, (nats_past HN3.out hlt hs).mono (show w.heap.size ≤ w2.heap.size by omega)⟩, B3.out.trans (hs.1.mono (by omega))⟩
end Go.Proofs.Ytbiimgfocgbdaaa
