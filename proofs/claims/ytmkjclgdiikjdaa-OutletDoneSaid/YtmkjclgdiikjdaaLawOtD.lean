/- Layer 17: the law OutletDone answers true, and nothing that was there has turned. -/
import Derived.Test.YtmkjclgdiikjdaaOt5
namespace Go.Proofs.Ytmkjclgdiikjdaa
open Go.RowKit
set_option linter.unusedVariables false
set_option linter.unusedSimpArgs false
theorem ou_topT (o g p size base : Nat) (dn : Bool) (bs : List Nat) (w : World) (t : Nat) (h : OU w o g p size base true dn bs) (ht : base + bs.length + 1 = t) :
    Calls Try.prog 13 #[.pointer (some ⟨o, 0, none⟩)] w fun e w' => e = .returned (.int .u64 (t : Int)) ∧ ∃ n, w' = w.drewN n := by
  have := ou_top o g p size base true dn bs w h
  rw [if_pos rfl, ht] at this
  exact this
set_option maxRecDepth 20000 in
set_option maxHeartbeats 4000000 in
theorem outletDone_walk (size : Int) (A : Option Addr) (n c : Nat) (l : List Nat) (to : Nat) (w : World) (hto : to < 18446744073709551616) (hr : Rd w w.heap.size 1 A n (ns .u8 l)) (hlt : ∀ x ∈ l, x < 256) (hnc : n ≤ c) :
    Calls Try.prog 5 #[.int .i64 size, .slice A n c, .int .u64 (to : Int)] w fun e w' => e = .returned (.bool true) ∧ Below w.heap.size w w' := by
  have HR := Sh.mk hr
  have HL := Sh.mk hlt
  have HTO := Sh.mk hto
  have HNL := Sh.mk hr.natLen
  clear hr hlt hto
  by_cases h1 : size < 1
  · go_enter Try.func5, Try.ntmps5
    go_wp2_with fail
    go_ret
    exact ⟨rfl, Below.refl _ _⟩
  by_cases h2 : 300 < size
  · go_enter Try.func5, Try.ntmps5
    go_wp2_with fail
    go_ret
    exact ⟨rfl, Below.refl _ _⟩
  obtain ⟨z, rfl⟩ : ∃ z : Nat, size = (z : Int) := ⟨size.toNat, by omega⟩
  have hz1 : 1 ≤ z := by omega
  have hz2 : z ≤ 300 := by omega
  clear h1 h2
  have h1 : (1 : Int) ≤ (z : Int) := by omega
  have h2 : (z : Int) ≤ 300 := by omega
  by_cases hn : 300 < n
  · have hn' : (300 : Int) < (n : Int) := by omega
    go_enter Try.func5, Try.ntmps5
    go_wp2_with fail
    go_ret
    exact ⟨rfl, Below.refl _ _⟩
  have hn2 : n ≤ 300 := by omega
  have hn2' : (n : Int) ≤ 300 := by omega
  clear hn
  obtain ⟨k, hk⟩ : ∃ k, k = putK z 0 false 0 n := ⟨_, rfl⟩
  obtain ⟨er, her⟩ : ∃ er, er = putE z 0 false 0 n := ⟨_, rfl⟩
  have hkn : k ≤ n := by rw [hk]; unfold putK qLim; simp; omega
  have hkz : k ≤ z := by rw [hk]; unfold putK qLim; simp; omega
  obtain ⟨t, ht⟩ : ∃ t, t = k + 1 := ⟨_, rfl⟩
  have hw1 : IntKind.u64.wrap (k : Int) = (k : Nat) := by rw [IntKind.wrap_u64]; omega
  have hw2 : IntKind.u64.wrap ((k : Int) + 1) = (t : Nat) := by rw [IntKind.wrap_u64]; omega
  have HK := Sh.mk (And.intro hk (And.intro her (And.intro hkn (And.intro hkz ht))))
  clear hk her hkn hkz ht
  go_enter Try.func5, Try.ntmps5
  go_wp2_with fail
  refine (ou_new z w hz1 (by omega)).mono ?_
  rintro e w1 ⟨o, g, p, rfl, ho, hg, hp, hb, hu⟩
  have H1 := Sh.mk hu
  have HB1 := Sh.mk hb
  have c0 := hu.c0
  clear hu hb
  go_wp2_with fail
  refine (ou_put o g p z 0 false false [] A n c _ l w1 H1.out (HR.out.below HB1.out) HL.out (HR.out.apt hp) hnc (by omega) k er HK.out.1 HK.out.2.1).mono ?_
  rintro e w2 ⟨rfl, t2, h2'⟩
  have hlk : (l.take k).length = k := by have := HNL.out; have := HK.out; rw [List.length_take]; omega
  have HLK := Sh.mk hlk
  have H2 := Sh.mk (show OU w2 o g p z 0 false false (l.take k) from h2')
  have HB2 := Sh.mk (HB1.out.trans (t2.below ho hg hp))
  clear h2' t2 c0 H1 HB1 hlk
  generalize l.take k = bs at H2 HLK
  go_wp2_with fail
  refine (ou_close o g p z 0 false false bs w2 H2.out).mono ?_
  rintro e w3 ⟨⟨v, rfl⟩, t3, h3⟩
  have H3 := Sh.mk h3
  have HB3 := Sh.mk (HB2.out.trans (t3.below ho hg hp))
  clear h3 t3 H2 HB2
  have kc := fun (w : World) (C : Array Value) (n c : Nat) => Lib.run_convert_bytes_const (P := Try.prog) w 29 5 C n c Try.underlying29 Try.underlying5
  go_wp2_with fail
  have hl2 : Rd (w3.alloc (.cells #[.int .u8 120] 5 (1, 2))) (w3.heap.size + 1) 1 (some ⟨w3.heap.size, 0, none⟩) 1 (ns .u8 [120]) := Rd.litm [120] rfl rfl
  refine (ou_put o g p z 0 true false bs _ 1 1 _ [120] _ (H3.out.alloc _) hl2 (by decide) (Apart.new (by have := H3.out.lt; omega)) (by omega) (by omega) 0 212 rfl rfl).mono ?_
  rintro e w4 ⟨rfl, t4, h4⟩
  have H4 := Sh.mk (show OU w4 o g p z 0 true false bs by simpa using h4)
  have HB4 := Sh.mk ((HB3.out.alloc HB3.out.size (.cells #[.int .u8 120] 5 (1, 2))).trans (t4.below ho hg hp))
  clear h4 t4 hl2 H3 HB3 kc
  go_wp2_with fail
  have HE := ou_end o g p z 0 true false bs w4 H4.out
  rw [show 0 + bs.length = k by rw [HLK.out]; omega] at HE
  refine HE.mono ?_
  rintro e w5 ⟨rfl, q, hq⟩
  have H5 := Sh.mk (hq ▸ H4.out.drewN q : OU w5 o g p z 0 true false bs)
  have HB5 := Sh.mk (hq ▸ below_drewN HB4.out q : Below w.heap.size w w5)
  clear hq HE H4 HB4
  go_wp2_with fail
  rcases (show to = 0 ∨ t < to ∨ (0 < to ∧ to ≤ k) ∨ to = t by have := HK.out; omega) with a | a | ⟨a, b⟩ | a
  · subst a
    have f1 : ((0 : Int) == (t : Int)) = false := by have := HK.out; simp; omega
    have f2 : (0 == t) = false := by have := HK.out; simp; omega
    have f3 : t ≠ 0 := by have := HK.out; omega
    have f4 : ¬ (0 : Int) = (t : Int) := by have := HK.out; omega
    refine (ou_acked_no o g p z 0 true false bs 0 w5 H5.out (.inr (.inl (by omega)))).mono ?_
    rintro e w6 ⟨rfl, q, hq⟩
    have H6 := Sh.mk (hq ▸ H5.out.drewN q : OU w6 o g p z 0 true false bs)
    have HB6 := Sh.mk (hq ▸ below_drewN HB5.out q : Below w.heap.size w w6)
    have HE6 : Sh (0 + bs.length + 1 = t) := Sh.mk (by have := HK.out; have := HLK.out; simp; omega)
    have HB6' : Sh (0 < t) := Sh.mk (by have := HK.out; omega)
    clear hq H5 HB5
    go_wp2_with fail
    refine (ou_topT o g p z 0 false bs w6 t H6.out HE6.out).mono ?_
    rintro e w7 ⟨rfl, q, hq⟩
    have H7 := Sh.mk (hq ▸ H6.out.drewN q : OU w7 o g p z 0 true false bs)
    have HB7 := Sh.mk (hq ▸ below_drewN HB6.out q : Below w.heap.size w w7)
    clear hq H6 HB6
    go_wp2_with fail
    refine (ou_done o g p z 0 true false bs w7 H7.out).mono ?_
    rintro e w8 ⟨rfl, rfl⟩
    go_wp2_with fail
    refine (ou_done o g p z 0 true false bs w8 H7.out).mono ?_
    rintro e w9 ⟨rfl, rfl⟩
    have c0 := H7.out.c0
    go_wp2_with fail
    refine (ou_acked_yes o g p z 0 true bs t _ H7.out HB6'.out (by rw [if_pos rfl, HE6.out]; omega) (0 + bs.length) (by have := HE6.out; (try simp at this); omega)).mono ?_
    rintro e w10 ⟨rfl, t10, h10⟩
    have hd : decide (0 + bs.length < t) = true := decide_eq_true (by have := HE6.out; (try simp at this); omega)
    rw [hd] at h10
    have H10 := Sh.mk h10
    have HB10 := Sh.mk (HB7.out.trans (t10.below ho hg hp))
    clear h10 t10 hd
    go_wp2_with fail
    refine (ou_done o g p z _ true true _ w10 H10.out).mono ?_
    rintro e w11 ⟨rfl, rfl⟩
    go_wp2_with fail
    refine (alive17 _).mono ?_
    rintro e w12 ⟨rfl, b12⟩
    go_wp2_with fail
    go_ret
    exact ⟨rfl, HB10.out.trans (b12.mono HB10.out.size)⟩
  · have f1 : ((to : Int) == (t : Int)) = false := by simp; omega
    have f2 : (to == t) = false := by simp; omega
    have f3 : (0 : Int) < (to : Int) := by omega
    have f4 : 0 < to := by omega
    have f5 : (t : Int) < (to : Int) := by omega
    refine (ou_acked_no o g p z 0 true false bs to w5 H5.out (.inr (.inr (by have := HK.out; have := HLK.out; simp; omega)))).mono ?_
    rintro e w6 ⟨rfl, q, hq⟩
    have H6 := Sh.mk (hq ▸ H5.out.drewN q : OU w6 o g p z 0 true false bs)
    have HB6 := Sh.mk (hq ▸ below_drewN HB5.out q : Below w.heap.size w w6)
    have HE6 : Sh (0 + bs.length + 1 = t) := Sh.mk (by have := HK.out; have := HLK.out; simp; omega)
    have HB6' : Sh (0 < t) := Sh.mk (by have := HK.out; omega)
    clear hq H5 HB5
    go_wp2_with fail
    refine (ou_topT o g p z 0 false bs w6 t H6.out HE6.out).mono ?_
    rintro e w7 ⟨rfl, q, hq⟩
    have H7 := Sh.mk (hq ▸ H6.out.drewN q : OU w7 o g p z 0 true false bs)
    have HB7 := Sh.mk (hq ▸ below_drewN HB6.out q : Below w.heap.size w w7)
    clear hq H6 HB6
    go_wp2_with fail
    refine (ou_done o g p z 0 true false bs w7 H7.out).mono ?_
    rintro e w8 ⟨rfl, rfl⟩
    go_wp2_with fail
    refine (ou_done o g p z 0 true false bs w8 H7.out).mono ?_
    rintro e w9 ⟨rfl, rfl⟩
    have c0 := H7.out.c0
    go_wp2_with fail
    refine (ou_acked_yes o g p z 0 true bs t _ H7.out HB6'.out (by rw [if_pos rfl, HE6.out]; omega) (0 + bs.length) (by have := HE6.out; (try simp at this); omega)).mono ?_
    rintro e w10 ⟨rfl, t10, h10⟩
    have hd : decide (0 + bs.length < t) = true := decide_eq_true (by have := HE6.out; (try simp at this); omega)
    rw [hd] at h10
    have H10 := Sh.mk h10
    have HB10 := Sh.mk (HB7.out.trans (t10.below ho hg hp))
    clear h10 t10 hd
    go_wp2_with fail
    refine (ou_done o g p z _ true true _ w10 H10.out).mono ?_
    rintro e w11 ⟨rfl, rfl⟩
    go_wp2_with fail
    refine (alive17 _).mono ?_
    rintro e w12 ⟨rfl, b12⟩
    go_wp2_with fail
    go_ret
    exact ⟨rfl, HB10.out.trans (b12.mono HB10.out.size)⟩
  · have f6 : (to : Int) ≤ (t : Int) := by have := HK.out; omega
    have f7 : to ≤ t := by have := HK.out; omega
    have f1 : ((to : Int) == (t : Int)) = false := by have := HK.out; simp; omega
    have f2 : (to == t) = false := by have := HK.out; simp; omega
    have f3 : (0 : Int) < (to : Int) := by omega
    refine (ou_acked_yes o g p z 0 true bs to w5 H5.out (by have := HK.out; omega) (by have := HK.out; have := HLK.out; simp; omega) to (by have := HK.out; have := HLK.out; omega)).mono ?_
    rintro e w6 ⟨rfl, t6, h6⟩
    have hd : decide (0 + bs.length < to) = false := by have := HK.out; have := HLK.out; simp; omega
    rw [hd] at h6
    have hdl : (bs.drop (to - 0)).length = k - to := by rw [List.length_drop, HLK.out]; omega
    have HDL := Sh.mk hdl
    have H6 := Sh.mk h6
    have HB6 := Sh.mk (HB5.out.trans (t6.below ho hg hp))
    clear h6 t6 hd hdl
    generalize bs.drop (to - 0) = bt at H6 HDL
    have HE6 : Sh (to + bt.length + 1 = t) := Sh.mk (by have := HK.out; have := HDL.out; (try simp); omega)
    have HB6' : Sh (to < t) := Sh.mk (by have := HK.out; omega)
    clear H5 HB5
    go_wp2_with fail
    refine (ou_topT o g p z to false bt w6 t H6.out HE6.out).mono ?_
    rintro e w7 ⟨rfl, q, hq⟩
    have H7 := Sh.mk (hq ▸ H6.out.drewN q : OU w7 o g p z to true false bt)
    have HB7 := Sh.mk (hq ▸ below_drewN HB6.out q : Below w.heap.size w w7)
    clear hq H6 HB6
    go_wp2_with fail
    refine (ou_done o g p z to true false bt w7 H7.out).mono ?_
    rintro e w8 ⟨rfl, rfl⟩
    go_wp2_with fail
    refine (ou_done o g p z to true false bt w8 H7.out).mono ?_
    rintro e w9 ⟨rfl, rfl⟩
    have c0 := H7.out.c0
    go_wp2_with fail
    refine (ou_acked_yes o g p z to true bt t _ H7.out HB6'.out (by rw [if_pos rfl, HE6.out]; omega) (to + bt.length) (by have := HE6.out; (try simp at this); omega)).mono ?_
    rintro e w10 ⟨rfl, t10, h10⟩
    have hd : decide (to + bt.length < t) = true := decide_eq_true (by have := HE6.out; (try simp at this); omega)
    rw [hd] at h10
    have H10 := Sh.mk h10
    have HB10 := Sh.mk (HB7.out.trans (t10.below ho hg hp))
    clear h10 t10 hd
    go_wp2_with fail
    refine (ou_done o g p z _ true true _ w10 H10.out).mono ?_
    rintro e w11 ⟨rfl, rfl⟩
    go_wp2_with fail
    refine (alive17 _).mono ?_
    rintro e w12 ⟨rfl, b12⟩
    go_wp2_with fail
    go_ret
    exact ⟨rfl, HB10.out.trans (b12.mono HB10.out.size)⟩
  · subst a
    have f3 : (0 : Int) < (to : Int) := by have := HK.out; omega
    have f4 : 0 < to := by have := HK.out; omega
    refine (ou_acked_yes o g p z 0 true bs to w5 H5.out (by have := HK.out; omega) (by have := HK.out; have := HLK.out; simp; omega) k (by have := HK.out; have := HLK.out; omega)).mono ?_
    rintro e w6 ⟨rfl, t6, h6⟩
    have hd : decide (0 + bs.length < to) = true := by have := HK.out; have := HLK.out; simp; omega
    rw [hd] at h6
    have hdl : (bs.drop (k - 0)).length = k - k := by rw [List.length_drop, HLK.out]; omega
    have HDL := Sh.mk hdl
    have H6 := Sh.mk h6
    have HB6 := Sh.mk (HB5.out.trans (t6.below ho hg hp))
    clear h6 t6 hd hdl
    generalize bs.drop (k - 0) = bt at H6 HDL
    have HE6 : Sh (k + bt.length + 1 = to) := Sh.mk (by have := HK.out; have := HDL.out; (try simp); omega)
    have HB6' : Sh (k < to) := Sh.mk (by have := HK.out; omega)
    clear H5 HB5
    have HL0 : Sh (bt.length = 0) := Sh.mk (by have := HDL.out; omega)
    go_wp2_with fail
    refine (ou_topT o g p z k true bt w6 to H6.out HE6.out).mono ?_
    rintro e w7 ⟨rfl, q, hq⟩
    have H7 := Sh.mk (hq ▸ H6.out.drewN q : OU w7 o g p z k true true bt)
    have HB7 := Sh.mk (hq ▸ below_drewN HB6.out q : Below w.heap.size w w7)
    clear hq H6 HB6
    go_wp2_with fail
    refine (ou_done o g p z k true true bt w7 H7.out).mono ?_
    rintro e w8 ⟨rfl, rfl⟩
    go_wp2_with fail
    refine (ou_done o g p z k true true bt w8 H7.out).mono ?_
    rintro e w9 ⟨rfl, rfl⟩
    have c0 := H7.out.c0
    go_wp2_with fail
    have HLN := ou_len o g p z k true true bt _ H7.out
    rw [HL0.out] at HLN
    refine HLN.mono ?_
    rintro e w10 ⟨rfl, rfl⟩
    clear HLN
    go_wp2_with fail
    refine (ou_acked_no o g p z k true true bt to _ H7.out (.inl rfl)).mono ?_
    rintro e w11 ⟨rfl, q, hq⟩
    have H11 := Sh.mk (hq ▸ H7.out.drewN q : OU w11 o g p z k true true bt)
    have HB11 := Sh.mk (hq ▸ below_drewN HB7.out q : Below w.heap.size w w11)
    clear hq
    go_wp2_with fail
    refine (ou_base o g p z k true true bt _ H11.out).mono ?_
    rintro e w12 ⟨rfl, rfl⟩
    go_wp2_with fail
    refine (alive17 _).mono ?_
    rintro e w13 ⟨rfl, b13⟩
    go_wp2_with fail
    go_ret
    exact ⟨rfl, HB11.out.trans (b13.mono HB11.out.size)⟩
end Go.Proofs.Ytmkjclgdiikjdaa
