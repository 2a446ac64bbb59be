/- Package outlet: Acked. -/
import Derived.Test.YtmkjclgdiikjdaaOt1
import Derived.Deep.Cut
namespace Go.Proofs.Ytmkjclgdiikjdaa
open Go.RowKit
set_option linter.unusedVariables false
set_option linter.unusedSimpArgs false
set_option maxRecDepth 20000 in
theorem ou_acked_no (o g p size base : Nat) (cl dn : Bool) (bs : List Nat) (to : Nat) (w : World) (h : OU w o g p size base cl dn bs) (hno : dn = true ∨ to ≤ base ∨ base + bs.length + (if cl then 1 else 0) < to) :
    Calls Try.prog 23 #[.pointer (some ⟨o, 0, none⟩), .int .u64 (to : Int)] w fun e w' => e = .returned (.bool false) ∧ ∃ n, w' = w.drewN n := by
  have c1 := h.c1
  have c3 := h.c3
  have HT := ou_top o g p size base cl dn bs w h
  obtain ⟨t, ht⟩ : ∃ t, t = base + bs.length + (if cl then 1 else 0) := ⟨_, rfl⟩
  rw [← ht] at HT hno
  have HT := Sh.mk HT
  clear h ht
  cases dn
  case true =>
    clear hno
    go_enter Try.func23, Try.ntmps23
    go_wp2_with fail
    go_ret
    exact ⟨rfl, 0, rfl⟩
  case false =>
    by_cases a : to ≤ base
    · have a' : (to : Int) ≤ (base : Int) := by omega
      clear hno
      go_enter Try.func23, Try.ntmps23
      go_wp2_with fail
      go_ret
      exact ⟨rfl, 0, rfl⟩
    · have b : t < to := by simpa [a] using hno
      have b' : (t : Int) < (to : Int) := by omega
      have a2 : base < to := by omega
      have a' : (base : Int) < (to : Int) := by omega
      clear hno a
      go_enter Try.func23, Try.ntmps23
      go_wp2_with fail
      refine HT.out.mono ?_
      rintro e w1 ⟨rfl, q, rfl⟩
      go_wp2_with fail
      go_ret
      exact ⟨rfl, q, rfl⟩
set_option maxRecDepth 20000 in
theorem ou_acked_yes (o g p size base : Nat) (cl : Bool) (bs : List Nat) (to : Nat) (w : World) (h : OU w o g p size base cl false bs) (hb : base < to) (htop : to ≤ base + bs.length + (if cl then 1 else 0)) (z : Nat) (hz : z = min to (base + bs.length)) :
    Calls Try.prog 23 #[.pointer (some ⟨o, 0, none⟩), .int .u64 (to : Int)] w fun e w' => e = .returned (.bool true) ∧ Tri o g p w w' ∧ OU w' o g p size z cl (decide (base + bs.length < to)) (bs.drop (z - base)) := by
  have c1 := h.c1
  have c3 := h.c3
  have HT := ou_top o g p size base cl false bs w h
  have hsz := h.sz
  have hlim := h.bb
  unfold qLim at hlim
  obtain ⟨t, ht⟩ : ∃ t, t = base + bs.length + (if cl then 1 else 0) := ⟨_, rfl⟩
  rw [← ht] at HT htop
  have HT := Sh.mk HT
  obtain ⟨e, he⟩ : ∃ e, e = base + bs.length := ⟨_, rfl⟩
  have HE : Sh (∀ w, OU w o g p size base cl false bs → Calls Try.prog 11 #[.pointer (some ⟨o, 0, none⟩)] w fun e' w' => e' = .returned (.int .u64 (e : Int)) ∧ ∃ n, w' = w.drewN n) := Sh.mk fun w hx => by rw [he]; exact ou_end o g p size base cl false bs w hx
  rw [← he] at hz ⊢
  have H := Sh.mk h
  obtain ⟨d, hd⟩ : ∃ d, d = z - base := ⟨_, rfl⟩
  rw [← hd]
  have hd6 : d ≤ bs.length := by omega
  have b' : (to : Int) ≤ (t : Int) := by omega
  have a' : (base : Int) < (to : Int) := by omega
  have hw0 : (z : Int) - (base : Int) = (d : Nat) := by omega
  have hw1 : IntKind.u64.wrap (d : Int) = (d : Nat) := by rw [IntKind.wrap_u64]; omega
  have hw2 : IntKind.i64.wrap (d : Int) = (d : Nat) := by rw [IntKind.wrap_i64]; omega
  have hmin : (if to < e then (to : Int) else (e : Int)) = (z : Int) := by split <;> omega
  have hmin3 : (if e < to then (e : Int) else (to : Int)) = (z : Int) := by split <;> omega
  obtain ⟨f, hf⟩ : ∃ f, f = decide (e < to) := ⟨_, rfl⟩
  have hf2 : decide ((e : Int) < (to : Int)) = f := by rw [hf]; congr 1; apply propext; omega
  have hf3 : decide (e < to) = f := hf.symm
  have HMIN := Sh.mk (And.intro hmin hmin3)
  have HF := Sh.mk (And.intro hf2 hf3)
  have HEQ := Sh.mk (And.intro he (And.intro hz (And.intro hd (And.intro hw0 hd6))))
  have HLIM := Sh.mk hlim
  rw [hf3]
  clear h hsz hlim ht he hz hd hd6 hmin hmin3 hf hf2 hf3 hw0
  go_enter Try.func23, Try.ntmps23
  go_wp2_with fail
  refine HT.out.mono ?_
  rintro e' w1 ⟨rfl, q, hq⟩
  have H1 := Sh.mk (hq ▸ H.out.drewN q : OU w1 o g p size base cl false bs)
  have t1 : Sh (Tri o g p w w1) := Sh.mk (hq ▸ Tri.refl.drewN q)
  clear HT hq H c1 c3
  go_wp2_with fail
  refine (HE.out w1 H1.out).mono ?_
  rintro e' w2 ⟨rfl, q, hq⟩
  have H2 := Sh.mk (hq ▸ H1.out.drewN q : OU w2 o g p size base cl false bs)
  have t2 : Sh (Tri o g p w w2) := Sh.mk (hq ▸ t1.out.drewN q)
  clear hq H1 t1
  obtain ⟨hf2, hf3⟩ := HF.out
  have c3 := H2.out.c3
  have hfz := H2.out.blk.frozen 3
  go_upto_region 5 with fail
  have hs : Solo o w2 (w2.setCell ⟨o, 3, none⟩ (.bool f)) := Solo.refl.setCell 3 _
  have H3 : Sh (OU (w2.setCell ⟨o, 3, none⟩ (.bool f)) o g p size base cl f bs) := by
    obtain ⟨L, ⟨first, m, hi, e1, hx⟩, hl⟩ := H2.out.rg
    exact ⟨H2.out.blk.set 3 _, ⟨L, ⟨first, m, ⟨hs.blk hi.blk H2.out.og.symm, hi.mem.solo hs H2.out.op.symm, hi.len, hi.fs, hi.ts, hi.sz, hi.ne⟩, e1, hx⟩, hl⟩, H2.out.og, H2.out.op, H2.out.bb⟩
  have t3 : Sh (Tri o g p w (w2.setCell ⟨o, 3, none⟩ (.bool f))) := Sh.mk (t2.out.trans (Tri.of_o hs))
  generalize w2.setCell ⟨o, 3, none⟩ (.bool f) = w3 at H3 t3 ⊢
  clear H2 t2 hs c3 hfz hf2 hf3
  obtain ⟨hmin, hmin3⟩ := HMIN.out
  have hw0 := HEQ.out.2.2.2.1
  have c0 := H3.out.c0
  have c1 := H3.out.c1
  go_wp2_with fail
  refine wp_region_still_tail 11 (by kernel_rfl) (by kernel_rfl) ?_
  simp only [List.take_succ_cons, List.take_zero, List.drop_succ_cons, List.drop_zero]
  repeat still_step
  refine wpStill_nil ?_
  change wpList _ _ _ _ _ w3.drew
  clear c0 c1
  have H4 := Sh.mk H3.out.drew
  have t4 := Sh.mk t3.out.drew
  generalize w3.drew = w4 at H4 t4 ⊢
  clear H3 t3 hmin hmin3
  obtain ⟨L, hr, hl⟩ := H4.out.rg
  have HR := Sh.mk hr
  have HL := Sh.mk hl
  clear hr hl
  go_wp2_with fail
  refine (skip_any g p size bs.length d L w4 HR.out d (by have := HEQ.out.2.2.2.2; omega) (by have := HEQ.out.2.2.2.2; have := H4.out.sz; omega)).mono ?_
  rintro e' w5 ⟨rfl, d5, r5⟩
  have R5 := Sh.mk r5
  have t5 := Sh.mk (t4.out.trans (Tri.of_duo d5))
  have K5 := Sh.mk ((d5.2.2 o H4.out.og H4.out.op).trans H4.out.blk)
  clear r5 d5
  have K6 : Blk w5 o _ _ := K5.out
  have c1 : w5.cell? ⟨o, 1, none⟩ = some (.int .u64 (base : Int)) := by rw [K6.cell]; rfl
  have hfz := K6.frozen 1
  have HK6 := Sh.mk K6
  clear K6
  go_wp2_with fail
  go_ret
  have hs : Solo o w5 (w5.setCell ⟨o, 1, none⟩ (.int .u64 (z : Int))) := Solo.refl.setCell 1 _
  obtain ⟨first, m, hi, e1, hx⟩ := R5.out
  obtain ⟨he, hz, hd, _, hd6⟩ := HEQ.out
  have hlen : (bs.drop d).length = bs.length - d := by rw [List.length_drop]
  refine ⟨rfl, t5.out.trans (Tri.of_o hs), HK6.out.set 1 _, ⟨_, ⟨first, m, ⟨hs.blk (hlen ▸ hi.blk) H4.out.og.symm, hi.mem.solo hs H4.out.op.symm, hi.len, hi.fs, hlen ▸ hi.ts, hi.sz, hi.ne⟩, e1, hx⟩, ?_⟩, H4.out.og, H4.out.op, ?_⟩
  · rw [hlen, List.take_append_of_le_length (by rw [List.length_drop, HR.out.len]; have := H4.out.sz; omega), ← List.drop_take, HL.out]
  · have := H4.out.bb
    rw [hlen]
    omega
end Go.Proofs.Ytmkjclgdiikjdaa
