/- Package outlet: Put. -/
import Derived.Test.YtmkjclgdiikjdaaOt1
namespace Go.Proofs.Ytmkjclgdiikjdaa
open Go.RowKit
set_option linter.unusedVariables false
set_option linter.unusedSimpArgs false
/-- How many are written. -/
def putK (size base : Nat) (cl : Bool) (len n : Nat) : Nat := if cl then 0 else min (min n (qLim - (base + len))) (size - len)
/-- The error. -/
def putE (size base : Nat) (cl : Bool) (len n : Nat) : Nat := if cl then 212 else if n = 0 then 0 else if base + len = qLim then 215 else if len = size then 210 else 0
theorem spl_take {L new : List Nat} {t : Nat} (h : t + new.length ≤ L.length) : (spl L t new).take (t + new.length) = L.take t ++ new := by
  unfold spl
  have e : (L.take t ++ new).length = t + new.length := by simp; omega
  rw [← e, List.take_left]
theorem OU.same {w w' : World} {o g p size base : Nat} {cl dn : Bool} {bs l : List Nat} {q : Nat} (h : OU w o g p size base cl dn bs) (hq : w' = w.drewN q) : Tri o g p w w' ∧ OU w' o g p size base cl dn (bs ++ l.take 0) := by
  subst hq
  exact ⟨Tri.refl.drewN q, by simpa using h.drewN q⟩
set_option maxRecDepth 20000 in
theorem ou_put (o g p size base : Nat) (cl dn : Bool) (bs : List Nat) (A : Option Addr) (n c B : Nat) (l : List Nat) (w : World) (h : OU w o g p size base cl dn bs) (hr : Rd w B 1 A n (ns .u8 l)) (hlt : ∀ x ∈ l, x < 256) (hap : Apart A n p) (hn : n ≤ c) (hmax : n ≤ 1000000) (k er : Nat) (hk : k = putK size base cl bs.length n) (her : er = putE size base cl bs.length n) :
    Calls Try.prog 21 #[.pointer (some ⟨o, 0, none⟩), .slice A n c] w fun e w' => e = .returned (.tuple #[.int .i64 (k : Int), .int .i64 (er : Int)]) ∧ Tri o g p w w' ∧ OU w' o g p size base cl dn (bs ++ l.take k) := by
  have c2 := h.c2
  have H := Lib.hid h
  have hz := h.sz
  have hbb := h.bb
  have HR := Lib.hid hr
  have HL := Lib.hid hlt
  have HAP := Lib.hid hap
  have HNL := Sh.mk hr.natLen
  clear hr hlt hap
  cases cl
  case true =>
    obtain rfl : k = 0 := by rw [hk]; rfl
    obtain rfl : er = 212 := by rw [her]; rfl
    clear hk her hz hbb h
    go_enter Try.func21, Try.ntmps21
    go_wp2_with fail
    go_ret2
    exact ⟨rfl, H.out.same (q := 0) rfl⟩
  case false =>
    unfold putK at hk
    unfold putE at her
    simp only [Bool.false_eq_true, if_false] at hk her
    by_cases h0 : n = 0
    · rw [if_pos h0] at her
      obtain rfl : k = 0 := by omega
      subst her
      clear hk hz hbb h
      subst h0
      go_enter Try.func21, Try.ntmps21
      go_wp2_with fail
      go_ret2
      exact ⟨rfl, H.out.same (q := 0) rfl⟩
    rw [if_neg h0] at her
    have hn0 : (n == 0) = false := by simpa using h0
    have HE := ou_end o g p size base false dn bs w h
    obtain ⟨e, he⟩ : ∃ e, e = base + bs.length := ⟨_, rfl⟩
    rw [← he] at HE hk her hbb
    have HE := Lib.hid HE
    clear h
    by_cases h1 : e = qLim
    · rw [if_pos h1] at her
      obtain rfl : k = 0 := by omega
      subst her
      have h1' : (4611686018427387904 : Int) ≤ (e : Int) := by unfold qLim at h1; omega
      clear hk hz hbb he h1
      go_enter Try.func21, Try.ntmps21
      go_wp2_with fail
      refine HE.out.mono ?_
      rintro e' w1 ⟨rfl, q, rfl⟩
      go_wp2_with fail
      go_ret2
      exact ⟨rfl, H.out.same rfl⟩
    rw [if_neg h1] at her
    have H1' := Sh.mk (show decide ((4611686018427387904 : Int) ≤ (e : Int)) = false by unfold qLim at h1 hbb; exact decide_eq_false (by omega))
    obtain ⟨f, hf⟩ : ∃ f, f = size - bs.length := ⟨_, rfl⟩
    by_cases h2 : bs.length = size
    · rw [if_pos h2] at her
      obtain rfl : k = 0 := by omega
      obtain rfl : f = 0 := by omega
      subst her
      have HF := Sh.mk hf
      clear hk hz hbb he h1 h2 hf
      go_enter Try.func21, Try.ntmps21
      go_wp2_with fail
      refine HE.out.mono ?_
      rintro e' w1 ⟨rfl, q, hq⟩
      have H1 := Lib.hid (hq ▸ H.out.drewN q : OU w1 o g p size base false dn bs)
      have t1 : Tri o g p w w1 := hq ▸ Tri.refl.drewN q
      have c0 := H1.out.c0
      clear HE hq H
      have h1' := H1'.out
      go_wp2_with fail
      refine (ou_free o g p size base false dn bs w1 H1.out).mono ?_
      rw [← HF.out]
      rintro e' w2 ⟨rfl, q2, rfl⟩
      go_wp2_with fail
      go_ret2
      exact ⟨rfl, t1.drewN q2, (H1.out.same (q := q2) rfl).2⟩
    rw [if_neg h2] at her
    subst her
    have hf0 : (f == 0) = false := by simp; omega
    obtain ⟨r, hr⟩ : ∃ r, r = qLim - e := ⟨_, rfl⟩
    rw [← hr, ← hf] at hk
    obtain ⟨m, hm⟩ : ∃ m, m = min n r := ⟨_, rfl⟩
    rw [← hm] at hk
    have hw1 : IntKind.u64.wrap (n : Int) = (n : Nat) := by rw [IntKind.wrap_u64]; omega
    have hw2 : (4611686018427387904 : Int) - (e : Int) = (r : Nat) := by unfold qLim at hr hbb; omega
    have hw3 : IntKind.u64.wrap (r : Int) = (r : Nat) := by unfold qLim at hr hbb; rw [IntKind.wrap_u64]; omega
    have hmn : m ≤ n := by omega
    have hmc : m ≤ c := by omega
    have hmc' : (m : Int) ≤ (c : Int) := by omega
    have hm6 : m ≤ 1000000 := by omega
    have hmin : (if (n : Int) ≤ (r : Int) then (n : Int) else (r : Int)) = (m : Int) := by split <;> omega
    have hmin2 : (if (r : Int) < (n : Int) then (r : Int) else (n : Int)) = (m : Int) := by split <;> omega
    have hmin3 : (if r < n then (r : Int) else (n : Int)) = (m : Int) := by split <;> omega
    have HMIN := Sh.mk (And.intro hmin (And.intro hmin2 hmin3))
    have HW2 := Sh.mk hw2
    clear hmin hmin2 hmin3 hw2
    have HKF := Sh.mk hk
    have HF := Sh.mk hf
    have HBB : Sh (e + k ≤ qLim) := Sh.mk (by omega)
    have HSZ : Sh (bs.length + k ≤ size) := Sh.mk (by omega)
    have HE0 := Sh.mk he
    clear hk hz hbb he h1 h2 hr hm hf hmax h0
    go_enter Try.func21, Try.ntmps21
    go_wp2_with fail
    refine HE.out.mono ?_
    rintro e' w1 ⟨rfl, q, hq⟩
    have H1 := Lib.hid (hq ▸ H.out.drewN q : OU w1 o g p size base false dn bs)
    have R1 := Lib.hid (hq ▸ HR.out.drewN q : Rd w1 B 1 A n (ns .u8 l))
    have t1 : Hid (Tri o g p w w1) := Lib.hid (hq ▸ Tri.refl.drewN q)
    have c0 := H1.out.c0
    clear HE hq H HR c2
    have h1' := H1'.out
    go_wp2_with fail
    clear h1'
    have FR := ou_free o g p size base false dn bs w1 H1.out
    rw [← HF.out] at FR
    refine FR.mono ?_
    rintro e' w2 ⟨rfl, q, hq⟩
    have H2 := Lib.hid (hq ▸ H1.out.drewN q : OU w2 o g p size base false dn bs)
    have R2 := Lib.hid (hq ▸ R1.out.drewN q : Rd w2 B 1 A n (ns .u8 l))
    have t2 : Hid (Tri o g p w w2) := Lib.hid (hq ▸ t1.out.drewN q)
    clear FR hq H1 R1 t1 c0
    go_wp2_with fail
    have HE := ou_end o g p size base false dn bs w2 H2.out
    rw [← HE0.out] at HE
    refine HE.mono ?_
    rintro e' w3 ⟨rfl, q, hq⟩
    have hw2 := HW2.out
    obtain ⟨hmin, hmin2, hmin3⟩ := HMIN.out
    have H3 := Lib.hid (hq ▸ H2.out.drewN q : OU w3 o g p size base false dn bs)
    have R3 := Lib.hid (hq ▸ R2.out.drewN q : Rd w3 B 1 A n (ns .u8 l))
    have t3 : Hid (Tri o g p w w3) := Lib.hid (hq ▸ t2.out.drewN q)
    have c0 := H3.out.c0
    clear HE hq H2 R2 t2
    go_wp2_with fail
    refine wp_region_still_tail 7 (by kernel_rfl) (by kernel_rfl) ?_
    simp only [List.take_succ_cons, List.take_zero, List.drop_succ_cons, List.drop_zero]
    repeat still_step
    refine wpStill_nil ?_
    change wpList _ _ _ _ _ w3.drew
    clear c0
    have H4 := Lib.hid H3.out.drew
    have R4 := Lib.hid R3.out.drew
    have t4 := Lib.hid t3.out.drew
    generalize w3.drew = w4 at H4 R4 t4 ⊢
    clear H3 R3 t3
    obtain ⟨L, hr, hl⟩ := H4.out.rg
    have HRG := Lib.hid hr
    have HLL := Lib.hid hl
    clear hr hl
    go_wp2_with fail
    refine (write_any g p size bs.length m c B A L (l.take m) w4 HRG.out (R4.out.takeN hmn) (fun x hx => HL.out x (List.mem_of_mem_take hx)) (HAP.out.mono hmn) hmc hm6).mono ?_
    rw [← HF.out, ← HKF.out]
    rintro e' w5 ⟨rfl, d5, r5⟩
    have R5 := Lib.hid r5
    have D5 := Lib.hid d5
    clear r5 d5
    go_wp2_with fail
    go_ret2
    have hkm : k ≤ m := by have := HKF.out; omega
    have etk : (l.take m).take k = l.take k := by rw [List.take_take, Nat.min_eq_left hkm]
    have r6 := R5.out
    rw [etk] at r6
    have hlk : (l.take k).length = k := by have := HNL.out; rw [List.length_take]; omega
    have hlen : (bs ++ l.take k).length = bs.length + k := by rw [List.length_append, hlk]
    have hkB := HBB.out
    have hkE := HE0.out
    refine ⟨rfl, t4.out.trans (Tri.of_duo D5.out), (D5.out.2.2 o H4.out.og H4.out.op).trans H4.out.blk, ⟨_, hlen ▸ r6, ?_⟩, H4.out.og, H4.out.op, by rw [hlen]; omega⟩
    have hLl := HRG.out.len
    have := spl_take (L := L) (new := l.take k) (t := bs.length) (by have := HSZ.out; omega)
    rw [hlk, HLL.out] at this
    rw [hlen]
    exact this
end Go.Proofs.Ytmkjclgdiikjdaa
