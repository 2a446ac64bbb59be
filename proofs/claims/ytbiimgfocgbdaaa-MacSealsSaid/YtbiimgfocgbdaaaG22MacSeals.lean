/- Contracts of package sip: all parts' bytes; the beginning. -/
import Derived.Test.YtbiimgfocgbdaaaG19MacSeals
import Derived.Test.YtbiimgfocgbdaaaG4MacSeals

namespace Go.Proofs.Ytbiimgfocgbdaaa
open Go.RowKit
set_option linter.unusedVariables false

theorem saddL_app (s : V4 × Nat × Nat) (a b : List Nat) : saddL s (a ++ b) = saddL (saddL s a) b := List.foldl_append
theorem saddL_snoc {bs : List Nat} {j x : Nat} (s : V4 × Nat × Nat) (h : bs[j]? = some x) : saddL s (bs.take (j + 1)) = sadd (saddL s (bs.take j)) x := by
  rw [List.take_add_one, h, saddL_app]
  rfl
def SmS (w : World) (g : Nat) (s : V4 × Nat × Nat) : Prop := Sm w g s.1 s.2.1 s.2.2
set_option maxRecDepth 20000 in
set_option maxHeartbeats 1000000 in
theorem whole_any (g B n c : Nat) (s0 : V4 × Nat × Nat) (A : Option Addr) (bss : List (List Nat)) (w : World) (hw : SmS w g s0) (hok : OkS s0) (hB : B ≤ g) (hp : Pts w B A n bss) (hnc : n ≤ c) (hn : n ≤ 100000) (hb : ∀ bs ∈ bss, ∀ x ∈ bs, x < 256) (htot : s0.2.2 + bss.flatten.length < 4294967296) :
    Calls Try.prog 88 #[.pointer (some ⟨g, 0, none⟩), .slice A n c] w fun e w' => e = .returned (.int .u64 ((sfin (saddL s0 bss.flatten) : Nat) : Int)) ∧ Solo g w w' := by
  have HW := Lib.hid hw; have HOK := Lib.hid hok; have HP := Lib.hid hp; have HB := Lib.hid hb; have HT := Lib.hid htot
  clear hw hok hp hb htot
  go_enter Try.func88, Try.ntmps88
  go_wp2_with fail
  go_loopw [11] (fun iv wr => ∃ i : Nat, i ≤ n ∧ iv = .int .i64 i ∧ Hid (SmS wr g (saddL s0 (bss.take i).flatten)) ∧ Hid (Solo g w wr)) (fun iv _ => n - (intOf iv).toNat)
  case atStart => exact ⟨0, Nat.zero_le _, rfl, HW, Lib.hid Solo.refl⟩
  case round =>
    obtain ⟨i, hi, rfl, hsm, hso⟩ := hrel
    by_cases hlt : i < n
    · obtain ⟨bb, off, A1, n1, c1, bs, rfl, hbb, hcell0, hbs, hl1, hc1, hr1⟩ := HP.out.nth hlt
      have hcell := ((hso.out.1.mono hB).cell (p := ⟨bb, off + i, none⟩) hbb).trans hcell0
      clear hcell0
      have hlen := flat_le bss (i + 1)
      rw [flat_take hbs.out, List.length_append, hl1.out] at hlen
      have hnb : n1 < 4294967296 := by have := HT.out; omega
      have HL := Lib.hid hlen
      clear hlen
      go_wp2_with fail
      go_loopw [17] (fun jv wv => ∃ j : Nat, j ≤ n1 ∧ jv = .int .i64 j ∧ Hid (SmS wv g (saddL (saddL s0 (bss.take i).flatten) (bs.take j))) ∧ Hid (Solo g w wv)) (fun jv _ => n1 - (intOf jv).toNat)
      case atStart => exact ⟨0, Nat.zero_le _, rfl, hsm, hso⟩
      case round =>
        obtain ⟨j, hj, rfl, hsv, hsw⟩ := hrel
        by_cases hlt2 : j < n1
        · obtain ⟨b2, o2, x, rfl, hb2, hcx, hx⟩ := (hr1.out.below (hsw.out.1.mono hB)).nth hlt2
          have hx8 := HB.out bs (nth_mem hbs) x (nth_mem hx)
          obtain ⟨s1, es⟩ : ∃ s1, s1 = saddL (saddL s0 (bss.take i).flatten) (bs.take j) := ⟨_, rfl⟩
          have hok : OkS s1 := by rw [es]; exact (HOK.out.addL _).addL _
          have hm : s1.2.2 < 4294967296 := by
            rw [es, saddL_many, saddL_many, List.length_take]
            have := HT.out
            have := HL.out
            omega
          have HN : Hid (saddL (saddL s0 (bss.take i).flatten) (bs.take (j + 1)) = sadd s1 x) := Lib.hid (by rw [saddL_snoc _ hx.out, es])
          rw [← es] at hsv
          clear es hcell
          go_wp2_with fail
          refine (add_any g s1.1 s1.2.1 s1.2.2 x wr hsv.out hok.1 hok.2 hm hx8).mono ?_
          rintro e w3 ⟨⟨u, rfl⟩, hw3, hs3⟩
          go_wp2_with fail
          go_roundw
          case rel => exact ⟨j + 1, by omega, by go_num, Lib.hid (by rw [HN.out]; exact hw3), Lib.hid (hsw.out.trans hs3)⟩
          case measure => simp [intOf]; omega
        · obtain rfl : j = n1 := by omega
          have HN : Hid (SmS wr g (saddL s0 (bss.take (i + 1)).flatten)) := Lib.hid (by
            have := hsv.out
            rw [List.take_of_length_le (Nat.le_of_eq hl1.out), ← saddL_app, ← flat_take hbs.out] at this
            exact this)
          go_wp2_with fail
          go_roundw
          case rel => exact ⟨i + 1, by omega, by go_num, HN, hsw⟩
          case measure => simp [intOf]; omega
    · obtain rfl : i = n := by omega
      have hall : (bss.take i).flatten = bss.flatten := by rw [List.take_of_length_le (Nat.le_of_eq HP.out.1)]
      rw [hall] at hsm
      have hm : (saddL s0 bss.flatten).2.2 < 4294967296 := by rw [saddL_many]; exact HT.out
      have hok := HOK.out.addL bss.flatten
      obtain ⟨s1, es⟩ : ∃ s1, s1 = saddL s0 bss.flatten := ⟨_, rfl⟩
      rw [← es] at hsm hm hok
      have HS := Lib.hid es
      clear es hall
      go_wp2_with fail
      refine (end_any g s1.1 s1.2.1 s1.2.2 wr hsm.out hok.1 hok.2 hm).mono ?_
      rintro e w3 ⟨rfl, hs3⟩
      go_wp2_with fail
      go_ret
      exact ⟨ret_int (by rw [← HS.out]), hso.out.trans hs3⟩
def c0 : Nat := 8317987319222330741
def c1 : Nat := 7237128888997146477
def c2 : Nat := 7816392313619706465
def c3 : Nat := 8387220255154660723
def beg (k0 k1 : Nat) : V4 := (k0 ^^^ c0, k1 ^^^ c1, k0 ^^^ c2, k1 ^^^ c3)
set_option maxRecDepth 20000 in
theorem begin_any (k0 k1 : Nat) (w : World) (h0 : k0 < 18446744073709551616) (h1 : k1 < 18446744073709551616) :
    Calls Try.prog 87 #[.agg #[.int .u64 k0, .int .u64 k1]] w fun e w' => e = .returned (.agg (scell (beg k0 k1).1 (beg k0 k1).2.1 (beg k0 k1).2.2.1 (beg k0 k1).2.2.2 0 0)) ∧ Below w.heap.size w w' := by
  obtain ⟨x0, e0⟩ : ∃ x, x = k0 ^^^ c0 := ⟨_, rfl⟩
  obtain ⟨x1, e1⟩ : ∃ x, x = k1 ^^^ c1 := ⟨_, rfl⟩
  obtain ⟨x2, e2⟩ : ∃ x, x = k0 ^^^ c2 := ⟨_, rfl⟩
  obtain ⟨x3, e3⟩ : ∃ x, x = k1 ^^^ c3 := ⟨_, rfl⟩
  have v0 : bits .xor .u64 ((k0 : Nat) : Int) 8317987319222330741 = ((x0 : Nat) : Int) := by rw [e0]; exact val_xor k0 c0 h0 (by decide)
  have v1 : bits .xor .u64 ((k1 : Nat) : Int) 7237128888997146477 = ((x1 : Nat) : Int) := by rw [e1]; exact val_xor k1 c1 h1 (by decide)
  have v2 : bits .xor .u64 ((k0 : Nat) : Int) 7816392313619706465 = ((x2 : Nat) : Int) := by rw [e2]; exact val_xor k0 c2 h0 (by decide)
  have v3 : bits .xor .u64 ((k1 : Nat) : Int) 8387220255154660723 = ((x3 : Nat) : Int) := by rw [e3]; exact val_xor k1 c3 h1 (by decide)
  have HE : Hid (beg k0 k1 = (x0, x1, x2, x3)) := Lib.hid (by rw [e0, e1, e2, e3]; rfl)
  clear e0 e1 e2 e3
  go_enter Try.func87, Try.ntmps87
  go_wp2
  refine bodyPost_ret (v := .agg (scell x0 x1 x2 x3 0 0)) (by simp [results, Try.results87, go_sem, scell]) rfl ⟨?_, ((Below.refl _ _).alloc (Nat.le_refl _) _).alloc (by simp) _⟩
  rw [HE.out]
/-- The sum of bytes under a key. -/
def sumB (k0 k1 : Nat) (bs : List Nat) : Nat := sfin (saddL (beg k0 k1, 0, 0) bs)
theorem beg_ok (k0 k1 : Nat) (h0 : k0 < 18446744073709551616) (h1 : k1 < 18446744073709551616) : OkS (beg k0 k1, 0, 0) :=
  ⟨⟨xor_lt h0 (by decide), xor_lt h1 (by decide), xor_lt h0 (by decide), xor_lt h1 (by decide)⟩, by simp⟩
set_option maxRecDepth 20000 in
theorem sum_any (k0 k1 n c : Nat) (A : Option Addr) (bss : List (List Nat)) (w : World) (h0 : k0 < 18446744073709551616) (h1 : k1 < 18446744073709551616) (hp : Pts w w.heap.size A n bss) (hnc : n ≤ c) (hn : n ≤ 100000) (hb : ∀ bs ∈ bss, ∀ x ∈ bs, x < 256) (htot : bss.flatten.length < 4000000000) :
    Calls Try.prog 58 #[.agg #[.int .u64 k0, .int .u64 k1], .slice A n c] w fun e w' => e = .returned (.int .u64 ((sumB k0 k1 bss.flatten : Nat) : Int)) ∧ Below w.heap.size w w' := by
  have HP := Lib.hid hp; have HB := Lib.hid hb; have HT := Lib.hid htot
  clear hp hb htot
  go_enter Try.func58, Try.ntmps58
  go_wp2_with fail
  refine (begin_any k0 k1 (w.alloc (.cells #[.int .u64 k0, .int .u64 k1] 24)) h0 h1).mono ?_
  rintro e w1 ⟨rfl, hb1⟩
  have hb0 : Below w.heap.size w w1 := ((Below.refl _ _).alloc (Nat.le_refl _) _).trans (hb1.mono (by simp))
  have hok := beg_ok k0 k1 h0 h1
  obtain ⟨v, hv⟩ : ∃ v, v = beg k0 k1 := ⟨_, rfl⟩
  rw [← hv] at hok ⊢
  have HV : Hid (sumB k0 k1 bss.flatten = sfin (saddL (v, 0, 0) bss.flatten)) := Lib.hid (by rw [hv]; rfl)
  have HOK := Lib.hid hok
  clear hv hb1 hok
  obtain ⟨a, b, c', d⟩ := v
  simp only [scell]
  go_wp2_with fail
  have hw2 : SmS (w1.alloc (.cells #[.int .u64 (a : Nat), .int .u64 (b : Nat), .int .u64 (c' : Nat), .int .u64 (d : Nat), .int .u64 0, .int .u64 0] 169)) w1.heap.size ((a, b, c', d), 0, 0) := Blk.new w1 _ _
  have hb2 := hb0.alloc hb0.size (.cells #[.int .u64 (a : Nat), .int .u64 (b : Nat), .int .u64 (c' : Nat), .int .u64 (d : Nat), .int .u64 0, .int .u64 0] 169)
  generalize (w1.alloc (.cells #[.int .u64 (a : Nat), .int .u64 (b : Nat), .int .u64 (c' : Nat), .int .u64 (d : Nat), .int .u64 0, .int .u64 0] 169)) = w2 at hw2 hb2 ⊢
  refine (whole_any w1.heap.size w.heap.size n c ((a, b, c', d), 0, 0) A bss w2 hw2 HOK.out hb0.size (HP.out.keep hb2) hnc hn HB.out (by have := HT.out; simp only []; omega)).mono ?_
  rintro e w3 ⟨rfl, hs3⟩
  go_wp2_with fail
  go_ret
  exact ⟨ret_int (by rw [HV.out]), hb2.trans (hs3.1.mono hb0.size)⟩
end Go.Proofs.Ytbiimgfocgbdaaa

/- Plain mathematics of the bytes that make numbers of eight bytes. -/
namespace Go.Proofs.Ytbiimgfocgbdaaa
open Go.RowKit
set_option linter.unusedVariables false

/-- The number that bytes make, the lowest ahead. -/
def lv : List Nat → Nat
  | [] => 0
  | x :: r => x + 256 * lv r
theorem lv_lt : ∀ (bs : List Nat), (∀ x ∈ bs, x < 256) → lv bs < 256 ^ bs.length
  | [], _ => by simp [lv]
  | x :: r, h => by
    have h1 := h x (by simp)
    have h2 := lv_lt r (fun y hy => h y (by simp [hy]))
    simp only [lv, List.length_cons, Nat.pow_succ]
    omega
theorem lv_snoc (x : Nat) : ∀ (bs : List Nat), lv (bs ++ [x]) = lv bs + 256 ^ bs.length * x
  | [] => by simp [lv]
  | y :: r => by
    simp only [List.cons_append, lv, lv_snoc x r, List.length_cons, Nat.pow_succ]
    rw [Nat.mul_add, ← Nat.mul_assoc, Nat.mul_comm 256 (256 ^ r.length)]
    omega
theorem pow8 (j : Nat) : (2 : Nat) ^ (8 * j) = 256 ^ j := by rw [Nat.pow_mul]
theorem or_part (l x j m : Nat) (hj : j < 8) (hm : m % 8 = j) (hl : l < 256 ^ j) (hx : x < 256) : l ||| sh8 x m = l + 256 ^ j * x := by
  unfold sh8 M64
  rw [hm, pow8]
  have h1 : x * 256 ^ j < 18446744073709551616 := by
    have h2 : 256 ^ j ≤ 256 ^ 7 := Nat.pow_le_pow_right (by omega) (by omega)
    have h3 : x * 256 ^ j ≤ 255 * 256 ^ 7 := Nat.mul_le_mul (by omega) h2
    omega
  rw [Nat.mod_eq_of_lt h1, Nat.mul_comm x, ← pow8, Nat.or_comm, ← Nat.two_pow_add_eq_or_of_lt (by rw [pow8]; exact hl)]
  omega
/-- Fewer than eight bytes more. -/
theorem part7 (v : V4) (m0 : Nat) (h0 : m0 % 8 = 0) : ∀ (n : Nat) (bs : List Nat), bs.length = n → n < 8 → (∀ x ∈ bs, x < 256) → saddL (v, 0, m0) bs = (v, lv bs, m0 + n)
  | 0, bs, hn, _, _ => by
    obtain rfl := List.eq_nil_of_length_eq_zero hn
    rfl
  | n + 1, bs, hn, h8, hb => by
    obtain ⟨cs, x, rfl⟩ : ∃ cs x, bs = cs ++ [x] := ⟨bs.dropLast, bs.getLast (by intro e; rw [e] at hn; simp at hn), (List.dropLast_concat_getLast _).symm⟩
    have hc : cs.length = n := by simpa using hn
    have ih := part7 v m0 h0 n cs hc (by omega) (fun y hy => hb y (by simp [hy]))
    rw [saddL_app, ih]
    show sadd (v, lv cs, m0 + n) x = _
    unfold sadd
    simp only []
    rw [if_neg (by omega), or_part _ _ n _ (by omega) (by omega) (by rw [← hc]; exact lv_lt cs (fun y hy => hb y (by simp [hy]))) (hb x (by simp)), lv_snoc, hc]
    rfl
/-- Eight bytes more. -/
theorem part8 (v : V4) (m0 : Nat) (h0 : m0 % 8 = 0) (bs : List Nat) (hn : bs.length = 8) (hb : ∀ x ∈ bs, x < 256) : saddL (v, 0, m0) bs = (tk v (lv bs), 0, m0 + 8) := by
  obtain ⟨cs, x, rfl⟩ : ∃ cs x, bs = cs ++ [x] := ⟨bs.dropLast, bs.getLast (by intro e; rw [e] at hn; simp at hn), (List.dropLast_concat_getLast _).symm⟩
  have hc : cs.length = 7 := by simpa using hn
  rw [saddL_app, part7 v m0 h0 7 cs hc (by omega) (fun y hy => hb y (by simp [hy]))]
  show sadd (v, lv cs, m0 + 7) x = _
  unfold sadd
  simp only []
  rw [if_pos (by omega), or_part _ _ 7 _ (by omega) (by omega) (by rw [← hc]; exact lv_lt cs (fun y hy => hb y (by simp [hy]))) (hb x (by simp)), lv_snoc, hc]
theorem lv_drop {bs : List Nat} {j x : Nat} (h : bs[j]? = some x) : lv (bs.drop j) = x + 256 * lv (bs.drop (j + 1)) := by
  obtain ⟨hj, e⟩ := List.getElem?_eq_some_iff.1 h
  rw [List.drop_eq_getElem_cons hj, e]
  rfl
theorem lv_drop_none {bs : List Nat} {j : Nat} (h : bs.length ≤ j) : lv (bs.drop j) = 0 := by
  rw [List.drop_eq_nil_of_le h]
  rfl
theorem lv_le (bs : List Nat) (n : Nat) (h : ∀ x ∈ bs, x < 256) (hn : bs.length ≤ n) : lv bs < 256 ^ n :=
  Nat.lt_of_lt_of_le (lv_lt bs h) (Nat.pow_le_pow_right (by omega) hn)
/-- After k times eight bytes. -/
theorem eights (s0 : V4) (bs : List Nat) (hb : ∀ x ∈ bs, x < 256) : ∀ k, 8 * k ≤ bs.length → (saddL (s0, 0, 0) (bs.take (8 * k))).2 = (0, 8 * k)
  | 0, _ => rfl
  | k + 1, hk => by
    have ih := eights s0 bs hb k (by omega)
    have e : bs.take (8 * (k + 1)) = bs.take (8 * k) ++ (bs.drop (8 * k)).take 8 := by rw [show 8 * (k + 1) = 8 * k + 8 by omega, List.take_add]
    obtain ⟨s1, hs⟩ : ∃ s1, s1 = saddL (s0, 0, 0) (bs.take (8 * k)) := ⟨_, rfl⟩
    rw [← hs] at ih
    obtain ⟨v, l, m⟩ := s1
    simp only [Prod.mk.injEq] at ih
    obtain ⟨rfl, rfl⟩ := ih
    rw [e, saddL_app, ← hs, part8 v (8 * k) (by omega) _ (by simp; omega) (fun x hx => hb x (List.mem_of_mem_drop (List.mem_of_mem_take hx)))]
    simp only [Prod.mk.injEq, true_and]
    omega
theorem eights_next (s0 : V4) (bs : List Nat) (hb : ∀ x ∈ bs, x < 256) (k : Nat) (hk : 8 * (k + 1) ≤ bs.length) :
    (saddL (s0, 0, 0) (bs.take (8 * (k + 1)))).1 = tk (saddL (s0, 0, 0) (bs.take (8 * k))).1 (lv ((bs.drop (8 * k)).take 8)) := by
  have ih := eights s0 bs hb k (by omega)
  have e : bs.take (8 * (k + 1)) = bs.take (8 * k) ++ (bs.drop (8 * k)).take 8 := by rw [show 8 * (k + 1) = 8 * k + 8 by omega, List.take_add]
  obtain ⟨s1, hs⟩ : ∃ s1, s1 = saddL (s0, 0, 0) (bs.take (8 * k)) := ⟨_, rfl⟩
  rw [← hs] at ih
  obtain ⟨v, l, m⟩ := s1
  simp only [Prod.mk.injEq] at ih
  obtain ⟨rfl, rfl⟩ := ih
  rw [e, saddL_app, ← hs, part8 v (8 * k) (by omega) _ (by simp; omega) (fun x hx => hb x (List.mem_of_mem_drop (List.mem_of_mem_take hx)))]
/-- The last number. -/
theorem sfin_last (s0 : V4) (bs : List Nat) (hb : ∀ x ∈ bs, x < 256) (k : Nat) (hk : 8 * k ≤ bs.length) (hr : bs.length < 8 * k + 8) :
    sfin (saddL (s0, 0, 0) bs) = fin4 (rndN ((tk (saddL (s0, 0, 0) (bs.take (8 * k))).1 (bs.length % 256 * 256 ^ 7 + lv (bs.drop (8 * k)))).1, (tk (saddL (s0, 0, 0) (bs.take (8 * k))).1 (bs.length % 256 * 256 ^ 7 + lv (bs.drop (8 * k)))).2.1, (tk (saddL (s0, 0, 0) (bs.take (8 * k))).1 (bs.length % 256 * 256 ^ 7 + lv (bs.drop (8 * k)))).2.2.1 ^^^ 255, (tk (saddL (s0, 0, 0) (bs.take (8 * k))).1 (bs.length % 256 * 256 ^ 7 + lv (bs.drop (8 * k)))).2.2.2) 4) := by
  have ih := eights s0 bs hb k hk
  have e : saddL (s0, 0, 0) bs = saddL (saddL (s0, 0, 0) (bs.take (8 * k))) (bs.drop (8 * k)) := by rw [← saddL_app, List.take_append_drop]
  obtain ⟨s1, hs⟩ : ∃ s1, s1 = saddL (s0, 0, 0) (bs.take (8 * k)) := ⟨_, rfl⟩
  rw [← hs] at ih
  obtain ⟨v, l, m⟩ := s1
  simp only [Prod.mk.injEq] at ih
  obtain ⟨rfl, rfl⟩ := ih
  have hd : ∀ x ∈ bs.drop (8 * k), x < 256 := fun x hx => hb x (List.mem_of_mem_drop hx)
  have hlen : (bs.drop (8 * k)).length = bs.length - 8 * k := by simp
  rw [e, ← hs, part7 v (8 * k) (by omega) (bs.length - 8 * k) _ hlen (by omega) hd]
  unfold sfin
  have hl := lv_le (bs.drop (8 * k)) 7 hd (by omega)
  have hm : lv (bs.drop (8 * k)) ||| ((8 * k + (bs.length - 8 * k)) * 2 ^ 56 % M64) = bs.length % 256 * 256 ^ 7 + lv (bs.drop (8 * k)) := by
    rw [show 8 * k + (bs.length - 8 * k) = bs.length by omega]
    have e2 : bs.length * 2 ^ 56 % M64 = 2 ^ 56 * (bs.length % 256) := by unfold M64; omega
    rw [e2, Nat.or_comm, ← Nat.two_pow_add_eq_or_of_lt (by omega)]
    omega
  simp only [hm]
end Go.Proofs.Ytbiimgfocgbdaaa
