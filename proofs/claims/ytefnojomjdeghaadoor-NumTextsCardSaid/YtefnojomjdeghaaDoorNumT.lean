/- Package num: Text; the reference's Text. -/
import Derived.Test.YtefnojomjdeghaaDoorNumP
import Derived.Test.YtefnojomjdeghaaDoorShelf
import Derived.Lib.ItoaMem
import Derived.Lib.AppendIntMem
import Derived.BigQuiet
import Derived.Deep.QuietTactic
namespace Go.Proofs.YtefnojomjdeghaaDoor
open Go.RowKit
set_option linter.unusedVariables false

def Tb (w : World) : Prop := Lib.TabIs Tryd.prog w "internal/strconv.uint64pow10" .u64 Lib.pow10Tab
theorem Tb.below {w w' : World} (h : Tb w) (hb : Below w.heap.size w w') : Tb w' := Lib.tabBelow_of_tabIs h w' hb
theorem text_any (n : Int) (w : World) (h0 : -9223372036854775808 ≤ n) (h1 : n ≤ 9223372036854775807) (ht : Tb w) :
    Calls Tryd.prog 8 #[.int .i64 n] w fun e w' => e = .returned (.string (decT n.toNat)) ∧ Below w.heap.size w w' := by
  by_cases hn : n ≤ 0
  · have hi := Tryd.strconv_Itoa 0 (by omega) (by omega) w ht
    have e0 : n.toNat = 0 := by omega
    rw [e0]
    have hi' : Calls Tryd.prog 20 #[.int .i64 0] w fun e w' => e = .returned (.string (decT 0)) ∧ ∃ k os, w' = Go.Sort.grow (w.drewN k) os := hi
    have HT := Lib.hid ht
    have HI := Lib.hid hi'
    clear hi hi' e0 h0 h1 ht
    rcases (show n < 0 ∨ n = 0 by omega) with hn | rfl
    · have hmx : max n 0 = 0 := by omega
      go_enter Tryd.func8, Tryd.ntmps8
      go_wp2_with fail
      refine HI.out.mono ?_
      rintro e w1 ⟨rfl, k, os, rfl⟩
      go_wp2_with fail
      go_ret
      exact ⟨rfl, Lib.below_grow _ _ (Nat.le_refl _) _ _⟩
    · go_enter Tryd.func8, Tryd.ntmps8
      go_wp2_with fail
      refine HI.out.mono ?_
      rintro e w1 ⟨rfl, k, os, rfl⟩
      go_wp2_with fail
      go_ret
      exact ⟨rfl, Lib.below_grow _ _ (Nat.le_refl _) _ _⟩
  · obtain ⟨m, rfl⟩ : ∃ m : Nat, n = (m : Int) := ⟨n.toNat, by omega⟩
    have hi := Tryd.strconv_Itoa (m : Int) (by omega) (by omega) w ht
    rw [Lib.itoa_nonneg] at hi
    rw [Int.toNat_natCast]
    have hi' : Calls Tryd.prog 20 #[.int .i64 (m : Int)] w fun e w' => e = .returned (.string (decT m)) ∧ ∃ k os, w' = Go.Sort.grow (w.drewN k) os := hi
    have HT := Lib.hid ht
    have HI := Lib.hid hi'
    have hm : 0 < (m : Int) := by omega
    clear hi hi' h0 h1 ht hn
    go_enter Tryd.func8, Tryd.ntmps8
    go_wp2_with fail
    refine HI.out.mono ?_
    rintro e w1 ⟨rfl, k, os, rfl⟩
    go_wp2_with fail
    go_ret
    exact ⟨rfl, Lib.below_grow _ _ (Nat.le_refl _) _ _⟩
theorem dig_cut : ∀ n : Fin 10, (⟨#[48, 49, 50, 51, 52, 53, 54, 55, 56, 57]⟩ : ByteArray).extract n.val (n.val + 1) = strN [48 + n.val] := by decide +kernel
theorem decT_small {n : Nat} (h : n < 10) : decT n = strN [48 + n] := nats_inj (by rw [nats_decT, decN_small h, nats_strN _ (by intro x hx; simp at hx; omega)])
theorem decT_big {n : Nat} (h : ¬ n < 10) : decT n = decT (n / 10) ++ strN [48 + n % 10] := nats_inj (by rw [nats_append, nats_decT, nats_decT, decN_big h, nats_strN _ (by intro x hx; simp at hx; omega)])
theorem decT_size (n : Nat) (h : n < 9223372036854775808) : (decT n).size ≤ 20 := by
  rw [← nats_len, nats_decT]
  have := decN_len 19 n (by omega)
  omega
theorem rtext_small (n : Nat) (w : World) (h : n < 10) :
    Calls Tryd.prog 9 #[.int .i64 (n : Int)] w fun e w' => e = .returned (.string (decT n)) ∧ ∃ k, w' = w.drewN k := by
  rw [decT_small h]
  have hc := dig_cut ⟨n, h⟩
  simp only at hc
  have HC := Lib.hid hc
  clear hc
  have h' : (n : Int) < 10 := by omega
  go_enter Tryd.func9, Tryd.ntmps9
  go_wp2_with fail
  go_ret
  exact ⟨by rw [← HC.out]; rfl, 0, rfl⟩
theorem rtext_any (n : Nat) : ∀ (w : World), n < 9223372036854775808 →
    Calls Tryd.prog 9 #[.int .i64 (n : Int)] w fun e w' => e = .returned (.string (decT n)) ∧ ∃ k, w' = w.drewN k := by
  induction n using Nat.strongRecOn with
  | _ n ih =>
    intro w hn
    by_cases h : n < 10
    · exact rtext_small n w h
    · have IH := fun w => ih (n / 10) (by omega) w (by omega)
      have hb := decT_big h
      have hc := dig_cut ⟨n % 10, by omega⟩
      have hs := decT_size (n / 10) (by omega)
      have hs1 : (strN [48 + n % 10]).size = 1 := by rw [strN_size]; rfl
      simp only at hc
      have h10 : (10 : Int) ≤ (n : Int) := by omega
      have hsum : ¬ 9223372036854775807 < (decT (n / 10)).size + (strN [48 + n % 10]).size := by rw [hs1]; omega
      obtain ⟨q, hq⟩ : ∃ q, q = n / 10 := ⟨_, rfl⟩
      obtain ⟨r, hr⟩ : ∃ r, r = n % 10 := ⟨_, rfl⟩
      rw [← hr] at hb hc hsum
      rw [← hq] at hb IH hsum
      have hr10 : r < 10 := by omega
      have hq63 : (q : Int) ≤ 922337203685477580 := by omega
      have d1 : (n : Int).tdiv 10 = (q : Int) := by rw [Int.tdiv_eq_ediv_of_nonneg (by omega)]; omega
      have d2 : (n : Int).tmod 10 = (r : Int) := by rw [Int.tmod_eq_emod_of_nonneg (by omega)]; omega
      have d3 : (n : Int) / 10 = (q : Int) := by omega
      have d4 : (n : Int) % 10 = (r : Int) := by omega
      have wq : IntKind.i64.wrap (q : Int) = (q : Int) := IntWalk.i64_in _ (by omega)
      have wr : IntKind.i64.wrap (r : Int) = (r : Int) := IntWalk.i64_in _ (by omega)
      have wr1 : IntKind.i64.wrap ((r : Int) + 1) = (r : Int) + 1 := IntWalk.i64_in _ (by omega)
      have r0 : (0 : Int) ≤ (r : Int) := by omega
      have r1 : (r : Int) + 1 ≤ 10 := by omega
      rw [hb]
      have HQ := Lib.hid hq
      have HR := Lib.hid hr
      have HIH := Lib.hid IH
      have HB := Lib.hid hb
      have HN := Lib.hid hn
      clear hq hr IH hb hn hs hs1 h ih
      go_enter Tryd.func9, Tryd.ntmps9
      go_wp2_with fail
      go_quiet ((go_at_call 9; exact (HIH.out _).mono (fun e w'' hh => by obtain ⟨rfl, k, rfl⟩ := hh; exact ⟨rfl, _, World.drewN_drewN _ _ _⟩)))
      go_wp2
      go_ret
      exact ⟨rfl, _, rfl⟩
end Go.Proofs.YtefnojomjdeghaaDoor
