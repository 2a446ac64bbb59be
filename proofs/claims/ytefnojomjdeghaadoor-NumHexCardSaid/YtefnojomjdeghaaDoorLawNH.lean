/- Layer 1: the law NumHex answers true, and nothing that was there has turned. -/
import Derived.Test.YtefnojomjdeghaaDoorNum10
import Derived.Test.YtefnojomjdeghaaDoorNum7
namespace Go.Proofs.YtefnojomjdeghaaDoor
open Go.RowKit
set_option linter.unusedVariables false
set_option maxRecDepth 20000 in
theorem numHex_walk (A : Option Addr) (n c : Nat) (l : List Nat) (s : ByteArray) (w : World) (hr : Rd w w.heap.size 1 A n (ns .u8 l)) (hnc : n ≤ c) (hmax : c ≤ maxLen) (hb : ∀ x ∈ l, x < 256) (hs : s.size ≤ 9223372036854775807) :
    Calls Tryd.prog 4 #[.slice A n c, .string s] w fun e w' => e = .returned (.bool true) ∧ Below w.heap.size w w' := by
  have HR := Lib.hid hr; have HB := Lib.hid hb; have HM := Lib.hid hmax
  have HLN := Lib.hid hr.natLen
  clear hr hb hmax
  by_cases h1 : 4096 < n
  · have h1' : (4096 : Int) < (n : Int) := by omega
    have HS := Lib.hid hs
    clear hs
    go_enter Tryd.func4, Tryd.ntmps4
    go_wp2_with fail
    go_ret
    exact ⟨rfl, Below.refl _ _⟩
  have hn : n ≤ 4096 := by omega
  have hn' : (n : Int) ≤ 4096 := by omega
  clear h1
  by_cases h2 : 4096 < s.size
  · have h2' : (4096 : Int) < (s.size : Int) := by omega
    have HS := Lib.hid hs
    clear hs
    go_enter Tryd.func4, Tryd.ntmps4
    go_wp2_with fail
    go_ret
    exact ⟨rfl, Below.refl _ _⟩
  have hsz : s.size ≤ 4096 := by omega
  have hsz' : (s.size : Int) ≤ 4096 := by omega
  clear h2 hs
  have hlt := hexT_lt HB.out
  have hlen := hexT_len l
  rw [HLN.out] at hlen
  have hback : unhex (nats (strN (hexT l))) = some l := by rw [nats_strN _ hlt]; exact unhex_hexT l HB.out
  have hsl : (strN (hexT l)).size ≤ 100000 := by rw [strN_size]; omega
  obtain ⟨H, hH⟩ : ∃ H, H = strN (hexT l) := ⟨_, rfl⟩
  rw [← hH] at hback hsl
  have HH := Lib.hid hH
  have HBK := Lib.hid hback
  clear hlt hlen hback hH
  have hxl := hexT_unhex (nats s)
  cases hu : unhex (nats s) with
  | none =>
    have HU := Lib.hid hu
    clear hxl hu
    go_enter Tryd.func4, Tryd.ntmps4
    go_wp2_with fail
    refine (unhex_any s w (by omega)).mono ?_
    rintro e w1 ⟨v1, rfl, hn1, hb1⟩
    rw [HU.out] at hn1 ⊢
    replace hn1 : Nats w1 5 .u8 w.heap.size v1 ([]) := hn1
    go_wp2_with fail
    refine (runhex_any s w1 (by omega)).mono ?_
    rintro e w2 ⟨v2, rfl, hn2, hb2⟩
    rw [HU.out] at hn2 ⊢
    replace hn2 : Nats w2 5 .u8 w1.heap.size v2 ([]) := hn2
    replace hn1 := hn1.below hb2
    have hbl2 := hb1.trans (hb2.mono hb1.size)
    clear hb1 hb2
    go_wp2_with fail
    refine (hex_any A n c l w2 (HR.out.into hbl2) HB.out (by omega)).mono ?_
    rintro e w3 ⟨rfl, hb3⟩
    rw [← HH.out]
    replace hn1 := hn1.below hb3
    replace hn2 := hn2.below hb3
    have hbl3 := hbl2.trans (hb3.mono hbl2.size)
    clear hb3 hbl2
    go_wp2_with fail
    refine (unhex_any H w3 hsl).mono ?_
    rintro e w4 ⟨v4, rfl, hn4, hb4⟩
    rw [HBK.out] at hn4 ⊢
    replace hn4 : Nats w4 5 .u8 w3.heap.size v4 l := hn4
    replace hn1 := hn1.below hb4
    replace hn2 := hn2.below hb4
    have hbl4 := hbl3.trans (hb4.mono hbl3.size)
    clear hb4 hbl3
    go_wp2_with fail
    refine (hex_any A n c l w4 (HR.out.into hbl4) HB.out (by omega)).mono ?_
    rintro e w5 ⟨rfl, hb5⟩
    rw [← HH.out]
    replace hn1 := hn1.below hb5
    replace hn2 := hn2.below hb5
    replace hn4 := hn4.below hb5
    have hbl5 := hbl4.trans (hb5.mono hbl4.size)
    clear hb5 hbl4
    go_wp2_with fail
    refine (rhex_any A n c l w5 (HR.out.into hbl5) HB.out (by omega)).mono ?_
    rintro e w6 ⟨rfl, hb6⟩
    rw [← HH.out]
    replace hn1 := hn1.below hb6
    replace hn2 := hn2.below hb6
    replace hn4 := hn4.below hb6
    have hbl6 := hbl5.trans (hb6.mono hbl5.size)
    clear hb6 hbl5
    obtain ⟨A1, n1, c1, rfl, hc1, hl1, hr1⟩ := hn1.out
    obtain ⟨A2, n2, c2, rfl, hc2, hl2, hr2⟩ := hn2.out
    obtain ⟨A4, n4, c4, rfl, hc4, hl4, hr4⟩ := hn4.out
    have hrb := Lib.hid (HR.out.into hbl6)
    clear hn1 hn2 hn4
    have k1 := strN_self ([])
    have k2 := strN_self l
    go_wp2_with (first | refine wpList_conv Tryd.underlying30 Tryd.underlying5 Tryd.underlying9 rfl _ rfl rfl hr1.out ?_ | refine wpList_conv Tryd.underlying30 Tryd.underlying5 Tryd.underlying9 rfl _ rfl rfl hr2.out ?_ | refine wpList_conv Tryd.underlying30 Tryd.underlying5 Tryd.underlying9 rfl _ rfl rfl hr4.out ?_ | refine wpList_conv Tryd.underlying30 Tryd.underlying5 Tryd.underlying9 rfl _ rfl rfl hrb.out ?_)
    refine (alive_any w6).mono ?_
    rintro e w9 ⟨rfl, hb9⟩
    go_wp2_with fail
    go_ret
    exact ⟨rfl, hbl6.trans (hb9.mono hbl6.size)⟩
  | some r =>
    have HU := Lib.hid hu
    have hx := hxl r hu
    have HRB := Lib.hid hx.2
    have hse : strN (hexT r) = s := by rw [hx.1, strN_nats]
    have HSE := Lib.hid hse
    have hrl : r.length ≤ 1000000 := by
      have e1 := congrArg List.length hx.1
      rw [nats_len] at e1
      have : r.length ≤ (hexT r).length := by
        unfold hexT
        split
        · rename_i h; rw [h]; simp
        · rw [hexN_len]; omega
      omega
    have HRL := Lib.hid hrl
    clear hx hse hrl
    clear hxl hu
    go_enter Tryd.func4, Tryd.ntmps4
    go_wp2_with fail
    refine (unhex_any s w (by omega)).mono ?_
    rintro e w1 ⟨v1, rfl, hn1, hb1⟩
    rw [HU.out] at hn1 ⊢
    replace hn1 : Nats w1 5 .u8 w.heap.size v1 (r) := hn1
    go_wp2_with fail
    refine (runhex_any s w1 (by omega)).mono ?_
    rintro e w2 ⟨v2, rfl, hn2, hb2⟩
    rw [HU.out] at hn2 ⊢
    replace hn2 : Nats w2 5 .u8 w1.heap.size v2 (r) := hn2
    replace hn1 := hn1.below hb2
    have hbl2 := hb1.trans (hb2.mono hb1.size)
    clear hb1 hb2
    go_wp2_with fail
    refine (hex_any A n c l w2 (HR.out.into hbl2) HB.out (by omega)).mono ?_
    rintro e w3 ⟨rfl, hb3⟩
    rw [← HH.out]
    replace hn1 := hn1.below hb3
    replace hn2 := hn2.below hb3
    have hbl3 := hbl2.trans (hb3.mono hbl2.size)
    clear hb3 hbl2
    go_wp2_with fail
    refine (unhex_any H w3 hsl).mono ?_
    rintro e w4 ⟨v4, rfl, hn4, hb4⟩
    rw [HBK.out] at hn4 ⊢
    replace hn4 : Nats w4 5 .u8 w3.heap.size v4 l := hn4
    replace hn1 := hn1.below hb4
    replace hn2 := hn2.below hb4
    have hbl4 := hbl3.trans (hb4.mono hbl3.size)
    clear hb4 hbl3
    go_wp2_with fail
    refine (hex_any A n c l w4 (HR.out.into hbl4) HB.out (by omega)).mono ?_
    rintro e w5 ⟨rfl, hb5⟩
    rw [← HH.out]
    replace hn1 := hn1.below hb5
    replace hn2 := hn2.below hb5
    replace hn4 := hn4.below hb5
    have hbl5 := hbl4.trans (hb5.mono hbl4.size)
    clear hb5 hbl4
    go_wp2_with fail
    refine (rhex_any A n c l w5 (HR.out.into hbl5) HB.out (by omega)).mono ?_
    rintro e w6 ⟨rfl, hb6⟩
    rw [← HH.out]
    replace hn1 := hn1.below hb6
    replace hn2 := hn2.below hb6
    replace hn4 := hn4.below hb6
    have hbl6 := hbl5.trans (hb6.mono hbl5.size)
    clear hb6 hbl5
    obtain ⟨A1, n1, c1, rfl, hc1, hl1, hr1⟩ := hn1.out
    obtain ⟨A2, n2, c2, rfl, hc2, hl2, hr2⟩ := hn2.out
    obtain ⟨A4, n4, c4, rfl, hc4, hl4, hr4⟩ := hn4.out
    have hrb := Lib.hid (HR.out.into hbl6)
    clear hn1 hn2 hn4
    have k1 := strN_self (r)
    have k2 := strN_self l
    go_wp2_with (first | refine wpList_conv Tryd.underlying30 Tryd.underlying5 Tryd.underlying9 rfl _ rfl rfl hr1.out ?_ | refine wpList_conv Tryd.underlying30 Tryd.underlying5 Tryd.underlying9 rfl _ rfl rfl hr2.out ?_ | refine wpList_conv Tryd.underlying30 Tryd.underlying5 Tryd.underlying9 rfl _ rfl rfl hr4.out ?_ | refine wpList_conv Tryd.underlying30 Tryd.underlying5 Tryd.underlying9 rfl _ rfl rfl hrb.out ?_)
    refine (hex_any A1 n1 c1 r w6 hr1.out HRB.out (by rw [← hl1.out]; have := HRL.out; omega)).mono ?_
    rintro e w7 ⟨rfl, hb7⟩
    rw [HSE.out]
    have hbl7 := hbl6.trans (hb7.mono hbl6.size)
    go_wp2_with fail
    refine (alive_any w7).mono ?_
    rintro e w9 ⟨rfl, hb9⟩
    go_wp2_with fail
    go_ret
    exact ⟨rfl, hbl7.trans (hb9.mono hbl7.size)⟩
end Go.Proofs.YtefnojomjdeghaaDoor
