/- Layer 1: the law NumLines answers true, and nothing that was there has turned. -/
import Derived.Test.YtefnojomjdeghaaDoorNumSm
import Derived.Test.YtefnojomjdeghaaDoorNum7
namespace Go.Proofs.YtefnojomjdeghaaDoor
open Go.RowKit
set_option linter.unusedVariables false
/-- The line of pieces, as its bytes. -/
theorem lineU_nats (ps : List (List Nat)) (h : ∀ p ∈ ps, clean p) : nats ⟨(lineU (ps.map strN)).toArray⟩ = lineN ps := by
  have hd : ∀ p : List Nat, clean p → (strN p).data.toList.map UInt8.toNat = p := fun p hp => nats_strN p (fun x hx => (hp.2 x hx).2.2)
  have hs : ∀ p : List Nat, clean p → ¬ (strN p).size = 0 := fun p hp => by
    rw [strN_size]
    intro h0
    exact hp.1 (List.eq_nil_of_length_eq_zero h0)
  have hf : ∀ (r : List (List Nat)) (acc : List UInt8), acc ≠ [] → (∀ p ∈ r, clean p) → ((r.map strN).foldl jn acc).map UInt8.toNat = acc.map UInt8.toNat ++ r.flatMap (fun q => 32 :: q) := by
    intro r
    induction r with
    | nil => intro acc _ _; simp
    | cons p r ih =>
      intro acc ha hr
      have hp := hr p (by simp)
      have hj : jn acc (strN p) = acc ++ (32 :: (strN p).data.toList) := by unfold jn; rw [if_neg (hs p hp), if_neg ha]
      rw [List.map_cons, List.foldl_cons, hj, ih _ (by simp) (fun q hq => hr q (by simp [hq])), List.map_append, List.map_cons, hd p hp, List.flatMap_cons, List.append_assoc]
      rfl
  show (lineU (ps.map strN)).map UInt8.toNat = lineN ps
  cases ps with
  | nil => rfl
  | cons p r =>
    have hp := h p (by simp)
    have hj : jn [] (strN p) = (strN p).data.toList := by unfold jn; rw [if_neg (hs p hp), if_pos rfl]
    have hne : (strN p).data.toList ≠ [] := by
      intro h0
      have := hd p hp
      rw [h0] at this
      exact hp.1 this.symm
    unfold lineU lineN
    rw [List.map_cons, List.foldl_cons, hj, hf r _ hne (fun q hq => h q (by simp [hq])), hd p hp]
set_option maxHeartbeats 1000000 in
set_option maxRecDepth 20000 in
theorem numLines_walk (A : Option Addr) (n c : Nat) (l : List ByteArray) (s : ByteArray) (w : World) (hr : Rd w w.heap.size 1 A n (ss l)) (hnc : n ≤ c) (hmax : c ≤ maxLen) (hb : ∀ x ∈ l, x.size ≤ maxLen) (hs : s.size ≤ 9223372036854775807) :
    Calls Tryd.prog 5 #[.slice A n c, .string s] w fun e w' => e = .returned (.bool true) ∧ Below w.heap.size w w' := by
  have HR := Lib.hid hr; have HB := Lib.hid hb
  unfold maxLen at hmax
  have HM := Lib.hid hmax
  have HLN := Lib.hid hr.strLen
  clear hr hb hmax
  by_cases h1 : 60 < n
  · have h1' : (60 : Int) < (n : Int) := by omega
    clear hs
    go_enter Tryd.func5, Tryd.ntmps5
    go_wp2_with fail
    go_ret
    exact ⟨rfl, Below.refl _ _⟩
  have hn : n ≤ 60 := by omega
  have hn' : (n : Int) ≤ 60 := by omega
  clear h1
  by_cases h2 : 300 < s.size
  · have h2' : (300 : Int) < (s.size : Int) := by omega
    clear hs
    go_enter Tryd.func5, Tryd.ntmps5
    go_wp2_with fail
    go_ret
    exact ⟨rfl, Below.refl _ _⟩
  have hsz : s.size ≤ 300 := by omega
  have hsz' : (s.size : Int) ≤ 300 := by omega
  clear h2 hs
  obtain ⟨ps, hps⟩ : ∃ ps, ps = pcs [] (nats s) := ⟨_, rfl⟩
  have hcl : ∀ p ∈ ps, clean p := by rw [hps]; exact pcs_clean _ _ (nats_lt s) (fun x hx => by cases hx)
  have hpl : ps.length ≤ 301 := by rw [hps]; have := pcs_len (nats s) []; rw [nats_len] at this; omega
  have hpp : ∀ p ∈ ps, p.length ≤ 300 := by
    intro p hp
    rw [hps] at hp
    have := pcs_piece (nats s) [] p hp
    rw [nats_len] at this
    simp only [List.length_nil] at this
    omega
  have hln := line_len 300 ps hpp
  have hnl := lineU_nats ps hcl
  have hbk : pcs [] (nats ⟨(lineU (ps.map strN)).toArray⟩) = ps := by rw [hnl]; exact pcs_line ps hcl
  have hls : (⟨(lineU (ps.map strN)).toArray⟩ : ByteArray).size ≤ 99000 := by
    rw [← nats_len, hnl]
    omega
  have hps2 : ∀ x ∈ ps.map strN, x.size ≤ 100000 := by
    intro x hx
    obtain ⟨p, hp, rfl⟩ := List.mem_map.1 hx
    rw [strN_size]
    have := hpp p hp
    omega
  obtain ⟨T, hT⟩ : ∃ T : ByteArray, T = ⟨(lineU (ps.map strN)).toArray⟩ := ⟨_, rfl⟩
  rw [← hT] at hbk hls
  have HPS := Lib.hid hps; have HBK := Lib.hid hbk; have HLS := Lib.hid hls; have HP2 := Lib.hid hps2; have HTT := Lib.hid hT
  have HPL := Lib.hid (show (ps.map strN).length ≤ 301 by rw [List.length_map]; exact hpl)
  clear hps hcl hpl hpp hln hnl hbk hls hps2 hT
  go_enter Tryd.func5, Tryd.ntmps5
  go_wp2_with fail
  go_loopw [5] (fun iv wr => ∃ i : Nat, i ≤ n ∧ iv = .int .i64 i ∧ Hid (∀ x ∈ l.take i, x.size ≤ 300) ∧ wr = w) (fun iv _ => n - (intOf iv).toNat)
  case atStart => exact ⟨0, by omega, rfl, Lib.hid (by simp), rfl⟩
  case round =>
    obtain ⟨i, hi, rfl, hall, rfl⟩ := hrel
    by_cases hlt : i < n
    · obtain ⟨b, off, x, rfl, hbb, hc, hx⟩ := HR.out.str hlt
      have hl' : (i : Int) < (n : Int) := by omega
      by_cases hxs : 300 < x.size
      · have hxs' : (300 : Int) < (x.size : Int) := by omega
        go_wp2_with fail
        go_ret
        exact ⟨rfl, Below.refl _ _⟩
      · have hxs' : (x.size : Int) ≤ 300 := by omega
        have ha : ∀ y ∈ l.take (i + 1), y.size ≤ 300 := by
          rw [nth_take hx]
          intro y hy
          rcases List.mem_append.1 hy with hy | hy
          · exact hall.out y hy
          · simp at hy
            subst hy
            omega
        have HA := Lib.hid ha
        clear ha hxs
        go_wp2_with fail
        go_roundw
        case rel => exact ⟨i + 1, by omega, by go_num, HA, trivial⟩
        case measure => simp [intOf]; omega
    · have hge : (n : Int) ≤ (i : Int) := by omega
      have hlb : ∀ x ∈ l, x.size ≤ 100000 := by
        have h := hall.out
        rw [List.take_of_length_le (by rw [HLN.out]; omega)] at h
        intro x hx
        have := h x hx
        omega
      have HLB := Lib.hid hlb
      clear hlb hall
      obtain ⟨U, hU⟩ : ∃ U : ByteArray, U = ⟨(lineU l).toArray⟩ := ⟨_, rfl⟩
      have HU := Lib.hid hU
      clear hU
      go_wp2_with fail
      refine (pieces_any s wr (by omega)).mono ?_
      rintro e w1 ⟨v1, rfl, hn1, hb1⟩
      rw [← HPS.out] at hn1
      go_wp2_with fail
      refine (line_any A n c l w1 (HR.out.into hb1) (by omega) HLB.out).mono ?_
      rintro e w2 ⟨rfl, hb2⟩
      rw [← HU.out]
      replace hn1 := hn1.below hb2
      have hbl2 := hb1.trans (hb2.mono hb1.size)
      clear hb1 hb2
      go_wp2_with fail
      refine (rline_any A n c l w2 (HR.out.into hbl2) (by omega) HLB.out).mono ?_
      rintro e w3 ⟨rfl, rfl⟩
      rw [← HU.out]
      have hself := beq_self_eq_true U.toList
      go_wp2_with fail
      refine (rpieces_any s w3 (by omega)).mono ?_
      rintro e w4 ⟨v4, rfl, hn4, hb4⟩
      rw [← HPS.out] at hn4
      replace hn1 := hn1.below hb4
      have hbl4 := hbl2.trans (hb4.mono hbl2.size)
      clear hb4 hbl2
      obtain ⟨A1, n1, c1, rfl, hc1, hl1, hr1⟩ := hn1.out
      obtain ⟨A4, n4, c4, rfl, hc4, hl4, hr4⟩ := hn4.out
      obtain rfl : n4 = n1 := by rw [← hl1.out, hl4.out]
      have hn300 : n4 ≤ 301 := by rw [← hl4.out]; exact HPL.out
      clear hl1 hl4
      go_wp2_with fail
      refine (same_any A1 A4 n4 c1 c4 _ w4 hr1.out hr4.out hc1 hc4 (by omega)).mono ?_
      rintro e w5 ⟨rfl, q, hq⟩
      have hb5 : Below w4.heap.size w4 w5 := hq ▸ below_drewN (Below.refl _ _) q
      have hr5 := Lib.hid (hr1.out.into hb5)
      have hbl5 := hbl4.trans (hb5.mono hbl4.size)
      clear hq hb5 hbl4 hr4 hn4 hn1 hr1
      go_wp2_with fail
      refine (line_any A1 n4 c1 (ps.map strN) w5 hr5.out (by omega) HP2.out).mono ?_
      rintro e w6 ⟨rfl, hb6⟩
      rw [← HTT.out]
      have hr6 := Lib.hid (hr5.out.into hb6)
      have hbl6 := hbl5.trans (hb6.mono hbl5.size)
      clear hb6 hbl5 hr5
      go_wp2_with fail
      refine (pieces_any T w6 HLS.out).mono ?_
      rintro e w7 ⟨v7, rfl, hn7, hb7⟩
      rw [HBK.out] at hn7
      have hr7 := Lib.hid (hr6.out.into hb7)
      have hbl7 := hbl6.trans (hb7.mono hbl6.size)
      clear hb7 hbl6 hr6
      obtain ⟨A7, n7, c7, rfl, hc7, hl7, hr8⟩ := hn7.out
      obtain rfl : n7 = n4 := by
        have := hr7.out.strLen
        rw [← hl7.out, this]
      clear hl7 hn7
      go_wp2_with fail
      refine (same_any A7 A1 n7 c7 c1 _ w7 hr8.out hr7.out hc7 hc1 (by omega)).mono ?_
      rintro e w8 ⟨rfl, q, hq⟩
      have hb8 : Below w7.heap.size w7 w8 := hq ▸ below_drewN (Below.refl _ _) q
      have hbl8 := hbl7.trans (hb8.mono hbl7.size)
      clear hq hb8 hbl7 hr7 hr8
      go_wp2_with fail
      refine (alive_any w8).mono ?_
      rintro e w9 ⟨rfl, hb9⟩
      go_wp2_with fail
      go_ret
      exact ⟨rfl, hbl8.trans (hb9.mono hbl8.size)⟩
end Go.Proofs.YtefnojomjdeghaaDoor
