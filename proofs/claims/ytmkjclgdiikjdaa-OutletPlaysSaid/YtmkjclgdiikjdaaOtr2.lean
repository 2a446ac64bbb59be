/- Layer 17: the document's outlet: Bytes, Acked. -/
import Derived.Test.YtmkjclgdiikjdaaOtr1
import Derived.Test.YtmkjclgdiikjdaaSz
import Derived.Deep.Cut
namespace Go.Proofs.Ytmkjclgdiikjdaa
open Go.RowKit
set_option linter.unusedVariables false
set_option linter.unusedSimpArgs false
theorem run_cutLU {P : Program} {t e : TypeId} {z : Value} {sz bytes : Nat} (el : El P t e z sz bytes) (A : Option Addr) (n c h : Nat) (h1 : h ≤ n) (w : World) :
    (Instr.slice t (.slice A n c) (some (.int .u64 (h : Int))) none none).run P w = .ok (.slice (cutA A c h sz) (n - h) (c - h)) w := by
  obtain ⟨ht, hinf, hzs, hsz, hb1⟩ := el
  obtain ⟨i, hi, hz, hsize, hby⟩ := info_parts hinf
  have he : P.elem t = e := by unfold Program.elem; rw [ht]
  have ht' : P.underlying t = some (.slice (P.elem t)) := by rw [he]; exact ht
  rw [run_slice_l (P := P) w t A n c ht' .u64 (h : Int) (by omega) (by omega)]
  rw [he]
  simp [sizeOf, typeInfo, hi, hsize, sliced, Result.andThen, cutA]
set_option maxRecDepth 20000 in
set_option maxHeartbeats 4000000 in
theorem r_bytes (A : Option Addr) (n c base size : Nat) (cl dn : Bool) (bs : List Nat) (from_ : Nat) (many : Int) (w : World) (hx : Rd w w.heap.size 1 A n (ns .u8 bs)) (hn6 : n ≤ 65536) (hlim : base + n ≤ qLim) (hf : from_ < 18446744073709551616) :
    Calls Try.prog 27 #[.agg #[.slice A n c, .int .u64 (base : Int), .int .i64 (size : Int), .bool cl, .bool dn], .int .u64 (from_ : Int), .int .i64 many] w fun e w' => NewB (byL base bs from_ many) w e w' := by
  obtain ⟨e, he⟩ : ∃ e, e = base + n := ⟨_, rfl⟩
  have RE := Sh.mk (fun w => r_end A n c base size cl dn w e he (by omega))
  have hbl := hx.natLen
  have HX := Sh.mk hx
  have e1 : e = base + bs.length := by omega
  clear hx hlim
  by_cases a1 : from_ < base
  · have a1' : (from_ : Int) < (base : Int) := by omega
    have e0 : byL base bs from_ many = [] := by unfold byL; rw [if_pos (.inl a1)]
    rw [e0]
    clear e0 he e1 hbl hn6 hf
    go_enter Try.func27, Try.ntmps27
    go_wp2_with fail
    go_ret
    exact ⟨_, rfl, Nats.nil _ _ _ _, (Below.refl _ _).alloc (Nat.le_refl _) _⟩
  have a1' : (base : Int) ≤ (from_ : Int) := by omega
  have a1'' : base ≤ from_ := by omega
  by_cases a2 : e < from_
  · have a2' : (e : Int) < (from_ : Int) := by omega
    have e0 : byL base bs from_ many = [] := by unfold byL; rw [if_pos (.inr (by omega))]
    rw [e0]
    clear e0 he e1 hbl hn6 hf a1
    go_enter Try.func27, Try.ntmps27
    go_wp2_with fail
    refine (RE.out _).mono ?_
    rintro e' w1 ⟨rfl, b1⟩
    have HB := Sh.mk (((Below.refl w.heap.size w).alloc (Nat.le_refl _) (.cells #[.slice A n c, .int .u64 (base : Int), .int .i64 (size : Int), .bool cl, .bool dn] 31)).trans (b1.mono (by simp)))
    go_wp2_with fail
    go_ret
    exact ⟨_, rfl, Nats.nil _ _ _ _, HB.out⟩
  have a2' : (from_ : Int) ≤ (e : Int) := by omega
  have a2'' : from_ ≤ e := by omega
  obtain ⟨d, hd⟩ : ∃ d, d = from_ - base := ⟨_, rfl⟩
  have e0 : byL base bs from_ many = (bs.drop d).take many.toNat := by unfold byL; rw [if_neg (by omega), hd]
  rw [e0]
  have hw1 : (from_ : Int) - (base : Int) = (d : Nat) := by omega
  have hd6 : d ≤ n := by omega
  have hw2 : IntKind.u64.wrap (d : Int) = (d : Nat) := by rw [IntKind.wrap_u64]; omega
  have hw3 : IntKind.u64.wrap (n : Int) = (n : Nat) := by rw [IntKind.wrap_u64]; omega
  have z1 : decide (from_ < base) = false := decide_eq_false (by omega)
  have z2 : decide (e < from_) = false := decide_eq_false (by omega)
  obtain ⟨q, hq⟩ : ∃ q, q = min (n - d) many.toNat := ⟨_, rfl⟩
  have HQ := Sh.mk hq
  have HN6 := Sh.mk (And.intro hn6 (And.intro hd6 hbl))
  clear e0 hf a1 a2 hd e1 he hbl hn6 hq
  go_enter Try.func27, Try.ntmps27
  go_upto_region 1 with fail
  have KX : Hid (Blk (w.alloc (.cells #[.slice A n c, .int .u64 (base : Int), .int .i64 (size : Int), .bool cl, .bool dn] 31)) (w.heap.size) 31 #[.slice A n c, .int .u64 (base : Int), .int .i64 (size : Int), .bool cl, .bool dn]) := Lib.hid ((Blk.new w 31 #[.slice A n c, .int .u64 (base : Int), .int .i64 (size : Int), .bool cl, .bool dn]))
  have b1 : Hid (Below w.heap.size w (w.alloc (.cells #[.slice A n c, .int .u64 (base : Int), .int .i64 (size : Int), .bool cl, .bool dn] 31))) := Lib.hid ((Below.refl w.heap.size w).alloc (Nat.le_refl _) (.cells #[.slice A n c, .int .u64 (base : Int), .int .i64 (size : Int), .bool cl, .bool dn] 31))
  have hz : (w.alloc (.cells #[.slice A n c, .int .u64 (base : Int), .int .i64 (size : Int), .bool cl, .bool dn] 31)).heap.size = w.heap.size + 1 := by simp
  generalize (w.alloc (.cells #[.slice A n c, .int .u64 (base : Int), .int .i64 (size : Int), .bool cl, .bool dn] 31)) = w2 at KX b1 hz ⊢
  have HZ := Lib.hid hz
  clear hz
  have c0 : w2.cell? ⟨w.heap.size, 0, none⟩ = some (.slice A n c) := by rw [KX.out.cell]; rfl
  have c1 : w2.cell? ⟨w.heap.size, 1, none⟩ = some (.int .u64 (base : Int)) := by rw [KX.out.cell]; rfl
  have c2 : w2.cell? ⟨w.heap.size, 2, none⟩ = some (.int .i64 (size : Int)) := by rw [KX.out.cell]; rfl
  have c3 : w2.cell? ⟨w.heap.size, 3, none⟩ = some (.bool cl) := by rw [KX.out.cell]; rfl
  have c4 : w2.cell? ⟨w.heap.size, 4, none⟩ = some (.bool dn) := by rw [KX.out.cell]; rfl
  go_wp2_with fail
  refine (RE.out _).mono ?_
  rintro e' w3 ⟨rfl, b3⟩
  have BB := Sh.mk (b1.out.trans (b3.mono (by have := HZ.out; omega)))
  have KX3 := Sh.mk (KX.out.below b3 KX.out.lt)
  have RX3 := Sh.mk (HX.out.below BB.out)
  have HZ3 := Sh.mk (show w.heap.size + 1 ≤ w3.heap.size by have := HZ.out; have := b3.size; omega)
  clear c0 c1 c2 c3 c4 b1 KX HZ b3
  have c0 : w3.cell? ⟨w.heap.size, 0, none⟩ = some (.slice A n c) := by rw [KX3.out.cell]; rfl
  have c1 : w3.cell? ⟨w.heap.size, 1, none⟩ = some (.int .u64 (base : Int)) := by rw [KX3.out.cell]; rfl
  have c2 : w3.cell? ⟨w.heap.size, 2, none⟩ = some (.int .i64 (size : Int)) := by rw [KX3.out.cell]; rfl
  have c3 : w3.cell? ⟨w.heap.size, 3, none⟩ = some (.bool cl) := by rw [KX3.out.cell]; rfl
  have c4 : w3.cell? ⟨w.heap.size, 4, none⟩ = some (.bool dn) := by rw [KX3.out.cell]; rfl
  go_wp2_with fail
  clear c0 c1 c2 c3 c4 a1' a1'' a2' a2''
  go_loopw [7, 8] (fun outv iv wr => ∃ (j i : Nat), j ≤ q ∧ iv = .int .u64 (i : Int) ∧ Sh (i = d + j) ∧ Nats wr 5 .u8 w3.heap.size outv ((bs.drop d).take j) ∧ Below w3.heap.size w3 wr) (fun _ iv _ => n - (intOf iv).toNat)
  case atStart => exact ⟨0, d, Nat.zero_le _, rfl, Sh.mk rfl, by simpa using Nats.nil _ _ _ _, Below.refl _ _⟩
  case round =>
    obtain ⟨j, i, hj, rfl, hi, hO, hb⟩ := hrel
    have KXr := Sh.mk (KX3.out.below hb KX3.out.lt)
    have c0 : wr.cell? ⟨w.heap.size, 0, none⟩ = some (.slice A n c) := by rw [KXr.out.cell]; rfl
    have c1 : wr.cell? ⟨w.heap.size, 1, none⟩ = some (.int .u64 (base : Int)) := by rw [KXr.out.cell]; rfl
    have c2 : wr.cell? ⟨w.heap.size, 2, none⟩ = some (.int .i64 (size : Int)) := by rw [KXr.out.cell]; rfl
    have c3 : wr.cell? ⟨w.heap.size, 3, none⟩ = some (.bool cl) := by rw [KXr.out.cell]; rfl
    have c4 : wr.cell? ⟨w.heap.size, 4, none⟩ = some (.bool dn) := by rw [KXr.out.cell]; rfl
    obtain ⟨A7, n7, c7, rfl, hc7, hl7, hrd7⟩ := hO.out
    have HO := Sh.mk hO
    have hl7' := hl7.out
    rw [List.length_take, List.length_drop] at hl7'
    have hjn : n7 = j := by have := HN6.out; have := HQ.out; omega
    have HJ := Sh.mk hjn
    have HC7 := Sh.mk hc7
    clear hO hrd7 hl7 hl7' hc7 hjn
    by_cases h1 : i < n
    · have h1' : (i : Int) < (n : Int) := by omega
      by_cases h2 : (n7 : Int) < many
      · have hjq : j < q := by have := HQ.out; have := hi.out; have := HJ.out; omega
        have h1z : (0 : Int) ≤ (i : Int) := by omega
        obtain ⟨bb, off, rfl, hbb, hxc⟩ := (RX3.out.below (hb.mono (by have := HZ3.out; omega))).nat h1
        obtain ⟨x, hx⟩ : ∃ x, x = bs.getD i 0 := ⟨_, rfl⟩
        rw [← hx] at hxc
        have HXE := Sh.mk (show (bs.drop d).take j ++ [x] = (bs.drop d).take (j + 1) by
          have h0 := HN6.out
          have h3 := hi.out
          rw [List.take_add_one, List.getElem?_drop, ← h3, List.getElem?_eq_getElem (by omega), hx, List.getD_eq_getElem?_getD, List.getElem?_eq_getElem (by omega)]
          rfl)
        clear hx
        have hwi : IntKind.u64.wrap ((i : Int) + 1) = ((i + 1 : Nat) : Int) := by rw [IntKind.wrap_u64]; have := HN6.out; omega
        have hO := HO.out
        clear HO
        go_wp2_with (at_builtin; go_must (refine app1n elB x rfl _ _ rfl rfl hO rfl rfl (by rw [List.length_take, List.length_drop]; exact room_ge (by have := HN6.out; omega)) hb.size ?_))
        intro v' w' hv' _ hb'
        rw [HXE.out] at hv'
        have HV := Sh.mk hv'
        have HBv := Sh.mk (hb.trans hb')
        obtain ⟨A8, n8, c8, rfl, hc8, _, _⟩ := hv'.out
        clear hv' hb' hb hO KXr c0 c1 c2 c3 c4
        go_wp2_with fail
        go_roundw
        case rel => exact ⟨j + 1, i + 1, by omega, by go_num, Sh.mk (by have := hi.out; omega), HV.out, HBv.out⟩
        case measure => simp [intOf]; omega
      · have h2' : many ≤ (n7 : Int) := by omega
        have hjq : j = q := by have := HQ.out; have := hi.out; have := HJ.out; have := HN6.out; omega
        have HJQ := Sh.mk hjq
        clear hjq
        go_wp2_with fail
        go_ret
        have hfin : (bs.drop d).take j = (bs.drop d).take many.toNat := by
          have := HQ.out; have := hi.out; have := HJ.out; have := HN6.out; have := HJQ.out
          rcases (show many.toNat = j ∨ (n - d ≤ j ∧ n - d ≤ many.toNat) by omega) with a | ⟨a, b⟩
          · rw [a]
          · rw [List.take_of_length_le (by rw [List.length_drop]; omega), List.take_of_length_le (by rw [List.length_drop]; omega)]
        rw [hfin] at HO
        exact ⟨_, rfl, HO.out.mono (by have := HZ3.out; omega), BB.out.trans (hb.mono (by have := HZ3.out; omega))⟩
    · have h1' : (n : Int) ≤ (i : Int) := by omega
      have hjq : j = q := by have := HQ.out; have := hi.out; have := HJ.out; have := HN6.out; omega
      have HJQ := Sh.mk hjq
      clear hjq
      go_wp2_with fail
      go_ret
      have hfin : (bs.drop d).take j = (bs.drop d).take many.toNat := by
        have := HQ.out; have := hi.out; have := HJ.out; have := HN6.out; have := HJQ.out
        rcases (show many.toNat = j ∨ (n - d ≤ j ∧ n - d ≤ many.toNat) by omega) with a | ⟨a, b⟩
        · rw [a]
        · rw [List.take_of_length_le (by rw [List.length_drop]; omega), List.take_of_length_le (by rw [List.length_drop]; omega)]
      rw [hfin] at HO
      exact ⟨_, rfl, HO.out.mono (by have := HZ3.out; omega), BB.out.trans (hb.mono (by have := HZ3.out; omega))⟩
end Go.Proofs.Ytmkjclgdiikjdaa
