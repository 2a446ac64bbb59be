/- Package ring: Set, Grow, Peek, Read. -/
import Derived.Test.YtnngjbieoakanaaG20InletTwice

namespace Go.Proofs.Ytnngjbieoakanaa
open Go.RowKit
set_option linter.unusedVariables false
set_option maxRecDepth 20000

theorem set_any (g p size there from_ n c B : Nat) (A : Option Addr) (L l : List Nat) (w : World) (h : Ring w g p size there L) (hl : Rd w B 1 A n (ns .u8 l)) (hlt : ∀ x ∈ l, x < 256) (hap : Apart A n p) (hn : n ≤ c) (hmax : n ≤ 1000000) (hf : from_ ≤ size) :
    Calls Try.prog 36 #[.pointer (some ⟨g, 0, none⟩), .int .i64 (from_ : Int), .slice A n c] w fun e w' =>
      e = .returned (.bool (decide (n ≤ size - from_))) ∧ Duo g p w w' ∧ Ring w' g p size there (if n ≤ size - from_ then spl L from_ l else L) := by
  obtain ⟨first, m, hi, rfl, hm⟩ := h
  have hs := hi.sz
  have hts := hi.ts
  have HI := Lib.hid hi
  have HM := Lib.hid hm
  have HR := Lib.hid hl
  have HN := Lib.hid hl.natLen
  have HL := Lib.hid hlt
  have HAP := Lib.hid hap
  clear hi hm hl hlt hap
  by_cases hnf : n ≤ size - from_
  · rw [if_pos hnf, decide_eq_true hnf]
    have h1 : (n : Int) ≤ (size : Int) - (from_ : Int) := by omega
    go_enter Try.func36, Try.ntmps36
    go_wp2_with fail
    refine (size_any g p size first there m _ HI.out).mono ?_
    rintro e w1 ⟨rfl, rfl⟩
    go_wp2_with fail
    refine (put_any g p size first there from_ n c B A m l w1 HI.out HR.out HAP.out (by omega) (by omega)).mono ?_
    rintro e w3 ⟨⟨v, rfl⟩, hs3, hm3⟩
    obtain ⟨m3, hi3, hrow, hm3'⟩ := HI.out.put HM.out HL.out HN.out (by omega) hs3 hm3
    have HI3 := Lib.hid hi3
    have HW3 := Lib.hid hrow
    have HM3 := Lib.hid hm3'
    have HS3 := Lib.hid hs3
    clear hi3 hm3 hrow hm3' hs3
    go_wp2_with fail
    go_ret
    exact ⟨rfl, Duo.of_p HS3.out, first, m3, HI3.out, HW3.out.symm, HM3.out⟩
  · rw [if_neg hnf, decide_eq_false hnf]
    have h1 : (size : Int) - (from_ : Int) < (n : Int) := by omega
    go_enter Try.func36, Try.ntmps36
    go_wp2_with fail
    refine (size_any g p size first there m _ HI.out).mono ?_
    rintro e w1 ⟨rfl, rfl⟩
    go_wp2_with fail
    go_ret
    exact ⟨rfl, Duo.refl, first, m, HI.out, rfl, HM.out⟩

theorem grow_any (g p size there many : Nat) (L : List Nat) (w : World) (h : Ring w g p size there L) (hmany : many ≤ size - there) :
    Calls Try.prog 46 #[.pointer (some ⟨g, 0, none⟩), .int .i64 (many : Int)] w fun e w' =>
      e = .returned (.bool true) ∧ Duo g p w w' ∧ Ring w' g p size (there + many) L := by
  obtain ⟨first, m, hi, rfl, hm⟩ := h
  have hs := hi.sz
  have hts := hi.ts
  have hfr := free_any g p size first there m w hi
  have HI := Lib.hid hi
  have HM := Lib.hid hm
  clear hi hm
  obtain ⟨f, hf⟩ : ∃ f, f = size - there := ⟨_, rfl⟩
  rw [← hf] at hfr hmany
  have hf' : there + f = size := by omega
  clear hf
  have hmf : (many : Int) ≤ (f : Int) := by omega
  go_enter Try.func46, Try.ntmps46
  go_wp2_with fail
  refine hfr.mono ?_
  rintro e w1 ⟨rfl, q, hq⟩
  have HI1 := Lib.hid (hq ▸ HI.out.drewN q : RI w1 g p size first there m)
  have hd1 : Duo g p w w1 := hq ▸ Duo.refl.drewN q
  have hc2 := HI1.out.c2
  have hfz := HI1.out.blk.frozen 2
  clear hfr hq
  go_wp2_with fail
  go_ret
  refine ⟨rfl, hd1.trans (Duo.of_g (Solo.refl.setCell 2 _)), first, m, ?_, rfl, HM.out⟩
  have := HI1.out.grow (there + many) (by omega)
  simpa using this

/-- What Peek and Read give: bytes in new memory. -/
def NewB (l : List Nat) (w : World) (e : Ending) (w' : World) : Prop := ∃ v, e = .returned v ∧ Nats w' 5 .u8 w.heap.size v l ∧ Below w.heap.size w w'
theorem peek_few (g p size there from_ n : Nat) (first : Nat) (m : List Nat) (w : World) (h : RI w g p size first there m) (hf : from_ ≤ 65536) (hfl : (from_ : Int) < (there : Int)) (h0 : 1 ≤ n) (hn6 : n ≤ there - from_) :
    Calls Try.prog 40 #[.pointer (some ⟨g, 0, none⟩), .int .i64 (from_ : Int), .int .i64 (n : Int)] w fun e w' => NewB (((rrow m first).drop from_).take n) w e w' := by
  have hs := h.sz
  have hts := h.ts
  have hfs := h.fs
  have hc2 := h.c2
  have HI := Lib.hid h
  have h2 : (1 : Int) ≤ (n : Int) := by omega
  clear h
  have h3 : (n : Int) ≤ (there : Int) - (from_ : Int) := by omega
  obtain ⟨w1, hrun, hz1, hb1⟩ := mkB w n (by omega)
  have HRUN := Lib.hid hrun
  clear hrun
  go_enter Try.func40, Try.ntmps40
  go_wp2_with fail
  rw [HRUN.out]
  simp only [Result.andThen]
  rw [Oper.upon_value]
  have hi1 : RI w1 g p size first there m := HI.out.below hb1 HI.out.blk.lt HI.out.mem.lt
  have hpb : p < w.heap.size := HI.out.mem.lt
  have HI1 := Lib.hid hi1
  have HZ1 := Lib.hid hz1
  clear hi1 hz1 hc2
  go_wp2_with fail
  refine (pieces_any g p size first there from_ n m w1 HI1.out (by omega)).mono ?_
  rintro e w2 ⟨rfl, q, hq⟩
  have HI2 := Lib.hid (hq ▸ HI1.out.drewN q : RI w2 g p size first there m)
  have HZ2 := Lib.hid (hq ▸ HZ1.out : Mem w2 w.heap.size 5 .u8 (List.replicate n 0))
  have hb2 : Below w.heap.size w w2 := hq ▸ below_drewN hb1 q
  clear hq
  have hx := rix_lt (j := from_) hfs (by omega)
  have hpk := rpeek (m := m) (first := first) (from_ := from_) (many := n) (by rw [HI.out.len]; omega) (by rw [HI.out.len]; omega) (min n (size - rix size first from_)) (by rw [HI.out.len])
  rw [HI.out.len] at hpk
  generalize hxx : rix size first from_ = x at hx hpk ⊢
  generalize hcc : min n (size - x) = c at hpk ⊢
  have hc1 : c ≤ n := by omega
  have hc3 : x + c ≤ size := by omega
  have hr1 := HI2.out.mem.rd (o := x) (n := c) hpb (by rw [HI2.out.len]; exact hc3)
  have hr2 := HI2.out.mem.rd (o := 0) (n := n - c) hpb (by rw [HI2.out.len]; omega)
  rw [List.drop_zero] at hr2
  have l1 : ((m.drop x).take c).length = c := by rw [List.length_take, List.length_drop, HI.out.len]; omega
  have l2 : (m.take (n - c)).length = n - c := by rw [List.length_take, HI.out.len]; omega
  generalize (m.drop x).take c = one at hpk hr1 l1
  generalize m.take (n - c) = two at hpk hr2 l2
  have HPK := Lib.hid hpk
  have HR1 := Lib.hid hr1
  have HR2 := Lib.hid hr2
  have HL1 := Lib.hid l1
  have HL2 := Lib.hid l2
  clear hr1 hr2 l1 l2 hpk hcc hxx
  go_wp2_with (refine cpy elB rfl (.tmp 42) (.tmp 43) rfl rfl HZ2.out ?_ rfl HR1.out ?_)
  · rw [List.length_replicate]; omega
  intro w3 hm3 hs3
  rw [List.take_of_length_le (Nat.le_of_eq HL1.out)] at hm3
  have HR3 := Lib.hid (HR2.out.keep (w' := w3) (Nat.le_refl _) fun b o hb => hs3.1.cell (p := ⟨b, o, none⟩) hb)
  have hb3 := hb2.trans hs3.1
  have e3 : (spl (List.replicate n 0) 0 one).length = n := by rw [spl_len (by rw [HL1.out, List.length_replicate]; omega), List.length_replicate]
  have hfin : spl (spl (List.replicate n 0) 0 one) c two = ((rrow m first).drop from_).take n := by
    rw [← HPK.out]
    unfold spl
    simp only [List.take_zero, List.nil_append, Nat.zero_add, HL1.out, HL2.out]
    rw [List.take_left' HL1.out, List.drop_append, HL1.out, List.drop_eq_nil_of_le (show one.length ≤ c + (n - c) by rw [HL1.out]; omega), List.nil_append, List.drop_replicate, List.drop_replicate, show n - c - (c + (n - c) - c) = 0 by omega]
    simp
  have HFIN := Lib.hid hfin
  have HE3 := Lib.hid e3
  have HM3 := Lib.hid hm3
  clear hfin e3 hm3 hs3
  by_cases hcn : n = c
  · subst hcn
    have ht : two = [] := List.eq_nil_of_length_eq_zero (by rw [HL2.out]; omega)
    go_wp2_with (refine cpy elB rfl (.tmp 45) (.tmp 46) rfl rfl HM3.out ?_ rfl HR3.out ?_)
    · rw [HE3.out]; omega
    intro w4 hm4 hs4
    have e5 := HFIN.out
    rw [ht, spl_nil] at e5
    simp only [spl_nil] at hm4
    rw [e5] at hm4
    go_wp2
    go_ret
    refine ⟨_, rfl, hm4.nats (Nat.le_refl _) ?_ (by omega), hb3.trans hs4.1⟩
    rw [← e5, HE3.out]
  · go_wp2_with (refine cpy elB rfl (.tmp 45) (.tmp 46) rfl rfl HM3.out ?_ rfl HR3.out ?_)
    · rw [HE3.out]; omega
    intro w4 hm4 hs4
    rw [List.take_of_length_le (Nat.le_of_eq HL2.out), HFIN.out] at hm4
    go_wp2
    go_ret
    refine ⟨_, rfl, hm4.nats (Nat.le_refl _) ?_ (by omega), hb3.trans hs4.1⟩
    rw [← HFIN.out, spl_len (by rw [HL2.out, HE3.out]; omega), HE3.out]
theorem peek_all (many : Int) (g p size there from_ n : Nat) (first : Nat) (m : List Nat) (w : World) (h : RI w g p size first there m) (hf : from_ ≤ 65536) (hfl : (from_ : Int) < (there : Int)) (h0 : 1 ≤ n) (hn6 : n = there - from_) (h1 : 1 ≤ many) (h3 : ¬ many ≤ (there : Int) - (from_ : Int)) :
    Calls Try.prog 40 #[.pointer (some ⟨g, 0, none⟩), .int .i64 (from_ : Int), .int .i64 many] w fun e w' => NewB (((rrow m first).drop from_).take n) w e w' := by
  have hs := h.sz
  have hts := h.ts
  have hfs := h.fs
  have hc2 := h.c2
  have HI := Lib.hid h
  have h2 : (1 : Int) ≤ (n : Int) := by omega
  clear h
  have HNN := Lib.hid (show (there : Int) - (from_ : Int) = (n : Int) by omega)
  have hn7 : n ≤ there - from_ := by omega
  clear hn6
  obtain ⟨w1, hrun, hz1, hb1⟩ := mkB w n (by omega)
  have HRUN := Lib.hid hrun
  clear hrun
  go_enter Try.func40, Try.ntmps40
  go_wp2_with fail
  rw [HNN.out]
  rw [HRUN.out]
  simp only [Result.andThen]
  rw [Oper.upon_value]
  have hi1 : RI w1 g p size first there m := HI.out.below hb1 HI.out.blk.lt HI.out.mem.lt
  have hpb : p < w.heap.size := HI.out.mem.lt
  have HI1 := Lib.hid hi1
  have HZ1 := Lib.hid hz1
  clear hi1 hz1 hc2
  go_wp2_with fail
  refine (pieces_any g p size first there from_ n m w1 HI1.out (by omega)).mono ?_
  rintro e w2 ⟨rfl, q, hq⟩
  have HI2 := Lib.hid (hq ▸ HI1.out.drewN q : RI w2 g p size first there m)
  have HZ2 := Lib.hid (hq ▸ HZ1.out : Mem w2 w.heap.size 5 .u8 (List.replicate n 0))
  have hb2 : Below w.heap.size w w2 := hq ▸ below_drewN hb1 q
  clear hq
  have hx := rix_lt (j := from_) hfs (by omega)
  have hpk := rpeek (m := m) (first := first) (from_ := from_) (many := n) (by rw [HI.out.len]; omega) (by rw [HI.out.len]; omega) (min n (size - rix size first from_)) (by rw [HI.out.len])
  rw [HI.out.len] at hpk
  generalize hxx : rix size first from_ = x at hx hpk ⊢
  generalize hcc : min n (size - x) = c at hpk ⊢
  have hc1 : c ≤ n := by omega
  have hc3 : x + c ≤ size := by omega
  have hr1 := HI2.out.mem.rd (o := x) (n := c) hpb (by rw [HI2.out.len]; exact hc3)
  have hr2 := HI2.out.mem.rd (o := 0) (n := n - c) hpb (by rw [HI2.out.len]; omega)
  rw [List.drop_zero] at hr2
  have l1 : ((m.drop x).take c).length = c := by rw [List.length_take, List.length_drop, HI.out.len]; omega
  have l2 : (m.take (n - c)).length = n - c := by rw [List.length_take, HI.out.len]; omega
  generalize (m.drop x).take c = one at hpk hr1 l1
  generalize m.take (n - c) = two at hpk hr2 l2
  have HPK := Lib.hid hpk
  have HR1 := Lib.hid hr1
  have HR2 := Lib.hid hr2
  have HL1 := Lib.hid l1
  have HL2 := Lib.hid l2
  clear hr1 hr2 l1 l2 hpk hcc hxx
  go_wp2_with (refine cpy elB rfl (.tmp 42) (.tmp 43) rfl rfl HZ2.out ?_ rfl HR1.out ?_)
  · rw [List.length_replicate]; omega
  intro w3 hm3 hs3
  rw [List.take_of_length_le (Nat.le_of_eq HL1.out)] at hm3
  have HR3 := Lib.hid (HR2.out.keep (w' := w3) (Nat.le_refl _) fun b o hb => hs3.1.cell (p := ⟨b, o, none⟩) hb)
  have hb3 := hb2.trans hs3.1
  have e3 : (spl (List.replicate n 0) 0 one).length = n := by rw [spl_len (by rw [HL1.out, List.length_replicate]; omega), List.length_replicate]
  have hfin : spl (spl (List.replicate n 0) 0 one) c two = ((rrow m first).drop from_).take n := by
    rw [← HPK.out]
    unfold spl
    simp only [List.take_zero, List.nil_append, Nat.zero_add, HL1.out, HL2.out]
    rw [List.take_left' HL1.out, List.drop_append, HL1.out, List.drop_eq_nil_of_le (show one.length ≤ c + (n - c) by rw [HL1.out]; omega), List.nil_append, List.drop_replicate, List.drop_replicate, show n - c - (c + (n - c) - c) = 0 by omega]
    simp
  have HFIN := Lib.hid hfin
  have HE3 := Lib.hid e3
  have HM3 := Lib.hid hm3
  clear hfin e3 hm3 hs3
  by_cases hcn : n = c
  · subst hcn
    have ht : two = [] := List.eq_nil_of_length_eq_zero (by rw [HL2.out]; omega)
    go_wp2_with (refine cpy elB rfl (.tmp 45) (.tmp 46) rfl rfl HM3.out ?_ rfl HR3.out ?_)
    · rw [HE3.out]; omega
    intro w4 hm4 hs4
    have e5 := HFIN.out
    rw [ht, spl_nil] at e5
    simp only [spl_nil] at hm4
    rw [e5] at hm4
    go_wp2
    go_ret
    refine ⟨_, rfl, hm4.nats (Nat.le_refl _) ?_ (by omega), hb3.trans hs4.1⟩
    rw [← e5, HE3.out]
  · go_wp2_with (refine cpy elB rfl (.tmp 45) (.tmp 46) rfl rfl HM3.out ?_ rfl HR3.out ?_)
    · rw [HE3.out]; omega
    intro w4 hm4 hs4
    rw [List.take_of_length_le (Nat.le_of_eq HL2.out), HFIN.out] at hm4
    go_wp2
    go_ret
    refine ⟨_, rfl, hm4.nats (Nat.le_refl _) ?_ (by omega), hb3.trans hs4.1⟩
    rw [← HFIN.out, spl_len (by rw [HL2.out, HE3.out]; omega), HE3.out]
theorem peek_any (g p size there from_ : Nat) (many : Int) (L : List Nat) (w : World) (h : Ring w g p size there L) (hf : from_ ≤ 65536) (hmany : many < 9223372036854775808) :
    Calls Try.prog 40 #[.pointer (some ⟨g, 0, none⟩), .int .i64 (from_ : Int), .int .i64 many] w fun e w' => NewB (((L.take there).drop from_).take many.toNat) w e w' := by
  obtain ⟨first, m, hi, rfl, hm⟩ := h
  have hs := hi.sz
  have hts := hi.ts
  have hfs := hi.fs
  have hc2 := hi.c2
  have hlen : (rrow m first).length = size := by rw [rrow_len (by rw [hi.len]; omega), hi.len]
  have HI := Lib.hid hi
  have HLEN := Lib.hid hlen
  clear hi hm hlen
  by_cases h1 : there ≤ from_
  · have h1' : (there : Int) ≤ (from_ : Int) := by omega
    have e0 : ((rrow m first).take there).drop from_ = [] := List.drop_eq_nil_of_le (by simp; omega)
    rw [e0]
    clear e0
    go_enter Try.func40, Try.ntmps40
    go_wp2_with fail
    go_ret
    exact ⟨_, rfl, by simpa using Nats.nil _ _ _ _, Below.refl _ _⟩
  by_cases h2 : many < 1
  · have h1' : (from_ : Int) < (there : Int) := by omega
    have e0 : many.toNat = 0 := by omega
    rw [e0]
    clear e0
    go_enter Try.func40, Try.ntmps40
    go_wp2_with fail
    go_ret
    exact ⟨_, rfl, by simpa using Nats.nil _ _ _ _, Below.refl _ _⟩
  obtain ⟨n, hn⟩ : ∃ n, n = min many.toNat (there - from_) := ⟨_, rfl⟩
  have hfl : (from_ : Int) < (there : Int) := by omega
  have TK : (((rrow m first).take there).drop from_).take many.toNat = ((rrow m first).drop from_).take n := by
    rw [List.drop_take, List.take_take, hn]
  rw [TK]
  clear TK
  by_cases h3 : many ≤ (there : Int) - (from_ : Int)
  · have hnm : many = (n : Int) := by omega
    subst hnm
    exact peek_few g p size there from_ n first m w HI.out hf hfl (by omega) (by omega)
  · exact peek_all many g p size there from_ n first m w HI.out hf hfl (by omega) (by omega) (by omega) h3
theorem read_any (g p size there : Nat) (many : Int) (L : List Nat) (w : World) (h : Ring w g p size there L) (hmany : many < 9223372036854775808) (k : Nat) (hk : k = min many.toNat there) :
    Calls Try.prog 31 #[.pointer (some ⟨g, 0, none⟩), .int .i64 many] w fun e w' => ∃ v, e = .returned v ∧ Nats w' 5 .u8 w.heap.size v (L.take k) ∧ Below (min g p) w w' ∧ Ring w' g p size (there - k) (L.drop k ++ List.replicate k 0) := by
  have hp := peek_any g p size there 0 many L w h (by omega) hmany
  have hl := h.len
  have hts := h.ts
  have hsz := h.sz
  have e1 : ((L.take there).drop 0).take many.toNat = L.take k := by rw [List.drop_zero, List.take_take, hk]
  rw [e1] at hp
  have hkl : (L.take k).length = k := by simp; omega
  have HH := Lib.hid h
  have HK := Lib.hid hkl
  have hbl := h.bl
  have hkt : k ≤ there := by omega
  clear h hkl e1 hk hmany
  go_enter Try.func31, Try.ntmps31
  go_wp2_with fail
  refine hp.mono ?_
  rintro e w1 ⟨v, rfl, hn, hb1⟩
  obtain ⟨A, n, c, rfl, hc, hln, hrd⟩ := hn.out
  obtain rfl : n = k := by rw [← hln.out, HK.out]
  have HN := Lib.hid hn
  have HH1 := Lib.hid (HH.out.below hb1 hbl.1 hbl.2)
  clear hn hln hrd hp
  go_wp2_with fail
  refine (skip_any g p size there (n : Int) L w1 HH1.out n (by omega) (by omega)).mono ?_
  rintro e w2 ⟨rfl, hd, hr⟩
  have HR := Lib.hid hr
  clear hr
  go_wp2_with fail
  go_ret
  refine ⟨_, rfl, HN.out.kept fun j hj => ?_, (hb1.mono (by omega)).trans hd.1, HR.out⟩
  have := (HN.out.lt j hj).1
  exact hd.2.2 j (by omega) (by omega)
theorem lenR (g p size there : Nat) (L : List Nat) (w : World) (h : Ring w g p size there L) :
    Calls Try.prog 24 #[.pointer (some ⟨g, 0, none⟩)] w fun e w' => e = .returned (.int .i64 (there : Int)) ∧ w' = w := by
  obtain ⟨f, m, h, _⟩ := h
  exact len_any g p size f there m w h
theorem freeR (g p size there : Nat) (L : List Nat) (w : World) (h : Ring w g p size there L) :
    Calls Try.prog 56 #[.pointer (some ⟨g, 0, none⟩)] w fun e w' => e = .returned (.int .i64 ((size - there : Nat) : Int)) ∧ ∃ n, w' = w.drewN n := by
  obtain ⟨f, m, h, _⟩ := h
  exact free_any g p size f there m w h
end Go.Proofs.Ytnngjbieoakanaa
