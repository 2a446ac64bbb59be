/- Package ring: Set, Grow, Peek, Read. -/
import Derived.Test.YtmkjclgdiikjdaaRng5
namespace Go.Proofs.Ytmkjclgdiikjdaa
open Go.RowKit
set_option linter.unusedVariables false

/-- What Peek and Read give: bytes in new memory. -/
def NewB (l : List Nat) (w : World) (e : Ending) (w' : World) : Prop := ∃ v, e = .returned v ∧ Nats w' 5 .u8 w.heap.size v l ∧ Below w.heap.size w w'
theorem peek_few (g p size there from_ n : Nat) (first : Nat) (m : List Nat) (w : World) (h : RI w g p size first there m) (hf : from_ ≤ 65536) (hfl : (from_ : Int) < (there : Int)) (h0 : 1 ≤ n) (hn6 : n ≤ there - from_) :
    Calls Try.prog 31 #[.pointer (some ⟨g, 0, none⟩), .int .i64 (from_ : Int), .int .i64 (n : Int)] w fun e w' => NewB (((rrow m first).drop from_).take n) w e w' := by
  have hs := h.sz
  have hts := h.ts
  have hfs := h.fs
  have hc2 := h.c2
  have HI := Lib.hid h
  have h2 : (1 : Int) ≤ (n : Int) := by omega
  clear h
  have h3 : (n : Int) ≤ (there : Int) - (from_ : Int) := by omega
  obtain ⟨w1, hrun, hz1, hb1⟩ := mkB w n (by omega)
  have HRUN := Lib.hid hrun
  clear hrun
  go_enter Try.func31, Try.ntmps31
  go_wp2_with fail
  rw [HRUN.out]
  simp only [Result.andThen]
  rw [Oper.upon_value]
  have hi1 : RI w1 g p size first there m := HI.out.below hb1 HI.out.blk.lt HI.out.mem.lt
  have hpb : p < w.heap.size := HI.out.mem.lt
  have HI1 := Lib.hid hi1
  have HZ1 := Lib.hid hz1
  clear hi1 hz1 hc2
  go_wp2_with fail
  refine (pieces_any g p size first there from_ n m w1 HI1.out (by omega)).mono ?_
  rintro e w2 ⟨rfl, q, hq⟩
  have HI2 := Lib.hid (hq ▸ HI1.out.drewN q : RI w2 g p size first there m)
  have HZ2 := Lib.hid (hq ▸ HZ1.out : Mem w2 w.heap.size 5 .u8 (List.replicate n 0))
  have hb2 : Below w.heap.size w w2 := hq ▸ below_drewN hb1 q
  clear hq
  have hx := rix_lt (j := from_) hfs (by omega)
  have hpk := rpeek (m := m) (first := first) (from_ := from_) (many := n) (by rw [HI.out.len]; omega) (by rw [HI.out.len]; omega) (min n (size - rix size first from_)) (by rw [HI.out.len])
  rw [HI.out.len] at hpk
  generalize hxx : rix size first from_ = x at hx hpk ⊢
  generalize hcc : min n (size - x) = c at hpk ⊢
  have hc1 : c ≤ n := by omega
  have hc3 : x + c ≤ size := by omega
  have hr1 := HI2.out.mem.rd (o := x) (n := c) hpb (by rw [HI2.out.len]; exact hc3)
  have hr2 := HI2.out.mem.rd (o := 0) (n := n - c) hpb (by rw [HI2.out.len]; omega)
  rw [List.drop_zero] at hr2
  have l1 : ((m.drop x).take c).length = c := by rw [List.length_take, List.length_drop, HI.out.len]; omega
  have l2 : (m.take (n - c)).length = n - c := by rw [List.length_take, HI.out.len]; omega
  generalize (m.drop x).take c = one at hpk hr1 l1
  generalize m.take (n - c) = two at hpk hr2 l2
  have HPK := Lib.hid hpk
  have HR1 := Lib.hid hr1
  have HR2 := Lib.hid hr2
  have HL1 := Lib.hid l1
  have HL2 := Lib.hid l2
  clear hr1 hr2 l1 l2 hpk hcc hxx
  go_wp2_with (refine cpy elB rfl (.tmp 42) (.tmp 43) rfl rfl HZ2.out ?_ rfl HR1.out ?_)
  · rw [List.length_replicate]; omega
  intro w3 hm3 hs3
  rw [List.take_of_length_le (Nat.le_of_eq HL1.out)] at hm3
  have HR3 := Lib.hid (HR2.out.keep (w' := w3) (Nat.le_refl _) fun b o hb => hs3.1.cell (p := ⟨b, o, none⟩) hb)
  have hb3 := hb2.trans hs3.1
  have e3 : (spl (List.replicate n 0) 0 one).length = n := by rw [spl_len (by rw [HL1.out, List.length_replicate]; omega), List.length_replicate]
  have hfin : spl (spl (List.replicate n 0) 0 one) c two = ((rrow m first).drop from_).take n := by
    rw [← HPK.out]
    unfold spl
    simp only [List.take_zero, List.nil_append, Nat.zero_add, HL1.out, HL2.out]
    rw [List.take_left' HL1.out, List.drop_append, HL1.out, List.drop_eq_nil_of_le (show one.length ≤ c + (n - c) by rw [HL1.out]; omega), List.nil_append, List.drop_replicate, List.drop_replicate, show n - c - (c + (n - c) - c) = 0 by omega]
    simp
  have HFIN := Lib.hid hfin
  have HE3 := Lib.hid e3
  have HM3 := Lib.hid hm3
  clear hfin e3 hm3 hs3
  by_cases hcn : n = c
  · subst hcn
    have ht : two = [] := List.eq_nil_of_length_eq_zero (by rw [HL2.out]; omega)
    go_wp2_with (refine cpy elB rfl (.tmp 45) (.tmp 46) rfl rfl HM3.out ?_ rfl HR3.out ?_)
    · rw [HE3.out]; omega
    intro w4 hm4 hs4
    have e5 := HFIN.out
    rw [ht, spl_nil] at e5
    simp only [spl_nil] at hm4
    rw [e5] at hm4
    go_wp2
    go_ret
    refine ⟨_, rfl, hm4.nats (Nat.le_refl _) ?_ (by omega), hb3.trans hs4.1⟩
    rw [← e5, HE3.out]
  · go_wp2_with (refine cpy elB rfl (.tmp 45) (.tmp 46) rfl rfl HM3.out ?_ rfl HR3.out ?_)
    · rw [HE3.out]; omega
    intro w4 hm4 hs4
    rw [List.take_of_length_le (Nat.le_of_eq HL2.out), HFIN.out] at hm4
    go_wp2
    go_ret
    refine ⟨_, rfl, hm4.nats (Nat.le_refl _) ?_ (by omega), hb3.trans hs4.1⟩
    rw [← HFIN.out, spl_len (by rw [HL2.out, HE3.out]; omega), HE3.out]
theorem peek_all (many : Int) (g p size there from_ n : Nat) (first : Nat) (m : List Nat) (w : World) (h : RI w g p size first there m) (hf : from_ ≤ 65536) (hfl : (from_ : Int) < (there : Int)) (h0 : 1 ≤ n) (hn6 : n = there - from_) (h1 : 1 ≤ many) (h3 : ¬ many ≤ (there : Int) - (from_ : Int)) :
    Calls Try.prog 31 #[.pointer (some ⟨g, 0, none⟩), .int .i64 (from_ : Int), .int .i64 many] w fun e w' => NewB (((rrow m first).drop from_).take n) w e w' := by
  have hs := h.sz
  have hts := h.ts
  have hfs := h.fs
  have hc2 := h.c2
  have HI := Lib.hid h
  have h2 : (1 : Int) ≤ (n : Int) := by omega
  clear h
  have HNN := Lib.hid (show (there : Int) - (from_ : Int) = (n : Int) by omega)
  have hn7 : n ≤ there - from_ := by omega
  clear hn6
  obtain ⟨w1, hrun, hz1, hb1⟩ := mkB w n (by omega)
  have HRUN := Lib.hid hrun
  clear hrun
  go_enter Try.func31, Try.ntmps31
  go_wp2_with fail
  rw [HNN.out]
  rw [HRUN.out]
  simp only [Result.andThen]
  rw [Oper.upon_value]
  have hi1 : RI w1 g p size first there m := HI.out.below hb1 HI.out.blk.lt HI.out.mem.lt
  have hpb : p < w.heap.size := HI.out.mem.lt
  have HI1 := Lib.hid hi1
  have HZ1 := Lib.hid hz1
  clear hi1 hz1 hc2
  go_wp2_with fail
  refine (pieces_any g p size first there from_ n m w1 HI1.out (by omega)).mono ?_
  rintro e w2 ⟨rfl, q, hq⟩
  have HI2 := Lib.hid (hq ▸ HI1.out.drewN q : RI w2 g p size first there m)
  have HZ2 := Lib.hid (hq ▸ HZ1.out : Mem w2 w.heap.size 5 .u8 (List.replicate n 0))
  have hb2 : Below w.heap.size w w2 := hq ▸ below_drewN hb1 q
  clear hq
  have hx := rix_lt (j := from_) hfs (by omega)
  have hpk := rpeek (m := m) (first := first) (from_ := from_) (many := n) (by rw [HI.out.len]; omega) (by rw [HI.out.len]; omega) (min n (size - rix size first from_)) (by rw [HI.out.len])
  rw [HI.out.len] at hpk
  generalize hxx : rix size first from_ = x at hx hpk ⊢
  generalize hcc : min n (size - x) = c at hpk ⊢
  have hc1 : c ≤ n := by omega
  have hc3 : x + c ≤ size := by omega
  have hr1 := HI2.out.mem.rd (o := x) (n := c) hpb (by rw [HI2.out.len]; exact hc3)
  have hr2 := HI2.out.mem.rd (o := 0) (n := n - c) hpb (by rw [HI2.out.len]; omega)
  rw [List.drop_zero] at hr2
  have l1 : ((m.drop x).take c).length = c := by rw [List.length_take, List.length_drop, HI.out.len]; omega
  have l2 : (m.take (n - c)).length = n - c := by rw [List.length_take, HI.out.len]; omega
  generalize (m.drop x).take c = one at hpk hr1 l1
  generalize m.take (n - c) = two at hpk hr2 l2
  have HPK := Lib.hid hpk
  have HR1 := Lib.hid hr1
  have HR2 := Lib.hid hr2
  have HL1 := Lib.hid l1
  have HL2 := Lib.hid l2
  clear hr1 hr2 l1 l2 hpk hcc hxx
  go_wp2_with (refine cpy elB rfl (.tmp 42) (.tmp 43) rfl rfl HZ2.out ?_ rfl HR1.out ?_)
  · rw [List.length_replicate]; omega
  intro w3 hm3 hs3
  rw [List.take_of_length_le (Nat.le_of_eq HL1.out)] at hm3
  have HR3 := Lib.hid (HR2.out.keep (w' := w3) (Nat.le_refl _) fun b o hb => hs3.1.cell (p := ⟨b, o, none⟩) hb)
  have hb3 := hb2.trans hs3.1
  have e3 : (spl (List.replicate n 0) 0 one).length = n := by rw [spl_len (by rw [HL1.out, List.length_replicate]; omega), List.length_replicate]
  have hfin : spl (spl (List.replicate n 0) 0 one) c two = ((rrow m first).drop from_).take n := by
    rw [← HPK.out]
    unfold spl
    simp only [List.take_zero, List.nil_append, Nat.zero_add, HL1.out, HL2.out]
    rw [List.take_left' HL1.out, List.drop_append, HL1.out, List.drop_eq_nil_of_le (show one.length ≤ c + (n - c) by rw [HL1.out]; omega), List.nil_append, List.drop_replicate, List.drop_replicate, show n - c - (c + (n - c) - c) = 0 by omega]
    simp
  have HFIN := Lib.hid hfin
  have HE3 := Lib.hid e3
  have HM3 := Lib.hid hm3
  clear hfin e3 hm3 hs3
  by_cases hcn : n = c
  · subst hcn
    have ht : two = [] := List.eq_nil_of_length_eq_zero (by rw [HL2.out]; omega)
    go_wp2_with (refine cpy elB rfl (.tmp 45) (.tmp 46) rfl rfl HM3.out ?_ rfl HR3.out ?_)
    · rw [HE3.out]; omega
    intro w4 hm4 hs4
    have e5 := HFIN.out
    rw [ht, spl_nil] at e5
    simp only [spl_nil] at hm4
    rw [e5] at hm4
    go_wp2
    go_ret
    refine ⟨_, rfl, hm4.nats (Nat.le_refl _) ?_ (by omega), hb3.trans hs4.1⟩
    rw [← e5, HE3.out]
  · go_wp2_with (refine cpy elB rfl (.tmp 45) (.tmp 46) rfl rfl HM3.out ?_ rfl HR3.out ?_)
    · rw [HE3.out]; omega
    intro w4 hm4 hs4
    rw [List.take_of_length_le (Nat.le_of_eq HL2.out), HFIN.out] at hm4
    go_wp2
    go_ret
    refine ⟨_, rfl, hm4.nats (Nat.le_refl _) ?_ (by omega), hb3.trans hs4.1⟩
    rw [← HFIN.out, spl_len (by rw [HL2.out, HE3.out]; omega), HE3.out]
theorem peek_any (g p size there from_ : Nat) (many : Int) (L : List Nat) (w : World) (h : Ring w g p size there L) (hf : from_ ≤ 65536) (hmany : many < 9223372036854775808) :
    Calls Try.prog 31 #[.pointer (some ⟨g, 0, none⟩), .int .i64 (from_ : Int), .int .i64 many] w fun e w' => NewB (((L.take there).drop from_).take many.toNat) w e w' := by
  obtain ⟨first, m, hi, rfl, hm⟩ := h
  have hs := hi.sz
  have hts := hi.ts
  have hfs := hi.fs
  have hc2 := hi.c2
  have hlen : (rrow m first).length = size := by rw [rrow_len (by rw [hi.len]; omega), hi.len]
  have HI := Lib.hid hi
  have HLEN := Lib.hid hlen
  clear hi hm hlen
  by_cases h1 : there ≤ from_
  · have h1' : (there : Int) ≤ (from_ : Int) := by omega
    have e0 : ((rrow m first).take there).drop from_ = [] := List.drop_eq_nil_of_le (by simp; omega)
    rw [e0]
    clear e0
    go_enter Try.func31, Try.ntmps31
    go_wp2_with fail
    go_ret
    exact ⟨_, rfl, by simpa using Nats.nil _ _ _ _, Below.refl _ _⟩
  by_cases h2 : many < 1
  · have h1' : (from_ : Int) < (there : Int) := by omega
    have e0 : many.toNat = 0 := by omega
    rw [e0]
    clear e0
    go_enter Try.func31, Try.ntmps31
    go_wp2_with fail
    go_ret
    exact ⟨_, rfl, by simpa using Nats.nil _ _ _ _, Below.refl _ _⟩
  obtain ⟨n, hn⟩ : ∃ n, n = min many.toNat (there - from_) := ⟨_, rfl⟩
  have hfl : (from_ : Int) < (there : Int) := by omega
  have TK : (((rrow m first).take there).drop from_).take many.toNat = ((rrow m first).drop from_).take n := by
    rw [List.drop_take, List.take_take, hn]
  rw [TK]
  clear TK
  by_cases h3 : many ≤ (there : Int) - (from_ : Int)
  · have hnm : many = (n : Int) := by omega
    subst hnm
    exact peek_few g p size there from_ n first m w HI.out hf hfl (by omega) (by omega)
  · exact peek_all many g p size there from_ n first m w HI.out hf hfl (by omega) (by omega) (by omega) h3
theorem lenR (g p size there : Nat) (L : List Nat) (w : World) (h : Ring w g p size there L) :
    Calls Try.prog 17 #[.pointer (some ⟨g, 0, none⟩)] w fun e w' => e = .returned (.int .i64 (there : Int)) ∧ w' = w := by
  obtain ⟨f, m, h, _⟩ := h
  exact len_any g p size f there m w h
theorem freeR (g p size there : Nat) (L : List Nat) (w : World) (h : Ring w g p size there L) :
    Calls Try.prog 18 #[.pointer (some ⟨g, 0, none⟩)] w fun e w' => e = .returned (.int .i64 ((size - there : Nat) : Int)) ∧ ∃ n, w' = w.drewN n := by
  obtain ⟨f, m, h, _⟩ := h
  exact free_any g p size f there m w h
end Go.Proofs.Ytmkjclgdiikjdaa
