/- Package outlet: At, New, Bytes. -/
import Derived.Test.YtmkjclgdiikjdaaOt1
namespace Go.Proofs.Ytmkjclgdiikjdaa
open Go.RowKit
set_option linter.unusedVariables false
set_option linter.unusedSimpArgs false
theorem ring_new_none (size : Int) (w : World) (h : size < 1 ∨ 65536 < size) : Calls Try.prog 25 #[.int .i64 size] w fun e w' => e = .returned (.tuple #[.pointer none, .int .i64 50]) ∧ Below w.heap.size w w' := by
  rcases h with h | h
  · go_enter Try.func25, Try.ntmps25
    go_wp2_with fail
    go_ret2
    exact ⟨rfl, Below.refl _ _⟩
  · by_cases h0 : size < 1
    · omega
    · have h1 : (1 : Int) ≤ size := by omega
      clear h0
      go_enter Try.func25, Try.ntmps25
      go_wp2_with fail
      go_ret2
      exact ⟨rfl, Below.refl _ _⟩
set_option maxRecDepth 20000 in
theorem ou_at_lim (size : Int) (base : Nat) (w : World) (h : qLim < base) : Calls Try.prog 7 #[.int .i64 size, .int .u64 (base : Int)] w fun e w' => e = .returned (.tuple #[.pointer none, .int .i64 215]) ∧ Below w.heap.size w w' := by
  have h1 : (4611686018427387904 : Int) < (base : Int) := by unfold qLim at h; omega
  clear h
  go_enter Try.func7, Try.ntmps7
  go_wp2_with fail
  go_ret2
  exact ⟨rfl, Below.refl _ _⟩
set_option maxRecDepth 20000 in
theorem ou_at_ring (size : Int) (base : Nat) (w : World) (h : base ≤ qLim) (hs : size < 1 ∨ 65536 < size) : Calls Try.prog 7 #[.int .i64 size, .int .u64 (base : Int)] w fun e w' => e = .returned (.tuple #[.pointer none, .int .i64 50]) ∧ Below w.heap.size w w' := by
  have h1 : (base : Int) ≤ (4611686018427387904 : Int) := by unfold qLim at h; omega
  have NR := Lib.hid (ring_new_none size w hs)
  clear h hs
  go_enter Try.func7, Try.ntmps7
  go_wp2_with fail
  refine NR.out.mono ?_
  rintro e w1 ⟨rfl, hb⟩
  go_wp2_with fail
  go_ret2
  exact ⟨rfl, hb⟩
/-- What At gives. -/
def AtR (size base : Nat) (w : World) (e : Ending) (w' : World) : Prop := ∃ o g p, e = .returned (.tuple #[.pointer (some ⟨o, 0, none⟩), .int .i64 0]) ∧ w.heap.size ≤ o ∧ w.heap.size ≤ g ∧ w.heap.size ≤ p ∧ Below w.heap.size w w' ∧ OU w' o g p size base false false []
set_option maxRecDepth 20000 in
theorem ou_at (size base : Nat) (w : World) (h : base ≤ qLim) (h1 : 1 ≤ size) (h2 : size ≤ 65536) : Calls Try.prog 7 #[.int .i64 (size : Int), .int .u64 (base : Int)] w fun e w' => AtR size base w e w' := by
  have h3 : (base : Int) ≤ (4611686018427387904 : Int) := by unfold qLim at h; omega
  have NR := Lib.hid (new_any size w h1 h2)
  have HB := Lib.hid h
  clear h h1 h2
  go_enter Try.func7, Try.ntmps7
  go_wp2_with fail
  refine NR.out.mono ?_
  rintro e w1 ⟨g, p, rfl, hg, hp, hb, hr⟩
  have HR := Lib.hid hr
  have hbl := hr.bl
  clear hr
  go_wp2_with fail
  go_ret2
  exact ⟨w1.heap.size, g, p, rfl, hb.size, hg, hp, hb.alloc hb.size _, Blk.new _ _ _, ⟨_, HR.out.alloc _, rfl⟩, by omega, by omega, by simpa using HB.out⟩
set_option maxRecDepth 20000 in
theorem ou_new (size : Nat) (w : World) (h1 : 1 ≤ size) (h2 : size ≤ 65536) : Calls Try.prog 20 #[.int .i64 (size : Int)] w fun e w' => AtR size 0 w e w' := by
  have NR := Lib.hid (ou_at size 0 w (by unfold qLim; omega) h1 h2)
  clear h1 h2
  go_enter Try.func20, Try.ntmps20
  go_wp2_with fail
  refine NR.out.mono ?_
  rintro e w1 ⟨o, g, p, rfl, ho, hg, hp, hb, hr⟩
  have HR := Lib.hid hr
  clear hr
  go_wp2_with fail
  go_ret2
  exact ⟨o, g, p, rfl, ho, hg, hp, hb, HR.out⟩
/-- The bytes that Bytes gives. -/
def byL (base : Nat) (bs : List Nat) (from_ : Nat) (many : Int) : List Nat := if from_ < base ∨ base + bs.length < from_ then [] else (bs.drop (from_ - base)).take many.toNat
set_option maxRecDepth 20000 in
theorem ou_bytes (o g p size base : Nat) (cl dn : Bool) (bs : List Nat) (from_ : Nat) (many : Int) (w : World) (h : OU w o g p size base cl dn bs) (hf : from_ < 18446744073709551616) (hm : many < 9223372036854775808) :
    Calls Try.prog 22 #[.pointer (some ⟨o, 0, none⟩), .int .u64 (from_ : Int), .int .i64 many] w fun e w' => NewB (byL base bs from_ many) w e w' := by
  have c0 := h.c0
  have c1 := h.c1
  have H := Lib.hid h
  have HE := ou_end o g p size base cl dn bs w h
  obtain ⟨e, he⟩ : ∃ e, e = base + bs.length := ⟨_, rfl⟩
  rw [← he] at HE
  have HE := Lib.hid HE
  have hz := h.sz
  clear h
  by_cases a1 : from_ < base
  · have a1' : (from_ : Int) < (base : Int) := by omega
    have e0 : byL base bs from_ many = [] := by unfold byL; rw [if_pos (.inl a1)]
    rw [e0]
    clear e0 hz he hm hf
    go_enter Try.func22, Try.ntmps22
    go_wp2_with fail
    go_ret
    exact ⟨_, rfl, Nats.nil _ _ _ _, Below.refl _ _⟩
  have a1' : (base : Int) ≤ (from_ : Int) := by omega
  have a1'' : base ≤ from_ := by omega
  by_cases a2 : e < from_
  · have a2' : (e : Int) < (from_ : Int) := by omega
    have e0 : byL base bs from_ many = [] := by unfold byL; rw [if_pos (.inr (by omega))]
    rw [e0]
    clear e0 hz he hm hf
    go_enter Try.func22, Try.ntmps22
    go_wp2_with fail
    refine HE.out.mono ?_
    rintro e' w1 ⟨rfl, q, rfl⟩
    go_wp2_with fail
    go_ret
    exact ⟨_, rfl, Nats.nil _ _ _ _, below_drewN (Below.refl _ _) q⟩
  have a2' : (from_ : Int) ≤ (e : Int) := by omega
  have a2'' : from_ ≤ e := by omega
  obtain ⟨d, hd⟩ : ∃ d, d = from_ - base := ⟨_, rfl⟩
  have e0 : byL base bs from_ many = (bs.drop d).take many.toNat := by unfold byL; rw [if_neg (by omega), hd]
  rw [e0]
  have hw1 : (from_ : Int) - (base : Int) = (d : Nat) := by omega
  have hd6 : d ≤ 65536 := by omega
  have hw2 : IntKind.u64.wrap (d : Int) = (d : Nat) := by rw [IntKind.wrap_u64]; omega
  have hw3 : IntKind.i64.wrap (d : Int) = (d : Nat) := by rw [IntKind.wrap_i64]; omega
  have HM := Lib.hid hm
  clear e0 hz he hf a1 a2 hd hm
  go_enter Try.func22, Try.ntmps22
  go_wp2_with fail
  refine HE.out.mono ?_
  rintro e' w1 ⟨rfl, q, hq⟩
  have H1 := Lib.hid (hq ▸ H.out.drewN q : OU w1 o g p size base cl dn bs)
  have hb1 : Below w.heap.size w w1 := hq ▸ below_drewN (Below.refl _ _) q
  have c0 := H1.out.c0
  have c1 := H1.out.c1
  clear HE hq H
  go_wp2_with fail
  refine wp_region_still_tail 12 (by kernel_rfl) (by kernel_rfl) ?_
  simp only [List.take_succ_cons, List.take_zero, List.drop_succ_cons, List.drop_zero]
  repeat still_step
  refine wpStill_nil ?_
  change wpList _ _ _ _ _ w1.drew
  clear c0 c1
  have H2 := Lib.hid H1.out.drew
  have hb2 := hb1.drew
  generalize w1.drew = w2 at H2 hb2 ⊢
  clear H1 hb1
  obtain ⟨L, hr, hl⟩ := H2.out.rg
  have HR := Lib.hid hr
  clear hr
  go_wp2_with fail
  refine (peek_any g p size bs.length d many L w2 HR.out hd6 HM.out).mono ?_
  rw [hl]
  rintro e' w3 ⟨v, rfl, hn3, hb3⟩
  have HN := Lib.hid hn3
  clear hn3
  go_wp2_with fail
  go_ret
  exact ⟨v, rfl, HN.out.mono hb2.size, hb2.trans (hb3.mono hb2.size)⟩
end Go.Proofs.Ytmkjclgdiikjdaa
